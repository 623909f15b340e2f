/-
  The reference's Norm, Of, limb, Cmp, Uint, Bits.
-/
import Derived.Test.YtjbbapibpcgnhaaNorm
import Derived.Test.YtjbbapibpcgnhaaCmp
import Derived.Test.YtjbbapibpcgnhaaWord
import Derived.Test.YtjbbapibpcgnhaaBits
namespace Go.Proofs.Ytjbbapibpcgnhaa
open Go.RowKit

set_option maxHeartbeats 1000000 in
theorem limb_any (w : World) (Bd : Nat) (A : Option Addr) (n c : Nat) (xs : List Nat) (h : Rd w Bd A n c xs) (k : Nat) (_hk : k ≤ 4611686018427387904) :
    Calls Try.prog 65 #[.slice A n c, .int .i64 (k : Int)] w fun e w' => e = .returned (.int .u64 (lm xs k : Int)) ∧ w = w' := by
  by_cases hkn : k < n
  · obtain ⟨ad, rfl, _, hc⟩ := h.at_ hkn
    have hl := h.limbs k
    have hb := h.big
    go_enter Try.func65, Try.ntmps65
    go_wp2
    go_ret
    exact ⟨rfl, rfl⟩
  · have hz := hide (lm_ge (xs := xs) (k := k) (by rw [h.len]; omega))
    have hb := h.big
    go_enter Try.func65, Try.ntmps65
    go_wp2
    go_ret
    rw [hz.out]
    exact ⟨rfl, rfl⟩

/-- 'copy(out, a)', out a block of the call's own that is not longer. -/
theorem wpList_copy_cut {ops : Array Oper} {rest : List Oper} {o : Oper} {a : Act} {Q : Exit → Act → World → Prop} {w : World}
    (hg : o.guard = none) (d s : Operand) (ho : o.op = .call { callee := .builtin .copy, args := #[d, s], argTypes := #[23, 23] })
    (g k dCap : Nat) (A : Option Addr) (n c : Nat) (hd : a.eval d = .slice (some ⟨g, 0, none⟩) k dCap) (hs : a.eval s = .slice A n c)
    (os xs : List Nat) (Bd : Nat) (hown : Own w g os) (hlen : os.length = k) (hrd0 : Rd w Bd A n c xs) (hn : k ≤ n) (B : Nat) (w0 : World) (hb : Below B w0 w) (hBg : B ≤ g)
    (hK : ∀ w', Own w' g (xs.take k) → Below B w0 w' → wpList Try.prog ops Q rest (a.put o.dst (goInt k)) w') :
    wpList Try.prog ops Q (o :: rest) a w := by
  obtain ⟨cur, hcur, hc⟩ := hown.blk
  have hrd := hrd0.take hn
  have hxl := hrd.len
  have hsz : os.length ≤ cur.size := by
    rcases Nat.eq_zero_or_pos os.length with h | h
    · omega
    · have := (Array.getElem?_eq_some_iff.1 (hc (os.length - 1) (by omega))).1
      omega
  refine wpList_copy_splice hg d s _ _ ho 51 Try.underlying23 Try.sizeLimb (some ⟨g, 0, none⟩) A k dCap n c hd hs g 0 cur.toList 51 (by simpa using hcur)
    ((xs.take k).map fun x : Nat => Value.int .u32 (x : Int)) (by rw [List.length_map, hxl]; exact (Nat.min_eq_right hn).symm) (fun h0 => ?_) (by rw [List.length_map, hxl, Array.length_toList]; omega) (by intro v hv; obtain ⟨x, _, rfl⟩ := List.mem_map.1 hv; rfl) B w0 hb hBg ?_
  · obtain ⟨ad, rfl, _, hcell⟩ := hrd.cells (by rw [List.length_map, hxl] at h0; exact h0)
    refine ⟨rfl, ad, rfl, fun j v hv => ?_⟩
    have hj : j < k := by
      have := (List.getElem?_eq_some_iff.1 hv).1
      rw [List.length_map, hxl] at this
      exact this
    rw [hcell j hj]
    rw [List.getElem?_map, lm_get? (by omega)] at hv
    simpa using hv
  · intro w' hw' hb'
    have e : ((xs.take k).map fun x : Nat => Value.int .u32 (x : Int)).length = k := by rw [List.length_map, hxl]
    rw [e]
    refine hK w' ⟨hrd.limbs, _, hw'.out, fun j hj => ?_⟩ hb'
    rw [hxl] at hj
    simp only [List.getElem?_toArray, splice, List.take_zero, List.nil_append, List.getElem?_append, e]
    rw [if_pos hj, List.getElem?_map, lm_get? (by omega)]
    rfl

set_option maxHeartbeats 1000000 in
theorem rnorm_any (w : World) (Bd : Nat) (A : Option Addr) (n c : Nat) (xs : List Nat) (h : Rd w Bd A n c xs) (hB : Bd ≤ w.heap.size) :
    Calls Try.prog 46 #[.slice A n c] w (RetOwn w (val xs)) := by
  have hcap := h.cap
  have hbig := h.big
  have hl : (dig (val xs)).length ≤ n := by rw [← h.len]; exact dig_len_val h.limbs
  have HT := hide h.trim
  have H := hide h
  obtain ⟨m, hm⟩ : ∃ m, m = (dig (val xs)).length := ⟨_, rfl⟩
  rw [← hm] at hl HT
  replace hm := hide hm
  clear h
  go_enter Try.func46, Try.ntmps46
  go_wp2
  go_loop [3] (fun i => ∃ k : Nat, k ≤ n ∧ i = .int .i64 k ∧ Hid (∀ j, k ≤ j → j < n → lm xs j = 0)) (fun i => (intOf i).toNat)
  case atStart => exact ⟨n, Nat.le_refl _, rfl, fun j a b => by omega⟩
  case round =>
    obtain ⟨k, hk, rfl, h0⟩ := hrel
    by_cases hgo : 0 < k ∧ lm xs (k - 1) = 0
    · obtain ⟨hpos, hz⟩ := hgo
      obtain ⟨ad, rfl, hb, hcell⟩ := H.out.at_ (k := k - 1) (by omega)
      have hz' : ((lm xs (k - 1) : Int) == 0) = true := by rw [hz]; rfl
      have HZ := hide hz
      clear hz
      go_wp2
      go_round
      case rel =>
        refine ⟨k - 1, by omega, by go_num, hide fun j a b => ?_⟩
        by_cases hj : j = k - 1
        · subst hj; exact HZ.out
        · exact h0.out j (by omega) b
      case measure => simp [intOf]; omega
    · have hkm : k = m := by
        rw [hm.out]
        refine (trim_len H.out hk h0.out ?_).symm
        rcases Nat.eq_zero_or_pos k with h | h
        · exact Or.inl h
        · exact Or.inr fun h2 => hgo ⟨h, h2⟩
      have hlim : Hid (xs.take k = dig (val xs)) := hide (by
        refine take_dig H.out.limbs (by rw [H.out.len]; exact hk) (fun j a b => h0.out j a (by rw [← H.out.len]; exact b)) ?_
        rcases Nat.eq_zero_or_pos k with h | h
        · exact Or.inl h
        · exact Or.inr fun h2 => hgo ⟨h, h2⟩)
      have hpick : 0 < k → ∃ ad, A = some ad ∧ w.cell? (ad.add (k - 1)) = some (.int .u32 (lm xs (k - 1) : Int)) := fun hp => by
        obtain ⟨ad, e, _, hc⟩ := H.out.at_ (k := k - 1) (by omega)
        exact ⟨ad, e, hc⟩
      subst hkm
      rcases Nat.eq_zero_or_pos k with hk0 | hk0
      · subst hk0
        clear hpick hgo
        go_wp2_with (first
          | (at_make; refine wpList_make_nat _ rfl _ _ rfl _ _ _ _ 0 rfl rfl (by omega) (by omega) (by omega) ?_; intro w1 hown hb hlt)
          | (with_reducible refine wpList_copy_cut rfl (.tmp 21) (.tmp 22) rfl _ _ _ _ _ _ rfl rfl _ xs _ hown (by simp) (H.out.below (hb.mono hB)) (by omega) _ _ hb (Nat.le_refl _) ?_; intro w2 hown2 hb2))
        go_ret
        rw [hlim.out] at hown2
        rw [RetOwn, ← hm.out]
        exact ⟨rfl, hown2, hb2, by omega⟩
      · obtain ⟨ad, rfl, hcell⟩ := hpick hk0
        have hz' : ((lm xs (k - 1) : Int) == 0) = false := by
          have : lm xs (k - 1) ≠ 0 := fun h2 => hgo ⟨hk0, h2⟩
          simpa using this
        clear hpick hgo
        go_wp2_with (first
          | (at_make; refine wpList_make_nat _ rfl _ _ rfl _ _ _ _ k rfl rfl (by omega) (by omega) (by omega) ?_; intro w1 hown hb hlt)
          | (with_reducible refine wpList_copy_cut rfl (.tmp 21) (.tmp 22) rfl _ _ _ _ _ _ rfl rfl _ xs _ hown (by simp) (H.out.below (hb.mono hB)) (by omega) _ _ hb (Nat.le_refl _) ?_; intro w2 hown2 hb2))
        go_ret
        rw [hlim.out] at hown2
        rw [RetOwn, ← hm.out]
        exact ⟨rfl, hown2, hb2, by omega⟩

set_option maxHeartbeats 400000 in
theorem rof_any (w : World) (n : Nat) (hn : n < 18446744073709551616) : Calls Try.prog 44 #[.int .u64 (n : Int)] w (RetNat w n) := by
  have hv : Hid (val [n % 4294967296, n / 4294967296] = n) := hide (by simp only [val_cons, val_nil]; omega)
  have H : Rd (w.alloc (Obj.cells #[Value.int IntKind.u32 (↑n % 4294967296), Value.int IntKind.u32 (↑n / 4294967296)] 51)) (w.heap.size + 1) (some ⟨w.heap.size, 0, none⟩) 2 2 [n % 4294967296, n / 4294967296] := by
    refine ⟨rfl, Limbs_cons (by omega) (Limbs_cons (by omega) Limbs_nil), by omega, by omega, by omega, fun _ => ⟨_, rfl, by simp, fun j hj => ?_⟩⟩
    rw [Addr.add_lit, cell_of_row _ w.heap.size (0 + j) _ _ (0, 0) (heap_alloc_new w _)]
    match j, hj with
    | 0, _ => rfl
    | 1, _ => rfl
  go_enter Try.func44, Try.ntmps44
  go_wp2_with fail
  refine (rnorm_any _ _ _ _ _ _ H (by simp)).mono ?_
  rintro e w' hr
  obtain ⟨A, c, rfl, hR, hb⟩ := hr.nat
  rw [hv.out] at hR ⊢
  replace hR := hide hR
  replace hb := hide hb
  clear hr
  go_wp2
  go_ret
  exact ⟨_, _, rfl, hR.out, ((Below.refl _ _).alloc (Nat.le_refl _) _).trans (hb.out.mono (by simp))⟩

set_option maxHeartbeats 1000000 in
theorem rcmp_any (w : World) (Bd : Nat) (A A' : Option Addr) (n c n' c' : Nat) (xs ys : List Nat) (hx : Rd w Bd A n c xs) (hy : Rd w Bd A' n' c' ys) :
    Calls Try.prog 49 #[.slice A n c, .slice A' n' c'] w fun e w' => e = .returned (.int .i64 (cmpN (val xs) (val ys))) ∧ w = w' := by
  obtain ⟨m, hm1, hm2⟩ : ∃ m, (n ≤ m ∧ n' ≤ m) ∧ max (n : Int) (n' : Int) = (m : Int) ∧ m ≤ 70368744177664 := ⟨max n n', ⟨by omega, by omega⟩, by omega, by have := hx.big; have := hy.big; omega⟩
  obtain ⟨hmax, hmb⟩ := hm2
  have hvx := hide (vl_ge (xs := xs) (k := m) (by rw [hx.len]; exact hm1.1))
  have hvy := hide (vl_ge (xs := ys) (k := m) (by rw [hy.len]; exact hm1.2))
  have hb1 := hx.big
  have hb2 := hy.big
  have HX := hide hx
  have HY := hide hy
  clear hx hy hm1
  go_enter Try.func49, Try.ntmps49
  go_wp2
  go_loop [5] (fun i => ∃ z : Int, -1 ≤ z ∧ z < m ∧ i = .int .i64 z ∧ Hid (∀ j : Nat, z < j → j < m → lm xs j = lm ys j)) (fun i => (intOf i + 1).toNat)
  case atStart => exact ⟨(m : Int) - 1, by omega, by omega, rfl, hide fun j a b => by omega⟩
  case round =>
    obtain ⟨z, hz1, hz2, rfl, h0⟩ := hrel
    by_cases hpos : 0 ≤ z
    · obtain ⟨k, rfl⟩ : ∃ k : Nat, z = k := ⟨z.toNat, by omega⟩
      have hk : k < m := by omega
      have l1 := HX.out.limbs k
      have l2 := HY.out.limbs k
      rcases Nat.lt_trichotomy (lm xs k) (lm ys k) with h | h | h
      · have hT : Hid (cmpN (val xs) (val ys) = -1) := hide (by
          rw [← hvx.out, ← hvy.out]
          exact cmpN_lt (vl_lt_of_top HX.out.limbs hk (fun j a b => h0.out j (by omega) b) h))
        go_wp2_with (first
          | (go_at_call 65; ((with_reducible refine (limb_any _ Bd A n c xs HX.out k (by omega)).mono ?_); rintro e w' ⟨rfl, rfl⟩))
          | (go_at_call 65; ((with_reducible refine (limb_any _ Bd A' n' c' ys HY.out k (by omega)).mono ?_); rintro e w' ⟨rfl, rfl⟩)))
        go_ret
        rw [hT.out]
        exact ⟨rfl, rfl⟩
      · have HE := hide h
        have h1 : ¬ lm xs k < lm ys k := by omega
        have h2 : ¬ lm ys k < lm xs k := by omega
        clear h
        go_wp2_with (first
          | (go_at_call 65; ((with_reducible refine (limb_any _ Bd A n c xs HX.out k (by omega)).mono ?_); rintro e w' ⟨rfl, rfl⟩))
          | (go_at_call 65; ((with_reducible refine (limb_any _ Bd A' n' c' ys HY.out k (by omega)).mono ?_); rintro e w' ⟨rfl, rfl⟩)))
        go_round
        case rel =>
          refine ⟨(k : Int) - 1, by omega, by omega, by go_num, hide fun j a b => ?_⟩
          by_cases hj : j = k
          · subst hj; exact HE.out
          · exact h0.out j (by omega) b
        case measure => simp [intOf]
      · have hT : Hid (cmpN (val xs) (val ys) = 1) := hide (by
          rw [← hvx.out, ← hvy.out]
          exact cmpN_gt (vl_lt_of_top HY.out.limbs hk (fun j a b => (h0.out j (by omega) b).symm) h))
        have h1 : ¬ lm xs k < lm ys k := by omega
        go_wp2_with (first
          | (go_at_call 65; ((with_reducible refine (limb_any _ Bd A n c xs HX.out k (by omega)).mono ?_); rintro e w' ⟨rfl, rfl⟩))
          | (go_at_call 65; ((with_reducible refine (limb_any _ Bd A' n' c' ys HY.out k (by omega)).mono ?_); rintro e w' ⟨rfl, rfl⟩)))
        go_ret
        rw [hT.out]
        exact ⟨rfl, rfl⟩
    · have hz0 : z = -1 := by omega
      subst hz0
      have hT : Hid (cmpN (val xs) (val ys) = 0) := hide (by
        rw [← hvx.out, ← hvy.out]
        exact cmpN_eq (vl_congr fun j hj => h0.out j (by omega) hj))
      go_wp2
      go_ret
      rw [hT.out]
      exact ⟨rfl, rfl⟩

set_option maxHeartbeats 1000000 in
theorem ruint_any (w : World) (Bd : Nat) (A : Option Addr) (n c : Nat) (xs : List Nat) (h : Rd w Bd A n c xs) (hB : Bd ≤ w.heap.size) :
    Calls Try.prog 40 #[.slice A n c] w fun e w' => e = .returned (.tuple #[.int .u64 ((if val xs < 18446744073709551616 then val xs else 0 : Nat) : Int), .bool (decide (val xs < 18446744073709551616))]) ∧ Below w.heap.size w w' := by
  have H := hide h
  have hm2 : (dig (val xs)).length ≤ 2 ↔ val xs < 18446744073709551616 := by rw [dig_len_le]; rfl
  clear h
  obtain ⟨m, hm⟩ : ∃ m, m = (dig (val xs)).length := ⟨_, rfl⟩
  rw [← hm] at hm2
  by_cases hlt : val xs < 18446744073709551616
  · have h2 : m ≤ 2 := hm2.2 hlt
    have hv : Hid (lm (dig (val xs)) 1 * 4294967296 + lm (dig (val xs)) 0 = val xs) := hide (by
      have e := vl_ge (xs := dig (val xs)) (k := 2) (by omega)
      rw [val_dig] at e
      simp only [vl, pw] at e
      omega)
    rw [if_pos hlt, decide_eq_true hlt]
    replace hlt := hide hlt
    have l0 := Limbs_dig (val xs) 0
    have l1 := Limbs_dig (val xs) 1
    replace hm := hide hm
    clear hm2
    go_enter Try.func40, Try.ntmps40
    go_wp2_with fail
    refine (rnorm_any _ Bd A n c xs H.out hB).mono ?_
    rintro e w1 ⟨rfl, hO, hb, hlm⟩
    rw [← hm.out] at hlm ⊢
    have hR := hO.rd0 (c := m) (by rw [hm.out]; exact Nat.le_refl _) hlm (B := w1.heap.size) hO.lt
    rw [← hm.out] at hR
    replace hR := hide hR
    replace hb := hide hb
    clear hO
    go_wp2_with fail
    refine (limb_any _ _ _ _ _ _ hR.out 1 (by omega)).mono ?_
    rintro e w' ⟨rfl, rfl⟩
    go_wp2_with fail
    refine (limb_any _ _ _ _ _ _ hR.out 0 (by omega)).mono ?_
    rintro e w' ⟨rfl, rfl⟩
    have hv2 : Hid ((lm (dig (val xs)) 1 : Int) * 4294967296 + (lm (dig (val xs)) 0 : Int) = (val xs : Int)) := hide (by have := hv.out; omega)
    obtain ⟨p, hp⟩ : ∃ p, p = lm (dig (val xs)) 1 := ⟨_, rfl⟩
    obtain ⟨q, hq⟩ : ∃ q, q = lm (dig (val xs)) 0 := ⟨_, rfl⟩
    rw [← hp] at l1 hv2 ⊢
    rw [← hq] at l0 hv2 ⊢
    replace hp := hide hp
    replace hq := hide hq
    clear hv
    go_wp2
    go_ret2
    rw [hv2.out]
    exact ⟨rfl, hb.out⟩
  · have h2 : ¬ m ≤ 2 := fun h => hlt (hm2.1 h)
    rw [if_neg hlt, decide_eq_false hlt]
    replace hm := hide hm
    clear hm2 hlt
    go_enter Try.func40, Try.ntmps40
    go_wp2_with fail
    refine (rnorm_any _ Bd A n c xs H.out hB).mono ?_
    rintro e w1 ⟨rfl, hO, hb, hlm⟩
    rw [← hm.out] at hlm ⊢
    replace hb := hide hb
    clear hO
    go_wp2
    go_ret2
    exact ⟨rfl, hb.out⟩

set_option maxHeartbeats 1000000 in
theorem rbits_any (w : World) (Bd : Nat) (A : Option Addr) (n c : Nat) (xs : List Nat) (h : Rd w Bd A n c xs) (hB : Bd ≤ w.heap.size) :
    Calls Try.prog 73 #[.slice A n c] w fun e w' => e = .returned (.int .i64 (bl (val xs) : Int)) ∧ Below w.heap.size w w' := by
  have H := hide h
  clear h
  obtain ⟨m, hm⟩ : ∃ m, m = (dig (val xs)).length := ⟨_, rfl⟩
  rcases Nat.eq_zero_or_pos m with h0 | h0
  · have hz : Hid (bl (val xs) = 0) := hide (by rw [dig_len_zero.1 (hm.symm.trans h0)]; exact bl_zero)
    subst h0
    replace hm := hide hm
    go_enter Try.func73, Try.ntmps73
    go_wp2_with fail
    refine (rnorm_any _ Bd A n c xs H.out hB).mono ?_
    rintro e w1 ⟨rfl, hO, hb, hlm⟩
    rw [← hm.out] at hlm ⊢
    replace hb := hide hb
    clear hO
    go_wp2
    go_ret
    rw [hz.out]
    exact ⟨rfl, hb.out⟩
  · obtain ⟨l, rfl⟩ : ∃ l, m = l + 1 := ⟨m - 1, by omega⟩
    have ht : lm (dig (val xs)) l ≠ 0 := by
      have := dig_top (n := val xs) (by omega)
      rw [← hm] at this
      simpa using this
    have hbv := bl_val (Limbs_dig (val xs)) hm.symm ht
    rw [val_dig] at hbv
    have hlim := Limbs_dig (val xs) l
    obtain ⟨tp, htp⟩ : ∃ tp, tp = lm (dig (val xs)) l := ⟨_, rfl⟩
    rw [← htp] at hbv hlim
    have hb32 : bl tp ≤ 32 := (bl_le 32 tp).2 (by omega)
    replace htp := hide htp
    replace hbv := hide hbv
    replace hm := hide hm
    clear ht
    go_enter Try.func73, Try.ntmps73
    go_wp2_with fail
    refine (rnorm_any _ Bd A n c xs H.out hB).mono ?_
    rintro e w1 ⟨rfl, hO, hb, hlm⟩
    have hca := hO.cell (j := l) (by rw [← hm.out]; omega)
    rw [← htp.out] at hca
    rw [← hm.out] at hlm ⊢
    replace hb := hide hb
    clear hO
    go_wp2
    go_loop [3, 4] (fun u v => ∃ x y : Nat, x < 4294967296 ∧ y + bl x = l * 32 + bl tp ∧ u = .int .i64 (y : Int) ∧ v = .int .u32 (x : Int)) (fun _ v => (intOf v).toNat)
    case atStart => exact ⟨tp, l * 32, hlim, rfl, by go_num, rfl⟩
    case round =>
      obtain ⟨x, y, hx, hy, rfl, rfl⟩ := hrel
      by_cases hx0 : x = 0
      · subst hx0
        rw [bl_zero] at hy
        have hyh := hide hy
        clear hy
        go_wp2
        go_ret
        rw [hbv.out, ← hyh.out]
        exact ⟨rfl, hb.out⟩
      · have hstep := bl_pos hx0
        have hp : 0 < x := by omega
        have hy2 := hide (show y + 1 + bl (x / 2) = l * 32 + bl tp by omega)
        have hyb : y ≤ l * 32 + 32 := by omega
        clear hstep hy
        go_wp2
        go_round
        case rel => exact ⟨x / 2, y + 1, by omega, hy2.out, by go_num, by go_num⟩
        case measure => simp [intOf]; omega

end Go.Proofs.Ytjbbapibpcgnhaa

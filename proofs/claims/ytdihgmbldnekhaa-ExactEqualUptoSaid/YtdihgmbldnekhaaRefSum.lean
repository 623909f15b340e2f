/-
  Ref1, Ref2.
-/
import Derived.Test.YtdihgmbldnekhaaNatMem
import Derived.Test.YtdihgmbldnekhaaNatBits
import Derived.Test.YtdihgmbldnekhaaNatSum
import Derived.Test.YtdihgmbldnekhaaNatMath
namespace Go.Proofs.Ytdihgmbldnekhaa
section
open Go.RowKit

set_option maxHeartbeats 1000000 in
theorem limb_any (w : World) (Bd : Nat) (A : Option Addr) (n c : Nat) (xs : List Nat) (h : Rd w Bd A n c xs) (k : Nat) (_hk : k ≤ 4611686018427387904) :
    Calls Try.prog 134 #[.slice A n c, .int .i64 (k : Int)] w fun e w' => e = .returned (.int .u64 (lm xs k : Int)) ∧ w = w' := by
  by_cases hkn : k < n
  · obtain ⟨ad, rfl, _, hc⟩ := h.at_ hkn
    have hl := h.limbs k
    have hb := h.big
    go_enter Try.func134, Try.ntmps134
    go_wp2
    go_ret
    exact ⟨rfl, rfl⟩
  · have hz := hide (lm_ge (xs := xs) (k := k) (by rw [h.len]; omega))
    have hb := h.big
    go_enter Try.func134, Try.ntmps134
    go_wp2
    go_ret
    rw [hz.out]
    exact ⟨rfl, rfl⟩

/-- 'copy(out, a)', out a block of the call's own that is not longer. -/
theorem wpList_copy_cut {ops : Array Oper} {rest : List Oper} {o : Oper} {a : Act} {Q : Exit → Act → World → Prop} {w : World}
    (hg : o.guard = none) (d s : Operand) (ho : o.op = .call { callee := .builtin .copy, args := #[d, s], argTypes := #[23, 23] })
    (g k dCap : Nat) (A : Option Addr) (n c : Nat) (hd : a.eval d = .slice (some ⟨g, 0, none⟩) k dCap) (hs : a.eval s = .slice A n c)
    (os xs : List Nat) (Bd : Nat) (hown : Own w g os) (hlen : os.length = k) (hrd0 : Rd w Bd A n c xs) (hn : k ≤ n) (B : Nat) (w0 : World) (hb : Below B w0 w) (hBg : B ≤ g)
    (hK : ∀ w', Own w' g (xs.take k) → Below B w0 w' → wpList Try.prog ops Q rest (a.put o.dst (goInt k)) w') :
    wpList Try.prog ops Q (o :: rest) a w := by
  obtain ⟨cur, hcur, hc⟩ := hown.blk
  have hrd := hrd0.take hn
  have hxl := hrd.len
  have hsz : os.length ≤ cur.size := by
    rcases Nat.eq_zero_or_pos os.length with h | h
    · omega
    · have := (Array.getElem?_eq_some_iff.1 (hc (os.length - 1) (by omega))).1
      omega
  refine wpList_copy_splice hg d s _ _ ho 39 Try.underlying23 Try.sizeLimb (some ⟨g, 0, none⟩) A k dCap n c hd hs g 0 cur.toList 39 (by simpa using hcur)
    ((xs.take k).map fun x : Nat => Value.int .u32 (x : Int)) (by rw [List.length_map, hxl]; exact (Nat.min_eq_right hn).symm) (fun h0 => ?_) (by rw [List.length_map, hxl, Array.length_toList]; omega) (by intro v hv; obtain ⟨x, _, rfl⟩ := List.mem_map.1 hv; rfl) B w0 hb hBg ?_
  · obtain ⟨ad, rfl, _, hcell⟩ := hrd.cells (by rw [List.length_map, hxl] at h0; exact h0)
    refine ⟨rfl, ad, rfl, fun j v hv => ?_⟩
    have hj : j < k := by
      have := (List.getElem?_eq_some_iff.1 hv).1
      rw [List.length_map, hxl] at this
      exact this
    rw [hcell j hj]
    rw [List.getElem?_map, lm_get? (by omega)] at hv
    simpa using hv
  · intro w' hw' hb'
    have e : ((xs.take k).map fun x : Nat => Value.int .u32 (x : Int)).length = k := by rw [List.length_map, hxl]
    rw [e]
    refine hK w' ⟨hrd.limbs, _, hw'.out, fun j hj => ?_⟩ hb'
    rw [hxl] at hj
    simp only [List.getElem?_toArray, splice, List.take_zero, List.nil_append, List.getElem?_append, e]
    rw [if_pos hj, List.getElem?_map, lm_get? (by omega)]
    rfl

set_option maxHeartbeats 1000000 in
theorem rnorm_any (w : World) (Bd : Nat) (A : Option Addr) (n c : Nat) (xs : List Nat) (h : Rd w Bd A n c xs) (hB : Bd ≤ w.heap.size) :
    Calls Try.prog 123 #[.slice A n c] w (RetOwn w (val xs)) := by
  have hcap := h.cap
  have hbig := h.big
  have hl : (dig (val xs)).length ≤ n := by rw [← h.len]; exact dig_len_val h.limbs
  have HT := hide h.trim
  have H := hide h
  obtain ⟨m, hm⟩ : ∃ m, m = (dig (val xs)).length := ⟨_, rfl⟩
  rw [← hm] at hl HT
  replace hm := hide hm
  clear h
  go_enter Try.func123, Try.ntmps123
  go_wp2
  go_loop [3] (fun i => ∃ k : Nat, k ≤ n ∧ i = .int .i64 k ∧ Hid (∀ j, k ≤ j → j < n → lm xs j = 0)) (fun i => (intOf i).toNat)
  case atStart => exact ⟨n, Nat.le_refl _, rfl, fun j a b => by omega⟩
  case round =>
    obtain ⟨k, hk, rfl, h0⟩ := hrel
    by_cases hgo : 0 < k ∧ lm xs (k - 1) = 0
    · obtain ⟨hpos, hz⟩ := hgo
      obtain ⟨ad, rfl, hb, hcell⟩ := H.out.at_ (k := k - 1) (by omega)
      have hz' : ((lm xs (k - 1) : Int) == 0) = true := by rw [hz]; rfl
      have HZ := hide hz
      clear hz
      go_wp2
      go_round
      case rel =>
        refine ⟨k - 1, by omega, by go_num, hide fun j a b => ?_⟩
        by_cases hj : j = k - 1
        · subst hj; exact HZ.out
        · exact h0.out j (by omega) b
      case measure => simp [intOf]; omega
    · have hkm : k = m := by
        rw [hm.out]
        refine (trim_len H.out hk h0.out ?_).symm
        rcases Nat.eq_zero_or_pos k with h | h
        · exact Or.inl h
        · exact Or.inr fun h2 => hgo ⟨h, h2⟩
      have hlim : Hid (xs.take k = dig (val xs)) := hide (by
        refine take_dig H.out.limbs (by rw [H.out.len]; exact hk) (fun j a b => h0.out j a (by rw [← H.out.len]; exact b)) ?_
        rcases Nat.eq_zero_or_pos k with h | h
        · exact Or.inl h
        · exact Or.inr fun h2 => hgo ⟨h, h2⟩)
      have hpick : 0 < k → ∃ ad, A = some ad ∧ w.cell? (ad.add (k - 1)) = some (.int .u32 (lm xs (k - 1) : Int)) := fun hp => by
        obtain ⟨ad, e, _, hc⟩ := H.out.at_ (k := k - 1) (by omega)
        exact ⟨ad, e, hc⟩
      subst hkm
      rcases Nat.eq_zero_or_pos k with hk0 | hk0
      · subst hk0
        clear hpick hgo
        go_wp2_with (first
          | (at_make; refine wpList_make_nat _ rfl _ _ rfl _ _ _ _ 0 rfl rfl (by omega) (by omega) (by omega) ?_; intro w1 hown hb hlt)
          | (with_reducible refine wpList_copy_cut rfl (.tmp 21) (.tmp 22) rfl _ _ _ _ _ _ rfl rfl _ xs _ hown (by simp) (H.out.below (hb.mono hB)) (by omega) _ _ hb (Nat.le_refl _) ?_; intro w2 hown2 hb2))
        go_ret
        rw [hlim.out] at hown2
        rw [RetOwn, ← hm.out]
        exact ⟨rfl, hown2, hb2, by omega⟩
      · obtain ⟨ad, rfl, hcell⟩ := hpick hk0
        have hz' : ((lm xs (k - 1) : Int) == 0) = false := by
          have : lm xs (k - 1) ≠ 0 := fun h2 => hgo ⟨hk0, h2⟩
          simpa using this
        clear hpick hgo
        go_wp2_with (first
          | (at_make; refine wpList_make_nat _ rfl _ _ rfl _ _ _ _ k rfl rfl (by omega) (by omega) (by omega) ?_; intro w1 hown hb hlt)
          | (with_reducible refine wpList_copy_cut rfl (.tmp 21) (.tmp 22) rfl _ _ _ _ _ _ rfl rfl _ xs _ hown (by simp) (H.out.below (hb.mono hB)) (by omega) _ _ hb (Nat.le_refl _) ?_; intro w2 hown2 hb2))
        go_ret
        rw [hlim.out] at hown2
        rw [RetOwn, ← hm.out]
        exact ⟨rfl, hown2, hb2, by omega⟩

set_option maxHeartbeats 400000 in
theorem rof_any (w : World) (n : Nat) (hn : n < 18446744073709551616) : Calls Try.prog 122 #[.int .u64 (n : Int)] w (RetNat w n) := by
  have hv : Hid (val [n % 4294967296, n / 4294967296] = n) := hide (by simp only [val_cons, val_nil]; omega)
  have H : Rd (w.alloc (Obj.cells #[Value.int IntKind.u32 (↑n % 4294967296), Value.int IntKind.u32 (↑n / 4294967296)] 39)) (w.heap.size + 1) (some ⟨w.heap.size, 0, none⟩) 2 2 [n % 4294967296, n / 4294967296] := by
    refine ⟨rfl, Limbs_cons (by omega) (Limbs_cons (by omega) Limbs_nil), by omega, by omega, by omega, fun _ => ⟨_, rfl, by simp, fun j hj => ?_⟩⟩
    rw [Addr.add_lit, cell_of_row _ w.heap.size (0 + j) _ _ (0, 0) (heap_alloc_new w _)]
    match j, hj with
    | 0, _ => rfl
    | 1, _ => rfl
  go_enter Try.func122, Try.ntmps122
  go_wp2_with fail
  refine (rnorm_any _ _ _ _ _ _ H (by simp)).mono ?_
  rintro e w' hr
  obtain ⟨A, c, rfl, hR, hb⟩ := hr.nat
  rw [hv.out] at hR ⊢
  replace hR := hide hR
  replace hb := hide hb
  clear hr
  go_wp2
  go_ret
  exact ⟨_, _, rfl, hR.out, ((Below.refl _ _).alloc (Nat.le_refl _) _).trans (hb.out.mono (by simp))⟩

set_option maxHeartbeats 1000000 in
theorem rcmp_any (w : World) (Bd : Nat) (A A' : Option Addr) (n c n' c' : Nat) (xs ys : List Nat) (hx : Rd w Bd A n c xs) (hy : Rd w Bd A' n' c' ys) :
    Calls Try.prog 125 #[.slice A n c, .slice A' n' c'] w fun e w' => e = .returned (.int .i64 (cmpN (val xs) (val ys))) ∧ w = w' := by
  obtain ⟨m, hm1, hm2⟩ : ∃ m, (n ≤ m ∧ n' ≤ m) ∧ max (n : Int) (n' : Int) = (m : Int) ∧ m ≤ 70368744177664 := ⟨max n n', ⟨by omega, by omega⟩, by omega, by have := hx.big; have := hy.big; omega⟩
  obtain ⟨hmax, hmb⟩ := hm2
  have hvx := hide (vl_ge (xs := xs) (k := m) (by rw [hx.len]; exact hm1.1))
  have hvy := hide (vl_ge (xs := ys) (k := m) (by rw [hy.len]; exact hm1.2))
  have hb1 := hx.big
  have hb2 := hy.big
  have HX := hide hx
  have HY := hide hy
  clear hx hy hm1
  go_enter Try.func125, Try.ntmps125
  go_wp2
  go_loop [5] (fun i => ∃ z : Int, -1 ≤ z ∧ z < m ∧ i = .int .i64 z ∧ Hid (∀ j : Nat, z < j → j < m → lm xs j = lm ys j)) (fun i => (intOf i + 1).toNat)
  case atStart => exact ⟨(m : Int) - 1, by omega, by omega, rfl, hide fun j a b => by omega⟩
  case round =>
    obtain ⟨z, hz1, hz2, rfl, h0⟩ := hrel
    by_cases hpos : 0 ≤ z
    · obtain ⟨k, rfl⟩ : ∃ k : Nat, z = k := ⟨z.toNat, by omega⟩
      have hk : k < m := by omega
      have l1 := HX.out.limbs k
      have l2 := HY.out.limbs k
      rcases Nat.lt_trichotomy (lm xs k) (lm ys k) with h | h | h
      · have hT : Hid (cmpN (val xs) (val ys) = -1) := hide (by
          rw [← hvx.out, ← hvy.out]
          exact cmpN_lt (vl_lt_of_top HX.out.limbs hk (fun j a b => h0.out j (by omega) b) h))
        go_wp2_with (first
          | (go_at_call 134; ((with_reducible refine (limb_any _ Bd A n c xs HX.out k (by omega)).mono ?_); rintro e w' ⟨rfl, rfl⟩))
          | (go_at_call 134; ((with_reducible refine (limb_any _ Bd A' n' c' ys HY.out k (by omega)).mono ?_); rintro e w' ⟨rfl, rfl⟩)))
        go_ret
        rw [hT.out]
        exact ⟨rfl, rfl⟩
      · have HE := hide h
        have h1 : ¬ lm xs k < lm ys k := by omega
        have h2 : ¬ lm ys k < lm xs k := by omega
        clear h
        go_wp2_with (first
          | (go_at_call 134; ((with_reducible refine (limb_any _ Bd A n c xs HX.out k (by omega)).mono ?_); rintro e w' ⟨rfl, rfl⟩))
          | (go_at_call 134; ((with_reducible refine (limb_any _ Bd A' n' c' ys HY.out k (by omega)).mono ?_); rintro e w' ⟨rfl, rfl⟩)))
        go_round
        case rel =>
          refine ⟨(k : Int) - 1, by omega, by omega, by go_num, hide fun j a b => ?_⟩
          by_cases hj : j = k
          · subst hj; exact HE.out
          · exact h0.out j (by omega) b
        case measure => simp [intOf]
      · have hT : Hid (cmpN (val xs) (val ys) = 1) := hide (by
          rw [← hvx.out, ← hvy.out]
          exact cmpN_gt (vl_lt_of_top HY.out.limbs hk (fun j a b => (h0.out j (by omega) b).symm) h))
        have h1 : ¬ lm xs k < lm ys k := by omega
        go_wp2_with (first
          | (go_at_call 134; ((with_reducible refine (limb_any _ Bd A n c xs HX.out k (by omega)).mono ?_); rintro e w' ⟨rfl, rfl⟩))
          | (go_at_call 134; ((with_reducible refine (limb_any _ Bd A' n' c' ys HY.out k (by omega)).mono ?_); rintro e w' ⟨rfl, rfl⟩)))
        go_ret
        rw [hT.out]
        exact ⟨rfl, rfl⟩
    · have hz0 : z = -1 := by omega
      subst hz0
      have hT : Hid (cmpN (val xs) (val ys) = 0) := hide (by
        rw [← hvx.out, ← hvy.out]
        exact cmpN_eq (vl_congr fun j hj => h0.out j (by omega) hj))
      go_wp2
      go_ret
      rw [hT.out]
      exact ⟨rfl, rfl⟩

set_option maxHeartbeats 1000000 in
theorem rbits_any (w : World) (Bd : Nat) (A : Option Addr) (n c : Nat) (xs : List Nat) (h : Rd w Bd A n c xs) (hB : Bd ≤ w.heap.size) :
    Calls Try.prog 119 #[.slice A n c] w fun e w' => e = .returned (.int .i64 (bl (val xs) : Int)) ∧ Below w.heap.size w w' := by
  have H := hide h
  clear h
  obtain ⟨m, hm⟩ : ∃ m, m = (dig (val xs)).length := ⟨_, rfl⟩
  rcases Nat.eq_zero_or_pos m with h0 | h0
  · have hz : Hid (bl (val xs) = 0) := hide (by rw [dig_len_zero.1 (hm.symm.trans h0)]; exact bl_zero)
    subst h0
    replace hm := hide hm
    go_enter Try.func119, Try.ntmps119
    go_wp2_with fail
    refine (rnorm_any _ Bd A n c xs H.out hB).mono ?_
    rintro e w1 ⟨rfl, hO, hb, hlm⟩
    rw [← hm.out] at hlm ⊢
    replace hb := hide hb
    clear hO
    go_wp2
    go_ret
    rw [hz.out]
    exact ⟨rfl, hb.out⟩
  · obtain ⟨l, rfl⟩ : ∃ l, m = l + 1 := ⟨m - 1, by omega⟩
    have ht : lm (dig (val xs)) l ≠ 0 := by
      have := dig_top (n := val xs) (by omega)
      rw [← hm] at this
      simpa using this
    have hbv := bl_val (Limbs_dig (val xs)) hm.symm ht
    rw [val_dig] at hbv
    have hlim := Limbs_dig (val xs) l
    obtain ⟨tp, htp⟩ : ∃ tp, tp = lm (dig (val xs)) l := ⟨_, rfl⟩
    rw [← htp] at hbv hlim
    have hb32 : bl tp ≤ 32 := (bl_le 32 tp).2 (by omega)
    replace htp := hide htp
    replace hbv := hide hbv
    replace hm := hide hm
    clear ht
    go_enter Try.func119, Try.ntmps119
    go_wp2_with fail
    refine (rnorm_any _ Bd A n c xs H.out hB).mono ?_
    rintro e w1 ⟨rfl, hO, hb, hlm⟩
    have hca := hO.cell (j := l) (by rw [← hm.out]; omega)
    rw [← htp.out] at hca
    rw [← hm.out] at hlm ⊢
    replace hb := hide hb
    clear hO
    go_wp2
    go_loop [3, 4] (fun u v => ∃ x y : Nat, x < 4294967296 ∧ y + bl x = l * 32 + bl tp ∧ u = .int .i64 (y : Int) ∧ v = .int .u32 (x : Int)) (fun _ v => (intOf v).toNat)
    case atStart => exact ⟨tp, l * 32, hlim, rfl, by go_num, rfl⟩
    case round =>
      obtain ⟨x, y, hx, hy, rfl, rfl⟩ := hrel
      by_cases hx0 : x = 0
      · subst hx0
        rw [bl_zero] at hy
        have hyh := hide hy
        clear hy
        go_wp2
        go_ret
        rw [hbv.out, ← hyh.out]
        exact ⟨rfl, hb.out⟩
      · have hstep := bl_pos hx0
        have hp : 0 < x := by omega
        have hy2 := hide (show y + 1 + bl (x / 2) = l * 32 + bl tp by omega)
        have hyb : y ≤ l * 32 + 32 := by omega
        clear hstep hy
        go_wp2
        go_round
        case rel => exact ⟨x / 2, y + 1, by omega, hy2.out, by go_num, by go_num⟩
        case measure => simp [intOf]; omega
end

section
open Go.RowKit

theorem RetOwn.natFrom {w w1 : World} {m : Nat} {e : Ending} {w' : World} (h : RetOwn w1 m e w') (hb : Below w.heap.size w w1) : RetNat w m e w' :=
  ⟨_, _, h.1, h.2.1.rd0 (Nat.le_refl _) h.2.2.2 h.2.1.lt, hb.trans (h.2.2.1.mono hb.size)⟩

theorem radd_step {xs ys os : List Nat} {k cy : Nat} (hk : k < os.length) (hi : vl os k + pw k * cy = vl xs k + vl ys k) (s : Nat) (hs : s = lm xs k + lm ys k + cy) :
    vl (os.set k (s % 4294967296)) (k + 1) + pw (k + 1) * (s / 4294967296) = vl xs (k + 1) + vl ys (k + 1) := by
  have := add_step hk hi
  rw [show s = cy + lm xs k + lm ys k by omega]
  exact this

theorem grown_drewN {a w : World} {row : Option Nat} (h : a.grownBy w row) (k : Nat) : a.grownBy (w.drewN k) row := ⟨h.os, h.tape, h.output, h.size, h.block⟩

theorem rtimes_step {os os' ys : List Nat} {off f k q : Nat} (hl : os'.length = os.length) (hk : off + k < os.length) (h0 : ∀ j, j < off ∨ off + k ≤ j → lm os' j = lm os j)
    (h : vl (os'.drop off) k + pw k * q = vl (os.drop off) k + vl ys k * f) (s : Nat) (hs : s = lm os' (off + k) + f * lm ys k + q) :
    vl ((os'.set (off + k) (s % 4294967296)).drop off) (k + 1) + pw (k + 1) * (s / 4294967296) = vl (os.drop off) (k + 1) + vl ys (k + 1) * f :=
  times_step hl hk h0 h s (by rw [hs, Nat.mul_comm f]; omega)

set_option maxHeartbeats 2000000 in
theorem rmul_any (w : World) (Bd : Nat) (A A' : Option Addr) (n c n' c' : Nat) (xs ys : List Nat) (hx : Rd w Bd A n c xs) (hy : Rd w Bd A' n' c' ys) (hB : Bd ≤ w.heap.size)
    (hn : n + n' ≤ 70368744177664) :
    Calls Try.prog 105 #[.slice A n c, .slice A' n' c'] w (RetNat w (val xs * val ys)) := by
  have HX := hide hx
  have HY := hide hy
  have hcap := hx.cap
  have hcap' := hy.cap
  clear hx hy
  go_enter Try.func105, Try.ntmps105
  go_wp2_with (at_make; refine wpList_make_nat _ rfl _ _ rfl _ _ _ _ (n + n') rfl rfl (by omega) (by omega) (by omega) ?_; intro w1 hown hb hg)
  go_loopw [6] (fun i wr => ∃ k : Nat, k ≤ n ∧ i = .int .i64 k ∧ MulRel w xs ys n n' k wr) (fun i _ => n - (intOf i).toNat)
  case atStart => exact ⟨0, by omega, rfl, List.replicate (n + n') 0, List.length_replicate, by rw [vl_zeros]; simp [vl], hown, hb⟩
  case round =>
    obtain ⟨i, hi, rfl, os, hos, hval, hO, hBl⟩ := hrel
    by_cases hil : i < n
    · obtain ⟨wo, rfl⟩ : ∃ wo : World, wo = wr := ⟨_, rfl⟩
      replace hO := hide hO
      replace hBl := hide hBl
      replace hval := hide hval
      have h1 := HX.out.limbs i
      go_wp2
      go_loopw [7, 8] (fun cy b wr => ∃ k q : Nat, k ≤ n' ∧ q < 4294967296 ∧ b = .int .i64 k ∧ cy = .int .u64 q ∧ TimesRel wo w.heap.size i os ys (lm xs i) k q wr) (fun _ b _ => n' - (intOf b).toNat)
      case atStart => exact ⟨0, 0, by omega, by omega, rfl, rfl, os, rfl, fun _ _ => rfl, by simp [vl], hO.out, grown_refl _ _⟩
      case round =>
        obtain ⟨k, q, hk, hq, rfl, rfl, os', hos', hkeep, hv, hOr, hgr⟩ := hrel
        have hBr := hide (hBl.out.grown hgr (Nat.le_of_lt hO.out.lt) (by simp))
        by_cases hkl : k < n'
        · have hco := hOr.cell (j := i + k) (by omega)
          have hlo := hOr.limbs (i + k)
          obtain ⟨ad, rfl, hadb, hca⟩ := (HX.out.below (hBr.out.mono hB)).at_ hil
          obtain ⟨ad', rfl, hadb', hca'⟩ := (HY.out.below (hBr.out.mono hB)).at_ hkl
          have hly := HY.out.limbs k
          have hp := prod_le h1 hly
          have hp0 : 0 ≤ (lm xs i : Int) * (lm ys k : Int) := Int.mul_nonneg (by omega) (by omega)
          have hst := hide (rtimes_step hos' (by omega) hkeep hv _ rfl)
          have hkeep' := hide (fun x => times_keep (x := x) hkeep)
          replace hOr := hide hOr
          replace hgr := hide hgr
          clear hv hkeep
          have s1 : IntKind.i64.wrap ((i : Int) + (k : Int)) = ((i + k : Nat) : Int) := by rw [IntKind.wrap_i64]; omega
          have b1 : i + k < n + n' := by omega
          go_wp2_with fail
          go_quiet (fail)
          have hO2 := hide (hOr.out.drewN nq)
          have hgr2 := hide (grown_drewN hgr.out nq)
          have hfo := hO2.out.frozen (i + k)
          have hco2 := hO2.out.cell (j := i + k) (by omega)
          clear hco hca hca' hOr hgr hBr
          generalize wr.drewN nq = wd at *
          go_wp2
          go_roundw
          case rel =>
            have e : ((lm os' (i + k) : Int) + (lm xs i : Int) * (lm ys k : Int) + (q : Int)) = ((lm os' (i + k) + lm xs i * lm ys k + q : Nat) : Int) := by simp
            rw [e]
            exact ⟨k + 1, (lm os' (i + k) + lm xs i * lm ys k + q) / 4294967296, by omega, by omega, by go_num, by go_num, _, by simpa using hos', hkeep'.out _, hst.out, hO2.out.put (by omega) (by omega), grown_setCell hgr2.out _ _⟩
          case measure => simp [intOf]; omega
        · have hkm : k = n' := by omega
          subst hkm
          have hfo := hOr.frozen (i + k)
          have hco := hOr.cell (j := i + k) (by omega)
          have hst := hide (mul_step HY.out.len hos' (by omega) hkeep hv hval.out)
          replace hOr := hide hOr
          clear hkeep hv hgr
          go_wp2
          go_roundw
          case rel => exact ⟨i + 1, by omega, by go_num, _, by simpa [hos'] using hos, hst.out, hOr.out.put hq (by omega), hBr.out.setCell (Nat.le_refl _) _⟩
          case measure => simp [intOf]; omega
    · have him : i = n := by omega
      subst him
      have hR := hO.rd0 (c := i + n') (by omega) (by omega) hO.lt
      rw [hos] at hR
      have hv : Hid (val os = val xs * val ys) := hide (by
        unfold val
        unfold val at hval
        rw [hos, hval, HX.out.len])
      clear hval
      replace hR := hide hR
      replace hO := hide hO
      replace hBl := hide hBl
      go_wp2_with fail
      refine (rnorm_any _ _ _ _ _ _ hR.out (Nat.le_refl _)).mono ?_
      rw [hv.out]
      rintro e w2 ⟨rfl, hO2, hb2, hlm⟩
      replace hO2 := hide hO2
      replace hb2 := hide hb2
      go_wp2
      go_ret
      exact RetOwn.natFrom ⟨rfl, hO2.out, hb2.out, hlm⟩ hBl.out

theorem vl_small {ys : List Nat} {n : Nat} (h : val ys < pw n) : vl ys n = val ys := by
  by_cases hl : ys.length ≤ n
  · exact vl_ge hl
  · have e := val_split ys (k := n) (by omega)
    rcases Nat.eq_zero_or_pos (val (ys.drop n)) with h0 | h0
    · rw [h0] at e; omega
    · have := Nat.mul_le_mul_left (pw n) h0
      omega
theorem rsub_end {xs ys os : List Nat} {n b : Nat} (hos : os.length = n) (hxs : xs.length = n) (hO : Limbs os) (hX : Limbs xs) (hb : b ≤ 1) (hle : val ys ≤ val xs) (hval : vl os n + vl ys n = vl xs n + pw n * b) : val os = val xs - val ys := by
  have h1 := val_lt hX
  rw [hxs] at h1
  have h2 := val_lt hO
  rw [hos] at h2
  rw [vl_small (by omega : val ys < pw n), vl_ge (by omega : xs.length ≤ n), vl_ge (by omega : os.length ≤ n)] at hval
  obtain rfl | rfl : b = 0 ∨ b = 1 := by omega
  all_goals omega

set_option maxHeartbeats 1000000 in
theorem rsub_less (w : World) (Bd : Nat) (A A' : Option Addr) (n c n' c' : Nat) (xs ys : List Nat) (hx : Rd w Bd A n c xs) (hy : Rd w Bd A' n' c' ys) (hlt : val xs < val ys) :
    Calls Try.prog 137 #[.slice A n c, .slice A' n' c'] w (RetNat2 w 0 false) := by
  have hC := hide (cmpN_lt hlt)
  have HX := hide hx
  have HY := hide hy
  clear hx hy hlt
  go_enter Try.func137, Try.ntmps137
  go_wp2_with (go_at_call 125; ((with_reducible refine (rcmp_any _ Bd A A' n c n' c' xs ys HX.out HY.out).mono ?_); rw [hC.out]; rintro e w' ⟨rfl, rfl⟩))
  go_ret2
  exact ⟨none, 0, by rw [dig_zero]; rfl, by rw [dig_zero]; exact Rd.empty _ _ _ (by omega), Below.refl _ _⟩

set_option maxHeartbeats 1000000 in
theorem rsub_more (w : World) (Bd : Nat) (A A' : Option Addr) (n c n' c' : Nat) (xs ys : List Nat) (hx : Rd w Bd A n c xs) (hy : Rd w Bd A' n' c' ys) (hB : Bd ≤ w.heap.size) (hle : val ys ≤ val xs) :
    Calls Try.prog 137 #[.slice A n c, .slice A' n' c'] w (RetNat2 w (val xs - val ys) true) := by
  obtain ⟨z, hz⟩ : ∃ z : Int, z = cmpN (val xs) (val ys) := ⟨_, rfl⟩
  have hz0 : 0 ≤ z := by rw [hz]; exact cmpN_ge hle
  have hC := hide hz.symm
  have hle := hide hle
  clear hz
  have hbig := hx.big
  have hcap := hx.cap
  have HX := hide hx
  have HY := hide hy
  clear hx hy
  go_enter Try.func137, Try.ntmps137
  go_wp2_with (first
    | (go_at_call 125; ((with_reducible refine (rcmp_any _ Bd A A' n c n' c' xs ys HX.out HY.out).mono ?_); rw [hC.out]; rintro e w' ⟨rfl, rfl⟩))
    | (at_make; refine wpList_make_nat _ rfl _ _ rfl _ _ _ _ n rfl rfl (by omega) (by omega) (by omega) ?_; intro w1 hown hb hg))
  go_loopw [7, 8] (fun bw i wr => ∃ k q : Nat, k ≤ n ∧ q ≤ 1 ∧ i = .int .i64 k ∧ bw = .int .u64 q ∧ ∃ os, os.length = n ∧ vl os k + vl ys k = vl xs k + pw k * q ∧ Own wr w.heap.size os ∧ Below w.heap.size w wr) (fun _ i _ => n - (intOf i).toNat)
  case atStart => exact ⟨0, 0, by omega, by omega, rfl, rfl, List.replicate n 0, List.length_replicate, rfl, hown, hb⟩
  case round =>
    obtain ⟨k, q, hk, hq, rfl, rfl, os, hos, hval, hO, hBl⟩ := hrel
    by_cases hkl : k < n
    · have hko : k < os.length := by omega
      have hco := hO.cell hko
      have hfo := hO.frozen k
      have HXr := hide (HX.out.below (hBl.mono hB))
      have HYr := hide (HY.out.below (hBl.mono hB))
      replace hO := hide hO
      replace hBl := hide hBl
      have h1 := HX.out.limbs k
      have h2 := HY.out.limbs k
      have hst := hide (sub_step HX.out.limbs HY.out.limbs hq hko hval)
      clear hval
      by_cases hbo : lm xs k < lm ys k + q
      · have hB1 : Hid (subB (lm xs k) (lm ys k) q = 1) := hide (by unfold subB; rw [if_pos hbo])
        go_wp2_with (first
          | (go_at_call 134; ((with_reducible refine (limb_any _ Bd A n c xs HXr.out k (by omega)).mono ?_); rintro e w' ⟨rfl, rfl⟩))
          | (go_at_call 134; ((with_reducible refine (limb_any _ Bd A' n' c' ys HYr.out k (by omega)).mono ?_); rintro e w' ⟨rfl, rfl⟩)))
        go_roundw
        case rel => exact ⟨k + 1, 1, by omega, by omega, by go_num, by go_num, _, by simpa using hos, by have := hst.out; rwa [hB1.out] at this, hO.out.put (subD_lt _ _ _) (by unfold subD; omega), hBl.out.setCell (Nat.le_refl _) _⟩
        case measure => simp [intOf]; omega
      · have hB1 : Hid (subB (lm xs k) (lm ys k) q = 0) := hide (by unfold subB; rw [if_neg hbo])
        go_wp2_with (first
          | (go_at_call 134; ((with_reducible refine (limb_any _ Bd A n c xs HXr.out k (by omega)).mono ?_); rintro e w' ⟨rfl, rfl⟩))
          | (go_at_call 134; ((with_reducible refine (limb_any _ Bd A' n' c' ys HYr.out k (by omega)).mono ?_); rintro e w' ⟨rfl, rfl⟩)))
        go_roundw
        case rel => exact ⟨k + 1, 0, by omega, by omega, by go_num, by go_num, _, by simpa using hos, by have := hst.out; rwa [hB1.out] at this, hO.out.put (subD_lt _ _ _) (by unfold subD; omega), hBl.out.setCell (Nat.le_refl _) _⟩
        case measure => simp [intOf]; omega
    · have hkm : k = n := by omega
      subst hkm
      have hR := hO.rd0 (c := k) (by omega) (by omega) hO.lt
      rw [hos] at hR
      have hv : Hid (val os = val xs - val ys) := hide (rsub_end hos HX.out.len hO.limbs HX.out.limbs hq hle.out hval)
      clear hval
      replace hR := hide hR
      replace hO := hide hO
      replace hBl := hide hBl
      go_wp2_with fail
      refine (rnorm_any _ _ _ _ _ _ hR.out (Nat.le_refl _)).mono ?_
      rw [hv.out]
      rintro e w2 ⟨rfl, hO2, hb2, hlm⟩
      replace hO2 := hide hO2
      replace hb2 := hide hb2
      go_wp2
      go_ret2
      exact ⟨_, _, rfl, hO2.out.rd0 (Nat.le_refl _) hlm hO2.out.lt, hBl.out.trans (hb2.out.mono hBl.out.size)⟩
end
end Go.Proofs.Ytdihgmbldnekhaa

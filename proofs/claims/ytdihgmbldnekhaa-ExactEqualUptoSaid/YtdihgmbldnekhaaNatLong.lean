/-
  Long, DivMod.
-/
import Derived.Test.YtdihgmbldnekhaaEstimate
import Derived.Test.YtdihgmbldnekhaaNatBits
namespace Go.Proofs.Ytdihgmbldnekhaa
section
open Go.RowKit

theorem quo_rem {V Q D r : Nat} (h : V = D * Q + r) (hr : r < D) : Q = V / D ∧ r = V % D := by
  rw [h, Nat.mul_add_div (by omega), Nat.div_eq_of_lt hr, Nat.mul_add_mod, Nat.mod_eq_of_lt hr]
  exact ⟨by omega, rfl⟩
theorem zeros_s (w : World) (n s : Nat) (hn : n < 4294967296) (hs : s = 32 - bl n) : Calls Try.prog 130 #[.int .u32 (n : Int)] w fun e w' => e = .returned (.int .i64 (s : Int)) ∧ w = w' := by
  have hb : bl n ≤ 32 := (bl_le 32 n).2 (by omega)
  have e : (32 - (bl n : Int)) = (s : Int) := by omega
  have := zeros_any w n hn
  rw [e] at this
  exact this
/-- the divisor, shifted, has no limb more -/
theorem shift_fits {Y : List Nat} {p s : Nat} (hY : Limbs Y) (hl : Y.length = p + 2) (hs : s = 32 - bl (lm Y (p + 1))) : val Y * 2 ^ s < pw (p + 2) ∧ lm Y (p + 1) * 2 ^ s < 4294967296 := by
  have hb : bl (lm Y (p + 1)) ≤ 32 := (bl_le 32 _).2 (hY _)
  have ht : lm Y (p + 1) < 2 ^ bl (lm Y (p + 1)) := (bl_le _ _).1 (Nat.le_refl _)
  have hpp : 2 ^ bl (lm Y (p + 1)) * 2 ^ s = 4294967296 := by
    rw [hs]; exact pw_two hb
  have e : val Y = vl Y (p + 1) + pw (p + 1) * lm Y (p + 1) := by unfold val; rw [hl, vl_succ]
  have h1 := vl_lt hY (p + 1)
  have h2 : pw (p + 1) * (lm Y (p + 1) + 1) ≤ pw (p + 1) * 2 ^ bl (lm Y (p + 1)) := Nat.mul_le_mul_left _ ht
  have h3 : val Y < pw (p + 1) * 2 ^ bl (lm Y (p + 1)) := by rw [Nat.mul_add] at h2; omega
  have h4 := Nat.mul_lt_mul_of_pos_right h3 (Nat.two_pow_pos s)
  rw [Nat.mul_assoc, hpp] at h4
  have h5 := Nat.mul_lt_mul_of_pos_right ht (Nat.two_pow_pos s)
  rw [hpp] at h5
  rw [pw_succ (p + 1)]
  exact ⟨by omega, h5⟩

/-- of the shifted dividend: limbs of the quotient from k on, and what is left -/
def LongRel (w3 : World) (g2 g3 L n A D k : Nat) (wr : World) : Prop :=
  ∃ rs qs, rs.length = L + 1 ∧ qs.length = L - n + 1 ∧ A = pw k * (val (qs.drop k) * D) + val rs ∧ val (rs.drop k) < D ∧ Own wr g2 rs ∧ Own wr g3 qs ∧ Below g2 w3 wr

/-- the window, before a step -/
theorem window {rs : List Nat} {k n D : Nat} (hL : Limbs rs) (hk : k + (n + 1) ≤ rs.length) (hD : D < pw n) (h : val (rs.drop (k + 1)) < D) :
    val (rs.drop k) < 4294967296 * D ∧ vl (rs.drop k) (n + 1) = val (rs.drop k) ∧ val (rs.drop (k + (n + 1))) = 0 := by
  have e := val_drop (xs := rs) (i := k) (by omega)
  have hl := hL k
  have h1 : val (rs.drop k) < 4294967296 * D := by omega
  have h2 : val (rs.drop k) < pw (n + 1) := by rw [pw_succ]; omega
  have h3 := val_low (Limbs_drop hL k) h2
  refine ⟨h1, h3, ?_⟩
  have h4 := val_split (rs.drop k) (k := n + 1) (by rw [List.length_drop]; omega)
  rw [List.drop_drop] at h4
  rcases Nat.eq_zero_or_pos (val (rs.drop (k + (n + 1)))) with h0 | h0
  · exact h0
  · have := Nat.mul_le_mul_left (pw (n + 1)) h0
    omega
theorem long_step {rs rs' qs : List Nat} {k n A D : Nat} (hlr : rs'.length = rs.length) (hk : k + (n + 1) ≤ rs.length) (hkq : k < qs.length) (hkeep : ∀ j, j < k ∨ k + (n + 1) ≤ j → lm rs' j = lm rs j)
    (hv : vl (rs'.drop k) (n + 1) = vl (rs.drop k) (n + 1) % D) (hw : vl (rs.drop k) (n + 1) = val (rs.drop k)) (hz : val (rs.drop (k + (n + 1))) = 0) (hA : A = pw (k + 1) * (val (qs.drop (k + 1)) * D) + val rs) (hD0 : 0 < D) :
    A = pw k * (val ((qs.set k (vl (rs.drop k) (n + 1) / D)).drop k) * D) + val rs' ∧ val (rs'.drop k) < D := by
  have ez : val (rs'.drop (k + (n + 1))) = 0 := by
    rw [← hz]
    unfold val
    rw [List.length_drop, List.length_drop, hlr]
    exact vl_congr fun j _ => by rw [lm_drop, lm_drop]; exact hkeep _ (by omega)
  have e1 := val_split (rs'.drop k) (k := n + 1) (by rw [List.length_drop]; omega)
  rw [List.drop_drop, ez] at e1
  have e2 : val (rs'.drop k) = vl (rs.drop k) (n + 1) % D := by omega
  have hlt : val (rs'.drop k) < D := by rw [e2]; exact Nat.mod_lt _ hD0
  refine ⟨?_, hlt⟩
  have f1 := val_split rs (k := k) (by omega)
  have f2 := val_split rs' (k := k) (by omega)
  have f3 : vl rs' k = vl rs k := vl_congr fun j hj => hkeep j (Or.inl hj)
  rw [val_drop (xs := qs.set k _) (by rw [List.length_set]; exact hkq), lm_set_eq _ hkq, val_set_drop (by omega), hA, f2, f3, e2, f1, ← hw, pw_succ]
  have h := Nat.div_add_mod (vl (rs.drop k) (n + 1)) D
  generalize vl (rs.drop k) (n + 1) = R at *
  generalize hq : R / D = q at *
  generalize R % D = r at *
  have h6 : pw k * (D * q + r) = pw k * R := by rw [h]
  grind
/-- at the start the highest limbs are less than the divisor -/
theorem long_start {rs X : List Nat} {L n s B : Nat} (hrl : rs.length = L + 1) (hrv : val rs = val X * 2 ^ s) (hX : val X < pw L) (hn : 1 ≤ n) (hnL : n ≤ L) (hB : pw (n - 1) ≤ B) : val (rs.drop (L - n + 1)) < B * 2 ^ s := by
  have e := val_split rs (k := L - n + 1) (by omega)
  have hp := Nat.two_pow_pos s
  have h1 : pw (L - n + 1) * val (rs.drop (L - n + 1)) < pw L * 2 ^ s := by
    have := Nat.mul_lt_mul_of_pos_right hX hp
    omega
  have h2 : pw L = pw (L - n + 1) * pw (n - 1) := by rw [← pw_add]; congr 1; omega
  rw [h2, Nat.mul_assoc] at h1
  have h3 := Nat.lt_of_mul_lt_mul_left h1
  have h4 := Nat.mul_le_mul_right (2 ^ s) hB
  omega

/-- quotient and remainder -/
def RetLong (w : World) (x y : Nat) (e : Ending) (w' : World) : Prop :=
  ∃ A c A' c', e = .returned (.tuple #[.slice A (dig (x / y)).length c, .slice A' (dig (x % y)).length c']) ∧ Rd w' w'.heap.size A (dig (x / y)).length c (dig (x / y)) ∧ Rd w' w'.heap.size A' (dig (x % y)).length c' (dig (x % y)) ∧ Below w.heap.size w w'

set_option maxHeartbeats 2000000 in
theorem long_any (w : World) (Bd : Nat) (A A' : Option Addr) (L c p c' : Nat) (X Y : List Nat) (hx : Rd w Bd A L c X) (hy : Rd w Bd A' (p + 2) c' Y) (hB : Bd ≤ w.heap.size) (hbL : L + 1 ≤ 70368744177664) (htop : lm Y (p + 1) ≠ 0) (hle : val Y ≤ val X) :
    Calls Try.prog 113 #[.slice A L c, .slice A' (p + 2) c'] w (RetLong w (val X) (val Y)) := by
  have hpY : pw (p + 1) ≤ val Y := by
    have e : val Y = vl Y (p + 1) + pw (p + 1) * lm Y (p + 1) := by unfold val; rw [hy.len, vl_succ]
    have h1 : pw (p + 1) * 1 ≤ pw (p + 1) * lm Y (p + 1) := Nat.mul_le_mul_left _ (by omega)
    omega
  have hXL := val_lt hx.limbs
  rw [hx.len] at hXL
  have hnL : p + 2 ≤ L := by
    apply Classical.byContradiction
    intro h
    have := pw_mono (show L ≤ p + 1 by omega)
    omega
  obtain ⟨s, hs⟩ : ∃ s, s = 32 - bl (lm Y (p + 1)) := ⟨_, rfl⟩
  have hbl1 : 1 ≤ bl (lm Y (p + 1)) := by
    rcases Nat.eq_zero_or_pos (bl (lm Y (p + 1))) with h | h
    · have := (bl_le 0 _).1 (Nat.le_of_eq h); simp at this; omega
    · exact h
  have hs32 : s < 32 := by omega
  have hfit := shift_fits hy.limbs hy.len hs
  obtain ⟨D, hD⟩ : ∃ D, D = val Y * 2 ^ s := ⟨_, rfl⟩
  have hDp : D < pw (p + 2) := by rw [hD]; exact hfit.1
  have hD0 : 0 < D := by
    rw [hD]
    have := pw_pos (p + 1)
    exact Nat.mul_pos (by omega) (Nat.two_pow_pos s)
  have hDtop : pw (p + 1) ≤ D := by
    rw [hD]
    have := Nat.le_mul_of_pos_right (val Y) (Nat.two_pow_pos s)
    omega
  obtain ⟨ad, rfl, hadb, hca⟩ := hy.at_ (k := p + 1) (by omega)
  rw [add_pos_ (by omega)] at hca
  have hyl := hy.limbs (p + 1)
  have hcx := hx.cap
  have hcy := hy.cap
  have H := hide hx
  have H' := hide hy
  replace hs := hide hs
  replace hD := hide hD
  replace hDp := hide hDp
  replace hD0 := hide hD0
  replace hDtop := hide hDtop
  replace hpY := hide hpY
  replace hXL := hide hXL
  replace hle := hide hle
  replace htop := hide htop
  clear hx hy hfit hbl1
  go_enter Try.func113, Try.ntmps113
  go_wp2_with (go_at_call 130; ((with_reducible refine (zeros_s _ (lm Y (p + 1)) s hyl hs.out).mono ?_); rintro e w' ⟨rfl, rfl⟩))
  refine (shiftLeft_any w Bd _ (p + 2) c' Y H'.out hB (by omega) s hs32).mono ?_
  rintro e w1 ⟨os, rfl, hol, hov, hO1, hb1⟩
  have hRD : Rd w1 (w.heap.size + 1) (some ⟨w.heap.size, 0, none⟩) (p + 2) (p + 2 + 1) (os.take (p + 2)) := by
    have := hO1.rd (off := 0) (n := p + 2) (c := p + 2 + 1) (by omega) (by omega) (by omega) (Nat.lt_succ_self _)
    simpa using this
  have hvD : vl (os.take (p + 2)) (p + 2) = D := by
    rw [vl_take (Nat.le_refl _), val_low hO1.limbs (by rw [hov, ← hD.out]; exact hDp.out), hov, hD.out]
  have hs1 : w.heap.size < w1.heap.size := hO1.lt
  generalize os.take (p + 2) = ds at *
  have htd : lm ds (p + 1) ≠ 0 := by
    intro h0
    have h1 := vl_succ ds (p + 1)
    rw [h0, hvD] at h1
    have h2 := vl_lt hRD.limbs (p + 1)
    have := hDtop.out
    omega
  replace hRD := hide hRD
  replace hvD := hide hvD
  replace htd := hide htd
  replace hb1 := hide hb1
  clear hol hov hO1 hca
  go_wp2_with fail
  refine (shiftLeft_any w1 Bd _ L c X (H.out.below (hb1.out.mono hB)) (by omega) hbL s hs32).mono ?_
  rintro e w2 ⟨rs0, rfl, hrl, hrv, hO2, hb2⟩
  have hs2 : w1.heap.size < w2.heap.size := hO2.lt
  have hst0 := hide (long_start (n := p + 2) hrl hrv hXL.out (by omega) hnL hpY.out)
  have hRD2 := hide (hRD.out.below (hb2.mono (by omega)))
  have hb2' := hide (hb1.out.trans (hb2.mono (by omega)))
  replace hO2 := hide hO2
  replace hrv := hide hrv
  clear hb2 hRD
  go_wp2_with (at_make; refine wpList_make_nat _ rfl _ _ rfl _ _ _ _ (L - (p + 2) + 1) rfl rfl (by omega) (by omega) (by omega) ?_; intro w3 hO3 hb3 hg3)
  have hg23 : w1.heap.size < w2.heap.size := hs2
  have hs3 : w2.heap.size < w3.heap.size := hg3
  have hstart := hide (show LongRel w3 w1.heap.size w2.heap.size L (p + 2) (val X * 2 ^ s) D (L - (p + 2) + 1) w3 from
    ⟨rs0, List.replicate (L - (p + 2) + 1) 0, hrl, List.length_replicate, by
      rw [List.drop_eq_nil_of_le (by simp), hrv.out, val_nil]; simp, by rw [hD.out]; exact hst0.out, hO2.out.below hb3 hs2, hO3, Below.refl _ _⟩)
  have hRD3 := hide (hRD2.out.below (hb3.mono (by omega)))
  have hb3' := hide (hb2'.out.trans (hb3.mono (by omega)))
  clear hb3 hO3 hO2 hRD2 hb2' hst0 hrv hrl
  generalize hg2e : w1.heap.size = g2 at *
  generalize hg3e : w2.heap.size = g3 at *
  clear hg2e hg3e
  go_loopw [10] (fun i wr => ∃ z : Int, -1 ≤ z ∧ z < (L - (p + 2) + 1 : Nat) ∧ i = .int .i64 z ∧ LongRel w3 g2 g3 L (p + 2) (val X * 2 ^ s) D (z + 1).toNat wr) (fun i _ => (intOf i + 1).toNat)
  case atStart => exact ⟨((L - (p + 2) : Nat) : Int), by omega, by omega, by go_num, by rw [show (((L - (p + 2) : Nat) : Int) + 1).toNat = L - (p + 2) + 1 by omega]; exact hstart.out⟩
  case round =>
    obtain ⟨z, hz1, hz2, rfl, rs, qs, hrl, hql, hA, hlt, hOr, hOq, hBl⟩ := hrel
    by_cases hpos : 0 ≤ z
    · obtain ⟨k, rfl⟩ : ∃ k : Nat, z = k := ⟨z.toNat, by omega⟩
      rw [show ((k : Int) + 1).toNat = k + 1 by omega] at hA hlt
      have hkL : k + (p + 3) ≤ L + 1 := by omega
      obtain ⟨hw1, hw2, hw3⟩ := window (n := p + 2) hOr.limbs (by omega) hDp.out hlt
      have hR := hide (show vl (rs.drop k) (p + 3) < 4294967296 * vl ds (p + 2) by rw [hvD.out, show vl (rs.drop k) (p + 3) = val (rs.drop k) from hw2]; exact hw1)
      have hRDw := hide (hRD3.out.below (hBl.mono (by omega)))
      have hsg := hide hOq.lt
      have hsg2 := hide hOr.lt
      replace hw2 := hide hw2
      replace hw3 := hide hw3
      replace hA := hide hA
      replace hlt := hide hlt
      replace hOr := hide hOr
      replace hOq := hide hOq
      replace hBl := hide hBl
      clear hw1
      go_wp2_with fail
      rw [show k + (p + 2) + 1 - k = p + 3 by omega]
      refine (takeOut_any wr g2 k (L + 1 - k) g2 p _ _ rs ds hOr.out (by omega) (by omega) (by omega) (by omega) (hRDw.out.more (by omega)) (Nat.le_refl _) htd.out hR.out).mono ?_
      rintro e w4 ⟨rs', rfl, hl4, hk4, hv4, hO4, hg4⟩
      rw [hvD.out] at hv4 ⊢
      have hq4 := hOq.out.grown hg4 (by simp; omega)
      have hco := hq4.cell (j := k) (by omega)
      have hfo := hq4.frozen k
      have hst := hide (long_step hl4 (by omega) (by omega : k < qs.length) hk4 hv4 hw2.out hw3.out hA.out hD0.out)
      have hBl4 := hide (hBl.out.grown hg4 (by have := hsg2.out; omega) (by simp))
      have hqlt : vl (rs.drop k) (p + 2 + 1) / D < 4294967296 := by
        rw [Nat.div_lt_iff_lt_mul hD0.out]
        have := hR.out
        rw [hvD.out] at this
        exact this
      obtain ⟨q, hq⟩ : ∃ q, q = vl (rs.drop k) (p + 2 + 1) / D := ⟨_, rfl⟩
      rw [← hq] at hst hqlt ⊢
      replace hq := hide hq
      replace hq4 := hide hq4
      replace hO4 := hide hO4
      clear hk4 hv4 hg4
      go_wp2
      go_roundw
      case rel =>
        refine ⟨(k : Int) - 1, by omega, by omega, rfl, ?_⟩
        rw [show ((k : Int) - 1 + 1).toNat = k by omega]
        exact ⟨rs', _, by omega, by simpa using hql, hst.out.1, hst.out.2, hO4.out.block (Below.heap_setCell _ _ _ _ (by simp; omega)), hq4.out.put hqlt rfl, hBl4.out.setCell (by simp; omega) _⟩
      case measure => simp [intOf]
    · have hz0 : z = -1 := by omega
      subst hz0
      have hA0 : val X * 2 ^ s = val qs * D + val rs := by simpa [pw] using hA
      have hl0 : val rs < D := by simpa using hlt
      rw [Nat.mul_comm (val qs) D] at hA0
      have hQ := quo_rem hA0 hl0
      rw [hD.out, mul_div_cancel_pw, mul_mod_pw] at hQ
      have hQ1 := hide hQ.1
      have hQ2 := hide hQ.2
      have hsg := hide hOq.lt
      have hsg2 := hide hOr.lt
      replace hOq := hide hOq
      replace hOr := hide hOr
      replace hBl := hide hBl
      clear hA hlt hA0 hl0 hQ
      go_wp2_with fail
      refine (shiftRight_any wr g2 (L + 1) (L + 1) rs hOr.out hrl (by omega) s hs32).mono ?_
      rintro e w4 ⟨rs', rfl, hl4, hv4, hO4, hg4⟩
      have hv5 : val rs' = val X % val Y := by
        rw [hv4, hQ2.out, Nat.mul_div_cancel _ (Nat.two_pow_pos s)]
      have hq4 := hOq.out.grown hg4 (by simp; omega)
      have hsz4 : w4.heap.size ≥ wr.heap.size := hg4.size
      have hRq := hide (by have := hq4.rd0 (c := L - (p + 2) + 1) (by omega) (by omega) (B := w4.heap.size) hq4.lt; rw [hql] at this; exact this)
      have hRr := hide (by have := hO4.rd0 (c := L + 1) (by omega) (by omega) (B := w4.heap.size) hO4.lt; rw [hl4, hrl] at this; exact this)
      have hb4 := hide (hb3'.out.trans ((hBl.out.grown hg4 (by have := hsg2.out; omega) (by simp)).mono (by omega)))
      replace hv5 := hide hv5
      clear hv4 hO4 hg4 hq4
      go_wp2_with (first
        | (go_at_call 84; ((with_reducible refine (trim_any _ _ _ _ _ _ hRq.out).mono ?_); rintro e w' ⟨rfl, rfl⟩))
        | (go_at_call 84; ((with_reducible refine (trim_any _ _ _ _ _ _ hRr.out).mono ?_); rintro e w' ⟨rfl, rfl⟩)))
      go_ret2
      have h1 := hRq.out.trim
      have h2 := hRr.out.trim
      rw [hQ1.out] at h1 ⊢
      rw [hv5.out] at h2 ⊢
      exact ⟨_, _, _, _, rfl, h1, h2, hb4.out⟩
end

section
open Go.RowKit

set_option maxHeartbeats 1000000 in
theorem divmod_long (w : World) (Bd : Nat) (A A' : Option Addr) (n c n' c' : Nat) (xs ys : List Nat) (hx : Rd w Bd A n c xs) (hy : Rd w Bd A' n' c' ys) (hB : Bd ≤ w.heap.size) (hn : n + 1 ≤ 70368744177664) (hle : val ys ≤ val xs) (htwo : 2 ≤ (dig (val ys)).length) :
    Calls Try.prog 87 #[.slice A n c, .slice A' n' c'] w (RetDM w (val xs) (val ys)) := by
  obtain ⟨X, m, hm, HX, hmn, hvx, hXd⟩ := hx.trimmed
  obtain ⟨Y, m', hm', HY, hmn', hvy, hYd⟩ := hy.trimmed
  obtain ⟨p, rfl⟩ : ∃ p, m' = p + 2 := ⟨m' - 2, by rw [← hm'.out]; omega⟩
  obtain ⟨z, hz⟩ : ∃ z : Int, z = cmpN (val X) (val Y) := ⟨_, rfl⟩
  have hz0 : 0 ≤ z := by rw [hz, hvx.out, hvy.out]; exact cmpN_ge hle
  have hC := hide hz.symm
  have htop : Hid (lm Y (p + 1) ≠ 0) := hide (by
    have := dig_top (n := val ys) (by omega)
    rw [hm'.out, ← hYd.out] at this
    exact this)
  have hle2 : Hid (val Y ≤ val X) := hide (by rw [hvx.out, hvy.out]; exact hle)
  clear hz hle htwo
  have hcap := HX.cap
  have hbig := HX.big
  have hcap' := HY.cap
  have hbig' := HY.big
  replace HX := hide HX
  replace HY := hide HY
  have H := hide hx
  have H' := hide hy
  clear hx hy
  go_enter Try.func87, Try.ntmps87
  go_wp2_with (first
    | (go_at_call 84; ((with_reducible refine (trim_to _ Bd A n c xs H.out m hm.out).mono ?_); rintro e w' ⟨rfl, rfl⟩))
    | (go_at_call 84; ((with_reducible refine (trim_to _ Bd A' n' c' ys H'.out (p + 2) hm'.out).mono ?_); rintro e w' ⟨rfl, rfl⟩))
    | (go_at_call 76; ((with_reducible refine (cmp_any _ Bd A A' m c (p + 2) c' X Y HX.out HY.out).mono ?_); rw [hC.out]; rintro e w' ⟨rfl, q, rfl⟩)))
  refine (long_any _ Bd A A' m c p c' X Y (HX.out.drewN q) (HY.out.drewN q) hB (by omega) htop.out hle2.out).mono ?_
  rintro e w1 ⟨A1, c1, A2, c2, rfl, hR1, hR2, hb⟩
  rw [hvx.out, hvy.out] at hR1 hR2 ⊢
  replace hR1 := hide hR1
  replace hR2 := hide hR2
  replace hb := hide hb
  go_wp2
  go_ret3
  exact ⟨_, _, _, _, rfl, hR1.out, hR2.out, (below_drewN (Below.refl _ _) _).trans hb.out⟩

theorem divmod_any (w : World) (Bd : Nat) (A A' : Option Addr) (n c n' c' : Nat) (xs ys : List Nat) (hx : Rd w Bd A n c xs) (hy : Rd w Bd A' n' c' ys) (hB : Bd ≤ w.heap.size) (hn : n + 1 ≤ 70368744177664) (h0 : val ys ≠ 0) :
    Calls Try.prog 87 #[.slice A n c, .slice A' n' c'] w (RetDM w (val xs) (val ys)) := by
  by_cases hlt : val xs < val ys
  · exact divmod_less w Bd A A' n c n' c' xs ys hx hy hB hlt
  · by_cases hone : (dig (val ys)).length = 1
    · exact divmod_short w Bd A A' n c n' c' xs ys hx hy hB (by omega) hone
    · have hz : (dig (val ys)).length ≠ 0 := fun h => h0 (dig_len_zero.1 h)
      exact divmod_long w Bd A A' n c n' c' xs ys hx hy hB hn (by omega) (by omega)
end
end Go.Proofs.Ytdihgmbldnekhaa

/-
  DivMod: the quotient lies in a block of its own.
-/
import Derived.Test.YtieopcchchebgaaNatLong
namespace Go.Proofs.Ytieopcchchebgaa
open Go.RowKit

/-- a number lies in a block that the call made -/
def Fresh (w w' : World) (A : Option Addr) (n : Nat) : Prop := 0 < n → ∃ (g : Nat) (os : List Nat), A = some ⟨g, 0, none⟩ ∧ w.heap.size ≤ g ∧ Own w' g os ∧ n ≤ os.length
def RetDMF (w : World) (x y : Nat) (e : Ending) (w' : World) : Prop :=
  ∃ A c A' c', e = .returned (.tuple #[.slice A (dig (x / y)).length c, .slice A' (dig (x % y)).length c', .bool true]) ∧ Rd w' w'.heap.size A (dig (x / y)).length c (dig (x / y)) ∧ Rd w' w'.heap.size A' (dig (x % y)).length c' (dig (x % y)) ∧ Below w.heap.size w w' ∧ Fresh w w' A (dig (x / y)).length
def RetLongF (w : World) (x y : Nat) (e : Ending) (w' : World) : Prop :=
  ∃ A c A' c', e = .returned (.tuple #[.slice A (dig (x / y)).length c, .slice A' (dig (x % y)).length c']) ∧ Rd w' w'.heap.size A (dig (x / y)).length c (dig (x / y)) ∧ Rd w' w'.heap.size A' (dig (x % y)).length c' (dig (x % y)) ∧ Below w.heap.size w w' ∧ Fresh w w' A (dig (x / y)).length

set_option maxHeartbeats 2000000 in
theorem divmod_short_f (w : World) (Bd : Nat) (A A' : Option Addr) (n c n' c' : Nat) (xs ys : List Nat) (hx : Rd w Bd A n c xs) (hy : Rd w Bd A' n' c' ys) (hB : Bd ≤ w.heap.size) (hle : val ys ≤ val xs) (hone : (dig (val ys)).length = 1) :
    Calls Try.prog 94 #[.slice A n c, .slice A' n' c'] w (RetDMF w (val xs) (val ys)) := by
  obtain ⟨X, m, hm, HX, hmn, hvx, hXd⟩ := hx.trimmed
  obtain ⟨Y, m', hm', HY, hmn', hvy, hYd⟩ := hy.trimmed
  obtain rfl : m' = 1 := by rw [← hm'.out]; exact hone
  obtain ⟨z, hz⟩ : ∃ z : Int, z = cmpN (val X) (val Y) := ⟨_, rfl⟩
  have hz0 : 0 ≤ z := by rw [hz, hvx.out, hvy.out]; exact cmpN_ge hle
  have hC := hide hz.symm
  clear hz
  have hY1 : val Y = lm Y 0 := by unfold val; rw [HY.len]; simp [vl, pw]
  have hy0 : 0 < lm Y 0 := by
    rw [← hY1, hvy.out]
    rcases Nat.eq_zero_or_pos (val ys) with h | h
    · rw [h, dig_zero] at hone; simp at hone
    · exact h
  have hyl := HY.limbs 0
  rw [hvy.out] at hY1
  replace hY1 := hide hY1
  have hcap := HX.cap
  have hbig := HX.big
  have hcap' := HY.cap
  have hbig' := HY.big
  replace HX := hide HX
  replace HY := hide HY
  have H := hide hx
  have H' := hide hy
  clear hx hy hle hone
  obtain ⟨ad, rfl, hadb, hca⟩ := HY.out.at_ (k := 0) (by omega)
  rw [add_zero_] at hca
  go_enter Try.func94, Try.ntmps94
  go_wp2_with (first
    | (go_at_call 93; ((with_reducible refine (trim_to _ Bd A n c xs H.out m hm.out).mono ?_); rintro e w' ⟨rfl, rfl⟩))
    | (go_at_call 93; ((with_reducible refine (trim_to _ Bd _ n' c' ys H'.out 1 hm'.out).mono ?_); rintro e w' ⟨rfl, rfl⟩))
    | (go_at_call 67; ((with_reducible refine (cmp_any _ Bd A _ m c 1 c' X Y HX.out HY.out).mono ?_); rw [hC.out]; rintro e w' ⟨rfl, q, rfl⟩)))
  refine (norm_any _ Bd A m c X (HX.out.drewN q) hB).mono ?_
  rintro e w1 ⟨rfl, hown, hb, hlm⟩
  rw [hvx.out] at hown hlm ⊢
  have hbw : Below w.heap.size w w1 := (below_drewN (Below.refl _ _) _).trans hb
  have hca2 : w1.cell? ad = some (.int .u32 (lm Y 0 : Int)) := (hbw.cell (by omega)).trans hca
  obtain ⟨L, hL⟩ : ∃ L, L = (dig (val xs)).length := ⟨_, rfl⟩
  rw [← hL] at hlm ⊢
  replace hL := hide hL
  replace hbw := hide hbw
  replace hown := hide hown
  clear hb hca
  go_wp2_with fail
  refine (divideByLimb_any w1 w.heap.size L L (dig (val xs)) (lm Y 0) hown.out hL.out.symm hlm hy0 hyl).mono ?_
  rintro e w2 ⟨os', rfl, hlo, hvo, hO2, hgr⟩
  rw [val_dig] at hvo ⊢
  rw [← hL.out] at hlo
  have hR := hO2.rd0 (c := L) (by omega) hlm (B := w2.heap.size) hO2.lt
  rw [hlo] at hR
  have hb2 := hide (hbw.out.grown hgr (Nat.le_of_lt hown.out.lt) (by simp))
  obtain ⟨r, hr⟩ : ∃ r, r = val xs % lm Y 0 := ⟨_, rfl⟩
  have hrl : r < 18446744073709551616 := by rw [hr]; have := Nat.mod_lt (val xs) hy0; omega
  rw [← hr]
  replace hr := hide hr
  replace hR := hide hR
  replace hvo := hide hvo
  have hsz2 := hide (Nat.le_refl w2.heap.size)
  have hOk := hide hO2
  have hlo2 := hide hlo
  clear hgr hO2 hlo
  go_wp2_with (first
    | (go_at_call 93; ((with_reducible refine (trim_any _ _ _ _ _ _ hR.out).mono ?_); rintro e w' ⟨rfl, rfl⟩))
    | (go_at_call 68; ((refine (of_any _ r hrl).mono ?_); rintro e w3 ⟨A3, c3, rfl, hR3, hb3⟩; replace hR3 := hide hR3; replace hb3 := hide hb3)))
  go_ret3
  rw [RetDMF, hY1.out, hvo.out, ← hr.out]
  have hR' := hR.out.trim
  rw [hvo.out] at hR'
  exact ⟨_, _, _, _, rfl, (hR'.below hb3.out).more hb3.out.size, hR3.out, hb2.out.trans (hb3.out.mono hb2.out.size), fun _ => ⟨_, os', rfl, by simp, hOk.out.below hb3.out hOk.out.lt, by rw [← hvo.out]; exact dig_len_val hOk.out.limbs⟩⟩

set_option maxHeartbeats 4000000 in
theorem long_any_f (w : World) (Bd : Nat) (A A' : Option Addr) (L c p c' : Nat) (X Y : List Nat) (hx : Rd w Bd A L c X) (hy : Rd w Bd A' (p + 2) c' Y) (hB : Bd ≤ w.heap.size) (hbL : L + 1 ≤ 70368744177664) (htop : lm Y (p + 1) ≠ 0) (hle : val Y ≤ val X) :
    Calls Try.prog 116 #[.slice A L c, .slice A' (p + 2) c'] w (RetLongF w (val X) (val Y)) := by
  have hpY : pw (p + 1) ≤ val Y := by
    have e : val Y = vl Y (p + 1) + pw (p + 1) * lm Y (p + 1) := by unfold val; rw [hy.len, vl_succ]
    have h1 : pw (p + 1) * 1 ≤ pw (p + 1) * lm Y (p + 1) := Nat.mul_le_mul_left _ (by omega)
    omega
  have hXL := val_lt hx.limbs
  rw [hx.len] at hXL
  have hnL : p + 2 ≤ L := by
    apply Classical.byContradiction
    intro h
    have := pw_mono (show L ≤ p + 1 by omega)
    omega
  obtain ⟨s, hs⟩ : ∃ s, s = 32 - bl (lm Y (p + 1)) := ⟨_, rfl⟩
  have hbl1 : 1 ≤ bl (lm Y (p + 1)) := by
    rcases Nat.eq_zero_or_pos (bl (lm Y (p + 1))) with h | h
    · have := (bl_le 0 _).1 (Nat.le_of_eq h); simp at this; omega
    · exact h
  have hs32 : s < 32 := by omega
  have hfit := shift_fits hy.limbs hy.len hs
  obtain ⟨D, hD⟩ : ∃ D, D = val Y * 2 ^ s := ⟨_, rfl⟩
  have hDp : D < pw (p + 2) := by rw [hD]; exact hfit.1
  have hD0 : 0 < D := by
    rw [hD]
    have := pw_pos (p + 1)
    exact Nat.mul_pos (by omega) (Nat.two_pow_pos s)
  have hDtop : pw (p + 1) ≤ D := by
    rw [hD]
    have := Nat.le_mul_of_pos_right (val Y) (Nat.two_pow_pos s)
    omega
  obtain ⟨ad, rfl, hadb, hca⟩ := hy.at_ (k := p + 1) (by omega)
  rw [add_pos_ (by omega)] at hca
  have hyl := hy.limbs (p + 1)
  have hcx := hx.cap
  have hcy := hy.cap
  have H := hide hx
  have H' := hide hy
  replace hs := hide hs
  replace hD := hide hD
  replace hDp := hide hDp
  replace hD0 := hide hD0
  replace hDtop := hide hDtop
  replace hpY := hide hpY
  replace hXL := hide hXL
  replace hle := hide hle
  replace htop := hide htop
  clear hx hy hfit hbl1
  go_enter Try.func116, Try.ntmps116
  go_wp2_with (go_at_call 123; ((with_reducible refine (zeros_s _ (lm Y (p + 1)) s hyl hs.out).mono ?_); rintro e w' ⟨rfl, rfl⟩))
  refine (shiftLeft_any w Bd _ (p + 2) c' Y H'.out hB (by omega) s hs32).mono ?_
  rintro e w1 ⟨os, rfl, hol, hov, hO1, hb1⟩
  have hRD : Rd w1 (w.heap.size + 1) (some ⟨w.heap.size, 0, none⟩) (p + 2) (p + 2 + 1) (os.take (p + 2)) := by
    have := hO1.rd (off := 0) (n := p + 2) (c := p + 2 + 1) (by omega) (by omega) (by omega) (Nat.lt_succ_self _)
    simpa using this
  have hvD : vl (os.take (p + 2)) (p + 2) = D := by
    rw [vl_take (Nat.le_refl _), val_low hO1.limbs (by rw [hov, ← hD.out]; exact hDp.out), hov, hD.out]
  have hs1 : w.heap.size < w1.heap.size := hO1.lt
  generalize os.take (p + 2) = ds at *
  have htd : lm ds (p + 1) ≠ 0 := by
    intro h0
    have h1 := vl_succ ds (p + 1)
    rw [h0, hvD] at h1
    have h2 := vl_lt hRD.limbs (p + 1)
    have := hDtop.out
    omega
  replace hRD := hide hRD
  replace hvD := hide hvD
  replace htd := hide htd
  replace hb1 := hide hb1
  clear hol hov hO1 hca
  go_wp2_with fail
  refine (shiftLeft_any w1 Bd _ L c X (H.out.below (hb1.out.mono hB)) (by omega) hbL s hs32).mono ?_
  rintro e w2 ⟨rs0, rfl, hrl, hrv, hO2, hb2⟩
  have hs2 : w1.heap.size < w2.heap.size := hO2.lt
  have hst0 := hide (long_start (n := p + 2) hrl hrv hXL.out (by omega) hnL hpY.out)
  have hRD2 := hide (hRD.out.below (hb2.mono (by omega)))
  have hb2' := hide (hb1.out.trans (hb2.mono (by omega)))
  replace hO2 := hide hO2
  replace hrv := hide hrv
  clear hb2 hRD
  go_wp2_with (at_make; refine wpList_make_nat _ rfl _ _ rfl _ _ _ _ (L - (p + 2) + 1) rfl rfl (by omega) (by omega) (by omega) ?_; intro w3 hO3 hb3 hg3)
  have hg23 : w1.heap.size < w2.heap.size := hs2
  have hs3 : w2.heap.size < w3.heap.size := hg3
  have hstart := hide (show LongRel w3 w1.heap.size w2.heap.size L (p + 2) (val X * 2 ^ s) D (L - (p + 2) + 1) w3 from
    ⟨rs0, List.replicate (L - (p + 2) + 1) 0, hrl, List.length_replicate, by
      rw [List.drop_eq_nil_of_le (by simp), hrv.out, val_nil]; simp, by rw [hD.out]; exact hst0.out, hO2.out.below hb3 hs2, hO3, Below.refl _ _⟩)
  have hRD3 := hide (hRD2.out.below (hb3.mono (by omega)))
  have hb3' := hide (hb2'.out.trans (hb3.mono (by omega)))
  clear hb3 hO3 hO2 hRD2 hb2' hst0 hrv hrl
  generalize hg2e : w1.heap.size = g2 at *
  generalize hg3e : w2.heap.size = g3 at *
  clear hg2e hg3e
  go_loopw [10] (fun i wr => ∃ z : Int, -1 ≤ z ∧ z < (L - (p + 2) + 1 : Nat) ∧ i = .int .i64 z ∧ LongRel w3 g2 g3 L (p + 2) (val X * 2 ^ s) D (z + 1).toNat wr) (fun i _ => (intOf i + 1).toNat)
  case atStart => exact ⟨((L - (p + 2) : Nat) : Int), by omega, by omega, by go_num, by rw [show (((L - (p + 2) : Nat) : Int) + 1).toNat = L - (p + 2) + 1 by omega]; exact hstart.out⟩
  case round =>
    obtain ⟨z, hz1, hz2, rfl, rs, qs, hrl, hql, hA, hlt, hOr, hOq, hBl⟩ := hrel
    by_cases hpos : 0 ≤ z
    · obtain ⟨k, rfl⟩ : ∃ k : Nat, z = k := ⟨z.toNat, by omega⟩
      rw [show ((k : Int) + 1).toNat = k + 1 by omega] at hA hlt
      have hkL : k + (p + 3) ≤ L + 1 := by omega
      obtain ⟨hw1, hw2, hw3⟩ := window (n := p + 2) hOr.limbs (by omega) hDp.out hlt
      have hR := hide (show vl (rs.drop k) (p + 3) < 4294967296 * vl ds (p + 2) by rw [hvD.out, show vl (rs.drop k) (p + 3) = val (rs.drop k) from hw2]; exact hw1)
      have hRDw := hide (hRD3.out.below (hBl.mono (by omega)))
      have hsg := hide hOq.lt
      have hsg2 := hide hOr.lt
      replace hw2 := hide hw2
      replace hw3 := hide hw3
      replace hA := hide hA
      replace hlt := hide hlt
      replace hOr := hide hOr
      replace hOq := hide hOq
      replace hBl := hide hBl
      clear hw1
      go_wp2_with fail
      rw [show k + (p + 2) + 1 - k = p + 3 by omega]
      refine (takeOut_any wr g2 k (L + 1 - k) g2 p _ _ rs ds hOr.out (by omega) (by omega) (by omega) (by omega) (hRDw.out.more (by omega)) (Nat.le_refl _) htd.out hR.out).mono ?_
      rintro e w4 ⟨rs', rfl, hl4, hk4, hv4, hO4, hg4⟩
      rw [hvD.out] at hv4 ⊢
      have hq4 := hOq.out.grown hg4 (by simp; omega)
      have hco := hq4.cell (j := k) (by omega)
      have hfo := hq4.frozen k
      have hst := hide (long_step hl4 (by omega) (by omega : k < qs.length) hk4 hv4 hw2.out hw3.out hA.out hD0.out)
      have hBl4 := hide (hBl.out.grown hg4 (by have := hsg2.out; omega) (by simp))
      have hqlt : vl (rs.drop k) (p + 2 + 1) / D < 4294967296 := by
        rw [Nat.div_lt_iff_lt_mul hD0.out]
        have := hR.out
        rw [hvD.out] at this
        exact this
      obtain ⟨q, hq⟩ : ∃ q, q = vl (rs.drop k) (p + 2 + 1) / D := ⟨_, rfl⟩
      rw [← hq] at hst hqlt ⊢
      replace hq := hide hq
      replace hq4 := hide hq4
      replace hO4 := hide hO4
      clear hk4 hv4 hg4
      go_wp2
      go_roundw
      case rel =>
        refine ⟨(k : Int) - 1, by omega, by omega, rfl, ?_⟩
        rw [show ((k : Int) - 1 + 1).toNat = k by omega]
        exact ⟨rs', _, by omega, by simpa using hql, hst.out.1, hst.out.2, hO4.out.block (Below.heap_setCell _ _ _ _ (by simp; omega)), hq4.out.put hqlt rfl, hBl4.out.setCell (by simp; omega) _⟩
      case measure => simp [intOf]
    · have hz0 : z = -1 := by omega
      subst hz0
      have hA0 : val X * 2 ^ s = val qs * D + val rs := by simpa [pw] using hA
      have hl0 : val rs < D := by simpa using hlt
      rw [Nat.mul_comm (val qs) D] at hA0
      have hQ := quo_rem hA0 hl0
      rw [hD.out, mul_div_cancel_pw, mul_mod_pw] at hQ
      have hQ1 := hide hQ.1
      have hQ2 := hide hQ.2
      have hsg := hide hOq.lt
      have hsg2 := hide hOr.lt
      replace hOq := hide hOq
      replace hOr := hide hOr
      replace hBl := hide hBl
      clear hA hlt hA0 hl0 hQ
      go_wp2_with fail
      refine (shiftRight_any wr g2 (L + 1) (L + 1) rs hOr.out hrl (by omega) s hs32).mono ?_
      rintro e w4 ⟨rs', rfl, hl4, hv4, hO4, hg4⟩
      have hv5 : val rs' = val X % val Y := by
        rw [hv4, hQ2.out, Nat.mul_div_cancel _ (Nat.two_pow_pos s)]
      have hq4 := hOq.out.grown hg4 (by simp; omega)
      have hsz4 : w4.heap.size ≥ wr.heap.size := hg4.size
      have hRq := hide (by have := hq4.rd0 (c := L - (p + 2) + 1) (by omega) (by omega) (B := w4.heap.size) hq4.lt; rw [hql] at this; exact this)
      have hRr := hide (by have := hO4.rd0 (c := L + 1) (by omega) (by omega) (B := w4.heap.size) hO4.lt; rw [hl4, hrl] at this; exact this)
      have hb4 := hide (hb3'.out.trans ((hBl.out.grown hg4 (by have := hsg2.out; omega) (by simp)).mono (by omega)))
      replace hv5 := hide hv5
      have hqk := hide hq4
      clear hv4 hO4 hg4 hq4
      go_wp2_with (first
        | (go_at_call 93; ((with_reducible refine (trim_any _ _ _ _ _ _ hRq.out).mono ?_); rintro e w' ⟨rfl, rfl⟩))
        | (go_at_call 93; ((with_reducible refine (trim_any _ _ _ _ _ _ hRr.out).mono ?_); rintro e w' ⟨rfl, rfl⟩)))
      go_ret2
      have h1 := hRq.out.trim
      have h2 := hRr.out.trim
      rw [hQ1.out] at h1 ⊢
      rw [hv5.out] at h2 ⊢
      exact ⟨_, _, _, _, rfl, h1, h2, hb4.out, fun _ => ⟨_, qs, rfl, by omega, hqk.out, by rw [← hQ1.out]; exact dig_len_val hqk.out.limbs⟩⟩

set_option maxHeartbeats 2000000 in
theorem divmod_long_f (w : World) (Bd : Nat) (A A' : Option Addr) (n c n' c' : Nat) (xs ys : List Nat) (hx : Rd w Bd A n c xs) (hy : Rd w Bd A' n' c' ys) (hB : Bd ≤ w.heap.size) (hn : n + 1 ≤ 70368744177664) (hle : val ys ≤ val xs) (htwo : 2 ≤ (dig (val ys)).length) :
    Calls Try.prog 94 #[.slice A n c, .slice A' n' c'] w (RetDMF w (val xs) (val ys)) := by
  obtain ⟨X, m, hm, HX, hmn, hvx, hXd⟩ := hx.trimmed
  obtain ⟨Y, m', hm', HY, hmn', hvy, hYd⟩ := hy.trimmed
  obtain ⟨p, rfl⟩ : ∃ p, m' = p + 2 := ⟨m' - 2, by rw [← hm'.out]; omega⟩
  obtain ⟨z, hz⟩ : ∃ z : Int, z = cmpN (val X) (val Y) := ⟨_, rfl⟩
  have hz0 : 0 ≤ z := by rw [hz, hvx.out, hvy.out]; exact cmpN_ge hle
  have hC := hide hz.symm
  have htop : Hid (lm Y (p + 1) ≠ 0) := hide (by
    have := dig_top (n := val ys) (by omega)
    rw [hm'.out, ← hYd.out] at this
    exact this)
  have hle2 : Hid (val Y ≤ val X) := hide (by rw [hvx.out, hvy.out]; exact hle)
  clear hz hle htwo
  have hcap := HX.cap
  have hbig := HX.big
  have hcap' := HY.cap
  have hbig' := HY.big
  replace HX := hide HX
  replace HY := hide HY
  have H := hide hx
  have H' := hide hy
  clear hx hy
  go_enter Try.func94, Try.ntmps94
  go_wp2_with (first
    | (go_at_call 93; ((with_reducible refine (trim_to _ Bd A n c xs H.out m hm.out).mono ?_); rintro e w' ⟨rfl, rfl⟩))
    | (go_at_call 93; ((with_reducible refine (trim_to _ Bd A' n' c' ys H'.out (p + 2) hm'.out).mono ?_); rintro e w' ⟨rfl, rfl⟩))
    | (go_at_call 67; ((with_reducible refine (cmp_any _ Bd A A' m c (p + 2) c' X Y HX.out HY.out).mono ?_); rw [hC.out]; rintro e w' ⟨rfl, q, rfl⟩)))
  refine (long_any_f _ Bd A A' m c p c' X Y (HX.out.drewN q) (HY.out.drewN q) hB (by omega) htop.out hle2.out).mono ?_
  rintro e w1 ⟨A1, c1, A2, c2, rfl, hR1, hR2, hb, hF⟩
  rw [hvx.out, hvy.out] at hR1 hR2 hF ⊢
  replace hF := hide hF
  replace hR1 := hide hR1
  replace hR2 := hide hR2
  replace hb := hide hb
  go_wp2
  go_ret3
  exact ⟨_, _, _, _, rfl, hR1.out, hR2.out, (below_drewN (Below.refl _ _) _).trans hb.out, hF.out⟩

theorem divmod_any_f (w : World) (Bd : Nat) (A A' : Option Addr) (n c n' c' : Nat) (xs ys : List Nat) (hx : Rd w Bd A n c xs) (hy : Rd w Bd A' n' c' ys) (hB : Bd ≤ w.heap.size) (hn : n + 1 ≤ 70368744177664) (h0 : val ys ≠ 0) :
    Calls Try.prog 94 #[.slice A n c, .slice A' n' c'] w (RetDMF w (val xs) (val ys)) := by
  by_cases hlt : val xs < val ys
  · refine (divmod_less w Bd A A' n c n' c' xs ys hx hy hB hlt).mono fun e w' h => ?_
    obtain ⟨A1, c1, A2, c2, rfl, h1, h2, hb⟩ := h
    exact ⟨A1, c1, A2, c2, rfl, h1, h2, hb, fun h0 => by rw [Nat.div_eq_of_lt hlt, dig_zero] at h0; exact absurd h0 (Nat.lt_irrefl 0)⟩
  · by_cases hone : (dig (val ys)).length = 1
    · exact divmod_short_f w Bd A A' n c n' c' xs ys hx hy hB (by omega) hone
    · have hz : (dig (val ys)).length ≠ 0 := fun h => h0 (dig_len_zero.1 h)
      exact divmod_long_f w Bd A A' n c n' c' xs ys hx hy hB hn (by omega) (by omega)

end Go.Proofs.Ytieopcchchebgaa

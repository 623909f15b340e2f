/-
  DivMod, but for divisors of several limbs.
-/
import Derived.Test.YtjbbapibpcgnhaaShort
import Derived.Test.YtjbbapibpcgnhaaSub
namespace Go.Proofs.Ytjbbapibpcgnhaa
open Go.RowKit

/-- quotient and remainder, two numbers that can be read, and true -/
def RetDM (w : World) (x y : Nat) (e : Ending) (w' : World) : Prop :=
  ∃ A c A' c', e = .returned (.tuple #[.slice A (dig (x / y)).length c, .slice A' (dig (x % y)).length c', .bool true]) ∧ Rd w' w'.heap.size A (dig (x / y)).length c (dig (x / y)) ∧ Rd w' w'.heap.size A' (dig (x % y)).length c' (dig (x % y)) ∧ Below w.heap.size w w'
def RetDM0 (w : World) (e : Ending) (w' : World) : Prop := e = .returned (.tuple #[.slice none 0 0, .slice none 0 0, .bool false]) ∧ w = w'

set_option maxHeartbeats 1000000 in
theorem divmod_zero (w : World) (Bd : Nat) (A A' : Option Addr) (n c n' c' : Nat) (xs ys : List Nat) (hx : Rd w Bd A n c xs) (hy : Rd w Bd A' n' c' ys) (h0 : val ys = 0) :
    Calls Try.prog 56 #[.slice A n c, .slice A' n' c'] w (RetDM0 w) := by
  obtain ⟨m, hm⟩ : ∃ m, (dig (val xs)).length = m := ⟨_, rfl⟩
  have hm' : (dig (val ys)).length = 0 := by rw [h0, dig_zero]; rfl
  replace hm := hide hm
  replace hm' := hide hm'
  have H := hide hx
  have H' := hide hy
  clear hx hy h0
  go_enter Try.func56, Try.ntmps56
  go_wp2_with (first
    | (go_at_call 63; ((with_reducible refine (trim_to _ Bd A n c xs H.out m hm.out).mono ?_); rintro e w' ⟨rfl, rfl⟩))
    | (go_at_call 63; ((with_reducible refine (trim_to _ Bd A' n' c' ys H'.out 0 hm'.out).mono ?_); rintro e w' ⟨rfl, rfl⟩)))
  go_ret3
  exact ⟨rfl, rfl⟩

set_option maxHeartbeats 1000000 in
theorem divmod_less (w : World) (Bd : Nat) (A A' : Option Addr) (n c n' c' : Nat) (xs ys : List Nat) (hx : Rd w Bd A n c xs) (hy : Rd w Bd A' n' c' ys) (hB : Bd ≤ w.heap.size) (hlt : val xs < val ys) :
    Calls Try.prog 56 #[.slice A n c, .slice A' n' c'] w (RetDM w (val xs) (val ys)) := by
  obtain ⟨X, m, hm, HX, hmn, hvx, hXd⟩ := hx.trimmed
  obtain ⟨Y, m', hm', HY, hmn', hvy, hYd⟩ := hy.trimmed
  have hC : Hid (cmpN (val X) (val Y) = -1) := hide (by rw [hvx.out, hvy.out]; exact cmpN_lt hlt)
  have hp : 0 < m' := by
    rcases Nat.eq_zero_or_pos m' with h | h
    · have := dig_len_zero.1 (hm'.out.trans h); omega
    · exact h
  have hQ : Hid (val xs / val ys = 0) := hide (Nat.div_eq_of_lt hlt)
  have hM : Hid (val xs % val ys = val xs) := hide (Nat.mod_eq_of_lt hlt)
  have hcap := HX.cap
  have hbig := HX.big
  have hcap' := HY.cap
  have hbig' := HY.big
  replace HX := hide HX
  replace HY := hide HY
  have H := hide hx
  have H' := hide hy
  clear hx hy hlt
  go_enter Try.func56, Try.ntmps56
  go_wp2_with (first
    | (go_at_call 63; ((with_reducible refine (trim_to _ Bd A n c xs H.out m hm.out).mono ?_); rintro e w' ⟨rfl, rfl⟩))
    | (go_at_call 63; ((with_reducible refine (trim_to _ Bd A' n' c' ys H'.out m' hm'.out).mono ?_); rintro e w' ⟨rfl, rfl⟩))
    | (go_at_call 48; ((with_reducible refine (cmp_any _ Bd A A' m c m' c' X Y HX.out HY.out).mono ?_); rw [hC.out]; rintro e w' ⟨rfl, q, rfl⟩)))
  refine (norm_any _ Bd A m c X (HX.out.drewN q) hB).mono ?_
  rintro e w1 ⟨rfl, hown, hb, hlm⟩
  rw [hvx.out] at hown hlm ⊢
  replace hown := hide hown
  replace hb := hide hb
  go_wp2
  go_ret3
  rw [RetDM, hQ.out, hM.out, dig_zero]
  exact ⟨none, 0, _, _, rfl, Rd.empty _ _ _ (by omega), hown.out.rd0 (Nat.le_refl _) hlm hown.out.lt, (below_drewN (Below.refl _ _) _).trans hb.out⟩

set_option maxHeartbeats 1000000 in
theorem divmod_short (w : World) (Bd : Nat) (A A' : Option Addr) (n c n' c' : Nat) (xs ys : List Nat) (hx : Rd w Bd A n c xs) (hy : Rd w Bd A' n' c' ys) (hB : Bd ≤ w.heap.size) (hle : val ys ≤ val xs) (hone : (dig (val ys)).length = 1) :
    Calls Try.prog 56 #[.slice A n c, .slice A' n' c'] w (RetDM w (val xs) (val ys)) := by
  obtain ⟨X, m, hm, HX, hmn, hvx, hXd⟩ := hx.trimmed
  obtain ⟨Y, m', hm', HY, hmn', hvy, hYd⟩ := hy.trimmed
  obtain rfl : m' = 1 := by rw [← hm'.out]; exact hone
  obtain ⟨z, hz⟩ : ∃ z : Int, z = cmpN (val X) (val Y) := ⟨_, rfl⟩
  have hz0 : 0 ≤ z := by rw [hz, hvx.out, hvy.out]; exact cmpN_ge hle
  have hC := hide hz.symm
  clear hz
  have hY1 : val Y = lm Y 0 := by unfold val; rw [HY.len]; simp [vl, pw]
  have hy0 : 0 < lm Y 0 := by
    rw [← hY1, hvy.out]
    rcases Nat.eq_zero_or_pos (val ys) with h | h
    · rw [h, dig_zero] at hone; simp at hone
    · exact h
  have hyl := HY.limbs 0
  rw [hvy.out] at hY1
  replace hY1 := hide hY1
  have hcap := HX.cap
  have hbig := HX.big
  have hcap' := HY.cap
  have hbig' := HY.big
  replace HX := hide HX
  replace HY := hide HY
  have H := hide hx
  have H' := hide hy
  clear hx hy hle hone
  obtain ⟨ad, rfl, hadb, hca⟩ := HY.out.at_ (k := 0) (by omega)
  rw [add_zero_] at hca
  go_enter Try.func56, Try.ntmps56
  go_wp2_with (first
    | (go_at_call 63; ((with_reducible refine (trim_to _ Bd A n c xs H.out m hm.out).mono ?_); rintro e w' ⟨rfl, rfl⟩))
    | (go_at_call 63; ((with_reducible refine (trim_to _ Bd _ n' c' ys H'.out 1 hm'.out).mono ?_); rintro e w' ⟨rfl, rfl⟩))
    | (go_at_call 48; ((with_reducible refine (cmp_any _ Bd A _ m c 1 c' X Y HX.out HY.out).mono ?_); rw [hC.out]; rintro e w' ⟨rfl, q, rfl⟩)))
  refine (norm_any _ Bd A m c X (HX.out.drewN q) hB).mono ?_
  rintro e w1 ⟨rfl, hown, hb, hlm⟩
  rw [hvx.out] at hown hlm ⊢
  have hbw : Below w.heap.size w w1 := (below_drewN (Below.refl _ _) _).trans hb
  have hca2 : w1.cell? ad = some (.int .u32 (lm Y 0 : Int)) := (hbw.cell (by omega)).trans hca
  obtain ⟨L, hL⟩ : ∃ L, L = (dig (val xs)).length := ⟨_, rfl⟩
  rw [← hL] at hlm ⊢
  replace hL := hide hL
  replace hbw := hide hbw
  replace hown := hide hown
  clear hb hca
  go_wp2_with fail
  refine (divideByLimb_any w1 w.heap.size L L (dig (val xs)) (lm Y 0) hown.out hL.out.symm hlm hy0 hyl).mono ?_
  rintro e w2 ⟨os', rfl, hlo, hvo, hO2, hgr⟩
  rw [val_dig] at hvo ⊢
  rw [← hL.out] at hlo
  have hR := hO2.rd0 (c := L) (by omega) hlm (B := w2.heap.size) hO2.lt
  rw [hlo] at hR
  have hb2 := hide (hbw.out.grown hgr (Nat.le_of_lt hown.out.lt) (by simp))
  obtain ⟨r, hr⟩ : ∃ r, r = val xs % lm Y 0 := ⟨_, rfl⟩
  have hrl : r < 18446744073709551616 := by rw [hr]; have := Nat.mod_lt (val xs) hy0; omega
  rw [← hr]
  replace hr := hide hr
  replace hR := hide hR
  replace hvo := hide hvo
  have hsz2 := hide (Nat.le_refl w2.heap.size)
  clear hgr hO2 hlo
  go_wp2_with (first
    | (go_at_call 63; ((with_reducible refine (trim_any _ _ _ _ _ _ hR.out).mono ?_); rintro e w' ⟨rfl, rfl⟩))
    | (go_at_call 43; ((refine (of_any _ r hrl).mono ?_); rintro e w3 ⟨A3, c3, rfl, hR3, hb3⟩; replace hR3 := hide hR3; replace hb3 := hide hb3)))
  go_ret3
  rw [RetDM, hY1.out, hvo.out, ← hr.out]
  have hR' := hR.out.trim
  rw [hvo.out] at hR'
  exact ⟨_, _, _, _, rfl, (hR'.below hb3.out).more hb3.out.size, hR3.out, hb2.out.trans (hb3.out.mono hb2.out.size)⟩

end Go.Proofs.Ytjbbapibpcgnhaa

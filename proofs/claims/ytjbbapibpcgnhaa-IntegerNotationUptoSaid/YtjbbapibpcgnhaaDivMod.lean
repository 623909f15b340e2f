/-
  DivMod.
-/
import Derived.Test.YtjbbapibpcgnhaaLong
import Derived.Test.YtjbbapibpcgnhaaDivS
namespace Go.Proofs.Ytjbbapibpcgnhaa
open Go.RowKit

set_option maxHeartbeats 1000000 in
theorem divmod_long (w : World) (Bd : Nat) (A A' : Option Addr) (n c n' c' : Nat) (xs ys : List Nat) (hx : Rd w Bd A n c xs) (hy : Rd w Bd A' n' c' ys) (hB : Bd ≤ w.heap.size) (hn : n + 1 ≤ 70368744177664) (hle : val ys ≤ val xs) (htwo : 2 ≤ (dig (val ys)).length) :
    Calls Try.prog 56 #[.slice A n c, .slice A' n' c'] w (RetDM w (val xs) (val ys)) := by
  obtain ⟨X, m, hm, HX, hmn, hvx, hXd⟩ := hx.trimmed
  obtain ⟨Y, m', hm', HY, hmn', hvy, hYd⟩ := hy.trimmed
  obtain ⟨p, rfl⟩ : ∃ p, m' = p + 2 := ⟨m' - 2, by rw [← hm'.out]; omega⟩
  obtain ⟨z, hz⟩ : ∃ z : Int, z = cmpN (val X) (val Y) := ⟨_, rfl⟩
  have hz0 : 0 ≤ z := by rw [hz, hvx.out, hvy.out]; exact cmpN_ge hle
  have hC := hide hz.symm
  have htop : Hid (lm Y (p + 1) ≠ 0) := hide (by
    have := dig_top (n := val ys) (by omega)
    rw [hm'.out, ← hYd.out] at this
    exact this)
  have hle2 : Hid (val Y ≤ val X) := hide (by rw [hvx.out, hvy.out]; exact hle)
  clear hz hle htwo
  have hcap := HX.cap
  have hbig := HX.big
  have hcap' := HY.cap
  have hbig' := HY.big
  replace HX := hide HX
  replace HY := hide HY
  have H := hide hx
  have H' := hide hy
  clear hx hy
  go_enter Try.func56, Try.ntmps56
  go_wp2_with (first
    | (go_at_call 63; ((with_reducible refine (trim_to _ Bd A n c xs H.out m hm.out).mono ?_); rintro e w' ⟨rfl, rfl⟩))
    | (go_at_call 63; ((with_reducible refine (trim_to _ Bd A' n' c' ys H'.out (p + 2) hm'.out).mono ?_); rintro e w' ⟨rfl, rfl⟩))
    | (go_at_call 48; ((with_reducible refine (cmp_any _ Bd A A' m c (p + 2) c' X Y HX.out HY.out).mono ?_); rw [hC.out]; rintro e w' ⟨rfl, q, rfl⟩)))
  refine (long_any _ Bd A A' m c p c' X Y (HX.out.drewN q) (HY.out.drewN q) hB (by omega) htop.out hle2.out).mono ?_
  rintro e w1 ⟨A1, c1, A2, c2, rfl, hR1, hR2, hb⟩
  rw [hvx.out, hvy.out] at hR1 hR2 ⊢
  replace hR1 := hide hR1
  replace hR2 := hide hR2
  replace hb := hide hb
  go_wp2
  go_ret3
  exact ⟨_, _, _, _, rfl, hR1.out, hR2.out, (below_drewN (Below.refl _ _) _).trans hb.out⟩

theorem divmod_any (w : World) (Bd : Nat) (A A' : Option Addr) (n c n' c' : Nat) (xs ys : List Nat) (hx : Rd w Bd A n c xs) (hy : Rd w Bd A' n' c' ys) (hB : Bd ≤ w.heap.size) (hn : n + 1 ≤ 70368744177664) (h0 : val ys ≠ 0) :
    Calls Try.prog 56 #[.slice A n c, .slice A' n' c'] w (RetDM w (val xs) (val ys)) := by
  by_cases hlt : val xs < val ys
  · exact divmod_less w Bd A A' n c n' c' xs ys hx hy hB hlt
  · by_cases hone : (dig (val ys)).length = 1
    · exact divmod_short w Bd A A' n c n' c' xs ys hx hy hB (by omega) hone
    · have hz : (dig (val ys)).length ≠ 0 := fun h => h0 (dig_len_zero.1 h)
      exact divmod_long w Bd A A' n c n' c' xs ys hx hy hB hn (by omega) (by omega)

end Go.Proofs.Ytjbbapibpcgnhaa

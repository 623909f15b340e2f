/-
  Gcd of two numbers of at most two limbs.
-/
import Derived.Test.YtfkkpcdicclahaaShort
import Derived.Test.YtfkkpcdicclahaaWord
namespace Go.Proofs.Ytfkkpcdicclahaa
open Go.RowKit

set_option maxHeartbeats 1000000 in
theorem gcd_small (w : World) (Bd : Nat) (A A' : Option Addr) (n c n' c' : Nat) (xs ys : List Nat) (hx : Rd w Bd A n c xs) (hy : Rd w Bd A' n' c' ys) (hB : Bd ≤ w.heap.size) (h1 : val xs < 18446744073709551616) (h2 : val ys < 18446744073709551616) :
    Calls Try.prog 32 #[.slice A n c, .slice A' n' c'] w (RetNat w (Nat.gcd (val xs) (val ys))) := by
  have hl1 : (dig (val xs)).length ≤ 2 := (dig_len_le _ 2).2 h1
  have hl2 : (dig (val ys)).length ≤ 2 := (dig_len_le _ 2).2 h2
  have hv1 : Hid (vl (dig (val xs)) 2 = val xs) := hide (by rw [vl_ge hl1, val_dig])
  have hv2 : Hid (vl (dig (val ys)) 2 = val ys) := hide (by rw [vl_ge hl2, val_dig])
  have H := hide hx
  have H' := hide hy
  clear hx hy
  go_enter Try.func32, Try.ntmps32
  go_wp2_with fail
  refine (norm_any _ Bd A n c xs H.out hB).mono ?_
  rintro e w1 ⟨rfl, hO1, hb1, hlm1⟩
  obtain ⟨m1, hm1⟩ : ∃ m1, m1 = (dig (val xs)).length := ⟨_, rfl⟩
  rw [← hm1] at hlm1 hl1 ⊢
  have hs1 : w.heap.size < w1.heap.size := hO1.lt
  replace hm1 := hide hm1
  replace hO1 := hide hO1
  replace hb1 := hide hb1
  go_wp2_with fail
  refine (norm_any _ Bd A' n' c' ys (H'.out.below (hb1.out.mono hB)) (by omega)).mono ?_
  rintro e w2 ⟨rfl, hO2, hb2, hlm2⟩
  obtain ⟨m2, hm2⟩ : ∃ m2, m2 = (dig (val ys)).length := ⟨_, rfl⟩
  rw [← hm2] at hlm2 hl2 ⊢
  have hs2 : w1.heap.size < w2.heap.size := hO2.lt
  have hR1 := hide (by have := (hO1.out.below hb2 hs1).rd0 (c := m1) (by rw [hm1.out]; exact Nat.le_refl _) hlm1 (B := w2.heap.size) (by omega); rw [← hm1.out] at this; exact this)
  have hR2 := hide (by have := hO2.rd0 (c := m2) (by rw [hm2]; exact Nat.le_refl _) hlm2 (B := w2.heap.size) hs2; rw [← hm2] at this; exact this)
  replace hb2 := hide (hb1.out.trans (hb2.mono (by omega)))
  replace hm2 := hide hm2
  clear hO2
  generalize w1.heap.size = g2 at *
  go_wp2_with fail
  refine wp_loop_rounds 1 ?_
  rw [rounds_succ]
  go_wp2_with (first
    | (go_at_call 42; ((with_reducible refine (low_any _ _ _ _ _ _ hR1.out).mono ?_); rintro e w' ⟨rfl, rfl⟩))
    | (go_at_call 42; ((with_reducible refine (low_any _ _ _ _ _ _ hR2.out).mono ?_); rintro e w' ⟨rfl, rfl⟩)))
  rw [hv1.out, hv2.out]
  refine (wordGcd_any w2 (val xs) (val ys) h1 h2).mono ?_
  rintro e w3 ⟨rfl, q, rfl⟩
  have hg : Nat.gcd (val xs) (val ys) < 18446744073709551616 := by
    rcases Nat.eq_zero_or_pos (val xs) with h | h
    · rw [h, Nat.gcd_zero_left]; exact h2
    · exact Nat.lt_of_le_of_lt (Nat.gcd_le_left _ h) h1
  clear h1 h2
  go_wp2_with fail
  refine (of_any _ _ hg).mono ?_
  rintro e w4 ⟨A4, c4, rfl, hR4, hb4⟩
  replace hR4 := hide hR4
  replace hb4 := hide hb4
  clear hg
  go_wp2
  go_ret
  exact ⟨_, _, rfl, hR4.out, (below_drewN hb2.out q).trans (hb4.out.mono (hb2.out.size))⟩

end Go.Proofs.Ytfkkpcdicclahaa

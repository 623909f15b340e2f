/-
  The walk of examboardlaw01.NatSums.
-/
import Derived.Test.YtfkkpcdicclahaaAwake
import Derived.Test.YtfkkpcdicclahaaRef2
import Derived.Test.YtfkkpcdicclahaaSame
namespace Go.Proofs.Ytfkkpcdicclahaa
open Go.RowKit

theorem sub_both (w : World) (Bd : Nat) (A A' : Option Addr) (n c n' c' : Nat) (xs ys : List Nat) (hx : Rd w Bd A n c xs) (hy : Rd w Bd A' n' c' ys) (hB : Bd ≤ w.heap.size) :
    Calls Try.prog 24 #[.slice A n c, .slice A' n' c'] w (RetNat2 w (val xs - val ys) (decide (val ys ≤ val xs))) := by
  by_cases h : val ys ≤ val xs
  · rw [decide_eq_true h]; exact sub_more w Bd A A' n c n' c' xs ys hx hy hB h
  · rw [decide_eq_false h, Nat.sub_eq_zero_of_le (by omega)]; exact sub_less w Bd A A' n c n' c' xs ys hx hy (by omega)

theorem rsub_both (w : World) (Bd : Nat) (A A' : Option Addr) (n c n' c' : Nat) (xs ys : List Nat) (hx : Rd w Bd A n c xs) (hy : Rd w Bd A' n' c' ys) (hB : Bd ≤ w.heap.size) :
    Calls Try.prog 25 #[.slice A n c, .slice A' n' c'] w (RetNat2 w (val xs - val ys) (decide (val ys ≤ val xs))) := by
  by_cases h : val ys ≤ val xs
  · rw [decide_eq_true h]; exact rsub_more w Bd A A' n c n' c' xs ys hx hy hB h
  · rw [decide_eq_false h, Nat.sub_eq_zero_of_le (by omega)]; exact rsub_less w Bd A A' n c n' c' xs ys hx hy (by omega)


set_option maxHeartbeats 8000000 in
theorem sums_walk (w : World) (Aa : Option Addr) (na ca : Nat) (xa : List Nat) (Ab : Option Addr) (nb cb : Nat) (xb : List Nat) (ha : Rd w w.heap.size Aa na ca xa) (ka : na ≤ 35184372087808) (hb : Rd w w.heap.size Ab nb cb xb) (kb : nb ≤ 35184372087808) :
    Calls Try.prog 4 #[.slice Aa na ca, .slice Ab nb cb] w fun e w' => e = .returned (.bool true) ∧ Below w.heap.size w w' := by
  have R_a := hide ha
  have R_b := hide hb
  clear ha hb
  obtain ⟨ob, hob⟩ : ∃ ob, ob = decide (val xb ≤ val xa) := ⟨_, rfl⟩
  replace hob := hide hob
  have B := hide (Below.refl w.heap.size w)
  go_enter Try.func4, Try.ntmps4
  have hc : Calls Try.prog 24 #[.slice Aa na ca, .slice Ab nb cb] w (RetNat2 w (val xa - val xb) ob) := by
    have := sub_both w w.heap.size Aa Ab na ca nb cb _ _ R_a.out R_b.out (Nat.le_refl _)
    repeat (first | rw [← hob.out] at this)
    exact this
  replace hc := hide hc
  go_wp2_with fail
  refine hc.out.mono ?_
  clear hc
  rintro e w1 ⟨A_d1, c_d1, rfl, R_d1, hb⟩
  have l_d1 : (dig (val xa - val xb)).length ≤ 70368744177664 := R_d1.big
  obtain ⟨n_d1, hn⟩ : ∃ n_d1, n_d1 = (dig (val xa - val xb)).length := ⟨_, rfl⟩
  rw [← hn] at R_d1 l_d1 ⊢
  clear hn
  replace R_a := hide ((R_a.out.below hb).more hb.size)
  replace R_b := hide ((R_b.out.below hb).more hb.size)
  replace B := hide (B.out.trans (hb.mono B.out.size))
  clear hb
  replace R_d1 := hide R_d1
  have hc : Calls Try.prog 25 #[.slice Aa na ca, .slice Ab nb cb] w1 (RetNat2 w1 (val xa - val xb) ob) := by
    have := rsub_both w1 w1.heap.size Aa Ab na ca nb cb _ _ R_a.out R_b.out (Nat.le_refl _)
    repeat (first | rw [← hob.out] at this)
    exact this
  replace hc := hide hc
  go_wp2_with fail
  refine hc.out.mono ?_
  clear hc
  rintro e w2 ⟨A_d2, c_d2, rfl, R_d2, hb⟩
  have l_d2 : (dig (val xa - val xb)).length ≤ 70368744177664 := R_d2.big
  obtain ⟨n_d2, hn⟩ : ∃ n_d2, n_d2 = (dig (val xa - val xb)).length := ⟨_, rfl⟩
  rw [← hn] at R_d2 l_d2 ⊢
  clear hn
  replace R_a := hide ((R_a.out.below hb).more hb.size)
  replace R_b := hide ((R_b.out.below hb).more hb.size)
  replace R_d1 := hide ((R_d1.out.below hb).more hb.size)
  replace B := hide (B.out.trans (hb.mono B.out.size))
  clear hb
  replace R_d2 := hide R_d2
  have hc := hide (same_true w2 w2.heap.size w2.heap.size A_d1 A_d2 n_d1 c_d1 n_d2 c_d2 _ _ R_d1.out R_d2.out (rfl))
  go_wp2_with fail
  refine hc.out.mono ?_
  clear hc
  rintro e w' ⟨rfl, q, rfl⟩
  have hb : Below w2.heap.size w2 (w2.drewN q) := below_drewN (Below.refl _ _) q
  generalize w2.drewN q = w3 at *
  replace R_a := hide ((R_a.out.below hb).more hb.size)
  replace R_b := hide ((R_b.out.below hb).more hb.size)
  replace R_d1 := hide ((R_d1.out.below hb).more hb.size)
  replace R_d2 := hide ((R_d2.out.below hb).more hb.size)
  replace B := hide (B.out.trans (hb.mono B.out.size))
  clear hb
  clear R_d1
  clear R_d2
  have hc : Calls Try.prog 26 #[.slice Aa na ca, .slice Ab nb cb] w3 (RetNat w3 (val xa + val xb)) := by
    have := add_any w3 w3.heap.size Aa Ab na ca nb cb _ _ R_a.out R_b.out (Nat.le_refl _) (by omega) (by omega)
    repeat (first | rw [val_dig] at this)
    exact this
  replace hc := hide hc
  go_wp2_with fail
  refine hc.out.mono ?_
  clear hc
  rintro e w4 ⟨A_s1, c_s1, rfl, R_s1, hb⟩
  have l_s1 : (dig (val xa + val xb)).length ≤ 70368744177664 := R_s1.big
  obtain ⟨n_s1, hn⟩ : ∃ n_s1, n_s1 = (dig (val xa + val xb)).length := ⟨_, rfl⟩
  rw [← hn] at R_s1 l_s1 ⊢
  clear hn
  replace R_a := hide ((R_a.out.below hb).more hb.size)
  replace R_b := hide ((R_b.out.below hb).more hb.size)
  replace B := hide (B.out.trans (hb.mono B.out.size))
  clear hb
  replace R_s1 := hide R_s1
  have hc : Calls Try.prog 27 #[.slice Aa na ca, .slice Ab nb cb] w4 (RetNat w4 (val xa + val xb)) := by
    have := radd_any w4 w4.heap.size Aa Ab na ca nb cb _ _ R_a.out R_b.out (Nat.le_refl _) (by omega) (by omega)
    repeat (first | rw [val_dig] at this)
    exact this
  replace hc := hide hc
  go_wp2_with fail
  refine hc.out.mono ?_
  clear hc
  rintro e w5 ⟨A_s2, c_s2, rfl, R_s2, hb⟩
  have l_s2 : (dig (val xa + val xb)).length ≤ 70368744177664 := R_s2.big
  obtain ⟨n_s2, hn⟩ : ∃ n_s2, n_s2 = (dig (val xa + val xb)).length := ⟨_, rfl⟩
  rw [← hn] at R_s2 l_s2 ⊢
  clear hn
  replace R_a := hide ((R_a.out.below hb).more hb.size)
  replace R_b := hide ((R_b.out.below hb).more hb.size)
  replace R_s1 := hide ((R_s1.out.below hb).more hb.size)
  replace B := hide (B.out.trans (hb.mono B.out.size))
  clear hb
  replace R_s2 := hide R_s2
  have hc := hide (same_true w5 w5.heap.size w5.heap.size A_s1 A_s2 n_s1 c_s1 n_s2 c_s2 _ _ R_s1.out R_s2.out (rfl))
  go_wp2_with fail
  refine hc.out.mono ?_
  clear hc
  rintro e w' ⟨rfl, q, rfl⟩
  have hb : Below w5.heap.size w5 (w5.drewN q) := below_drewN (Below.refl _ _) q
  generalize w5.drewN q = w6 at *
  replace R_a := hide ((R_a.out.below hb).more hb.size)
  replace R_b := hide ((R_b.out.below hb).more hb.size)
  replace R_s1 := hide ((R_s1.out.below hb).more hb.size)
  replace R_s2 := hide ((R_s2.out.below hb).more hb.size)
  replace B := hide (B.out.trans (hb.mono B.out.size))
  clear hb
  clear R_s1
  clear R_s2
  have hc : Calls Try.prog 28 #[.slice Aa na ca, .slice Ab nb cb] w6 (RetNat w6 (val xa * val xb)) := by
    have := mul_any w6 w6.heap.size Aa Ab na ca nb cb _ _ R_a.out R_b.out (Nat.le_refl _) (by omega)
    repeat (first | rw [val_dig] at this)
    exact this
  replace hc := hide hc
  go_wp2_with fail
  refine hc.out.mono ?_
  clear hc
  rintro e w7 ⟨A_p1, c_p1, rfl, R_p1, hb⟩
  have l_p1 : (dig (val xa * val xb)).length ≤ 70368744177664 := R_p1.big
  obtain ⟨n_p1, hn⟩ : ∃ n_p1, n_p1 = (dig (val xa * val xb)).length := ⟨_, rfl⟩
  rw [← hn] at R_p1 l_p1 ⊢
  clear hn
  replace R_a := hide ((R_a.out.below hb).more hb.size)
  replace R_b := hide ((R_b.out.below hb).more hb.size)
  replace B := hide (B.out.trans (hb.mono B.out.size))
  clear hb
  replace R_p1 := hide R_p1
  have hc : Calls Try.prog 29 #[.slice Aa na ca, .slice Ab nb cb] w7 (RetNat w7 (val xa * val xb)) := by
    have := rmul_any w7 w7.heap.size Aa Ab na ca nb cb _ _ R_a.out R_b.out (Nat.le_refl _) (by omega)
    repeat (first | rw [val_dig] at this)
    exact this
  replace hc := hide hc
  go_wp2_with fail
  refine hc.out.mono ?_
  clear hc
  rintro e w8 ⟨A_p2, c_p2, rfl, R_p2, hb⟩
  have l_p2 : (dig (val xa * val xb)).length ≤ 70368744177664 := R_p2.big
  obtain ⟨n_p2, hn⟩ : ∃ n_p2, n_p2 = (dig (val xa * val xb)).length := ⟨_, rfl⟩
  rw [← hn] at R_p2 l_p2 ⊢
  clear hn
  replace R_a := hide ((R_a.out.below hb).more hb.size)
  replace R_b := hide ((R_b.out.below hb).more hb.size)
  replace R_p1 := hide ((R_p1.out.below hb).more hb.size)
  replace B := hide (B.out.trans (hb.mono B.out.size))
  clear hb
  replace R_p2 := hide R_p2
  have hc := hide (same_true w8 w8.heap.size w8.heap.size A_p1 A_p2 n_p1 c_p1 n_p2 c_p2 _ _ R_p1.out R_p2.out (rfl))
  go_wp2_with fail
  refine hc.out.mono ?_
  clear hc
  rintro e w' ⟨rfl, q, rfl⟩
  have hb : Below w8.heap.size w8 (w8.drewN q) := below_drewN (Below.refl _ _) q
  generalize w8.drewN q = w9 at *
  replace R_a := hide ((R_a.out.below hb).more hb.size)
  replace R_b := hide ((R_b.out.below hb).more hb.size)
  replace R_p1 := hide ((R_p1.out.below hb).more hb.size)
  replace R_p2 := hide ((R_p2.out.below hb).more hb.size)
  replace B := hide (B.out.trans (hb.mono B.out.size))
  clear hb
  clear R_p1
  clear R_p2
  go_wp2_with fail
  refine (awake_any w9).mono ?_
  rintro e w10 ⟨rfl, hb⟩
  replace B := hide (B.out.trans (hb.mono B.out.size))
  clear hb
  go_wp2
  go_ret
  exact ⟨rfl, B.out⟩

end Go.Proofs.Ytfkkpcdicclahaa

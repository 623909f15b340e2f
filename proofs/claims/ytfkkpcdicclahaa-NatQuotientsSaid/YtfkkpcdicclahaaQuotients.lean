/-
  The walk of examboardlaw01.NatQuotients.
-/
import Derived.Test.YtfkkpcdicclahaaAwake
import Derived.Test.YtfkkpcdicclahaaRefGcd
import Derived.Test.YtfkkpcdicclahaaSame
namespace Go.Proofs.Ytfkkpcdicclahaa
open Go.RowKit

/-- quotient, rest, and whether there are any -/
def RetDMV (w : World) (q r : Nat) (ok : Bool) (e : Ending) (w' : World) : Prop :=
  ∃ A c A' c', e = .returned (.tuple #[.slice A (dig q).length c, .slice A' (dig r).length c', .bool ok]) ∧ Rd w' w'.heap.size A (dig q).length c (dig q) ∧ Rd w' w'.heap.size A' (dig r).length c' (dig r) ∧ Below w.heap.size w w'
theorem no_quotient {w w' : World} (hb : Below w.heap.size w w') : RetDMV w 0 0 false (.returned (.tuple #[.slice none 0 0, .slice none 0 0, .bool false])) w' :=
  ⟨none, 0, none, 0, by rw [dig_zero]; rfl, by rw [dig_zero]; exact Rd.empty _ _ _ (by omega), by rw [dig_zero]; exact Rd.empty _ _ _ (by omega), hb⟩
theorem dm_both (x y : Nat) : ∃ (q r : Nat) (ok : Bool), (∀ (w : World) (Bd : Nat) (A A' : Option Addr) (n c n' c' : Nat) (xs ys : List Nat), Rd w Bd A n c xs → Rd w Bd A' n' c' ys → Bd ≤ w.heap.size → n ≤ 35184372088000 → val xs = x → val ys = y → Calls Try.prog 30 #[.slice A n c, .slice A' n' c'] w (RetDMV w q r ok)) ∧ ∀ (w : World) (Bd : Nat) (A A' : Option Addr) (n c n' c' : Nat) (xs ys : List Nat), Rd w Bd A n c xs → Rd w Bd A' n' c' ys → Bd ≤ w.heap.size → n ≤ 35184372088000 → val xs = x → val ys = y → Calls Try.prog 31 #[.slice A n c, .slice A' n' c'] w (RetDMV w q r ok) := by
  by_cases h : y = 0
  · subst h
    refine ⟨0, 0, false, ?_, ?_⟩
    · intro w Bd A A' n c n' c' xs ys hx hy _ _ _ hyv
      refine (divmod_zero w Bd A A' n c n' c' xs ys hx hy hyv).mono ?_
      rintro e w' ⟨rfl, rfl⟩
      exact no_quotient (Below.refl _ _)
    · intro w Bd A A' n c n' c' xs ys hx hy hB _ _ hyv
      refine (rdiv_zero w Bd A A' n c n' c' xs ys hx hy hB hyv).mono ?_
      rintro e w' ⟨rfl, hb⟩
      exact no_quotient hb
  · refine ⟨x / y, x % y, true, ?_, ?_⟩
    · intro w Bd A A' n c n' c' xs ys hx hy hB hn hxv hyv
      subst hxv hyv
      exact divmod_any w Bd A A' n c n' c' xs ys hx hy hB (by omega) h
    · intro w Bd A A' n c n' c' xs ys hx hy hB hn hxv hyv
      subst hxv hyv
      exact rdivmod_any w Bd A A' n c n' c' xs ys hx hy hB hn h

set_option maxHeartbeats 8000000 in
theorem quotients_walk (w : World) (Aa : Option Addr) (na ca : Nat) (xa : List Nat) (Ab : Option Addr) (nb cb : Nat) (xb : List Nat) (ha : Rd w w.heap.size Aa na ca xa) (ka : na ≤ 35184372087808) (hb : Rd w w.heap.size Ab nb cb xb) (kb : nb ≤ 35184372087808) :
    Calls Try.prog 5 #[.slice Aa na ca, .slice Ab nb cb] w fun e w' => e = .returned (.bool true) ∧ Below w.heap.size w w' := by
  obtain ⟨qv, rv, ok, hd1, hd2⟩ := dm_both (val xa) (val xb)
  replace hd1 := hide hd1
  replace hd2 := hide hd2
  have R_a := hide ha
  have R_b := hide hb
  clear ha hb
  have B := hide (Below.refl w.heap.size w)
  go_enter Try.func5, Try.ntmps5
  have hc := hide (hd1.out w w.heap.size Aa Ab na ca nb cb _ _ R_a.out R_b.out (Nat.le_refl _) (by omega) rfl rfl)
  go_wp2_with fail
  refine hc.out.mono ?_
  clear hc
  rintro e w1 ⟨A_q1, c_q1, A_r1, c_r1, rfl, R_q1, R_r1, hb⟩
  have l_q1 : (dig (qv)).length ≤ 70368744177664 := R_q1.big
  obtain ⟨n_q1, hn⟩ : ∃ n_q1, n_q1 = (dig (qv)).length := ⟨_, rfl⟩
  rw [← hn] at R_q1 l_q1 ⊢
  clear hn
  have l_r1 : (dig (rv)).length ≤ 70368744177664 := R_r1.big
  obtain ⟨n_r1, hn⟩ : ∃ n_r1, n_r1 = (dig (rv)).length := ⟨_, rfl⟩
  rw [← hn] at R_r1 l_r1 ⊢
  clear hn
  replace R_a := hide ((R_a.out.below hb).more hb.size)
  replace R_b := hide ((R_b.out.below hb).more hb.size)
  replace B := hide (B.out.trans (hb.mono B.out.size))
  clear hb
  replace R_q1 := hide R_q1
  replace R_r1 := hide R_r1
  have hc := hide (hd2.out w1 w1.heap.size Aa Ab na ca nb cb _ _ R_a.out R_b.out (Nat.le_refl _) (by omega) rfl rfl)
  go_wp2_with fail
  refine hc.out.mono ?_
  clear hc
  rintro e w2 ⟨A_q2, c_q2, A_r2, c_r2, rfl, R_q2, R_r2, hb⟩
  have l_q2 : (dig (qv)).length ≤ 70368744177664 := R_q2.big
  obtain ⟨n_q2, hn⟩ : ∃ n_q2, n_q2 = (dig (qv)).length := ⟨_, rfl⟩
  rw [← hn] at R_q2 l_q2 ⊢
  clear hn
  have l_r2 : (dig (rv)).length ≤ 70368744177664 := R_r2.big
  obtain ⟨n_r2, hn⟩ : ∃ n_r2, n_r2 = (dig (rv)).length := ⟨_, rfl⟩
  rw [← hn] at R_r2 l_r2 ⊢
  clear hn
  replace R_a := hide ((R_a.out.below hb).more hb.size)
  replace R_b := hide ((R_b.out.below hb).more hb.size)
  replace R_q1 := hide ((R_q1.out.below hb).more hb.size)
  replace R_r1 := hide ((R_r1.out.below hb).more hb.size)
  replace B := hide (B.out.trans (hb.mono B.out.size))
  clear hb
  replace R_q2 := hide R_q2
  replace R_r2 := hide R_r2
  have hc := hide (same_true w2 w2.heap.size w2.heap.size A_q1 A_q2 n_q1 c_q1 n_q2 c_q2 _ _ R_q1.out R_q2.out (rfl))
  go_wp2_with fail
  refine hc.out.mono ?_
  clear hc
  rintro e w' ⟨rfl, q, rfl⟩
  have hb : Below w2.heap.size w2 (w2.drewN q) := below_drewN (Below.refl _ _) q
  generalize w2.drewN q = w3 at *
  replace R_a := hide ((R_a.out.below hb).more hb.size)
  replace R_b := hide ((R_b.out.below hb).more hb.size)
  replace R_q1 := hide ((R_q1.out.below hb).more hb.size)
  replace R_r1 := hide ((R_r1.out.below hb).more hb.size)
  replace R_q2 := hide ((R_q2.out.below hb).more hb.size)
  replace R_r2 := hide ((R_r2.out.below hb).more hb.size)
  replace B := hide (B.out.trans (hb.mono B.out.size))
  clear hb
  have hc := hide (same_true w3 w3.heap.size w3.heap.size A_r1 A_r2 n_r1 c_r1 n_r2 c_r2 _ _ R_r1.out R_r2.out (rfl))
  go_wp2_with fail
  refine hc.out.mono ?_
  clear hc
  rintro e w' ⟨rfl, q, rfl⟩
  have hb : Below w3.heap.size w3 (w3.drewN q) := below_drewN (Below.refl _ _) q
  generalize w3.drewN q = w4 at *
  replace R_a := hide ((R_a.out.below hb).more hb.size)
  replace R_b := hide ((R_b.out.below hb).more hb.size)
  replace R_q1 := hide ((R_q1.out.below hb).more hb.size)
  replace R_r1 := hide ((R_r1.out.below hb).more hb.size)
  replace R_q2 := hide ((R_q2.out.below hb).more hb.size)
  replace R_r2 := hide ((R_r2.out.below hb).more hb.size)
  replace B := hide (B.out.trans (hb.mono B.out.size))
  clear hb
  clear R_q1
  clear R_q2
  clear R_r1
  clear R_r2
  have hc : Calls Try.prog 32 #[.slice Aa na ca, .slice Ab nb cb] w4 (RetNat w4 (Nat.gcd (val xa) (val xb))) := by
    have := gcd_any w4 w4.heap.size Aa Ab na ca nb cb _ _ R_a.out R_b.out (Nat.le_refl _) (by omega) (by omega)
    repeat (first | rw [val_dig] at this)
    exact this
  replace hc := hide hc
  go_wp2_with fail
  refine hc.out.mono ?_
  clear hc
  rintro e w5 ⟨A_g1, c_g1, rfl, R_g1, hb⟩
  have l_g1 : (dig (Nat.gcd (val xa) (val xb))).length ≤ 70368744177664 := R_g1.big
  obtain ⟨n_g1, hn⟩ : ∃ n_g1, n_g1 = (dig (Nat.gcd (val xa) (val xb))).length := ⟨_, rfl⟩
  rw [← hn] at R_g1 l_g1 ⊢
  clear hn
  replace R_a := hide ((R_a.out.below hb).more hb.size)
  replace R_b := hide ((R_b.out.below hb).more hb.size)
  replace B := hide (B.out.trans (hb.mono B.out.size))
  clear hb
  replace R_g1 := hide R_g1
  have hc : Calls Try.prog 33 #[.slice Aa na ca, .slice Ab nb cb] w5 (RetNat w5 (Nat.gcd (val xa) (val xb))) := by
    have := rgcd_any w5 w5.heap.size Aa Ab na ca nb cb _ _ R_a.out R_b.out (Nat.le_refl _) (by omega) (by omega)
    repeat (first | rw [val_dig] at this)
    exact this
  replace hc := hide hc
  go_wp2_with fail
  refine hc.out.mono ?_
  clear hc
  rintro e w6 ⟨A_g2, c_g2, rfl, R_g2, hb⟩
  have l_g2 : (dig (Nat.gcd (val xa) (val xb))).length ≤ 70368744177664 := R_g2.big
  obtain ⟨n_g2, hn⟩ : ∃ n_g2, n_g2 = (dig (Nat.gcd (val xa) (val xb))).length := ⟨_, rfl⟩
  rw [← hn] at R_g2 l_g2 ⊢
  clear hn
  replace R_a := hide ((R_a.out.below hb).more hb.size)
  replace R_b := hide ((R_b.out.below hb).more hb.size)
  replace R_g1 := hide ((R_g1.out.below hb).more hb.size)
  replace B := hide (B.out.trans (hb.mono B.out.size))
  clear hb
  replace R_g2 := hide R_g2
  have hc := hide (same_true w6 w6.heap.size w6.heap.size A_g1 A_g2 n_g1 c_g1 n_g2 c_g2 _ _ R_g1.out R_g2.out (rfl))
  go_wp2_with fail
  refine hc.out.mono ?_
  clear hc
  rintro e w' ⟨rfl, q, rfl⟩
  have hb : Below w6.heap.size w6 (w6.drewN q) := below_drewN (Below.refl _ _) q
  generalize w6.drewN q = w7 at *
  replace R_a := hide ((R_a.out.below hb).more hb.size)
  replace R_b := hide ((R_b.out.below hb).more hb.size)
  replace R_g1 := hide ((R_g1.out.below hb).more hb.size)
  replace R_g2 := hide ((R_g2.out.below hb).more hb.size)
  replace B := hide (B.out.trans (hb.mono B.out.size))
  clear hb
  clear R_g1
  clear R_g2
  go_wp2_with fail
  refine (awake_any w7).mono ?_
  rintro e w8 ⟨rfl, hb⟩
  replace B := hide (B.out.trans (hb.mono B.out.size))
  clear hb
  go_wp2
  go_ret
  exact ⟨rfl, B.out⟩

end Go.Proofs.Ytfkkpcdicclahaa

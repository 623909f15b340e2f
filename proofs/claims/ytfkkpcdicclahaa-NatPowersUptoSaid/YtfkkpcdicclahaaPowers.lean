/-
  The walk of examboardlaw01.NatPowers.
-/
import Derived.Test.YtfkkpcdicclahaaAwake
import Derived.Test.YtfkkpcdicclahaaRefPow
import Derived.Test.YtfkkpcdicclahaaSame
namespace Go.Proofs.Ytfkkpcdicclahaa
open Go.RowKit

set_option maxHeartbeats 8000000 in
theorem powers_walk (w : World) (Aa : Option Addr) (na ca : Nat) (xa : List Nat) (ha : Rd w w.heap.size Aa na ca xa) (ka : na ≤ 1048576) (z : Int) :
    Calls Try.prog 6 #[.slice Aa na ca, .int .i64 z] w fun e w' => e = .returned (.bool true) ∧ Below w.heap.size w w' := by
  have R_a := hide ha
  clear ha
  obtain ⟨ob, hob⟩ : ∃ ob, ob = powOk z := ⟨_, rfl⟩
  replace hob := hide hob
  obtain ⟨pv, hpv⟩ : ∃ pv, pv = powV (val xa) z := ⟨_, rfl⟩
  replace hpv := hide hpv
  have B := hide (Below.refl w.heap.size w)
  go_enter Try.func6, Try.ntmps6
  have hc : Calls Try.prog 34 #[.slice Aa na ca, .int .i64 z] w (RetNat2 w (pv) ob) := by
    have := pow_all w w.heap.size Aa na ca _ R_a.out (Nat.le_refl _) (by omega) z
    repeat (first | rw [← hob.out] at this | rw [← hpv.out] at this)
    exact this
  replace hc := hide hc
  go_wp2_with fail
  refine hc.out.mono ?_
  clear hc
  rintro e w1 ⟨A_p1, c_p1, rfl, R_p1, hb⟩
  have l_p1 : (dig (pv)).length ≤ 70368744177664 := R_p1.big
  obtain ⟨n_p1, hn⟩ : ∃ n_p1, n_p1 = (dig (pv)).length := ⟨_, rfl⟩
  rw [← hn] at R_p1 l_p1 ⊢
  clear hn
  replace R_a := hide ((R_a.out.below hb).more hb.size)
  replace B := hide (B.out.trans (hb.mono B.out.size))
  clear hb
  replace R_p1 := hide R_p1
  have hc : Calls Try.prog 35 #[.slice Aa na ca, .int .i64 z] w1 (RetNat2 w1 (pv) ob) := by
    have := rpow_all w1 w1.heap.size Aa na ca _ R_a.out (Nat.le_refl _) (by omega) z
    repeat (first | rw [← hob.out] at this | rw [← hpv.out] at this)
    exact this
  replace hc := hide hc
  go_wp2_with fail
  refine hc.out.mono ?_
  clear hc
  rintro e w2 ⟨A_p2, c_p2, rfl, R_p2, hb⟩
  have l_p2 : (dig (pv)).length ≤ 70368744177664 := R_p2.big
  obtain ⟨n_p2, hn⟩ : ∃ n_p2, n_p2 = (dig (pv)).length := ⟨_, rfl⟩
  rw [← hn] at R_p2 l_p2 ⊢
  clear hn
  replace R_a := hide ((R_a.out.below hb).more hb.size)
  replace R_p1 := hide ((R_p1.out.below hb).more hb.size)
  replace B := hide (B.out.trans (hb.mono B.out.size))
  clear hb
  replace R_p2 := hide R_p2
  have hc := hide (same_true w2 w2.heap.size w2.heap.size A_p1 A_p2 n_p1 c_p1 n_p2 c_p2 _ _ R_p1.out R_p2.out (rfl))
  go_wp2_with fail
  refine hc.out.mono ?_
  clear hc
  rintro e w' ⟨rfl, q, rfl⟩
  have hb : Below w2.heap.size w2 (w2.drewN q) := below_drewN (Below.refl _ _) q
  generalize w2.drewN q = w3 at *
  replace R_a := hide ((R_a.out.below hb).more hb.size)
  replace R_p1 := hide ((R_p1.out.below hb).more hb.size)
  replace R_p2 := hide ((R_p2.out.below hb).more hb.size)
  replace B := hide (B.out.trans (hb.mono B.out.size))
  clear hb
  clear R_p1
  clear R_p2
  go_wp2_with fail
  refine (awake_any w3).mono ?_
  rintro e w4 ⟨rfl, hb⟩
  replace B := hide (B.out.trans (hb.mono B.out.size))
  clear hb
  go_wp2
  go_ret
  exact ⟨rfl, B.out⟩

end Go.Proofs.Ytfkkpcdicclahaa

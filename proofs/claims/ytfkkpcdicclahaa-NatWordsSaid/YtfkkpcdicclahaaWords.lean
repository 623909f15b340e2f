/-
  The walk of examboardlaw01.NatWords.
-/
import Derived.Test.YtfkkpcdicclahaaAwake
import Derived.Test.YtfkkpcdicclahaaRef1
import Derived.Test.YtfkkpcdicclahaaSame
namespace Go.Proofs.Ytfkkpcdicclahaa
open Go.RowKit

set_option maxHeartbeats 8000000 in
theorem words_walk (w : World) (un : Nat) (hun : un < 18446744073709551616) (Aa : Option Addr) (na ca : Nat) (xa : List Nat) (Ab : Option Addr) (nb cb : Nat) (xb : List Nat) (ha : Rd w w.heap.size Aa na ca xa) (ka : na ≤ 35184372087808) (hb : Rd w w.heap.size Ab nb cb xb) (_kb : nb ≤ 35184372087808) :
    Calls Try.prog 3 #[.int .u64 (un : Int), .slice Aa na ca, .slice Ab nb cb] w fun e w' => e = .returned (.bool true) ∧ Below w.heap.size w w' := by
  have va : (dig (val xa)).length ≤ na := by rw [← ha.len]; exact dig_len_val ha.limbs
  have R_a := hide ha
  have R_b := hide hb
  clear ha hb
  obtain ⟨u, hu⟩ : ∃ u, u = (if val xa < 18446744073709551616 then val xa else 0) := ⟨_, rfl⟩
  obtain ⟨b, hbo⟩ : ∃ b, b = decide (val xa < 18446744073709551616) := ⟨_, rfl⟩
  obtain ⟨bb, hbb⟩ : ∃ bb, bb = bl (val xa) := ⟨_, rfl⟩
  obtain ⟨zc, hzc⟩ : ∃ zc, zc = cmpN (val xa) (val xb) := ⟨_, rfl⟩
  replace hu := hide hu
  replace hbo := hide hbo
  replace hbb := hide hbb
  replace hzc := hide hzc
  have B := hide (Below.refl w.heap.size w)
  go_enter Try.func3, Try.ntmps3
  have hc : Calls Try.prog 12 #[.slice Aa na ca] w fun e w' => e = .returned (.tuple #[.int .u64 (u : Int), .bool b]) ∧ w = w' := by
    have := uint_any w w.heap.size Aa na ca _ R_a.out
    rw [← hu.out, ← hbo.out] at this
    exact this
  replace hc := hide hc
  go_wp2_with fail
  refine hc.out.mono ?_
  clear hc
  rintro e w' ⟨rfl, rfl⟩
  have hc : Calls Try.prog 13 #[.slice Aa na ca] w fun e w' => e = .returned (.tuple #[.int .u64 (u : Int), .bool b]) ∧ Below w.heap.size w w' := by
    have := ruint_any w w.heap.size Aa na ca _ R_a.out (Nat.le_refl _)
    rw [← hu.out, ← hbo.out] at this
    exact this
  replace hc := hide hc
  go_wp2_with fail
  refine hc.out.mono ?_
  clear hc
  rintro e w1 ⟨rfl, hb⟩
  replace R_a := hide ((R_a.out.below hb).more hb.size)
  replace R_b := hide ((R_b.out.below hb).more hb.size)
  replace B := hide (B.out.trans (hb.mono B.out.size))
  clear hb
  have hc : Calls Try.prog 14 #[.slice Aa na ca] w1 fun e w' => e = .returned (.int .i64 (bb : Int)) ∧ w1 = w' := by
    have := bits_any w1 w1.heap.size Aa na ca _ R_a.out
    rw [← hbb.out] at this
    exact this
  replace hc := hide hc
  go_wp2_with fail
  refine hc.out.mono ?_
  clear hc
  rintro e w' ⟨rfl, rfl⟩
  have hc : Calls Try.prog 15 #[.slice Aa na ca] w1 fun e w' => e = .returned (.int .i64 (bb : Int)) ∧ Below w1.heap.size w1 w' := by
    have := rbits_any w1 w1.heap.size Aa na ca _ R_a.out (Nat.le_refl _)
    rw [← hbb.out] at this
    exact this
  replace hc := hide hc
  go_wp2_with fail
  refine hc.out.mono ?_
  clear hc
  rintro e w2 ⟨rfl, hb⟩
  replace R_a := hide ((R_a.out.below hb).more hb.size)
  replace R_b := hide ((R_b.out.below hb).more hb.size)
  replace B := hide (B.out.trans (hb.mono B.out.size))
  clear hb
  have hc : Calls Try.prog 16 #[.slice Aa na ca, .slice Ab nb cb] w2 (RetQ w2 (.int .i64 (zc))) := by
    have := cmp_any w2 w2.heap.size Aa Ab na ca nb cb _ _ R_a.out R_b.out
    rw [← hzc.out] at this
    exact this
  replace hc := hide hc
  go_wp2_with fail
  refine hc.out.mono ?_
  clear hc
  rintro e w' ⟨rfl, q, rfl⟩
  have hb : Below w2.heap.size w2 (w2.drewN q) := below_drewN (Below.refl _ _) q
  generalize w2.drewN q = w3 at *
  replace R_a := hide ((R_a.out.below hb).more hb.size)
  replace R_b := hide ((R_b.out.below hb).more hb.size)
  replace B := hide (B.out.trans (hb.mono B.out.size))
  clear hb
  have hc : Calls Try.prog 17 #[.slice Aa na ca, .slice Ab nb cb] w3 fun e w' => e = .returned (.int .i64 zc) ∧ w3 = w' := by
    have := rcmp_any w3 w3.heap.size Aa Ab na ca nb cb _ _ R_a.out R_b.out
    rw [← hzc.out] at this
    exact this
  replace hc := hide hc
  go_wp2_with fail
  refine hc.out.mono ?_
  clear hc
  rintro e w' ⟨rfl, rfl⟩
  have hc : Calls Try.prog 19 #[.int .u64 (un : Int)] w3 (RetNat w3 (un)) := by
    have := of_any w3 un hun
    repeat (first | rw [val_dig] at this)
    exact this
  replace hc := hide hc
  go_wp2_with fail
  refine hc.out.mono ?_
  clear hc
  rintro e w4 ⟨A_o1, c_o1, rfl, R_o1, hb⟩
  have l_o1 : (dig (un)).length ≤ 35184372087808 := by have := (dig_len_le un 2).2 (by simp only [pw]; omega); omega
  obtain ⟨n_o1, hn⟩ : ∃ n_o1, n_o1 = (dig (un)).length := ⟨_, rfl⟩
  rw [← hn] at R_o1 l_o1 ⊢
  clear hn
  replace R_a := hide ((R_a.out.below hb).more hb.size)
  replace R_b := hide ((R_b.out.below hb).more hb.size)
  replace B := hide (B.out.trans (hb.mono B.out.size))
  clear hb
  replace R_o1 := hide R_o1
  have hc : Calls Try.prog 20 #[.int .u64 (un : Int)] w4 (RetNat w4 (un)) := by
    have := rof_any w4 un hun
    repeat (first | rw [val_dig] at this)
    exact this
  replace hc := hide hc
  go_wp2_with fail
  refine hc.out.mono ?_
  clear hc
  rintro e w5 ⟨A_o2, c_o2, rfl, R_o2, hb⟩
  have l_o2 : (dig (un)).length ≤ 35184372087808 := by have := (dig_len_le un 2).2 (by simp only [pw]; omega); omega
  obtain ⟨n_o2, hn⟩ : ∃ n_o2, n_o2 = (dig (un)).length := ⟨_, rfl⟩
  rw [← hn] at R_o2 l_o2 ⊢
  clear hn
  replace R_a := hide ((R_a.out.below hb).more hb.size)
  replace R_b := hide ((R_b.out.below hb).more hb.size)
  replace R_o1 := hide ((R_o1.out.below hb).more hb.size)
  replace B := hide (B.out.trans (hb.mono B.out.size))
  clear hb
  replace R_o2 := hide R_o2
  have hc := hide (same_true w5 w5.heap.size w5.heap.size A_o1 A_o2 n_o1 c_o1 n_o2 c_o2 _ _ R_o1.out R_o2.out (rfl))
  go_wp2_with fail
  refine hc.out.mono ?_
  clear hc
  rintro e w' ⟨rfl, q, rfl⟩
  have hb : Below w5.heap.size w5 (w5.drewN q) := below_drewN (Below.refl _ _) q
  generalize w5.drewN q = w6 at *
  replace R_a := hide ((R_a.out.below hb).more hb.size)
  replace R_b := hide ((R_b.out.below hb).more hb.size)
  replace R_o1 := hide ((R_o1.out.below hb).more hb.size)
  replace R_o2 := hide ((R_o2.out.below hb).more hb.size)
  replace B := hide (B.out.trans (hb.mono B.out.size))
  clear hb
  clear R_o1
  clear R_o2
  have hc : Calls Try.prog 21 #[.slice Aa na ca] w6 (RetNat w6 (val xa)) := by
    have := (norm_any w6 w6.heap.size Aa na ca _ R_a.out (Nat.le_refl _)).mono fun e w' h => RetOwn.nat h
    repeat (first | rw [val_dig] at this)
    exact this
  replace hc := hide hc
  go_wp2_with fail
  refine hc.out.mono ?_
  clear hc
  rintro e w7 ⟨A_m1, c_m1, rfl, R_m1, hb⟩
  have l_m1 : (dig (val xa)).length ≤ 35184372087808 := by omega
  obtain ⟨n_m1, hn⟩ : ∃ n_m1, n_m1 = (dig (val xa)).length := ⟨_, rfl⟩
  rw [← hn] at R_m1 l_m1 ⊢
  clear hn
  replace R_a := hide ((R_a.out.below hb).more hb.size)
  replace R_b := hide ((R_b.out.below hb).more hb.size)
  replace B := hide (B.out.trans (hb.mono B.out.size))
  clear hb
  replace R_m1 := hide R_m1
  have hc : Calls Try.prog 22 #[.slice Aa na ca] w7 (RetNat w7 (val xa)) := by
    have := (rnorm_any w7 w7.heap.size Aa na ca _ R_a.out (Nat.le_refl _)).mono fun e w' h => RetOwn.nat h
    repeat (first | rw [val_dig] at this)
    exact this
  replace hc := hide hc
  go_wp2_with fail
  refine hc.out.mono ?_
  clear hc
  rintro e w8 ⟨A_m2, c_m2, rfl, R_m2, hb⟩
  have l_m2 : (dig (val xa)).length ≤ 35184372087808 := by omega
  obtain ⟨n_m2, hn⟩ : ∃ n_m2, n_m2 = (dig (val xa)).length := ⟨_, rfl⟩
  rw [← hn] at R_m2 l_m2 ⊢
  clear hn
  replace R_a := hide ((R_a.out.below hb).more hb.size)
  replace R_b := hide ((R_b.out.below hb).more hb.size)
  replace R_m1 := hide ((R_m1.out.below hb).more hb.size)
  replace B := hide (B.out.trans (hb.mono B.out.size))
  clear hb
  replace R_m2 := hide R_m2
  have hc := hide (same_true w8 w8.heap.size w8.heap.size A_m1 A_m2 n_m1 c_m1 n_m2 c_m2 _ _ R_m1.out R_m2.out (rfl))
  go_wp2_with fail
  refine hc.out.mono ?_
  clear hc
  rintro e w' ⟨rfl, q, rfl⟩
  have hb : Below w8.heap.size w8 (w8.drewN q) := below_drewN (Below.refl _ _) q
  generalize w8.drewN q = w9 at *
  replace R_a := hide ((R_a.out.below hb).more hb.size)
  replace R_b := hide ((R_b.out.below hb).more hb.size)
  replace R_m1 := hide ((R_m1.out.below hb).more hb.size)
  replace R_m2 := hide ((R_m2.out.below hb).more hb.size)
  replace B := hide (B.out.trans (hb.mono B.out.size))
  clear hb
  clear R_m1
  clear R_m2
  go_wp2_with fail
  refine (awake_any w9).mono ?_
  rintro e w10 ⟨rfl, hb⟩
  replace B := hide (B.out.trans (hb.mono B.out.size))
  clear hb
  go_wp2
  go_ret
  exact ⟨rfl, B.out⟩

end Go.Proofs.Ytfkkpcdicclahaa

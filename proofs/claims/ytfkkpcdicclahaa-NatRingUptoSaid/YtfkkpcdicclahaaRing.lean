/-
  The walk of examboardlaw01.NatRing.
-/
import Derived.Test.YtfkkpcdicclahaaAwake
import Derived.Test.YtfkkpcdicclahaaDivGcd
import Derived.Test.YtfkkpcdicclahaaLawMath
namespace Go.Proofs.Ytfkkpcdicclahaa
open Go.RowKit

set_option maxHeartbeats 8000000 in
theorem ring_walk (w : World) (Aa : Option Addr) (na ca : Nat) (xa : List Nat) (Ab : Option Addr) (nb cb : Nat) (xb : List Nat) (Ac : Option Addr) (nc cc : Nat) (xc : List Nat) (ha : Rd w w.heap.size Aa na ca xa) (ka : na ≤ 1048576) (hb : Rd w w.heap.size Ab nb cb xb) (kb : nb ≤ 1048576) (hc : Rd w w.heap.size Ac nc cc xc) (kc : nc ≤ 1048576) :
    Calls Try.prog 8 #[.slice Aa na ca, .slice Ab nb cb, .slice Ac nc cc] w fun e w' => e = .returned (.bool true) ∧ Below w.heap.size w w' := by
  obtain ⟨K, hK⟩ : ∃ K, K = 1048576 := ⟨_, rfl⟩
  have va : val xa < pw K := by have h1 := val_lt ha.limbs; have h2 := pw_mono (show xa.length ≤ K by have := ha.len; omega); omega
  have vb : val xb < pw K := by have h1 := val_lt hb.limbs; have h2 := pw_mono (show xb.length ≤ K by have := hb.len; omega); omega
  have vc : val xc < pw K := by have h1 := val_lt hc.limbs; have h2 := pw_mono (show xc.length ≤ K by have := hc.len; omega); omega
  have R_a := hide ha
  clear ha
  replace va := hide va
  have R_b := hide hb
  clear hb
  replace vb := hide vb
  have R_c := hide hc
  clear hc
  replace vc := hide vc
  have hKle : K ≤ 1048576 := by omega
  clear hK
  have B := hide (Below.refl w.heap.size w)
  go_enter Try.func8, Try.ntmps8
  have hc : Calls Try.prog 26 #[.slice Aa na ca, .slice Ab nb cb] w (RetNat w (val xa + val xb)) := by
    have := add_any w w.heap.size Aa Ab na ca nb cb _ _ R_a.out R_b.out (Nat.le_refl _) (by omega) (by omega)
    repeat (first | rw [val_dig] at this)
    exact this
  replace hc := hide hc
  go_wp2_with fail
  refine hc.out.mono ?_
  clear hc
  rintro e w1 ⟨A_s, c_s, rfl, R_s, hb⟩
  have l_s : (dig (val xa + val xb)).length ≤ 8388608 := by have := (dig_len_le _ _).2 (lt_add va.out vb.out); omega
  obtain ⟨n_s, hn⟩ : ∃ n_s, n_s = (dig (val xa + val xb)).length := ⟨_, rfl⟩
  rw [← hn] at R_s l_s ⊢
  clear hn
  replace R_a := hide ((R_a.out.below hb).more hb.size)
  replace R_b := hide ((R_b.out.below hb).more hb.size)
  replace R_c := hide ((R_c.out.below hb).more hb.size)
  replace B := hide (B.out.trans (hb.mono B.out.size))
  clear hb
  replace R_s := hide R_s
  have hc : Calls Try.prog 28 #[.slice Aa na ca, .slice Ab nb cb] w1 (RetNat w1 (val xa * val xb)) := by
    have := mul_any w1 w1.heap.size Aa Ab na ca nb cb _ _ R_a.out R_b.out (Nat.le_refl _) (by omega)
    repeat (first | rw [val_dig] at this)
    exact this
  replace hc := hide hc
  go_wp2_with fail
  refine hc.out.mono ?_
  clear hc
  rintro e w2 ⟨A_p, c_p, rfl, R_p, hb⟩
  have l_p : (dig (val xa * val xb)).length ≤ 8388608 := by have := (dig_len_le _ _).2 (lt_mul va.out vb.out); omega
  obtain ⟨n_p, hn⟩ : ∃ n_p, n_p = (dig (val xa * val xb)).length := ⟨_, rfl⟩
  rw [← hn] at R_p l_p ⊢
  clear hn
  replace R_a := hide ((R_a.out.below hb).more hb.size)
  replace R_b := hide ((R_b.out.below hb).more hb.size)
  replace R_c := hide ((R_c.out.below hb).more hb.size)
  replace R_s := hide ((R_s.out.below hb).more hb.size)
  replace B := hide (B.out.trans (hb.mono B.out.size))
  clear hb
  replace R_p := hide R_p
  have hc : Calls Try.prog 26 #[.slice Ab nb cb, .slice Aa na ca] w2 (RetNat w2 (val xb + val xa)) := by
    have := add_any w2 w2.heap.size Ab Aa nb cb na ca _ _ R_b.out R_a.out (Nat.le_refl _) (by omega) (by omega)
    repeat (first | rw [val_dig] at this)
    exact this
  replace hc := hide hc
  go_wp2_with fail
  refine hc.out.mono ?_
  clear hc
  rintro e w3 ⟨A_t, c_t, rfl, R_t, hb⟩
  have l_t : (dig (val xb + val xa)).length ≤ 8388608 := by have := (dig_len_le _ _).2 (lt_add vb.out va.out); omega
  obtain ⟨n_t, hn⟩ : ∃ n_t, n_t = (dig (val xb + val xa)).length := ⟨_, rfl⟩
  rw [← hn] at R_t l_t ⊢
  clear hn
  replace R_a := hide ((R_a.out.below hb).more hb.size)
  replace R_b := hide ((R_b.out.below hb).more hb.size)
  replace R_c := hide ((R_c.out.below hb).more hb.size)
  replace R_s := hide ((R_s.out.below hb).more hb.size)
  replace R_p := hide ((R_p.out.below hb).more hb.size)
  replace B := hide (B.out.trans (hb.mono B.out.size))
  clear hb
  replace R_t := hide R_t
  have hc := hide (same_true w3 w3.heap.size w3.heap.size A_s A_t n_s c_s n_t c_t _ _ R_s.out R_t.out (congrArg dig (Nat.add_comm _ _)))
  go_wp2_with fail
  refine hc.out.mono ?_
  clear hc
  rintro e w' ⟨rfl, q, rfl⟩
  have hb : Below w3.heap.size w3 (w3.drewN q) := below_drewN (Below.refl _ _) q
  generalize w3.drewN q = w4 at *
  replace R_a := hide ((R_a.out.below hb).more hb.size)
  replace R_b := hide ((R_b.out.below hb).more hb.size)
  replace R_c := hide ((R_c.out.below hb).more hb.size)
  replace R_s := hide ((R_s.out.below hb).more hb.size)
  replace R_p := hide ((R_p.out.below hb).more hb.size)
  replace R_t := hide ((R_t.out.below hb).more hb.size)
  replace B := hide (B.out.trans (hb.mono B.out.size))
  clear hb
  clear R_t
  have hc : Calls Try.prog 28 #[.slice Ab nb cb, .slice Aa na ca] w4 (RetNat w4 (val xb * val xa)) := by
    have := mul_any w4 w4.heap.size Ab Aa nb cb na ca _ _ R_b.out R_a.out (Nat.le_refl _) (by omega)
    repeat (first | rw [val_dig] at this)
    exact this
  replace hc := hide hc
  go_wp2_with fail
  refine hc.out.mono ?_
  clear hc
  rintro e w5 ⟨A_t2, c_t2, rfl, R_t2, hb⟩
  have l_t2 : (dig (val xb * val xa)).length ≤ 8388608 := by have := (dig_len_le _ _).2 (lt_mul vb.out va.out); omega
  obtain ⟨n_t2, hn⟩ : ∃ n_t2, n_t2 = (dig (val xb * val xa)).length := ⟨_, rfl⟩
  rw [← hn] at R_t2 l_t2 ⊢
  clear hn
  replace R_a := hide ((R_a.out.below hb).more hb.size)
  replace R_b := hide ((R_b.out.below hb).more hb.size)
  replace R_c := hide ((R_c.out.below hb).more hb.size)
  replace R_s := hide ((R_s.out.below hb).more hb.size)
  replace R_p := hide ((R_p.out.below hb).more hb.size)
  replace B := hide (B.out.trans (hb.mono B.out.size))
  clear hb
  replace R_t2 := hide R_t2
  have hc := hide (same_true w5 w5.heap.size w5.heap.size A_p A_t2 n_p c_p n_t2 c_t2 _ _ R_p.out R_t2.out (congrArg dig (Nat.mul_comm _ _)))
  go_wp2_with fail
  refine hc.out.mono ?_
  clear hc
  rintro e w' ⟨rfl, q, rfl⟩
  have hb : Below w5.heap.size w5 (w5.drewN q) := below_drewN (Below.refl _ _) q
  generalize w5.drewN q = w6 at *
  replace R_a := hide ((R_a.out.below hb).more hb.size)
  replace R_b := hide ((R_b.out.below hb).more hb.size)
  replace R_c := hide ((R_c.out.below hb).more hb.size)
  replace R_s := hide ((R_s.out.below hb).more hb.size)
  replace R_p := hide ((R_p.out.below hb).more hb.size)
  replace R_t2 := hide ((R_t2.out.below hb).more hb.size)
  replace B := hide (B.out.trans (hb.mono B.out.size))
  clear hb
  clear R_t2
  have hc : Calls Try.prog 26 #[.slice A_s n_s c_s, .slice Ac nc cc] w6 (RetNat w6 (val xa + val xb + val xc)) := by
    have := add_any w6 w6.heap.size A_s Ac n_s c_s nc cc _ _ R_s.out R_c.out (Nat.le_refl _) (by omega) (by omega)
    repeat (first | rw [val_dig] at this)
    exact this
  replace hc := hide hc
  go_wp2_with fail
  refine hc.out.mono ?_
  clear hc
  rintro e w7 ⟨A_t3, c_t3, rfl, R_t3, hb⟩
  have l_t3 : (dig (val xa + val xb + val xc)).length ≤ 8388608 := by have := (dig_len_le _ _).2 (lt_add (lt_add va.out vb.out) (lt_up vc.out)); omega
  obtain ⟨n_t3, hn⟩ : ∃ n_t3, n_t3 = (dig (val xa + val xb + val xc)).length := ⟨_, rfl⟩
  rw [← hn] at R_t3 l_t3 ⊢
  clear hn
  replace R_a := hide ((R_a.out.below hb).more hb.size)
  replace R_b := hide ((R_b.out.below hb).more hb.size)
  replace R_c := hide ((R_c.out.below hb).more hb.size)
  replace R_s := hide ((R_s.out.below hb).more hb.size)
  replace R_p := hide ((R_p.out.below hb).more hb.size)
  replace B := hide (B.out.trans (hb.mono B.out.size))
  clear hb
  replace R_t3 := hide R_t3
  have hc : Calls Try.prog 26 #[.slice Ab nb cb, .slice Ac nc cc] w7 (RetNat w7 (val xb + val xc)) := by
    have := add_any w7 w7.heap.size Ab Ac nb cb nc cc _ _ R_b.out R_c.out (Nat.le_refl _) (by omega) (by omega)
    repeat (first | rw [val_dig] at this)
    exact this
  replace hc := hide hc
  go_wp2_with fail
  refine hc.out.mono ?_
  clear hc
  rintro e w8 ⟨A_t4, c_t4, rfl, R_t4, hb⟩
  have l_t4 : (dig (val xb + val xc)).length ≤ 8388608 := by have := (dig_len_le _ _).2 (lt_add vb.out vc.out); omega
  obtain ⟨n_t4, hn⟩ : ∃ n_t4, n_t4 = (dig (val xb + val xc)).length := ⟨_, rfl⟩
  rw [← hn] at R_t4 l_t4 ⊢
  clear hn
  replace R_a := hide ((R_a.out.below hb).more hb.size)
  replace R_b := hide ((R_b.out.below hb).more hb.size)
  replace R_c := hide ((R_c.out.below hb).more hb.size)
  replace R_s := hide ((R_s.out.below hb).more hb.size)
  replace R_p := hide ((R_p.out.below hb).more hb.size)
  replace R_t3 := hide ((R_t3.out.below hb).more hb.size)
  replace B := hide (B.out.trans (hb.mono B.out.size))
  clear hb
  replace R_t4 := hide R_t4
  have hc : Calls Try.prog 26 #[.slice Aa na ca, .slice A_t4 n_t4 c_t4] w8 (RetNat w8 (val xa + (val xb + val xc))) := by
    have := add_any w8 w8.heap.size Aa A_t4 na ca n_t4 c_t4 _ _ R_a.out R_t4.out (Nat.le_refl _) (by omega) (by omega)
    repeat (first | rw [val_dig] at this)
    exact this
  replace hc := hide hc
  go_wp2_with fail
  refine hc.out.mono ?_
  clear hc
  rintro e w9 ⟨A_t5, c_t5, rfl, R_t5, hb⟩
  have l_t5 : (dig (val xa + (val xb + val xc))).length ≤ 8388608 := by have := (dig_len_le _ _).2 (lt_add (lt_up va.out) (lt_add vb.out vc.out)); omega
  obtain ⟨n_t5, hn⟩ : ∃ n_t5, n_t5 = (dig (val xa + (val xb + val xc))).length := ⟨_, rfl⟩
  rw [← hn] at R_t5 l_t5 ⊢
  clear hn
  replace R_a := hide ((R_a.out.below hb).more hb.size)
  replace R_b := hide ((R_b.out.below hb).more hb.size)
  replace R_c := hide ((R_c.out.below hb).more hb.size)
  replace R_s := hide ((R_s.out.below hb).more hb.size)
  replace R_p := hide ((R_p.out.below hb).more hb.size)
  replace R_t3 := hide ((R_t3.out.below hb).more hb.size)
  replace R_t4 := hide ((R_t4.out.below hb).more hb.size)
  replace B := hide (B.out.trans (hb.mono B.out.size))
  clear hb
  replace R_t5 := hide R_t5
  have hc := hide (same_true w9 w9.heap.size w9.heap.size A_t3 A_t5 n_t3 c_t3 n_t5 c_t5 _ _ R_t3.out R_t5.out (congrArg dig (Nat.add_assoc _ _ _)))
  go_wp2_with fail
  refine hc.out.mono ?_
  clear hc
  rintro e w' ⟨rfl, q, rfl⟩
  have hb : Below w9.heap.size w9 (w9.drewN q) := below_drewN (Below.refl _ _) q
  generalize w9.drewN q = w10 at *
  replace R_a := hide ((R_a.out.below hb).more hb.size)
  replace R_b := hide ((R_b.out.below hb).more hb.size)
  replace R_c := hide ((R_c.out.below hb).more hb.size)
  replace R_s := hide ((R_s.out.below hb).more hb.size)
  replace R_p := hide ((R_p.out.below hb).more hb.size)
  replace R_t3 := hide ((R_t3.out.below hb).more hb.size)
  replace R_t4 := hide ((R_t4.out.below hb).more hb.size)
  replace R_t5 := hide ((R_t5.out.below hb).more hb.size)
  replace B := hide (B.out.trans (hb.mono B.out.size))
  clear hb
  clear R_t3
  clear R_t4
  clear R_t5
  have hc : Calls Try.prog 28 #[.slice A_p n_p c_p, .slice Ac nc cc] w10 (RetNat w10 (val xa * val xb * val xc)) := by
    have := mul_any w10 w10.heap.size A_p Ac n_p c_p nc cc _ _ R_p.out R_c.out (Nat.le_refl _) (by omega)
    repeat (first | rw [val_dig] at this)
    exact this
  replace hc := hide hc
  go_wp2_with fail
  refine hc.out.mono ?_
  clear hc
  rintro e w11 ⟨A_u3, c_u3, rfl, R_u3, hb⟩
  have l_u3 : (dig (val xa * val xb * val xc)).length ≤ 8388608 := by have := (dig_len_le _ _).2 (lt_mul (lt_mul va.out vb.out) vc.out); omega
  obtain ⟨n_u3, hn⟩ : ∃ n_u3, n_u3 = (dig (val xa * val xb * val xc)).length := ⟨_, rfl⟩
  rw [← hn] at R_u3 l_u3 ⊢
  clear hn
  replace R_a := hide ((R_a.out.below hb).more hb.size)
  replace R_b := hide ((R_b.out.below hb).more hb.size)
  replace R_c := hide ((R_c.out.below hb).more hb.size)
  replace R_s := hide ((R_s.out.below hb).more hb.size)
  replace R_p := hide ((R_p.out.below hb).more hb.size)
  replace B := hide (B.out.trans (hb.mono B.out.size))
  clear hb
  replace R_u3 := hide R_u3
  have hc : Calls Try.prog 28 #[.slice Ab nb cb, .slice Ac nc cc] w11 (RetNat w11 (val xb * val xc)) := by
    have := mul_any w11 w11.heap.size Ab Ac nb cb nc cc _ _ R_b.out R_c.out (Nat.le_refl _) (by omega)
    repeat (first | rw [val_dig] at this)
    exact this
  replace hc := hide hc
  go_wp2_with fail
  refine hc.out.mono ?_
  clear hc
  rintro e w12 ⟨A_u4, c_u4, rfl, R_u4, hb⟩
  have l_u4 : (dig (val xb * val xc)).length ≤ 8388608 := by have := (dig_len_le _ _).2 (lt_mul vb.out vc.out); omega
  obtain ⟨n_u4, hn⟩ : ∃ n_u4, n_u4 = (dig (val xb * val xc)).length := ⟨_, rfl⟩
  rw [← hn] at R_u4 l_u4 ⊢
  clear hn
  replace R_a := hide ((R_a.out.below hb).more hb.size)
  replace R_b := hide ((R_b.out.below hb).more hb.size)
  replace R_c := hide ((R_c.out.below hb).more hb.size)
  replace R_s := hide ((R_s.out.below hb).more hb.size)
  replace R_p := hide ((R_p.out.below hb).more hb.size)
  replace R_u3 := hide ((R_u3.out.below hb).more hb.size)
  replace B := hide (B.out.trans (hb.mono B.out.size))
  clear hb
  replace R_u4 := hide R_u4
  have hc : Calls Try.prog 28 #[.slice Aa na ca, .slice A_u4 n_u4 c_u4] w12 (RetNat w12 (val xa * (val xb * val xc))) := by
    have := mul_any w12 w12.heap.size Aa A_u4 na ca n_u4 c_u4 _ _ R_a.out R_u4.out (Nat.le_refl _) (by omega)
    repeat (first | rw [val_dig] at this)
    exact this
  replace hc := hide hc
  go_wp2_with fail
  refine hc.out.mono ?_
  clear hc
  rintro e w13 ⟨A_u5, c_u5, rfl, R_u5, hb⟩
  have l_u5 : (dig (val xa * (val xb * val xc))).length ≤ 8388608 := by have := (dig_len_le _ _).2 (lt_mul va.out (lt_mul vb.out vc.out)); omega
  obtain ⟨n_u5, hn⟩ : ∃ n_u5, n_u5 = (dig (val xa * (val xb * val xc))).length := ⟨_, rfl⟩
  rw [← hn] at R_u5 l_u5 ⊢
  clear hn
  replace R_a := hide ((R_a.out.below hb).more hb.size)
  replace R_b := hide ((R_b.out.below hb).more hb.size)
  replace R_c := hide ((R_c.out.below hb).more hb.size)
  replace R_s := hide ((R_s.out.below hb).more hb.size)
  replace R_p := hide ((R_p.out.below hb).more hb.size)
  replace R_u3 := hide ((R_u3.out.below hb).more hb.size)
  replace R_u4 := hide ((R_u4.out.below hb).more hb.size)
  replace B := hide (B.out.trans (hb.mono B.out.size))
  clear hb
  replace R_u5 := hide R_u5
  have hc := hide (same_true w13 w13.heap.size w13.heap.size A_u3 A_u5 n_u3 c_u3 n_u5 c_u5 _ _ R_u3.out R_u5.out (congrArg dig (Nat.mul_assoc _ _ _)))
  go_wp2_with fail
  refine hc.out.mono ?_
  clear hc
  rintro e w' ⟨rfl, q, rfl⟩
  have hb : Below w13.heap.size w13 (w13.drewN q) := below_drewN (Below.refl _ _) q
  generalize w13.drewN q = w14 at *
  replace R_a := hide ((R_a.out.below hb).more hb.size)
  replace R_b := hide ((R_b.out.below hb).more hb.size)
  replace R_c := hide ((R_c.out.below hb).more hb.size)
  replace R_s := hide ((R_s.out.below hb).more hb.size)
  replace R_p := hide ((R_p.out.below hb).more hb.size)
  replace R_u3 := hide ((R_u3.out.below hb).more hb.size)
  replace R_u4 := hide ((R_u4.out.below hb).more hb.size)
  replace R_u5 := hide ((R_u5.out.below hb).more hb.size)
  replace B := hide (B.out.trans (hb.mono B.out.size))
  clear hb
  clear R_u3
  clear R_u4
  clear R_u5
  have hc : Calls Try.prog 28 #[.slice A_s n_s c_s, .slice Ac nc cc] w14 (RetNat w14 ((val xa + val xb) * val xc)) := by
    have := mul_any w14 w14.heap.size A_s Ac n_s c_s nc cc _ _ R_s.out R_c.out (Nat.le_refl _) (by omega)
    repeat (first | rw [val_dig] at this)
    exact this
  replace hc := hide hc
  go_wp2_with fail
  refine hc.out.mono ?_
  clear hc
  rintro e w15 ⟨A_d1, c_d1, rfl, R_d1, hb⟩
  have l_d1 : (dig ((val xa + val xb) * val xc)).length ≤ 8388608 := by have := (dig_len_le _ _).2 (lt_mul (lt_add va.out vb.out) vc.out); omega
  obtain ⟨n_d1, hn⟩ : ∃ n_d1, n_d1 = (dig ((val xa + val xb) * val xc)).length := ⟨_, rfl⟩
  rw [← hn] at R_d1 l_d1 ⊢
  clear hn
  replace R_a := hide ((R_a.out.below hb).more hb.size)
  replace R_b := hide ((R_b.out.below hb).more hb.size)
  replace R_c := hide ((R_c.out.below hb).more hb.size)
  replace R_s := hide ((R_s.out.below hb).more hb.size)
  replace R_p := hide ((R_p.out.below hb).more hb.size)
  replace B := hide (B.out.trans (hb.mono B.out.size))
  clear hb
  replace R_d1 := hide R_d1
  have hc : Calls Try.prog 28 #[.slice Aa na ca, .slice Ac nc cc] w15 (RetNat w15 (val xa * val xc)) := by
    have := mul_any w15 w15.heap.size Aa Ac na ca nc cc _ _ R_a.out R_c.out (Nat.le_refl _) (by omega)
    repeat (first | rw [val_dig] at this)
    exact this
  replace hc := hide hc
  go_wp2_with fail
  refine hc.out.mono ?_
  clear hc
  rintro e w16 ⟨A_d2, c_d2, rfl, R_d2, hb⟩
  have l_d2 : (dig (val xa * val xc)).length ≤ 8388608 := by have := (dig_len_le _ _).2 (lt_mul va.out vc.out); omega
  obtain ⟨n_d2, hn⟩ : ∃ n_d2, n_d2 = (dig (val xa * val xc)).length := ⟨_, rfl⟩
  rw [← hn] at R_d2 l_d2 ⊢
  clear hn
  replace R_a := hide ((R_a.out.below hb).more hb.size)
  replace R_b := hide ((R_b.out.below hb).more hb.size)
  replace R_c := hide ((R_c.out.below hb).more hb.size)
  replace R_s := hide ((R_s.out.below hb).more hb.size)
  replace R_p := hide ((R_p.out.below hb).more hb.size)
  replace R_d1 := hide ((R_d1.out.below hb).more hb.size)
  replace B := hide (B.out.trans (hb.mono B.out.size))
  clear hb
  replace R_d2 := hide R_d2
  have hc : Calls Try.prog 28 #[.slice Ab nb cb, .slice Ac nc cc] w16 (RetNat w16 (val xb * val xc)) := by
    have := mul_any w16 w16.heap.size Ab Ac nb cb nc cc _ _ R_b.out R_c.out (Nat.le_refl _) (by omega)
    repeat (first | rw [val_dig] at this)
    exact this
  replace hc := hide hc
  go_wp2_with fail
  refine hc.out.mono ?_
  clear hc
  rintro e w17 ⟨A_d3, c_d3, rfl, R_d3, hb⟩
  have l_d3 : (dig (val xb * val xc)).length ≤ 8388608 := by have := (dig_len_le _ _).2 (lt_mul vb.out vc.out); omega
  obtain ⟨n_d3, hn⟩ : ∃ n_d3, n_d3 = (dig (val xb * val xc)).length := ⟨_, rfl⟩
  rw [← hn] at R_d3 l_d3 ⊢
  clear hn
  replace R_a := hide ((R_a.out.below hb).more hb.size)
  replace R_b := hide ((R_b.out.below hb).more hb.size)
  replace R_c := hide ((R_c.out.below hb).more hb.size)
  replace R_s := hide ((R_s.out.below hb).more hb.size)
  replace R_p := hide ((R_p.out.below hb).more hb.size)
  replace R_d1 := hide ((R_d1.out.below hb).more hb.size)
  replace R_d2 := hide ((R_d2.out.below hb).more hb.size)
  replace B := hide (B.out.trans (hb.mono B.out.size))
  clear hb
  replace R_d3 := hide R_d3
  have hc : Calls Try.prog 26 #[.slice A_d2 n_d2 c_d2, .slice A_d3 n_d3 c_d3] w17 (RetNat w17 (val xa * val xc + val xb * val xc)) := by
    have := add_any w17 w17.heap.size A_d2 A_d3 n_d2 c_d2 n_d3 c_d3 _ _ R_d2.out R_d3.out (Nat.le_refl _) (by omega) (by omega)
    repeat (first | rw [val_dig] at this)
    exact this
  replace hc := hide hc
  go_wp2_with fail
  refine hc.out.mono ?_
  clear hc
  rintro e w18 ⟨A_d4, c_d4, rfl, R_d4, hb⟩
  have l_d4 : (dig (val xa * val xc + val xb * val xc)).length ≤ 8388608 := by have := (dig_len_le _ _).2 (lt_add (lt_mul va.out vc.out) (lt_mul vb.out vc.out)); omega
  obtain ⟨n_d4, hn⟩ : ∃ n_d4, n_d4 = (dig (val xa * val xc + val xb * val xc)).length := ⟨_, rfl⟩
  rw [← hn] at R_d4 l_d4 ⊢
  clear hn
  replace R_a := hide ((R_a.out.below hb).more hb.size)
  replace R_b := hide ((R_b.out.below hb).more hb.size)
  replace R_c := hide ((R_c.out.below hb).more hb.size)
  replace R_s := hide ((R_s.out.below hb).more hb.size)
  replace R_p := hide ((R_p.out.below hb).more hb.size)
  replace R_d1 := hide ((R_d1.out.below hb).more hb.size)
  replace R_d2 := hide ((R_d2.out.below hb).more hb.size)
  replace R_d3 := hide ((R_d3.out.below hb).more hb.size)
  replace B := hide (B.out.trans (hb.mono B.out.size))
  clear hb
  replace R_d4 := hide R_d4
  have hc := hide (same_true w18 w18.heap.size w18.heap.size A_d1 A_d4 n_d1 c_d1 n_d4 c_d4 _ _ R_d1.out R_d4.out (congrArg dig (Nat.add_mul _ _ _)))
  go_wp2_with fail
  refine hc.out.mono ?_
  clear hc
  rintro e w' ⟨rfl, q, rfl⟩
  have hb : Below w18.heap.size w18 (w18.drewN q) := below_drewN (Below.refl _ _) q
  generalize w18.drewN q = w19 at *
  replace R_a := hide ((R_a.out.below hb).more hb.size)
  replace R_b := hide ((R_b.out.below hb).more hb.size)
  replace R_c := hide ((R_c.out.below hb).more hb.size)
  replace R_s := hide ((R_s.out.below hb).more hb.size)
  replace R_p := hide ((R_p.out.below hb).more hb.size)
  replace R_d1 := hide ((R_d1.out.below hb).more hb.size)
  replace R_d2 := hide ((R_d2.out.below hb).more hb.size)
  replace R_d3 := hide ((R_d3.out.below hb).more hb.size)
  replace R_d4 := hide ((R_d4.out.below hb).more hb.size)
  replace B := hide (B.out.trans (hb.mono B.out.size))
  clear hb
  clear R_d1
  clear R_d2
  clear R_d3
  clear R_d4
  have hc : Calls Try.prog 24 #[.slice A_s n_s c_s, .slice Ab nb cb] w19 (RetNat2 w19 (val xa) true) := by
    have := sub_more w19 w19.heap.size A_s Ab n_s c_s nb cb _ _ R_s.out R_b.out (Nat.le_refl _) (by rw [val_dig]; omega)
    rw [val_dig, Nat.add_sub_cancel] at this
    exact this
  replace hc := hide hc
  go_wp2_with fail
  refine hc.out.mono ?_
  clear hc
  rintro e w20 ⟨A_e, c_e, rfl, R_e, hb⟩
  have l_e : (dig (val xa)).length ≤ 8388608 := by have := (dig_len_le _ _).2 (va.out); omega
  obtain ⟨n_e, hn⟩ : ∃ n_e, n_e = (dig (val xa)).length := ⟨_, rfl⟩
  rw [← hn] at R_e l_e ⊢
  clear hn
  replace R_a := hide ((R_a.out.below hb).more hb.size)
  replace R_b := hide ((R_b.out.below hb).more hb.size)
  replace R_c := hide ((R_c.out.below hb).more hb.size)
  replace R_s := hide ((R_s.out.below hb).more hb.size)
  replace R_p := hide ((R_p.out.below hb).more hb.size)
  replace B := hide (B.out.trans (hb.mono B.out.size))
  clear hb
  replace R_e := hide R_e
  have hc : Calls Try.prog 16 #[.slice A_e n_e c_e, .slice Aa na ca] w20 (RetQ w20 (.int .i64 (0))) := by
    have := cmp_any w20 w20.heap.size A_e Aa n_e c_e na ca _ _ R_e.out R_a.out
    rw [show cmpN (val (dig (val xa))) (val xa) = 0 by rw [val_dig]; exact cmpN_eq rfl] at this
    exact this
  replace hc := hide hc
  go_wp2_with fail
  refine hc.out.mono ?_
  clear hc
  rintro e w' ⟨rfl, q, rfl⟩
  have hb : Below w20.heap.size w20 (w20.drewN q) := below_drewN (Below.refl _ _) q
  generalize w20.drewN q = w21 at *
  replace R_a := hide ((R_a.out.below hb).more hb.size)
  replace R_b := hide ((R_b.out.below hb).more hb.size)
  replace R_c := hide ((R_c.out.below hb).more hb.size)
  replace R_s := hide ((R_s.out.below hb).more hb.size)
  replace R_p := hide ((R_p.out.below hb).more hb.size)
  replace R_e := hide ((R_e.out.below hb).more hb.size)
  replace B := hide (B.out.trans (hb.mono B.out.size))
  clear hb
  clear R_e
  clear R_s
  clear R_p
  by_cases h0 : val xb = 0
  · have _t : True := trivial
    go_wp2_with fail
    refine (divmod_zero w21 w21.heap.size Aa Ab na ca nb cb _ _ R_a.out R_b.out (h0)).mono ?_
    rintro e w' ⟨rfl, rfl⟩
    have hc : Calls Try.prog 14 #[.slice Ab nb cb] w21 fun e w' => e = .returned (.int .i64 (0)) ∧ w21 = w' := by
      have := bits_any w21 w21.heap.size Ab nb cb _ R_b.out
      rw [h0, bl_zero, show ((0 : Nat) : Int) = 0 from rfl] at this
      exact this
    replace hc := hide hc
    go_wp2_with fail
    refine hc.out.mono ?_
    clear hc
    rintro e w' ⟨rfl, rfl⟩
    go_wp2_with fail
    refine (awake_any w21).mono ?_
    rintro e w22 ⟨rfl, hb⟩
    replace B := hide (B.out.trans (hb.mono B.out.size))
    clear hb
    go_wp2
    go_ret
    exact ⟨rfl, B.out⟩
  · have _t : True := trivial
    have h0' := hide h0
    have hbl := bl_ne h0
    clear h0
    have hc : Calls Try.prog 30 #[.slice Aa na ca, .slice Ab nb cb] w21 (RetDM w21 (val xa) (val xb)) := by
      have := divmod_any w21 w21.heap.size Aa Ab na ca nb cb _ _ R_a.out R_b.out (Nat.le_refl _) (by omega) (h0'.out)
      repeat (first | rw [val_dig] at this)
      exact this
    replace hc := hide hc
    go_wp2_with fail
    refine hc.out.mono ?_
    clear hc
    rintro e w22 ⟨A_q, c_q, A_r, c_r, rfl, R_q, R_r, hb⟩
    have l_q : (dig ((val xa) / (val xb))).length ≤ 8388608 := by have := (dig_len_le _ _).2 (Nat.lt_of_le_of_lt (Nat.div_le_self (val xa) (val xb)) va.out); omega
    obtain ⟨n_q, hn⟩ : ∃ n_q, n_q = (dig ((val xa) / (val xb))).length := ⟨_, rfl⟩
    rw [← hn] at R_q l_q ⊢
    clear hn
    have l_r : (dig ((val xa) % (val xb))).length ≤ 8388608 := by have := (dig_len_le _ _).2 (Nat.lt_of_le_of_lt (Nat.mod_le (val xa) (val xb)) va.out); omega
    obtain ⟨n_r, hn⟩ : ∃ n_r, n_r = (dig ((val xa) % (val xb))).length := ⟨_, rfl⟩
    rw [← hn] at R_r l_r ⊢
    clear hn
    replace R_a := hide ((R_a.out.below hb).more hb.size)
    replace R_b := hide ((R_b.out.below hb).more hb.size)
    replace R_c := hide ((R_c.out.below hb).more hb.size)
    replace B := hide (B.out.trans (hb.mono B.out.size))
    clear hb
    replace R_q := hide R_q
    replace R_r := hide R_r
    have hc : Calls Try.prog 14 #[.slice Ab nb cb] w22 fun e w' => e = .returned (.int .i64 ((bl (val xb) : Int))) ∧ w22 = w' := by
      have := bits_any w22 w22.heap.size Ab nb cb _ R_b.out
      rw [show bl (val xb) = bl (val xb) from rfl] at this
      exact this
    replace hc := hide hc
    go_wp2_with fail
    refine hc.out.mono ?_
    clear hc
    rintro e w' ⟨rfl, rfl⟩
    have hc : Calls Try.prog 28 #[.slice A_q n_q c_q, .slice Ab nb cb] w22 (RetNat w22 (val xa / val xb * val xb)) := by
      have := mul_any w22 w22.heap.size A_q Ab n_q c_q nb cb _ _ R_q.out R_b.out (Nat.le_refl _) (by omega)
      repeat (first | rw [val_dig] at this)
      exact this
    replace hc := hide hc
    go_wp2_with fail
    refine hc.out.mono ?_
    clear hc
    rintro e w23 ⟨A_m1, c_m1, rfl, R_m1, hb⟩
    have l_m1 : (dig (val xa / val xb * val xb)).length ≤ 8388608 := by have := (dig_len_le _ _).2 (Nat.lt_of_le_of_lt (Nat.div_mul_le_self (val xa) (val xb)) va.out); omega
    obtain ⟨n_m1, hn⟩ : ∃ n_m1, n_m1 = (dig (val xa / val xb * val xb)).length := ⟨_, rfl⟩
    rw [← hn] at R_m1 l_m1 ⊢
    clear hn
    replace R_a := hide ((R_a.out.below hb).more hb.size)
    replace R_b := hide ((R_b.out.below hb).more hb.size)
    replace R_c := hide ((R_c.out.below hb).more hb.size)
    replace R_q := hide ((R_q.out.below hb).more hb.size)
    replace R_r := hide ((R_r.out.below hb).more hb.size)
    replace B := hide (B.out.trans (hb.mono B.out.size))
    clear hb
    replace R_m1 := hide R_m1
    have hc : Calls Try.prog 26 #[.slice A_m1 n_m1 c_m1, .slice A_r n_r c_r] w23 (RetNat w23 (val xa / val xb * val xb + val xa % val xb)) := by
      have := add_any w23 w23.heap.size A_m1 A_r n_m1 c_m1 n_r c_r _ _ R_m1.out R_r.out (Nat.le_refl _) (by omega) (by omega)
      repeat (first | rw [val_dig] at this)
      exact this
    replace hc := hide hc
    go_wp2_with fail
    refine hc.out.mono ?_
    clear hc
    rintro e w24 ⟨A_m2, c_m2, rfl, R_m2, hb⟩
    have l_m2 : (dig (val xa / val xb * val xb + val xa % val xb)).length ≤ 8388608 := by have := (dig_len_le _ _).2 (dam_lt va.out (val xb)); omega
    obtain ⟨n_m2, hn⟩ : ∃ n_m2, n_m2 = (dig (val xa / val xb * val xb + val xa % val xb)).length := ⟨_, rfl⟩
    rw [← hn] at R_m2 l_m2 ⊢
    clear hn
    replace R_a := hide ((R_a.out.below hb).more hb.size)
    replace R_b := hide ((R_b.out.below hb).more hb.size)
    replace R_c := hide ((R_c.out.below hb).more hb.size)
    replace R_q := hide ((R_q.out.below hb).more hb.size)
    replace R_r := hide ((R_r.out.below hb).more hb.size)
    replace R_m1 := hide ((R_m1.out.below hb).more hb.size)
    replace B := hide (B.out.trans (hb.mono B.out.size))
    clear hb
    replace R_m2 := hide R_m2
    have hc : Calls Try.prog 16 #[.slice A_m2 n_m2 c_m2, .slice Aa na ca] w24 (RetQ w24 (.int .i64 (0))) := by
      have := cmp_any w24 w24.heap.size A_m2 Aa n_m2 c_m2 na ca _ _ R_m2.out R_a.out
      rw [show cmpN (val (dig (val xa / val xb * val xb + val xa % val xb))) (val xa) = 0 by rw [val_dig, Nat.div_add_mod']; exact cmpN_eq rfl] at this
      exact this
    replace hc := hide hc
    go_wp2_with fail
    refine hc.out.mono ?_
    clear hc
    rintro e w' ⟨rfl, q, rfl⟩
    have hb : Below w24.heap.size w24 (w24.drewN q) := below_drewN (Below.refl _ _) q
    generalize w24.drewN q = w25 at *
    replace R_a := hide ((R_a.out.below hb).more hb.size)
    replace R_b := hide ((R_b.out.below hb).more hb.size)
    replace R_c := hide ((R_c.out.below hb).more hb.size)
    replace R_q := hide ((R_q.out.below hb).more hb.size)
    replace R_r := hide ((R_r.out.below hb).more hb.size)
    replace R_m1 := hide ((R_m1.out.below hb).more hb.size)
    replace R_m2 := hide ((R_m2.out.below hb).more hb.size)
    replace B := hide (B.out.trans (hb.mono B.out.size))
    clear hb
    have hc : Calls Try.prog 16 #[.slice A_r n_r c_r, .slice Ab nb cb] w25 (RetQ w25 (.int .i64 (-1))) := by
      have := cmp_any w25 w25.heap.size A_r Ab n_r c_r nb cb _ _ R_r.out R_b.out
      rw [show cmpN (val (dig (val xa % val xb))) (val xb) = -1 by rw [val_dig]; exact cmpN_lt (Nat.mod_lt _ (Nat.pos_of_ne_zero h0'.out))] at this
      exact this
    replace hc := hide hc
    go_wp2_with fail
    refine hc.out.mono ?_
    clear hc
    rintro e w' ⟨rfl, q, rfl⟩
    have hb : Below w25.heap.size w25 (w25.drewN q) := below_drewN (Below.refl _ _) q
    generalize w25.drewN q = w26 at *
    replace R_a := hide ((R_a.out.below hb).more hb.size)
    replace R_b := hide ((R_b.out.below hb).more hb.size)
    replace R_c := hide ((R_c.out.below hb).more hb.size)
    replace R_q := hide ((R_q.out.below hb).more hb.size)
    replace R_r := hide ((R_r.out.below hb).more hb.size)
    replace R_m1 := hide ((R_m1.out.below hb).more hb.size)
    replace R_m2 := hide ((R_m2.out.below hb).more hb.size)
    replace B := hide (B.out.trans (hb.mono B.out.size))
    clear hb
    go_wp2_with fail
    refine (awake_any w26).mono ?_
    rintro e w27 ⟨rfl, hb⟩
    replace B := hide (B.out.trans (hb.mono B.out.size))
    clear hb
    go_wp2
    go_ret
    exact ⟨rfl, B.out⟩

end Go.Proofs.Ytfkkpcdicclahaa

/-
  The walk of examboardlaw01.NatDivisors.
-/
import Derived.Test.YtfkkpcdicclahaaAwake
import Derived.Test.YtfkkpcdicclahaaDivGcd
import Derived.Test.YtfkkpcdicclahaaLawMath
namespace Go.Proofs.Ytfkkpcdicclahaa
open Go.RowKit

set_option maxHeartbeats 8000000 in
theorem divisors_walk (w : World) (Aa : Option Addr) (na ca : Nat) (xa : List Nat) (Ab : Option Addr) (nb cb : Nat) (xb : List Nat) (Ac : Option Addr) (nc cc : Nat) (xc : List Nat) (ha : Rd w w.heap.size Aa na ca xa) (ka : na ≤ 35184372087808) (hb : Rd w w.heap.size Ab nb cb xb) (kb : nb ≤ 35184372087808) (hc : Rd w w.heap.size Ac nc cc xc) (kc : nc ≤ 35184372087808) :
    Calls Try.prog 9 #[.slice Aa na ca, .slice Ab nb cb, .slice Ac nc cc] w fun e w' => e = .returned (.bool true) ∧ Below w.heap.size w w' := by
  obtain ⟨K, hK⟩ : ∃ K, K = 35184372087808 := ⟨_, rfl⟩
  have va : val xa < pw K := by have h1 := val_lt ha.limbs; have h2 := pw_mono (show xa.length ≤ K by have := ha.len; omega); omega
  have vb : val xb < pw K := by have h1 := val_lt hb.limbs; have h2 := pw_mono (show xb.length ≤ K by have := hb.len; omega); omega
  have vc : val xc < pw K := by have h1 := val_lt hc.limbs; have h2 := pw_mono (show xc.length ≤ K by have := hc.len; omega); omega
  have R_a := hide ha
  clear ha
  replace va := hide va
  have R_b := hide hb
  clear hb
  replace vb := hide vb
  have R_c := hide hc
  clear hc
  replace vc := hide vc
  have hKle : K ≤ 35184372087808 := by omega
  clear hK
  have B := hide (Below.refl w.heap.size w)
  go_enter Try.func9, Try.ntmps9
  have hc : Calls Try.prog 32 #[.slice Aa na ca, .slice Ab nb cb] w (RetNat w (Nat.gcd (val xa) (val xb))) := by
    have := gcd_any w w.heap.size Aa Ab na ca nb cb _ _ R_a.out R_b.out (Nat.le_refl _) (by omega) (by omega)
    repeat (first | rw [val_dig] at this)
    exact this
  replace hc := hide hc
  go_wp2_with fail
  refine hc.out.mono ?_
  clear hc
  rintro e w1 ⟨A_g, c_g, rfl, R_g, hb⟩
  have l_g : (dig (Nat.gcd (val xa) (val xb))).length ≤ 35184372087808 := by have := (dig_len_le _ _).2 (lt_gcd va.out vb.out); omega
  obtain ⟨n_g, hn⟩ : ∃ n_g, n_g = (dig (Nat.gcd (val xa) (val xb))).length := ⟨_, rfl⟩
  rw [← hn] at R_g l_g ⊢
  clear hn
  replace R_a := hide ((R_a.out.below hb).more hb.size)
  replace R_b := hide ((R_b.out.below hb).more hb.size)
  replace R_c := hide ((R_c.out.below hb).more hb.size)
  replace B := hide (B.out.trans (hb.mono B.out.size))
  clear hb
  replace R_g := hide R_g
  have hc : Calls Try.prog 28 #[.slice Aa na ca, .slice Ac nc cc] w1 (RetNat w1 (val xa * val xc)) := by
    have := mul_any w1 w1.heap.size Aa Ac na ca nc cc _ _ R_a.out R_c.out (Nat.le_refl _) (by omega)
    repeat (first | rw [val_dig] at this)
    exact this
  replace hc := hide hc
  go_wp2_with fail
  refine hc.out.mono ?_
  clear hc
  rintro e w2 ⟨A_p1, c_p1, rfl, R_p1, hb⟩
  have l_p1 : (dig (val xa * val xc)).length ≤ 70368744175616 := by have := (dig_len_le _ _).2 (lt_mul va.out vc.out); omega
  obtain ⟨n_p1, hn⟩ : ∃ n_p1, n_p1 = (dig (val xa * val xc)).length := ⟨_, rfl⟩
  rw [← hn] at R_p1 l_p1 ⊢
  clear hn
  replace R_a := hide ((R_a.out.below hb).more hb.size)
  replace R_b := hide ((R_b.out.below hb).more hb.size)
  replace R_c := hide ((R_c.out.below hb).more hb.size)
  replace R_g := hide ((R_g.out.below hb).more hb.size)
  replace B := hide (B.out.trans (hb.mono B.out.size))
  clear hb
  replace R_p1 := hide R_p1
  have hc : Calls Try.prog 28 #[.slice Ab nb cb, .slice Ac nc cc] w2 (RetNat w2 (val xb * val xc)) := by
    have := mul_any w2 w2.heap.size Ab Ac nb cb nc cc _ _ R_b.out R_c.out (Nat.le_refl _) (by omega)
    repeat (first | rw [val_dig] at this)
    exact this
  replace hc := hide hc
  go_wp2_with fail
  refine hc.out.mono ?_
  clear hc
  rintro e w3 ⟨A_p2, c_p2, rfl, R_p2, hb⟩
  have l_p2 : (dig (val xb * val xc)).length ≤ 70368744175616 := by have := (dig_len_le _ _).2 (lt_mul vb.out vc.out); omega
  obtain ⟨n_p2, hn⟩ : ∃ n_p2, n_p2 = (dig (val xb * val xc)).length := ⟨_, rfl⟩
  rw [← hn] at R_p2 l_p2 ⊢
  clear hn
  replace R_a := hide ((R_a.out.below hb).more hb.size)
  replace R_b := hide ((R_b.out.below hb).more hb.size)
  replace R_c := hide ((R_c.out.below hb).more hb.size)
  replace R_g := hide ((R_g.out.below hb).more hb.size)
  replace R_p1 := hide ((R_p1.out.below hb).more hb.size)
  replace B := hide (B.out.trans (hb.mono B.out.size))
  clear hb
  replace R_p2 := hide R_p2
  have hc : Calls Try.prog 32 #[.slice A_p1 n_p1 c_p1, .slice A_p2 n_p2 c_p2] w3 (RetNat w3 (Nat.gcd (val xa * val xc) (val xb * val xc))) := by
    have := gcd_any w3 w3.heap.size A_p1 A_p2 n_p1 c_p1 n_p2 c_p2 _ _ R_p1.out R_p2.out (Nat.le_refl _) (by omega) (by omega)
    repeat (first | rw [val_dig] at this)
    exact this
  replace hc := hide hc
  go_wp2_with fail
  refine hc.out.mono ?_
  clear hc
  rintro e w4 ⟨A_p3, c_p3, rfl, R_p3, hb⟩
  have l_p3 : (dig (Nat.gcd (val xa * val xc) (val xb * val xc))).length ≤ 70368744175616 := by have := (dig_len_le _ _).2 (lt_gcd (lt_mul va.out vc.out) (lt_mul vb.out vc.out)); omega
  obtain ⟨n_p3, hn⟩ : ∃ n_p3, n_p3 = (dig (Nat.gcd (val xa * val xc) (val xb * val xc))).length := ⟨_, rfl⟩
  rw [← hn] at R_p3 l_p3 ⊢
  clear hn
  replace R_a := hide ((R_a.out.below hb).more hb.size)
  replace R_b := hide ((R_b.out.below hb).more hb.size)
  replace R_c := hide ((R_c.out.below hb).more hb.size)
  replace R_g := hide ((R_g.out.below hb).more hb.size)
  replace R_p1 := hide ((R_p1.out.below hb).more hb.size)
  replace R_p2 := hide ((R_p2.out.below hb).more hb.size)
  replace B := hide (B.out.trans (hb.mono B.out.size))
  clear hb
  replace R_p3 := hide R_p3
  have hc : Calls Try.prog 28 #[.slice A_g n_g c_g, .slice Ac nc cc] w4 (RetNat w4 (Nat.gcd (val xa) (val xb) * val xc)) := by
    have := mul_any w4 w4.heap.size A_g Ac n_g c_g nc cc _ _ R_g.out R_c.out (Nat.le_refl _) (by omega)
    repeat (first | rw [val_dig] at this)
    exact this
  replace hc := hide hc
  go_wp2_with fail
  refine hc.out.mono ?_
  clear hc
  rintro e w5 ⟨A_p4, c_p4, rfl, R_p4, hb⟩
  have l_p4 : (dig (Nat.gcd (val xa) (val xb) * val xc)).length ≤ 70368744175616 := by have := (dig_len_le _ _).2 (lt_mul (lt_gcd va.out vb.out) vc.out); omega
  obtain ⟨n_p4, hn⟩ : ∃ n_p4, n_p4 = (dig (Nat.gcd (val xa) (val xb) * val xc)).length := ⟨_, rfl⟩
  rw [← hn] at R_p4 l_p4 ⊢
  clear hn
  replace R_a := hide ((R_a.out.below hb).more hb.size)
  replace R_b := hide ((R_b.out.below hb).more hb.size)
  replace R_c := hide ((R_c.out.below hb).more hb.size)
  replace R_g := hide ((R_g.out.below hb).more hb.size)
  replace R_p1 := hide ((R_p1.out.below hb).more hb.size)
  replace R_p2 := hide ((R_p2.out.below hb).more hb.size)
  replace R_p3 := hide ((R_p3.out.below hb).more hb.size)
  replace B := hide (B.out.trans (hb.mono B.out.size))
  clear hb
  replace R_p4 := hide R_p4
  have hc := hide (same_true w5 w5.heap.size w5.heap.size A_p3 A_p4 n_p3 c_p3 n_p4 c_p4 _ _ R_p3.out R_p4.out (congrArg dig (Nat.gcd_mul_right _ _ _)))
  go_wp2_with fail
  refine hc.out.mono ?_
  clear hc
  rintro e w' ⟨rfl, q, rfl⟩
  have hb : Below w5.heap.size w5 (w5.drewN q) := below_drewN (Below.refl _ _) q
  generalize w5.drewN q = w6 at *
  replace R_a := hide ((R_a.out.below hb).more hb.size)
  replace R_b := hide ((R_b.out.below hb).more hb.size)
  replace R_c := hide ((R_c.out.below hb).more hb.size)
  replace R_g := hide ((R_g.out.below hb).more hb.size)
  replace R_p1 := hide ((R_p1.out.below hb).more hb.size)
  replace R_p2 := hide ((R_p2.out.below hb).more hb.size)
  replace R_p3 := hide ((R_p3.out.below hb).more hb.size)
  replace R_p4 := hide ((R_p4.out.below hb).more hb.size)
  replace B := hide (B.out.trans (hb.mono B.out.size))
  clear hb
  clear R_p1
  clear R_p2
  clear R_p3
  clear R_p4
  have hc : Calls Try.prog 32 #[.slice Ab nb cb, .slice Aa na ca] w6 (RetNat w6 (Nat.gcd (val xb) (val xa))) := by
    have := gcd_any w6 w6.heap.size Ab Aa nb cb na ca _ _ R_b.out R_a.out (Nat.le_refl _) (by omega) (by omega)
    repeat (first | rw [val_dig] at this)
    exact this
  replace hc := hide hc
  go_wp2_with fail
  refine hc.out.mono ?_
  clear hc
  rintro e w7 ⟨A_g2, c_g2, rfl, R_g2, hb⟩
  have l_g2 : (dig (Nat.gcd (val xb) (val xa))).length ≤ 70368744175616 := by have := (dig_len_le _ _).2 (lt_gcd vb.out va.out); omega
  obtain ⟨n_g2, hn⟩ : ∃ n_g2, n_g2 = (dig (Nat.gcd (val xb) (val xa))).length := ⟨_, rfl⟩
  rw [← hn] at R_g2 l_g2 ⊢
  clear hn
  replace R_a := hide ((R_a.out.below hb).more hb.size)
  replace R_b := hide ((R_b.out.below hb).more hb.size)
  replace R_c := hide ((R_c.out.below hb).more hb.size)
  replace R_g := hide ((R_g.out.below hb).more hb.size)
  replace B := hide (B.out.trans (hb.mono B.out.size))
  clear hb
  replace R_g2 := hide R_g2
  have hc := hide (same_true w7 w7.heap.size w7.heap.size A_g A_g2 n_g c_g n_g2 c_g2 _ _ R_g.out R_g2.out (congrArg dig (Nat.gcd_comm _ _)))
  go_wp2_with fail
  refine hc.out.mono ?_
  clear hc
  rintro e w' ⟨rfl, q, rfl⟩
  have hb : Below w7.heap.size w7 (w7.drewN q) := below_drewN (Below.refl _ _) q
  generalize w7.drewN q = w8 at *
  replace R_a := hide ((R_a.out.below hb).more hb.size)
  replace R_b := hide ((R_b.out.below hb).more hb.size)
  replace R_c := hide ((R_c.out.below hb).more hb.size)
  replace R_g := hide ((R_g.out.below hb).more hb.size)
  replace R_g2 := hide ((R_g2.out.below hb).more hb.size)
  replace B := hide (B.out.trans (hb.mono B.out.size))
  clear hb
  clear R_g2
  by_cases h0 : Nat.gcd (val xa) (val xb) = 0
  · have _t : True := trivial
    have hx0 := Nat.eq_zero_of_gcd_eq_zero_left h0
    have hy0 := Nat.eq_zero_of_gcd_eq_zero_right h0
    have h0' := hide h0
    have hx0' := hide hx0
    have hy0' := hide hy0
    clear h0 hx0 hy0
    go_wp2_with fail
    refine (divmod_zero w8 w8.heap.size Aa A_g na ca n_g c_g _ _ R_a.out R_g.out (by rw [val_dig]; exact h0'.out)).mono ?_
    rintro e w' ⟨rfl, rfl⟩
    go_wp2_with fail
    refine (divmod_zero w8 w8.heap.size Ab A_g nb cb n_g c_g _ _ R_b.out R_g.out (by rw [val_dig]; exact h0'.out)).mono ?_
    rintro e w' ⟨rfl, rfl⟩
    have hc : Calls Try.prog 14 #[.slice Aa na ca] w8 fun e w' => e = .returned (.int .i64 (0)) ∧ w8 = w' := by
      have := bits_any w8 w8.heap.size Aa na ca _ R_a.out
      rw [hx0'.out, bl_zero, show ((0 : Nat) : Int) = 0 from rfl] at this
      exact this
    replace hc := hide hc
    go_wp2_with fail
    refine hc.out.mono ?_
    clear hc
    rintro e w' ⟨rfl, rfl⟩
    have hc : Calls Try.prog 14 #[.slice Ab nb cb] w8 fun e w' => e = .returned (.int .i64 (0)) ∧ w8 = w' := by
      have := bits_any w8 w8.heap.size Ab nb cb _ R_b.out
      rw [hy0'.out, bl_zero, show ((0 : Nat) : Int) = 0 from rfl] at this
      exact this
    replace hc := hide hc
    go_wp2_with fail
    refine hc.out.mono ?_
    clear hc
    rintro e w' ⟨rfl, rfl⟩
    go_wp2_with fail
    refine (awake_any w8).mono ?_
    rintro e w9 ⟨rfl, hb⟩
    replace B := hide (B.out.trans (hb.mono B.out.size))
    clear hb
    go_wp2
    go_ret
    exact ⟨rfl, B.out⟩
  · have _t : True := trivial
    have h0' := hide h0
    clear h0
    have hc : Calls Try.prog 30 #[.slice Aa na ca, .slice A_g n_g c_g] w8 (RetDM w8 (val xa) (Nat.gcd (val xa) (val xb))) := by
      have := divmod_any w8 w8.heap.size Aa A_g na ca n_g c_g _ _ R_a.out R_g.out (Nat.le_refl _) (by omega) (by rw [val_dig]; exact h0'.out)
      repeat (first | rw [val_dig] at this)
      exact this
    replace hc := hide hc
    go_wp2_with fail
    refine hc.out.mono ?_
    clear hc
    rintro e w9 ⟨A_q1, c_q1, A_r1, c_r1, rfl, R_q1, R_r1, hb⟩
    have l_q1 : (dig ((val xa) / (Nat.gcd (val xa) (val xb)))).length ≤ 70368744175616 := by have := (dig_len_le _ _).2 (Nat.lt_of_le_of_lt (Nat.div_le_self (val xa) (Nat.gcd (val xa) (val xb))) va.out); omega
    obtain ⟨n_q1, hn⟩ : ∃ n_q1, n_q1 = (dig ((val xa) / (Nat.gcd (val xa) (val xb)))).length := ⟨_, rfl⟩
    rw [← hn] at R_q1 l_q1 ⊢
    clear hn
    have l_r1 : (dig ((val xa) % (Nat.gcd (val xa) (val xb)))).length ≤ 70368744175616 := by have := (dig_len_le _ _).2 (Nat.lt_of_le_of_lt (Nat.mod_le (val xa) (Nat.gcd (val xa) (val xb))) va.out); omega
    obtain ⟨n_r1, hn⟩ : ∃ n_r1, n_r1 = (dig ((val xa) % (Nat.gcd (val xa) (val xb)))).length := ⟨_, rfl⟩
    rw [← hn] at R_r1 l_r1 ⊢
    clear hn
    replace R_a := hide ((R_a.out.below hb).more hb.size)
    replace R_b := hide ((R_b.out.below hb).more hb.size)
    replace R_c := hide ((R_c.out.below hb).more hb.size)
    replace R_g := hide ((R_g.out.below hb).more hb.size)
    replace B := hide (B.out.trans (hb.mono B.out.size))
    clear hb
    replace R_q1 := hide R_q1
    replace R_r1 := hide R_r1
    have hc : Calls Try.prog 30 #[.slice Ab nb cb, .slice A_g n_g c_g] w9 (RetDM w9 (val xb) (Nat.gcd (val xa) (val xb))) := by
      have := divmod_any w9 w9.heap.size Ab A_g nb cb n_g c_g _ _ R_b.out R_g.out (Nat.le_refl _) (by omega) (by rw [val_dig]; exact h0'.out)
      repeat (first | rw [val_dig] at this)
      exact this
    replace hc := hide hc
    go_wp2_with fail
    refine hc.out.mono ?_
    clear hc
    rintro e w10 ⟨A_q2, c_q2, A_r2, c_r2, rfl, R_q2, R_r2, hb⟩
    have l_q2 : (dig ((val xb) / (Nat.gcd (val xa) (val xb)))).length ≤ 70368744175616 := by have := (dig_len_le _ _).2 (Nat.lt_of_le_of_lt (Nat.div_le_self (val xb) (Nat.gcd (val xa) (val xb))) vb.out); omega
    obtain ⟨n_q2, hn⟩ : ∃ n_q2, n_q2 = (dig ((val xb) / (Nat.gcd (val xa) (val xb)))).length := ⟨_, rfl⟩
    rw [← hn] at R_q2 l_q2 ⊢
    clear hn
    have l_r2 : (dig ((val xb) % (Nat.gcd (val xa) (val xb)))).length ≤ 70368744175616 := by have := (dig_len_le _ _).2 (Nat.lt_of_le_of_lt (Nat.mod_le (val xb) (Nat.gcd (val xa) (val xb))) vb.out); omega
    obtain ⟨n_r2, hn⟩ : ∃ n_r2, n_r2 = (dig ((val xb) % (Nat.gcd (val xa) (val xb)))).length := ⟨_, rfl⟩
    rw [← hn] at R_r2 l_r2 ⊢
    clear hn
    replace R_a := hide ((R_a.out.below hb).more hb.size)
    replace R_b := hide ((R_b.out.below hb).more hb.size)
    replace R_c := hide ((R_c.out.below hb).more hb.size)
    replace R_g := hide ((R_g.out.below hb).more hb.size)
    replace R_q1 := hide ((R_q1.out.below hb).more hb.size)
    replace R_r1 := hide ((R_r1.out.below hb).more hb.size)
    replace B := hide (B.out.trans (hb.mono B.out.size))
    clear hb
    replace R_q2 := hide R_q2
    replace R_r2 := hide R_r2
    have hc : Calls Try.prog 14 #[.slice A_r1 n_r1 c_r1] w10 fun e w' => e = .returned (.int .i64 (0)) ∧ w10 = w' := by
      have := bits_any w10 w10.heap.size A_r1 n_r1 c_r1 _ R_r1.out
      rw [val_dig, Nat.mod_eq_zero_of_dvd (Nat.gcd_dvd_left _ _), bl_zero, show ((0 : Nat) : Int) = 0 from rfl] at this
      exact this
    replace hc := hide hc
    go_wp2_with fail
    refine hc.out.mono ?_
    clear hc
    rintro e w' ⟨rfl, rfl⟩
    have hc : Calls Try.prog 14 #[.slice A_r2 n_r2 c_r2] w10 fun e w' => e = .returned (.int .i64 (0)) ∧ w10 = w' := by
      have := bits_any w10 w10.heap.size A_r2 n_r2 c_r2 _ R_r2.out
      rw [val_dig, Nat.mod_eq_zero_of_dvd (Nat.gcd_dvd_right _ _), bl_zero, show ((0 : Nat) : Int) = 0 from rfl] at this
      exact this
    replace hc := hide hc
    go_wp2_with fail
    refine hc.out.mono ?_
    clear hc
    rintro e w' ⟨rfl, rfl⟩
    go_wp2_with fail
    refine (awake_any w10).mono ?_
    rintro e w11 ⟨rfl, hb⟩
    replace B := hide (B.out.trans (hb.mono B.out.size))
    clear hb
    go_wp2
    go_ret
    exact ⟨rfl, B.out⟩

end Go.Proofs.Ytfkkpcdicclahaa

/-
  The walk of examboardlaw02.IntegerArithmetic.
-/
import Derived.Test.YtjbbapibpcgnhaaIntLaw
import Derived.Test.YtjbbapibpcgnhaaRInt2
import Derived.Test.YtjbbapibpcgnhaaRInt3
namespace Go.Proofs.Ytjbbapibpcgnhaa
open Go.RowKit

set_option maxRecDepth 100000 in
set_option maxHeartbeats 4000000 in
theorem arith_zero (w : World) (sa : Bool) (Aa : Option Addr) (na ca : Nat) (xa : List Nat) (sb : Bool) (Ab : Option Addr) (nb cb : Nat) (xb : List Nat) (h_a : Rd w w.heap.size Aa na ca xa) (k_a : na ≤ 35184372087808) (h_b : Rd w w.heap.size Ab nb cb xb) (k_b : nb ≤ 35184372087808) (hb0 : val xb = 0) :
    Calls Try.prog 4 #[.agg #[.bool sa, .slice Aa na ca], .agg #[.bool sb, .slice Ab nb cb]] w fun e w' => e = .returned (.bool true) ∧ Below w.heap.size w w' := by
  obtain ⟨K, hK⟩ : ∃ K, K = 35184372087808 := ⟨_, rfl⟩
  obtain ⟨a, za⟩ : ∃ z : Int, iv sa (val xa) = z := ⟨_, rfl⟩
  have Pa : zmag a < pw K := zlt_of za (by have h1 := val_lt h_a.limbs; have h2 := pw_mono (show xa.length ≤ K by have := h_a.len; omega); omega)
  have L_a : na ≤ K := by omega
  obtain ⟨b, zb⟩ : ∃ z : Int, iv sb (val xb) = z := ⟨_, rfl⟩
  have Pb : zmag b < pw K := zlt_of zb (by have h1 := val_lt h_b.limbs; have h2 := pw_mono (show xb.length ≤ K by have := h_b.len; omega); omega)
  have L_b : nb ≤ K := by omega
  obtain ⟨s, ds⟩ : ∃ z : Int, z = a + b := ⟨_, rfl⟩
  have Ps : zmag s < pw (max K K + 1) := by rw [ds]; exact zlt_add Pa Pb
  have L_s : (dig (zmag s)).length ≤ max K K + 1 := zlen Ps
  obtain ⟨d, dd⟩ : ∃ z : Int, z = a - b := ⟨_, rfl⟩
  have Pd : zmag d < pw (max K K + 1) := by rw [dd]; exact zlt_sub Pa Pb
  have L_d : (dig (zmag d)).length ≤ max K K + 1 := zlen Pd
  obtain ⟨m, dm⟩ : ∃ z : Int, z = a * b := ⟨_, rfl⟩
  have Pm : zmag m < pw (K + K) := by rw [dm]; exact zlt_mul Pa Pb
  have L_m : (dig (zmag m)).length ≤ K + K := zlen Pm
  have e1 : iv sa (val xa) + iv sb (val xb) = s := by
    first
      | (simp only [za, zb]; done)
      | (simp only [za, zb]; first | rfl | (rw [ds]))
      | (rw [ds])
  have e2 : iv sa (val xa) - iv sb (val xb) = d := by
    first
      | (simp only [za, zb]; done)
      | (simp only [za, zb]; first | rfl | (rw [dd]))
      | (rw [dd])
  have e3 : iv sa (val xa) * iv sb (val xb) = m := by
    first
      | (simp only [za, zb]; done)
      | (simp only [za, zb]; first | rfl | (rw [dm]))
      | (rw [dm])
  obtain ⟨cv, e4⟩ : ∃ z : Int, sgn (iv sa (val xa) - iv sb (val xb)) = z := ⟨_, rfl⟩
  replace za := hide za
  replace Pa := hide Pa
  replace L_a := hide L_a
  replace zb := hide zb
  replace Pb := hide Pb
  replace L_b := hide L_b
  replace L_s := hide L_s
  replace Ps := hide Ps
  replace ds := hide ds
  replace L_d := hide L_d
  replace Pd := hide Pd
  replace dd := hide dd
  replace L_m := hide L_m
  replace Pm := hide Pm
  replace dm := hide dm
  replace e1 := hide e1
  replace e2 := hide e2
  replace e3 := hide e3
  replace e4 := hide e4
  replace hb0 := hide hb0
  have hKle : K ≤ 35184372087808 := by omega
  clear hK
  clear k_a k_b
  obtain ⟨W, hW⟩ : ∃ W, W = ((w.alloc (.cells #[.bool sa, .slice Aa na ca] 25)).alloc (.cells #[.bool sb, .slice Ab nb cb] 25)) := ⟨_, rfl⟩
  have b_a : Box W (w.heap.size) (.bool sa) (.slice Aa na ca) := by rw [hW]; exact ((Box.new w _ _ rfl).al _)
  have b_b : Box W (w.heap.size + 1) (.bool sb) (.slice Ab nb cb) := by rw [hW]; exact (Box.new _ _ _ (by simp))
  have hwW : Below w.heap.size w W := by rw [hW]; exact (((Below.refl _ _).alloc (Nat.le_refl _) _).alloc (by simp) _)
  have R_a := hide (Rd.then_ h_a hwW)
  clear h_a
  have R_b := hide (Rd.then_ h_b hwW)
  clear h_b
  have B := hide hwW
  clear hwW
  have U0 : Below W.heap.size W W := Below.refl _ _
  have c_a0 := b_a.at0 b_a.lt_size (Nat.le_refl _)
  have c_a1 := b_a.at1 b_a.lt_size (Nat.le_refl _)
  replace b_a := hide b_a
  have c_b0 := b_b.at0 b_b.lt_size (Nat.le_refl _)
  have c_b1 := b_b.at1 b_b.lt_size (Nat.le_refl _)
  replace b_b := hide b_b
  go_enter Try.func4, Try.ntmps4
  go_wp2_with fail
  rw [← hW]
  clear hW
  have hd := Below.drw_ W
  replace R_a := hide (Rd.then_ R_a.out hd)
  replace R_b := hide (Rd.then_ R_b.out hd)
  have U1 : Below W.heap.size W (W.drew) := Below.then_ U0 hd
  replace B := hide (Below.then_ B.out hd)
  clear hd
  have tok1 : True := trivial
  go_region_held3 (fun w' => Below W.heap.size W w') (assumption)
    (first
      | (go_at_call 24; (have _t := tok1; (with_reducible refine (icmp_any _ _ _ _ _ _ _ _ _ _ _ _ R_a.out R_b.out (Nat.le_refl _)).mono ?_); rw [e4.out]; rintro e w1 ⟨rfl, hb⟩; replace R_a := hide (Rd.then_ R_a.out hb); replace R_b := hide (Rd.then_ R_b.out hb); have U2 : Below W.heap.size W w1 := Below.then_ U1 hb; replace B := hide (Below.then_ B.out hb); clear hb; have tok2 : True := trivial; clear _t tok1))
      | (go_at_call 25; (have _t := tok2; (with_reducible refine (ricmp_any _ _ _ _ _ _ _ _ _ _ _ _ R_a.out R_b.out (Nat.le_refl _)).mono ?_); rw [e4.out]; rintro e w2 ⟨rfl, hb⟩; replace R_a := hide (Rd.then_ R_a.out hb); replace R_b := hide (Rd.then_ R_b.out hb); have U3 : Below W.heap.size W w2 := Below.then_ U2 hb; replace B := hide (Below.then_ B.out hb); clear hb; have tok3 : True := trivial; clear _t tok2))
      | (go_at_call 26; (have _t := tok3; (with_reducible refine (iadd_any _ _ _ _ _ _ _ _ _ _ _ _ R_a.out R_b.out (Nat.le_refl _) (by have := L_a.out; omega) (by have := L_b.out; omega)).mono ?_); rw [e1.out]; rintro e w3 ⟨A_x1, c_x1, rfl, R_x1, hb⟩; replace R_a := hide (Rd.then_ R_a.out hb); replace R_b := hide (Rd.then_ R_b.out hb); have U4 : Below W.heap.size W w3 := Below.then_ U3 hb; replace B := hide (Below.then_ B.out hb); replace R_x1 := hide R_x1; clear hb; have tok4 : True := trivial; clear _t tok3))
      | (go_at_call 27; (have _t := tok4; (with_reducible refine (riadd_any _ _ _ _ _ _ _ _ _ _ _ _ R_a.out R_b.out (Nat.le_refl _) (by have := L_a.out; omega) (by have := L_b.out; omega)).mono ?_); rw [e1.out]; rintro e w4 ⟨A_x2, c_x2, rfl, R_x2, hb⟩; replace R_a := hide (Rd.then_ R_a.out hb); replace R_b := hide (Rd.then_ R_b.out hb); replace R_x1 := hide (Rd.then_ R_x1.out hb); have U5 : Below W.heap.size W w4 := Below.then_ U4 hb; replace B := hide (Below.then_ B.out hb); replace R_x2 := hide R_x2; clear hb; have tok5 : True := trivial; clear _t tok4))
      | (go_at_call 14; (have _t := tok5; (with_reducible refine (same_eq _ _ _ _ _ _ _ _ _ _ _ R_x1.out R_x2.out rfl rfl).mono ?_); rintro e w5 ⟨rfl, hb⟩; replace R_a := hide (Rd.then_ R_a.out hb); replace R_b := hide (Rd.then_ R_b.out hb); replace R_x1 := hide (Rd.then_ R_x1.out hb); replace R_x2 := hide (Rd.then_ R_x2.out hb); have U6 : Below W.heap.size W w5 := Below.then_ U5 hb; replace B := hide (Below.then_ B.out hb); clear hb; have tok6 : True := trivial; clear _t tok5; clear R_x1; clear R_x2))
      | (go_at_call 28; (have _t := tok6; (with_reducible refine (isub_any _ _ _ _ _ _ _ _ _ _ _ _ R_a.out R_b.out (Nat.le_refl _) (by have := L_a.out; omega) (by have := L_b.out; omega)).mono ?_); rw [e2.out]; rintro e w6 ⟨A_x1, c_x1, rfl, R_x1, hb⟩; replace R_a := hide (Rd.then_ R_a.out hb); replace R_b := hide (Rd.then_ R_b.out hb); have U7 : Below W.heap.size W w6 := Below.then_ U6 hb; replace B := hide (Below.then_ B.out hb); replace R_x1 := hide R_x1; clear hb; have tok7 : True := trivial; clear _t tok6))
      | (go_at_call 29; (have _t := tok7; (with_reducible refine (risub_any _ _ _ _ _ _ _ _ _ _ _ _ R_a.out R_b.out (Nat.le_refl _) (by have := L_a.out; omega) (by have := L_b.out; omega)).mono ?_); rw [e2.out]; rintro e w7 ⟨A_x2, c_x2, rfl, R_x2, hb⟩; replace R_a := hide (Rd.then_ R_a.out hb); replace R_b := hide (Rd.then_ R_b.out hb); replace R_x1 := hide (Rd.then_ R_x1.out hb); have U8 : Below W.heap.size W w7 := Below.then_ U7 hb; replace B := hide (Below.then_ B.out hb); replace R_x2 := hide R_x2; clear hb; have tok8 : True := trivial; clear _t tok7))
      | (go_at_call 14; (have _t := tok8; (with_reducible refine (same_eq _ _ _ _ _ _ _ _ _ _ _ R_x1.out R_x2.out rfl rfl).mono ?_); rintro e w8 ⟨rfl, hb⟩; replace R_a := hide (Rd.then_ R_a.out hb); replace R_b := hide (Rd.then_ R_b.out hb); replace R_x1 := hide (Rd.then_ R_x1.out hb); replace R_x2 := hide (Rd.then_ R_x2.out hb); have U9 : Below W.heap.size W w8 := Below.then_ U8 hb; replace B := hide (Below.then_ B.out hb); clear hb; have tok9 : True := trivial; clear _t tok8; clear R_x1; clear R_x2))
      | (go_at_call 30; (have _t := tok9; (with_reducible refine (imul_any _ _ _ _ _ _ _ _ _ _ _ _ R_a.out R_b.out (Nat.le_refl _) (by have := L_a.out; have := L_b.out; omega)).mono ?_); rw [e3.out]; rintro e w9 ⟨A_x1, c_x1, rfl, R_x1, hb⟩; replace R_a := hide (Rd.then_ R_a.out hb); replace R_b := hide (Rd.then_ R_b.out hb); have U10 : Below W.heap.size W w9 := Below.then_ U9 hb; replace B := hide (Below.then_ B.out hb); replace R_x1 := hide R_x1; clear hb; have tok10 : True := trivial; clear _t tok9))
      | (go_at_call 31; (have _t := tok10; (with_reducible refine (rimul_any _ _ _ _ _ _ _ _ _ _ _ _ R_a.out R_b.out (Nat.le_refl _) (by have := L_a.out; have := L_b.out; omega)).mono ?_); rw [e3.out]; rintro e w10 ⟨A_x2, c_x2, rfl, R_x2, hb⟩; replace R_a := hide (Rd.then_ R_a.out hb); replace R_b := hide (Rd.then_ R_b.out hb); replace R_x1 := hide (Rd.then_ R_x1.out hb); have U11 : Below W.heap.size W w10 := Below.then_ U10 hb; replace B := hide (Below.then_ B.out hb); replace R_x2 := hide R_x2; clear hb; have tok11 : True := trivial; clear _t tok10))
      | (go_at_call 14; (have _t := tok11; (with_reducible refine (same_eq _ _ _ _ _ _ _ _ _ _ _ R_x1.out R_x2.out rfl rfl).mono ?_); rintro e w11 ⟨rfl, hb⟩; replace R_a := hide (Rd.then_ R_a.out hb); replace R_b := hide (Rd.then_ R_b.out hb); replace R_x1 := hide (Rd.then_ R_x1.out hb); replace R_x2 := hide (Rd.then_ R_x2.out hb); have U12 : Below W.heap.size W w11 := Below.then_ U11 hb; replace B := hide (Below.then_ B.out hb); clear hb; have tok12 : True := trivial; clear _t tok11; clear R_x1; clear R_x2)))
  clear tok12
  go_wp2_with fail
  refine (idiv_zero _ _ _ _ _ _ _ _ _ _ _ _ R_a.out R_b.out (Nat.le_refl _) hb0.out).mono ?_
  rintro e w12 ⟨A_q1, c_q1, A_r1, c_r1, rfl, R_q1, R_r1, hb⟩
  replace R_a := hide (Rd.then_ R_a.out hb)
  replace R_b := hide (Rd.then_ R_b.out hb)
  have U13 : Below W.heap.size W w12 := Below.then_ U12 hb
  replace B := hide (Below.then_ B.out hb)
  replace R_q1 := hide R_q1
  replace R_r1 := hide R_r1
  clear hb
  have hbx : Below w12.heap.size w12 ((w12.alloc (.cells #[.bool (zneg 0), .slice A_q1 (dig (zmag 0)).length c_q1] 25)).alloc (.cells #[.bool (zneg 0), .slice A_r1 (dig (zmag 0)).length c_r1] 25)) := (((Below.refl _ _).alloc (Nat.le_refl _) _).alloc (by simp) _)
  have Ux := Below.then_ U13 hbx
  go_wp2_with fail
  obtain ⟨V13, hV⟩ : ∃ V, V = ((w12.alloc (.cells #[.bool (zneg 0), .slice A_q1 (dig (zmag 0)).length c_q1] 25)).alloc (.cells #[.bool (zneg 0), .slice A_r1 (dig (zmag 0)).length c_r1] 25)) := ⟨_, rfl⟩
  obtain ⟨g_q1, hg_q1⟩ : ∃ g, g = w12.heap.size := ⟨_, rfl⟩
  obtain ⟨g_r1, hg_r1⟩ : ∃ g, g = w12.heap.size + 1 := ⟨_, rfl⟩
  rw [← hV]
  rw [← hV] at hbx Ux
  rw [← hg_r1]
  rw [← hg_q1]
  have b_q1 : Box V13 g_q1 (.bool (zneg 0)) (.slice A_q1 (dig (zmag 0)).length c_q1) := by rw [hV]; exact ((Box.new _ _ _ hg_q1).al _)
  have b_r1 : Box V13 g_r1 (.bool (zneg 0)) (.slice A_r1 (dig (zmag 0)).length c_r1) := by rw [hV]; exact (Box.new _ _ _ (by rw [hg_r1]; simp))
  clear hV
  clear hg_q1
  clear hg_r1
  replace R_a := hide (Rd.then_ R_a.out hbx)
  replace R_b := hide (Rd.then_ R_b.out hbx)
  replace R_q1 := hide (Rd.then_ R_q1.out hbx)
  replace R_r1 := hide (Rd.then_ R_r1.out hbx)
  have U14 : Below W.heap.size W V13 := Below.then_ U13 hbx
  replace B := hide (Below.then_ B.out hbx)
  clear hbx
  replace b_a := hide (Box.keep b_a.out U14)
  clear c_a0 c_a1
  replace b_b := hide (Box.keep b_b.out U14)
  clear c_b0 c_b1
  replace b_q1 := hide b_q1
  replace b_r1 := hide b_r1
  have U15 : Below V13.heap.size V13 V13 := Below.refl _ _
  have c_a0 := b_a.out.at0 b_a.out.lt_size (Nat.le_refl _)
  have c_a1 := b_a.out.at1 b_a.out.lt_size (Nat.le_refl _)
  have c_b0 := b_b.out.at0 b_b.out.lt_size (Nat.le_refl _)
  have c_b1 := b_b.out.at1 b_b.out.lt_size (Nat.le_refl _)
  have c_q10 := b_q1.out.at0 b_q1.out.lt_size (Nat.le_refl _)
  have c_q11 := b_q1.out.at1 b_q1.out.lt_size (Nat.le_refl _)
  have c_r10 := b_r1.out.at0 b_r1.out.lt_size (Nat.le_refl _)
  have c_r11 := b_r1.out.at1 b_r1.out.lt_size (Nat.le_refl _)
  refine (ridiv_zero _ _ _ _ _ _ _ _ _ _ _ _ R_a.out R_b.out (Nat.le_refl _) hb0.out).mono ?_
  rintro e w13 ⟨A_q2, c_q2, A_r2, c_r2, rfl, R_q2, R_r2, hb⟩
  replace R_a := hide (Rd.then_ R_a.out hb)
  replace R_b := hide (Rd.then_ R_b.out hb)
  replace R_q1 := hide (Rd.then_ R_q1.out hb)
  replace R_r1 := hide (Rd.then_ R_r1.out hb)
  have U16 : Below V13.heap.size V13 w13 := Below.then_ U15 hb
  replace B := hide (Below.then_ B.out hb)
  replace R_q2 := hide R_q2
  replace R_r2 := hide R_r2
  clear hb
  have hbx : Below w13.heap.size w13 ((w13.alloc (.cells #[.bool (zneg 0), .slice A_q2 (dig (zmag 0)).length c_q2] 25)).alloc (.cells #[.bool (zneg 0), .slice A_r2 (dig (zmag 0)).length c_r2] 25)) := (((Below.refl _ _).alloc (Nat.le_refl _) _).alloc (by simp) _)
  have Ux := Below.then_ U16 hbx
  go_wp2_with fail
  obtain ⟨V16, hV⟩ : ∃ V, V = ((w13.alloc (.cells #[.bool (zneg 0), .slice A_q2 (dig (zmag 0)).length c_q2] 25)).alloc (.cells #[.bool (zneg 0), .slice A_r2 (dig (zmag 0)).length c_r2] 25)) := ⟨_, rfl⟩
  obtain ⟨g_q2, hg_q2⟩ : ∃ g, g = w13.heap.size := ⟨_, rfl⟩
  obtain ⟨g_r2, hg_r2⟩ : ∃ g, g = w13.heap.size + 1 := ⟨_, rfl⟩
  rw [← hV]
  rw [← hV] at hbx Ux
  rw [← hg_r2]
  rw [← hg_q2]
  have b_q2 : Box V16 g_q2 (.bool (zneg 0)) (.slice A_q2 (dig (zmag 0)).length c_q2) := by rw [hV]; exact ((Box.new _ _ _ hg_q2).al _)
  have b_r2 : Box V16 g_r2 (.bool (zneg 0)) (.slice A_r2 (dig (zmag 0)).length c_r2) := by rw [hV]; exact (Box.new _ _ _ (by rw [hg_r2]; simp))
  clear hV
  clear hg_q2
  clear hg_r2
  replace R_a := hide (Rd.then_ R_a.out hbx)
  replace R_b := hide (Rd.then_ R_b.out hbx)
  replace R_q1 := hide (Rd.then_ R_q1.out hbx)
  replace R_r1 := hide (Rd.then_ R_r1.out hbx)
  replace R_q2 := hide (Rd.then_ R_q2.out hbx)
  replace R_r2 := hide (Rd.then_ R_r2.out hbx)
  have U17 : Below V13.heap.size V13 V16 := Below.then_ U16 hbx
  replace B := hide (Below.then_ B.out hbx)
  clear hbx
  replace b_a := hide (Box.keep b_a.out U17)
  clear c_a0 c_a1
  replace b_b := hide (Box.keep b_b.out U17)
  clear c_b0 c_b1
  replace b_q1 := hide (Box.keep b_q1.out U17)
  clear c_q10 c_q11
  replace b_r1 := hide (Box.keep b_r1.out U17)
  clear c_r10 c_r11
  replace b_q2 := hide b_q2
  replace b_r2 := hide b_r2
  have U18 : Below V16.heap.size V16 V16 := Below.refl _ _
  have c_a0 := b_a.out.at0 b_a.out.lt_size (Nat.le_refl _)
  have c_a1 := b_a.out.at1 b_a.out.lt_size (Nat.le_refl _)
  have c_b0 := b_b.out.at0 b_b.out.lt_size (Nat.le_refl _)
  have c_b1 := b_b.out.at1 b_b.out.lt_size (Nat.le_refl _)
  have c_q10 := b_q1.out.at0 b_q1.out.lt_size (Nat.le_refl _)
  have c_q11 := b_q1.out.at1 b_q1.out.lt_size (Nat.le_refl _)
  have c_r10 := b_r1.out.at0 b_r1.out.lt_size (Nat.le_refl _)
  have c_r11 := b_r1.out.at1 b_r1.out.lt_size (Nat.le_refl _)
  have c_q20 := b_q2.out.at0 b_q2.out.lt_size (Nat.le_refl _)
  have c_q21 := b_q2.out.at1 b_q2.out.lt_size (Nat.le_refl _)
  have c_r20 := b_r2.out.at0 b_r2.out.lt_size (Nat.le_refl _)
  have c_r21 := b_r2.out.at1 b_r2.out.lt_size (Nat.le_refl _)
  refine (same_eq _ _ _ _ _ _ _ _ _ _ _ R_q1.out R_q2.out rfl rfl).mono ?_
  rintro e w14 ⟨rfl, hb⟩
  replace R_a := hide (Rd.then_ R_a.out hb)
  replace R_b := hide (Rd.then_ R_b.out hb)
  replace R_q1 := hide (Rd.then_ R_q1.out hb)
  replace R_r1 := hide (Rd.then_ R_r1.out hb)
  replace R_q2 := hide (Rd.then_ R_q2.out hb)
  replace R_r2 := hide (Rd.then_ R_r2.out hb)
  have U19 : Below V16.heap.size V16 w14 := Below.then_ U18 hb
  replace B := hide (Below.then_ B.out hb)
  clear hb
  go_wp2_with fail
  refine (same_eq _ _ _ _ _ _ _ _ _ _ _ R_r1.out R_r2.out rfl rfl).mono ?_
  rintro e w15 ⟨rfl, hb⟩
  replace R_a := hide (Rd.then_ R_a.out hb)
  replace R_b := hide (Rd.then_ R_b.out hb)
  replace R_q1 := hide (Rd.then_ R_q1.out hb)
  replace R_r1 := hide (Rd.then_ R_r1.out hb)
  replace R_q2 := hide (Rd.then_ R_q2.out hb)
  replace R_r2 := hide (Rd.then_ R_r2.out hb)
  have U20 : Below V16.heap.size V16 w15 := Below.then_ U19 hb
  replace B := hide (Below.then_ B.out hb)
  clear hb
  go_wp2_with fail
  refine (awake_any _).mono ?_
  rintro e w16 ⟨rfl, hb⟩
  replace R_a := hide (Rd.then_ R_a.out hb)
  replace R_b := hide (Rd.then_ R_b.out hb)
  replace R_q1 := hide (Rd.then_ R_q1.out hb)
  replace R_r1 := hide (Rd.then_ R_r1.out hb)
  replace R_q2 := hide (Rd.then_ R_q2.out hb)
  replace R_r2 := hide (Rd.then_ R_r2.out hb)
  have U21 : Below V16.heap.size V16 w16 := Below.then_ U20 hb
  replace B := hide (Below.then_ B.out hb)
  clear hb
  go_wp2
  go_ret
  exact ⟨rfl, B.out⟩

set_option maxRecDepth 100000 in
set_option maxHeartbeats 4000000 in
theorem arith_some (w : World) (sa : Bool) (Aa : Option Addr) (na ca : Nat) (xa : List Nat) (sb : Bool) (Ab : Option Addr) (nb cb : Nat) (xb : List Nat) (h_a : Rd w w.heap.size Aa na ca xa) (k_a : na ≤ 35184372087808) (h_b : Rd w w.heap.size Ab nb cb xb) (k_b : nb ≤ 35184372087808) (hb0 : val xb ≠ 0) :
    Calls Try.prog 4 #[.agg #[.bool sa, .slice Aa na ca], .agg #[.bool sb, .slice Ab nb cb]] w fun e w' => e = .returned (.bool true) ∧ Below w.heap.size w w' := by
  obtain ⟨K, hK⟩ : ∃ K, K = 35184372087808 := ⟨_, rfl⟩
  obtain ⟨a, za⟩ : ∃ z : Int, iv sa (val xa) = z := ⟨_, rfl⟩
  have Pa : zmag a < pw K := zlt_of za (by have h1 := val_lt h_a.limbs; have h2 := pw_mono (show xa.length ≤ K by have := h_a.len; omega); omega)
  have L_a : na ≤ K := by omega
  obtain ⟨b, zb⟩ : ∃ z : Int, iv sb (val xb) = z := ⟨_, rfl⟩
  have Pb : zmag b < pw K := zlt_of zb (by have h1 := val_lt h_b.limbs; have h2 := pw_mono (show xb.length ≤ K by have := h_b.len; omega); omega)
  have L_b : nb ≤ K := by omega
  obtain ⟨s, ds⟩ : ∃ z : Int, z = a + b := ⟨_, rfl⟩
  have Ps : zmag s < pw (max K K + 1) := by rw [ds]; exact zlt_add Pa Pb
  have L_s : (dig (zmag s)).length ≤ max K K + 1 := zlen Ps
  obtain ⟨d, dd⟩ : ∃ z : Int, z = a - b := ⟨_, rfl⟩
  have Pd : zmag d < pw (max K K + 1) := by rw [dd]; exact zlt_sub Pa Pb
  have L_d : (dig (zmag d)).length ≤ max K K + 1 := zlen Pd
  obtain ⟨m, dm⟩ : ∃ z : Int, z = a * b := ⟨_, rfl⟩
  have Pm : zmag m < pw (K + K) := by rw [dm]; exact zlt_mul Pa Pb
  have L_m : (dig (zmag m)).length ≤ K + K := zlen Pm
  have e1 : iv sa (val xa) + iv sb (val xb) = s := by
    first
      | (simp only [za, zb]; done)
      | (simp only [za, zb]; first | rfl | (rw [ds]))
      | (rw [ds])
  have e2 : iv sa (val xa) - iv sb (val xb) = d := by
    first
      | (simp only [za, zb]; done)
      | (simp only [za, zb]; first | rfl | (rw [dd]))
      | (rw [dd])
  have e3 : iv sa (val xa) * iv sb (val xb) = m := by
    first
      | (simp only [za, zb]; done)
      | (simp only [za, zb]; first | rfl | (rw [dm]))
      | (rw [dm])
  obtain ⟨cv, e4⟩ : ∃ z : Int, sgn (iv sa (val xa) - iv sb (val xb)) = z := ⟨_, rfl⟩
  obtain ⟨q, e5⟩ : ∃ z : Int, fq sa sb (val xa) (val xb) = z := ⟨_, rfl⟩
  obtain ⟨r, e6⟩ : ∃ z : Int, fr sa sb (val xa) (val xb) = z := ⟨_, rfl⟩
  replace za := hide za
  replace Pa := hide Pa
  replace L_a := hide L_a
  replace zb := hide zb
  replace Pb := hide Pb
  replace L_b := hide L_b
  replace L_s := hide L_s
  replace Ps := hide Ps
  replace ds := hide ds
  replace L_d := hide L_d
  replace Pd := hide Pd
  replace dd := hide dd
  replace L_m := hide L_m
  replace Pm := hide Pm
  replace dm := hide dm
  replace e1 := hide e1
  replace e2 := hide e2
  replace e3 := hide e3
  replace e4 := hide e4
  replace e5 := hide e5
  replace e6 := hide e6
  replace hb0 := hide hb0
  have hKle : K ≤ 35184372087808 := by omega
  clear hK
  clear k_a k_b
  obtain ⟨W, hW⟩ : ∃ W, W = ((w.alloc (.cells #[.bool sa, .slice Aa na ca] 25)).alloc (.cells #[.bool sb, .slice Ab nb cb] 25)) := ⟨_, rfl⟩
  have b_a : Box W (w.heap.size) (.bool sa) (.slice Aa na ca) := by rw [hW]; exact ((Box.new w _ _ rfl).al _)
  have b_b : Box W (w.heap.size + 1) (.bool sb) (.slice Ab nb cb) := by rw [hW]; exact (Box.new _ _ _ (by simp))
  have hwW : Below w.heap.size w W := by rw [hW]; exact (((Below.refl _ _).alloc (Nat.le_refl _) _).alloc (by simp) _)
  have R_a := hide (Rd.then_ h_a hwW)
  clear h_a
  have R_b := hide (Rd.then_ h_b hwW)
  clear h_b
  have B := hide hwW
  clear hwW
  have U0 : Below W.heap.size W W := Below.refl _ _
  have c_a0 := b_a.at0 b_a.lt_size (Nat.le_refl _)
  have c_a1 := b_a.at1 b_a.lt_size (Nat.le_refl _)
  replace b_a := hide b_a
  have c_b0 := b_b.at0 b_b.lt_size (Nat.le_refl _)
  have c_b1 := b_b.at1 b_b.lt_size (Nat.le_refl _)
  replace b_b := hide b_b
  go_enter Try.func4, Try.ntmps4
  go_wp2_with fail
  rw [← hW]
  clear hW
  have hd := Below.drw_ W
  replace R_a := hide (Rd.then_ R_a.out hd)
  replace R_b := hide (Rd.then_ R_b.out hd)
  have U1 : Below W.heap.size W (W.drew) := Below.then_ U0 hd
  replace B := hide (Below.then_ B.out hd)
  clear hd
  have tok1 : True := trivial
  go_region_held3 (fun w' => Below W.heap.size W w') (assumption)
    (first
      | (go_at_call 24; (have _t := tok1; (with_reducible refine (icmp_any _ _ _ _ _ _ _ _ _ _ _ _ R_a.out R_b.out (Nat.le_refl _)).mono ?_); rw [e4.out]; rintro e w1 ⟨rfl, hb⟩; replace R_a := hide (Rd.then_ R_a.out hb); replace R_b := hide (Rd.then_ R_b.out hb); have U2 : Below W.heap.size W w1 := Below.then_ U1 hb; replace B := hide (Below.then_ B.out hb); clear hb; have tok2 : True := trivial; clear _t tok1))
      | (go_at_call 25; (have _t := tok2; (with_reducible refine (ricmp_any _ _ _ _ _ _ _ _ _ _ _ _ R_a.out R_b.out (Nat.le_refl _)).mono ?_); rw [e4.out]; rintro e w2 ⟨rfl, hb⟩; replace R_a := hide (Rd.then_ R_a.out hb); replace R_b := hide (Rd.then_ R_b.out hb); have U3 : Below W.heap.size W w2 := Below.then_ U2 hb; replace B := hide (Below.then_ B.out hb); clear hb; have tok3 : True := trivial; clear _t tok2))
      | (go_at_call 26; (have _t := tok3; (with_reducible refine (iadd_any _ _ _ _ _ _ _ _ _ _ _ _ R_a.out R_b.out (Nat.le_refl _) (by have := L_a.out; omega) (by have := L_b.out; omega)).mono ?_); rw [e1.out]; rintro e w3 ⟨A_x1, c_x1, rfl, R_x1, hb⟩; replace R_a := hide (Rd.then_ R_a.out hb); replace R_b := hide (Rd.then_ R_b.out hb); have U4 : Below W.heap.size W w3 := Below.then_ U3 hb; replace B := hide (Below.then_ B.out hb); replace R_x1 := hide R_x1; clear hb; have tok4 : True := trivial; clear _t tok3))
      | (go_at_call 27; (have _t := tok4; (with_reducible refine (riadd_any _ _ _ _ _ _ _ _ _ _ _ _ R_a.out R_b.out (Nat.le_refl _) (by have := L_a.out; omega) (by have := L_b.out; omega)).mono ?_); rw [e1.out]; rintro e w4 ⟨A_x2, c_x2, rfl, R_x2, hb⟩; replace R_a := hide (Rd.then_ R_a.out hb); replace R_b := hide (Rd.then_ R_b.out hb); replace R_x1 := hide (Rd.then_ R_x1.out hb); have U5 : Below W.heap.size W w4 := Below.then_ U4 hb; replace B := hide (Below.then_ B.out hb); replace R_x2 := hide R_x2; clear hb; have tok5 : True := trivial; clear _t tok4))
      | (go_at_call 14; (have _t := tok5; (with_reducible refine (same_eq _ _ _ _ _ _ _ _ _ _ _ R_x1.out R_x2.out rfl rfl).mono ?_); rintro e w5 ⟨rfl, hb⟩; replace R_a := hide (Rd.then_ R_a.out hb); replace R_b := hide (Rd.then_ R_b.out hb); replace R_x1 := hide (Rd.then_ R_x1.out hb); replace R_x2 := hide (Rd.then_ R_x2.out hb); have U6 : Below W.heap.size W w5 := Below.then_ U5 hb; replace B := hide (Below.then_ B.out hb); clear hb; have tok6 : True := trivial; clear _t tok5; clear R_x1; clear R_x2))
      | (go_at_call 28; (have _t := tok6; (with_reducible refine (isub_any _ _ _ _ _ _ _ _ _ _ _ _ R_a.out R_b.out (Nat.le_refl _) (by have := L_a.out; omega) (by have := L_b.out; omega)).mono ?_); rw [e2.out]; rintro e w6 ⟨A_x1, c_x1, rfl, R_x1, hb⟩; replace R_a := hide (Rd.then_ R_a.out hb); replace R_b := hide (Rd.then_ R_b.out hb); have U7 : Below W.heap.size W w6 := Below.then_ U6 hb; replace B := hide (Below.then_ B.out hb); replace R_x1 := hide R_x1; clear hb; have tok7 : True := trivial; clear _t tok6))
      | (go_at_call 29; (have _t := tok7; (with_reducible refine (risub_any _ _ _ _ _ _ _ _ _ _ _ _ R_a.out R_b.out (Nat.le_refl _) (by have := L_a.out; omega) (by have := L_b.out; omega)).mono ?_); rw [e2.out]; rintro e w7 ⟨A_x2, c_x2, rfl, R_x2, hb⟩; replace R_a := hide (Rd.then_ R_a.out hb); replace R_b := hide (Rd.then_ R_b.out hb); replace R_x1 := hide (Rd.then_ R_x1.out hb); have U8 : Below W.heap.size W w7 := Below.then_ U7 hb; replace B := hide (Below.then_ B.out hb); replace R_x2 := hide R_x2; clear hb; have tok8 : True := trivial; clear _t tok7))
      | (go_at_call 14; (have _t := tok8; (with_reducible refine (same_eq _ _ _ _ _ _ _ _ _ _ _ R_x1.out R_x2.out rfl rfl).mono ?_); rintro e w8 ⟨rfl, hb⟩; replace R_a := hide (Rd.then_ R_a.out hb); replace R_b := hide (Rd.then_ R_b.out hb); replace R_x1 := hide (Rd.then_ R_x1.out hb); replace R_x2 := hide (Rd.then_ R_x2.out hb); have U9 : Below W.heap.size W w8 := Below.then_ U8 hb; replace B := hide (Below.then_ B.out hb); clear hb; have tok9 : True := trivial; clear _t tok8; clear R_x1; clear R_x2))
      | (go_at_call 30; (have _t := tok9; (with_reducible refine (imul_any _ _ _ _ _ _ _ _ _ _ _ _ R_a.out R_b.out (Nat.le_refl _) (by have := L_a.out; have := L_b.out; omega)).mono ?_); rw [e3.out]; rintro e w9 ⟨A_x1, c_x1, rfl, R_x1, hb⟩; replace R_a := hide (Rd.then_ R_a.out hb); replace R_b := hide (Rd.then_ R_b.out hb); have U10 : Below W.heap.size W w9 := Below.then_ U9 hb; replace B := hide (Below.then_ B.out hb); replace R_x1 := hide R_x1; clear hb; have tok10 : True := trivial; clear _t tok9))
      | (go_at_call 31; (have _t := tok10; (with_reducible refine (rimul_any _ _ _ _ _ _ _ _ _ _ _ _ R_a.out R_b.out (Nat.le_refl _) (by have := L_a.out; have := L_b.out; omega)).mono ?_); rw [e3.out]; rintro e w10 ⟨A_x2, c_x2, rfl, R_x2, hb⟩; replace R_a := hide (Rd.then_ R_a.out hb); replace R_b := hide (Rd.then_ R_b.out hb); replace R_x1 := hide (Rd.then_ R_x1.out hb); have U11 : Below W.heap.size W w10 := Below.then_ U10 hb; replace B := hide (Below.then_ B.out hb); replace R_x2 := hide R_x2; clear hb; have tok11 : True := trivial; clear _t tok10))
      | (go_at_call 14; (have _t := tok11; (with_reducible refine (same_eq _ _ _ _ _ _ _ _ _ _ _ R_x1.out R_x2.out rfl rfl).mono ?_); rintro e w11 ⟨rfl, hb⟩; replace R_a := hide (Rd.then_ R_a.out hb); replace R_b := hide (Rd.then_ R_b.out hb); replace R_x1 := hide (Rd.then_ R_x1.out hb); replace R_x2 := hide (Rd.then_ R_x2.out hb); have U12 : Below W.heap.size W w11 := Below.then_ U11 hb; replace B := hide (Below.then_ B.out hb); clear hb; have tok12 : True := trivial; clear _t tok11; clear R_x1; clear R_x2)))
  clear tok12
  go_wp2_with fail
  refine (idiv_any _ _ _ _ _ _ _ _ _ _ _ _ R_a.out R_b.out (Nat.le_refl _) (by have := L_a.out; omega) hb0.out).mono ?_
  rw [e5.out, e6.out]
  rintro e w12 ⟨A_q1, c_q1, A_r1, c_r1, rfl, R_q1, R_r1, hb⟩
  replace R_a := hide (Rd.then_ R_a.out hb)
  replace R_b := hide (Rd.then_ R_b.out hb)
  have U13 : Below W.heap.size W w12 := Below.then_ U12 hb
  replace B := hide (Below.then_ B.out hb)
  replace R_q1 := hide R_q1
  replace R_r1 := hide R_r1
  clear hb
  have hbx : Below w12.heap.size w12 ((w12.alloc (.cells #[.bool (zneg q), .slice A_q1 (dig (zmag q)).length c_q1] 25)).alloc (.cells #[.bool (zneg r), .slice A_r1 (dig (zmag r)).length c_r1] 25)) := (((Below.refl _ _).alloc (Nat.le_refl _) _).alloc (by simp) _)
  have Ux := Below.then_ U13 hbx
  go_wp2_with fail
  obtain ⟨V13, hV⟩ : ∃ V, V = ((w12.alloc (.cells #[.bool (zneg q), .slice A_q1 (dig (zmag q)).length c_q1] 25)).alloc (.cells #[.bool (zneg r), .slice A_r1 (dig (zmag r)).length c_r1] 25)) := ⟨_, rfl⟩
  obtain ⟨g_q1, hg_q1⟩ : ∃ g, g = w12.heap.size := ⟨_, rfl⟩
  obtain ⟨g_r1, hg_r1⟩ : ∃ g, g = w12.heap.size + 1 := ⟨_, rfl⟩
  rw [← hV]
  rw [← hV] at hbx Ux
  rw [← hg_r1]
  rw [← hg_q1]
  have b_q1 : Box V13 g_q1 (.bool (zneg q)) (.slice A_q1 (dig (zmag q)).length c_q1) := by rw [hV]; exact ((Box.new _ _ _ hg_q1).al _)
  have b_r1 : Box V13 g_r1 (.bool (zneg r)) (.slice A_r1 (dig (zmag r)).length c_r1) := by rw [hV]; exact (Box.new _ _ _ (by rw [hg_r1]; simp))
  clear hV
  clear hg_q1
  clear hg_r1
  replace R_a := hide (Rd.then_ R_a.out hbx)
  replace R_b := hide (Rd.then_ R_b.out hbx)
  replace R_q1 := hide (Rd.then_ R_q1.out hbx)
  replace R_r1 := hide (Rd.then_ R_r1.out hbx)
  have U14 : Below W.heap.size W V13 := Below.then_ U13 hbx
  replace B := hide (Below.then_ B.out hbx)
  clear hbx
  replace b_a := hide (Box.keep b_a.out U14)
  clear c_a0 c_a1
  replace b_b := hide (Box.keep b_b.out U14)
  clear c_b0 c_b1
  replace b_q1 := hide b_q1
  replace b_r1 := hide b_r1
  have U15 : Below V13.heap.size V13 V13 := Below.refl _ _
  have c_a0 := b_a.out.at0 b_a.out.lt_size (Nat.le_refl _)
  have c_a1 := b_a.out.at1 b_a.out.lt_size (Nat.le_refl _)
  have c_b0 := b_b.out.at0 b_b.out.lt_size (Nat.le_refl _)
  have c_b1 := b_b.out.at1 b_b.out.lt_size (Nat.le_refl _)
  have c_q10 := b_q1.out.at0 b_q1.out.lt_size (Nat.le_refl _)
  have c_q11 := b_q1.out.at1 b_q1.out.lt_size (Nat.le_refl _)
  have c_r10 := b_r1.out.at0 b_r1.out.lt_size (Nat.le_refl _)
  have c_r11 := b_r1.out.at1 b_r1.out.lt_size (Nat.le_refl _)
  refine (ridiv_any _ _ _ _ _ _ _ _ _ _ _ _ R_a.out R_b.out (Nat.le_refl _) (by have := L_a.out; have := L_b.out; omega) (by have := L_a.out; omega) hb0.out).mono ?_
  rw [e5.out, e6.out]
  rintro e w13 ⟨A_q2, c_q2, A_r2, c_r2, rfl, R_q2, R_r2, hb⟩
  replace R_a := hide (Rd.then_ R_a.out hb)
  replace R_b := hide (Rd.then_ R_b.out hb)
  replace R_q1 := hide (Rd.then_ R_q1.out hb)
  replace R_r1 := hide (Rd.then_ R_r1.out hb)
  have U16 : Below V13.heap.size V13 w13 := Below.then_ U15 hb
  replace B := hide (Below.then_ B.out hb)
  replace R_q2 := hide R_q2
  replace R_r2 := hide R_r2
  clear hb
  have hbx : Below w13.heap.size w13 ((w13.alloc (.cells #[.bool (zneg q), .slice A_q2 (dig (zmag q)).length c_q2] 25)).alloc (.cells #[.bool (zneg r), .slice A_r2 (dig (zmag r)).length c_r2] 25)) := (((Below.refl _ _).alloc (Nat.le_refl _) _).alloc (by simp) _)
  have Ux := Below.then_ U16 hbx
  go_wp2_with fail
  obtain ⟨V16, hV⟩ : ∃ V, V = ((w13.alloc (.cells #[.bool (zneg q), .slice A_q2 (dig (zmag q)).length c_q2] 25)).alloc (.cells #[.bool (zneg r), .slice A_r2 (dig (zmag r)).length c_r2] 25)) := ⟨_, rfl⟩
  obtain ⟨g_q2, hg_q2⟩ : ∃ g, g = w13.heap.size := ⟨_, rfl⟩
  obtain ⟨g_r2, hg_r2⟩ : ∃ g, g = w13.heap.size + 1 := ⟨_, rfl⟩
  rw [← hV]
  rw [← hV] at hbx Ux
  rw [← hg_r2]
  rw [← hg_q2]
  have b_q2 : Box V16 g_q2 (.bool (zneg q)) (.slice A_q2 (dig (zmag q)).length c_q2) := by rw [hV]; exact ((Box.new _ _ _ hg_q2).al _)
  have b_r2 : Box V16 g_r2 (.bool (zneg r)) (.slice A_r2 (dig (zmag r)).length c_r2) := by rw [hV]; exact (Box.new _ _ _ (by rw [hg_r2]; simp))
  clear hV
  clear hg_q2
  clear hg_r2
  replace R_a := hide (Rd.then_ R_a.out hbx)
  replace R_b := hide (Rd.then_ R_b.out hbx)
  replace R_q1 := hide (Rd.then_ R_q1.out hbx)
  replace R_r1 := hide (Rd.then_ R_r1.out hbx)
  replace R_q2 := hide (Rd.then_ R_q2.out hbx)
  replace R_r2 := hide (Rd.then_ R_r2.out hbx)
  have U17 : Below V13.heap.size V13 V16 := Below.then_ U16 hbx
  replace B := hide (Below.then_ B.out hbx)
  clear hbx
  replace b_a := hide (Box.keep b_a.out U17)
  clear c_a0 c_a1
  replace b_b := hide (Box.keep b_b.out U17)
  clear c_b0 c_b1
  replace b_q1 := hide (Box.keep b_q1.out U17)
  clear c_q10 c_q11
  replace b_r1 := hide (Box.keep b_r1.out U17)
  clear c_r10 c_r11
  replace b_q2 := hide b_q2
  replace b_r2 := hide b_r2
  have U18 : Below V16.heap.size V16 V16 := Below.refl _ _
  have c_a0 := b_a.out.at0 b_a.out.lt_size (Nat.le_refl _)
  have c_a1 := b_a.out.at1 b_a.out.lt_size (Nat.le_refl _)
  have c_b0 := b_b.out.at0 b_b.out.lt_size (Nat.le_refl _)
  have c_b1 := b_b.out.at1 b_b.out.lt_size (Nat.le_refl _)
  have c_q10 := b_q1.out.at0 b_q1.out.lt_size (Nat.le_refl _)
  have c_q11 := b_q1.out.at1 b_q1.out.lt_size (Nat.le_refl _)
  have c_r10 := b_r1.out.at0 b_r1.out.lt_size (Nat.le_refl _)
  have c_r11 := b_r1.out.at1 b_r1.out.lt_size (Nat.le_refl _)
  have c_q20 := b_q2.out.at0 b_q2.out.lt_size (Nat.le_refl _)
  have c_q21 := b_q2.out.at1 b_q2.out.lt_size (Nat.le_refl _)
  have c_r20 := b_r2.out.at0 b_r2.out.lt_size (Nat.le_refl _)
  have c_r21 := b_r2.out.at1 b_r2.out.lt_size (Nat.le_refl _)
  refine (same_eq _ _ _ _ _ _ _ _ _ _ _ R_q1.out R_q2.out rfl rfl).mono ?_
  rintro e w14 ⟨rfl, hb⟩
  replace R_a := hide (Rd.then_ R_a.out hb)
  replace R_b := hide (Rd.then_ R_b.out hb)
  replace R_q1 := hide (Rd.then_ R_q1.out hb)
  replace R_r1 := hide (Rd.then_ R_r1.out hb)
  replace R_q2 := hide (Rd.then_ R_q2.out hb)
  replace R_r2 := hide (Rd.then_ R_r2.out hb)
  have U19 : Below V16.heap.size V16 w14 := Below.then_ U18 hb
  replace B := hide (Below.then_ B.out hb)
  clear hb
  go_wp2_with fail
  refine (same_eq _ _ _ _ _ _ _ _ _ _ _ R_r1.out R_r2.out rfl rfl).mono ?_
  rintro e w15 ⟨rfl, hb⟩
  replace R_a := hide (Rd.then_ R_a.out hb)
  replace R_b := hide (Rd.then_ R_b.out hb)
  replace R_q1 := hide (Rd.then_ R_q1.out hb)
  replace R_r1 := hide (Rd.then_ R_r1.out hb)
  replace R_q2 := hide (Rd.then_ R_q2.out hb)
  replace R_r2 := hide (Rd.then_ R_r2.out hb)
  have U20 : Below V16.heap.size V16 w15 := Below.then_ U19 hb
  replace B := hide (Below.then_ B.out hb)
  clear hb
  go_wp2_with fail
  refine (awake_any _).mono ?_
  rintro e w16 ⟨rfl, hb⟩
  replace R_a := hide (Rd.then_ R_a.out hb)
  replace R_b := hide (Rd.then_ R_b.out hb)
  replace R_q1 := hide (Rd.then_ R_q1.out hb)
  replace R_r1 := hide (Rd.then_ R_r1.out hb)
  replace R_q2 := hide (Rd.then_ R_q2.out hb)
  replace R_r2 := hide (Rd.then_ R_r2.out hb)
  have U21 : Below V16.heap.size V16 w16 := Below.then_ U20 hb
  replace B := hide (Below.then_ B.out hb)
  clear hb
  go_wp2
  go_ret
  exact ⟨rfl, B.out⟩

set_option maxRecDepth 100000 in
set_option maxHeartbeats 4000000 in
theorem arith_walk (w : World) (sa : Bool) (Aa : Option Addr) (na ca : Nat) (xa : List Nat) (sb : Bool) (Ab : Option Addr) (nb cb : Nat) (xb : List Nat) (h_a : Rd w w.heap.size Aa na ca xa) (k_a : na ≤ 35184372087808) (h_b : Rd w w.heap.size Ab nb cb xb) (k_b : nb ≤ 35184372087808) :
    Calls Try.prog 4 #[.agg #[.bool sa, .slice Aa na ca], .agg #[.bool sb, .slice Ab nb cb]] w fun e w' => e = .returned (.bool true) ∧ Below w.heap.size w w' := by
  by_cases h0 : val xb = 0
  · exact arith_zero w sa Aa na ca xa sb Ab nb cb xb h_a k_a h_b k_b h0
  · exact arith_some w sa Aa na ca xa sb Ab nb cb xb h_a k_a h_b k_b h0

end Go.Proofs.Ytjbbapibpcgnhaa

/-
  awake of the laws of span.
-/
import Derived.Test.YtogafnfpncbgiaaLaw5
namespace Go.Proofs.Ytogafnfpncbgiaa
open Go.RowKit


set_option maxHeartbeats 4000000 in
theorem awake_s {w : World}     :
    Calls Try.prog 16 #[] w (RetB w (.bool true)) := by
  obtain ⟨z0, hz0⟩ : ∃ z : Rat, z = (0 : Rat) := ⟨_, rfl⟩
  obtain ⟨z1, hz1⟩ : ∃ z : Rat, z = (1 : Rat) := ⟨_, rfl⟩
  obtain ⟨z2, hz2⟩ : ∃ z : Rat, z = (2 : Rat) := ⟨_, rfl⟩
  obtain ⟨z3, hz3⟩ : ∃ z : Rat, z = (3 : Rat) := ⟨_, rfl⟩
  obtain ⟨zm1, hzm1⟩ : ∃ z : Rat, z = (-1 : Rat) := ⟨_, rfl⟩
  obtain ⟨zm3, hzm3⟩ : ∃ z : Rat, z = (-3 : Rat) := ⟨_, rfl⟩
  obtain ⟨z4, hz4⟩ : ∃ z : Rat, z = (4 : Rat) := ⟨_, rfl⟩
  obtain ⟨zm6, hzm6⟩ : ∃ z : Rat, z = (-6 : Rat) := ⟨_, rfl⟩
  obtain ⟨z8, hz8⟩ : ∃ z : Rat, z = (8 : Rat) := ⟨_, rfl⟩
  obtain ⟨z5, hz5⟩ : ∃ z : Rat, z = (5 : Rat) := ⟨_, rfl⟩
  have lA : rlo (((0 : Int)) : Rat) (((1 : Int)) : Rat) = z0 := by rw [hz0]; decide +kernel
  replace lA := hide lA
  have uA : rhi (((0 : Int)) : Rat) (((1 : Int)) : Rat) = z1 := by rw [hz1]; decide +kernel
  replace uA := hide uA
  have lB : rlo (((2 : Int)) : Rat) (((1 : Int)) : Rat) = z1 := by rw [hz1]; decide +kernel
  replace lB := hide lB
  have uB : rhi (((2 : Int)) : Rat) (((1 : Int)) : Rat) = z2 := by rw [hz2]; decide +kernel
  replace uB := hide uB
  have lC : rlo (((0 : Int)) : Rat) (((1 : Int)) : Rat) = z0 := by rw [hz0]; decide +kernel
  replace lC := hide lC
  have uC : rhi (((0 : Int)) : Rat) (((1 : Int)) : Rat) = z1 := by rw [hz1]; decide +kernel
  replace uC := hide uC
  have lD : rlo (((3 : Int)) : Rat) (((2 : Int)) : Rat) = z2 := by rw [hz2]; decide +kernel
  replace lD := hide lD
  have uD : rhi (((3 : Int)) : Rat) (((2 : Int)) : Rat) = z3 := by rw [hz3]; decide +kernel
  replace uD := hide uD
  have lE : rlo (((2 : Int)) : Rat) (((-1 : Int)) : Rat) = zm1 := by rw [hzm1]; decide +kernel
  replace lE := hide lE
  have uE : rhi (((2 : Int)) : Rat) (((-1 : Int)) : Rat) = z2 := by rw [hz2]; decide +kernel
  replace uE := hide uE
  have lG : rlo (((-3 : Int)) : Rat) (((4 : Int)) : Rat) = zm3 := by rw [hzm3]; decide +kernel
  replace lG := hide lG
  have uG : rhi (((-3 : Int)) : Rat) (((4 : Int)) : Rat) = z4 := by rw [hz4]; decide +kernel
  replace uG := hide uG
  have lH : rlo (((-6 : Int)) : Rat) (((8 : Int)) : Rat) = zm6 := by rw [hzm6]; decide +kernel
  replace lH := hide lH
  have uH : rhi (((-6 : Int)) : Rat) (((8 : Int)) : Rat) = z8 := by rw [hz8]; decide +kernel
  replace uH := hide uH
  have lI : rlo (((1 : Int)) : Rat) (((1 : Int)) : Rat) = z1 := by rw [hz1]; decide +kernel
  replace lI := hide lI
  have uI : rhi (((1 : Int)) : Rat) (((1 : Int)) : Rat) = z1 := by rw [hz1]; decide +kernel
  replace uI := hide uI
  have lJ : rlo (((0 : Int)) : Rat) (((1 : Int)) : Rat) = z0 := by rw [hz0]; decide +kernel
  replace lJ := hide lJ
  have uJ : rhi (((0 : Int)) : Rat) (((1 : Int)) : Rat) = z1 := by rw [hz1]; decide +kernel
  replace uJ := hide uJ
  have lK : rlo (((2 : Int)) : Rat) (((3 : Int)) : Rat) = z2 := by rw [hz2]; decide +kernel
  replace lK := hide lK
  have uK : rhi (((2 : Int)) : Rat) (((3 : Int)) : Rat) = z3 := by rw [hz3]; decide +kernel
  replace uK := hide uK
  have lM : rlo (((4 : Int)) : Rat) (((-1 : Int)) : Rat) = zm1 := by rw [hzm1]; decide +kernel
  replace lM := hide lM
  have uM : rhi (((4 : Int)) : Rat) (((-1 : Int)) : Rat) = z4 := by rw [hz4]; decide +kernel
  replace uM := hide uM
  have k1 : rord z0 z1 z1 z2 = 0 := by rw [hz0, hz1, hz2]; decide +kernel
  replace k1 := hide k1
  have k1l : rhi (rlo z0 z1) (rlo z1 z2) = z1 := by rw [hz0, hz1, hz2]; decide +kernel
  replace k1l := hide k1l
  have k1h : rlo (rhi z0 z1) (rhi z1 z2) = z1 := by rw [hz0, hz1, hz2]; decide +kernel
  replace k1h := hide k1h
  have k2 : rord z0 z1 z2 z3 = -1 := by rw [hz0, hz1, hz2, hz3]; decide +kernel
  replace k2 := hide k2
  have m1 : mn4 (zm1 * zm3) (zm1 * z4) (z2 * zm3) (z2 * z4) = zm6 := by rw [hzm1, hzm3, hz4, hz2, hzm6]; decide +kernel
  replace m1 := hide m1
  have m2 : mx4 (zm1 * zm3) (zm1 * z4) (z2 * zm3) (z2 * z4) = z8 := by rw [hzm1, hzm3, hz4, hz2, hz8]; decide +kernel
  replace m2 := hide m2
  have d1 : rhi zm1 z4 - rlo zm1 z4 = z5 := by rw [hzm1, hz4, hz5]; decide +kernel
  replace d1 := hide d1
  have s5 : qstr z5 = ⟨#[53]⟩ := by rw [hz5]; exact qstr5
  replace s5 := hide s5
  clear hz0 hz1 hz2 hz3 hzm1 hzm3 hz4 hzm6 hz8 hz5
  have B := hide (Below.refl w.heap.size w)
  have U0 : Below w.heap.size w w := Below.refl _ _
  go_enter Try.func16, Try.ntmps16
  go_wp2_with fail
  refine (whole_any (x := 0) (y := 1) (by omega) (by omega) (by omega) (by omega) lA.out uA.out).mono ?_
  rintro e w1 ⟨x_A0, x_A1, rfl, R_A0, R_A1, hb⟩
  have U1 : Below w.heap.size w w1 := Below.then_ U0 hb
  replace B := hide (Below.then_ B.out hb)
  replace R_A0 := hide R_A0
  replace R_A1 := hide R_A1
  clear hb
  go_wp2_with fail
  refine (whole_any (x := 2) (y := 1) (by omega) (by omega) (by omega) (by omega) lB.out uB.out).mono ?_
  rintro e w2 ⟨x_B0, x_B1, rfl, R_B0, R_B1, hb⟩
  replace R_A0 := hide (R_A0.out.then_ hb)
  replace R_A1 := hide (R_A1.out.then_ hb)
  have U2 : Below w.heap.size w w2 := Below.then_ U1 hb
  replace B := hide (Below.then_ B.out hb)
  replace R_B0 := hide R_B0
  replace R_B1 := hide R_B1
  clear hb
  go_wp2_with fail
  refine (meet_yes (L := 3) (by omega) R_A0.out.rq R_A1.out.rq R_B0.out.rq R_B1.out.rq (Nat.le_refl _) k1.out k1l.out k1h.out).mono ?_
  rintro e w3 ⟨x_m0, x_m1, rfl, R_m0, R_m1, hb⟩
  replace R_A0 := hide (R_A0.out.then_ hb)
  replace R_A1 := hide (R_A1.out.then_ hb)
  replace R_B0 := hide (R_B0.out.then_ hb)
  replace R_B1 := hide (R_B1.out.then_ hb)
  have U3 : Below w.heap.size w w3 := Below.then_ U2 hb
  replace B := hide (Below.then_ B.out hb)
  replace R_m0 := hide R_m0
  replace R_m1 := hide R_m1
  clear hb
  have hbx : Below w3.heap.size w3 (w3.alloc (.cells #[.bool x_m0.s, .slice x_m0.A x_m0.n x_m0.c, .slice x_m0.B x_m0.m x_m0.d, .bool x_m1.s, .slice x_m1.A x_m1.n x_m1.c, .slice x_m1.B x_m1.m x_m1.d] 29)) := ((Below.refl _ _).alloc (Nat.le_refl _) _)
  have Ux := Below.then_ U3 hbx
  go_wp2_with fail
  obtain ⟨V3, hV⟩ : ∃ V, V = (w3.alloc (.cells #[.bool x_m0.s, .slice x_m0.A x_m0.n x_m0.c, .slice x_m0.B x_m0.m x_m0.d, .bool x_m1.s, .slice x_m1.A x_m1.n x_m1.c, .slice x_m1.B x_m1.m x_m1.d] 29)) := ⟨_, rfl⟩
  obtain ⟨g_m, hg_m⟩ : ∃ g, g = w3.heap.size := ⟨_, rfl⟩
  rw [← hV]
  rw [← hV] at hbx Ux
  rw [← hg_m]
  have b_m : Box6 V3 g_m (.bool x_m0.s) (.slice x_m0.A x_m0.n x_m0.c) (.slice x_m0.B x_m0.m x_m0.d) (.bool x_m1.s) (.slice x_m1.A x_m1.n x_m1.c) (.slice x_m1.B x_m1.m x_m1.d) := by rw [hV]; exact (Box6.new _ _ _ _ _ _ _ hg_m)
  clear hV
  have ge_m : w.heap.size ≤ g_m := by have := B.out.size; omega
  replace ge_m := hide ge_m
  clear hg_m
  replace R_A0 := hide (R_A0.out.then_ hbx)
  replace R_A1 := hide (R_A1.out.then_ hbx)
  replace R_B0 := hide (R_B0.out.then_ hbx)
  replace R_B1 := hide (R_B1.out.then_ hbx)
  replace R_m0 := hide (R_m0.out.then_ hbx)
  replace R_m1 := hide (R_m1.out.then_ hbx)
  have U4 : Below w.heap.size w V3 := Below.then_ U3 hbx
  replace B := hide (Below.then_ B.out hbx)
  clear hbx
  replace b_m := hide b_m
  have U5 : Below V3.heap.size V3 V3 := Below.refl _ _
  have c_m0 := b_m.out.at0 b_m.out.lt_size (Nat.le_refl _)
  have c_m1 := b_m.out.at1 b_m.out.lt_size (Nat.le_refl _)
  have c_m2 := b_m.out.at2 b_m.out.lt_size (Nat.le_refl _)
  have c_m3 := b_m.out.at3 b_m.out.lt_size (Nat.le_refl _)
  have c_m4 := b_m.out.at4 b_m.out.lt_size (Nat.le_refl _)
  have c_m5 := b_m.out.at5 b_m.out.lt_size (Nat.le_refl _)
  clear R_A0
  clear R_A1
  clear R_B0
  clear R_B1
  refine (whole_any (x := 0) (y := 1) (by omega) (by omega) (by omega) (by omega) lC.out uC.out).mono ?_
  rintro e w4 ⟨x_C0, x_C1, rfl, R_C0, R_C1, hb⟩
  replace R_m0 := hide (R_m0.out.then_ hb)
  replace R_m1 := hide (R_m1.out.then_ hb)
  have U6 : Below V3.heap.size V3 w4 := Below.then_ U5 hb
  replace B := hide (Below.then_ B.out hb)
  replace R_C0 := hide R_C0
  replace R_C1 := hide R_C1
  clear hb
  go_wp2_with fail
  refine (whole_any (x := 3) (y := 2) (by omega) (by omega) (by omega) (by omega) lD.out uD.out).mono ?_
  rintro e w5 ⟨x_D0, x_D1, rfl, R_D0, R_D1, hb⟩
  replace R_m0 := hide (R_m0.out.then_ hb)
  replace R_m1 := hide (R_m1.out.then_ hb)
  replace R_C0 := hide (R_C0.out.then_ hb)
  replace R_C1 := hide (R_C1.out.then_ hb)
  have U7 : Below V3.heap.size V3 w5 := Below.then_ U6 hb
  replace B := hide (Below.then_ B.out hb)
  replace R_D0 := hide R_D0
  replace R_D1 := hide R_D1
  clear hb
  go_wp2_with fail
  refine (meet_no (L := 3) (by omega) R_C0.out.rq R_C1.out.rq R_D0.out.rq R_D1.out.rq (Nat.le_refl _) k2.out (by omega)).mono ?_
  rintro e w6 ⟨rfl, hb⟩
  replace R_m0 := hide (R_m0.out.then_ hb)
  replace R_m1 := hide (R_m1.out.then_ hb)
  replace R_C0 := hide (R_C0.out.then_ hb)
  replace R_C1 := hide (R_C1.out.then_ hb)
  replace R_D0 := hide (R_D0.out.then_ hb)
  replace R_D1 := hide (R_D1.out.then_ hb)
  have U8 : Below V3.heap.size V3 w6 := Below.then_ U7 hb
  replace B := hide (Below.then_ B.out hb)
  clear hb
  have hbx : Below w6.heap.size w6 (w6.alloc (.cells #[.bool false, .slice none 0 0, .slice none 0 0, .bool false, .slice none 0 0, .slice none 0 0] 29)) := Below.al_ (Below.refl _ _) _
  clear R_C0
  clear R_C1
  clear R_D0
  clear R_D1
  go_wp2_with fail
  obtain ⟨V8, hV⟩ : ∃ V, V = (w6.alloc (.cells #[.bool false, .slice none 0 0, .slice none 0 0, .bool false, .slice none 0 0, .slice none 0 0] 29)) := ⟨_, rfl⟩
  rw [← hV]
  rw [← hV] at hbx
  clear hV
  replace R_m0 := hide (R_m0.out.then_ hbx)
  replace R_m1 := hide (R_m1.out.then_ hbx)
  have U9 : Below V3.heap.size V3 V8 := Below.then_ U8 hbx
  replace B := hide (Below.then_ B.out hbx)
  clear hbx
  replace b_m := hide (Box6.keep b_m.out U9)
  clear c_m0 c_m1 c_m2 c_m3 c_m4 c_m5
  have U10 : Below V8.heap.size V8 V8 := Below.refl _ _
  have c_m0 := b_m.out.at0 b_m.out.lt_size (Nat.le_refl _)
  have c_m1 := b_m.out.at1 b_m.out.lt_size (Nat.le_refl _)
  have c_m2 := b_m.out.at2 b_m.out.lt_size (Nat.le_refl _)
  have c_m3 := b_m.out.at3 b_m.out.lt_size (Nat.le_refl _)
  have c_m4 := b_m.out.at4 b_m.out.lt_size (Nat.le_refl _)
  have c_m5 := b_m.out.at5 b_m.out.lt_size (Nat.le_refl _)
  have hd := Below.drw_ V8
  replace R_m0 := hide (R_m0.out.then_ hd)
  replace R_m1 := hide (R_m1.out.then_ hd)
  have U11 : Below V8.heap.size V8 (V8.drew) := Below.then_ U10 hd
  replace B := hide (Below.then_ B.out hd)
  clear hd
  have tok1 : True := trivial
  go_region_held3 (fun w' => Below V8.heap.size V8 w') (assumption)
    (first
      | (go_at_call 38; (have _t := tok1; (with_reducible refine (whole_any (x := 2) (y := -1) (by omega) (by omega) (by omega) (by omega) lE.out uE.out).mono ?_); rintro e w7 ⟨x_E0, x_E1, rfl, R_E0, R_E1, hb⟩; replace R_m0 := hide (R_m0.out.then_ hb); replace R_m1 := hide (R_m1.out.then_ hb); have U12 : Below V8.heap.size V8 w7 := Below.then_ U11 hb; replace B := hide (Below.then_ B.out hb); replace R_E0 := hide R_E0; replace R_E1 := hide R_E1; clear hb; have tok2 : True := trivial; clear _t tok1))
      | (go_at_call 38; (have _t := tok2; (with_reducible refine (whole_any (x := -3) (y := 4) (by omega) (by omega) (by omega) (by omega) lG.out uG.out).mono ?_); rintro e w8 ⟨x_G0, x_G1, rfl, R_G0, R_G1, hb⟩; replace R_m0 := hide (R_m0.out.then_ hb); replace R_m1 := hide (R_m1.out.then_ hb); replace R_E0 := hide (R_E0.out.then_ hb); replace R_E1 := hide (R_E1.out.then_ hb); have U13 : Below V8.heap.size V8 w8 := Below.then_ U12 hb; replace B := hide (Below.then_ B.out hb); replace R_G0 := hide R_G0; replace R_G1 := hide R_G1; clear hb; have tok3 : True := trivial; clear _t tok2))
      | (go_at_call 13; (have _t := tok3; (with_reducible refine (smul_any (L := 3) (by omega) R_E0.out.rq R_E1.out.rq R_G0.out.rq R_G1.out.rq (Nat.le_refl _) m1.out m2.out).mono ?_); rintro e w9 ⟨x_s0, x_s1, rfl, R_s0, R_s1, hb⟩; replace R_m0 := hide (R_m0.out.then_ hb); replace R_m1 := hide (R_m1.out.then_ hb); replace R_E0 := hide (R_E0.out.then_ hb); replace R_E1 := hide (R_E1.out.then_ hb); replace R_G0 := hide (R_G0.out.then_ hb); replace R_G1 := hide (R_G1.out.then_ hb); have U14 : Below V8.heap.size V8 w9 := Below.then_ U13 hb; replace B := hide (Below.then_ B.out hb); replace R_s0 := hide R_s0; replace R_s1 := hide R_s1; clear hb; have tok4 : True := trivial; clear _t tok3))
      | (go_at_call 38; (have _t := tok4; (with_reducible refine (whole_any (x := -6) (y := 8) (by omega) (by omega) (by omega) (by omega) lH.out uH.out).mono ?_); rintro e w10 ⟨x_H0, x_H1, rfl, R_H0, R_H1, hb⟩; replace R_m0 := hide (R_m0.out.then_ hb); replace R_m1 := hide (R_m1.out.then_ hb); replace R_E0 := hide (R_E0.out.then_ hb); replace R_E1 := hide (R_E1.out.then_ hb); replace R_G0 := hide (R_G0.out.then_ hb); replace R_G1 := hide (R_G1.out.then_ hb); replace R_s0 := hide (R_s0.out.then_ hb); replace R_s1 := hide (R_s1.out.then_ hb); have U15 : Below V8.heap.size V8 w10 := Below.then_ U14 hb; replace B := hide (Below.then_ B.out hb); replace R_H0 := hide R_H0; replace R_H1 := hide R_H1; clear hb; have tok5 : True := trivial; clear _t tok4))
      | (go_at_call 21; (have _t := tok5; (with_reducible refine (same_s (L := 8) (by omega) R_s0.out R_s1.out (R_H0.out.le (by omega)) (R_H1.out.le (by omega)) (Nat.le_refl _) rfl rfl).mono ?_); rintro e w11 ⟨rfl, hb⟩; replace R_m0 := hide (R_m0.out.then_ hb); replace R_m1 := hide (R_m1.out.then_ hb); replace R_E0 := hide (R_E0.out.then_ hb); replace R_E1 := hide (R_E1.out.then_ hb); replace R_G0 := hide (R_G0.out.then_ hb); replace R_G1 := hide (R_G1.out.then_ hb); replace R_s0 := hide (R_s0.out.then_ hb); replace R_s1 := hide (R_s1.out.then_ hb); replace R_H0 := hide (R_H0.out.then_ hb); replace R_H1 := hide (R_H1.out.then_ hb); have U16 : Below V8.heap.size V8 w11 := Below.then_ U15 hb; replace B := hide (Below.then_ B.out hb); clear hb; have tok6 : True := trivial; clear _t tok5; clear R_E0; clear R_E1; clear R_G0; clear R_G1; clear R_H0; clear R_H1; clear R_s0; clear R_s1))
      | (go_at_call 38; (have _t := tok6; (with_reducible refine (whole_any (x := 1) (y := 1) (by omega) (by omega) (by omega) (by omega) lI.out uI.out).mono ?_); rintro e w12 ⟨x_I0, x_I1, rfl, R_I0, R_I1, hb⟩; replace R_m0 := hide (R_m0.out.then_ hb); replace R_m1 := hide (R_m1.out.then_ hb); have U17 : Below V8.heap.size V8 w12 := Below.then_ U16 hb; replace B := hide (Below.then_ B.out hb); replace R_I0 := hide R_I0; replace R_I1 := hide R_I1; clear hb; have tok7 : True := trivial; clear _t tok6))
      | (go_at_call 21; (have _t := tok7; (with_reducible refine (same_s (L := 4) (by omega) R_m0.out R_m1.out (R_I0.out.le (by omega)) (R_I1.out.le (by omega)) (Nat.le_refl _) rfl rfl).mono ?_); rintro e w13 ⟨rfl, hb⟩; replace R_m0 := hide (R_m0.out.then_ hb); replace R_m1 := hide (R_m1.out.then_ hb); replace R_I0 := hide (R_I0.out.then_ hb); replace R_I1 := hide (R_I1.out.then_ hb); have U18 : Below V8.heap.size V8 w13 := Below.then_ U17 hb; replace B := hide (Below.then_ B.out hb); clear hb; have tok8 : True := trivial; clear _t tok7; clear R_I0; clear R_I1; clear R_m0; clear R_m1))
      | (go_at_call 38; (have _t := tok8; (with_reducible refine (whole_any (x := 0) (y := 1) (by omega) (by omega) (by omega) (by omega) lJ.out uJ.out).mono ?_); rintro e w14 ⟨x_J0, x_J1, rfl, R_J0, R_J1, hb⟩; have U19 : Below V8.heap.size V8 w14 := Below.then_ U18 hb; replace B := hide (Below.then_ B.out hb); replace R_J0 := hide R_J0; replace R_J1 := hide R_J1; clear hb; have tok9 : True := trivial; clear _t tok8))
      | (go_at_call 38; (have _t := tok9; (with_reducible refine (whole_any (x := 2) (y := 3) (by omega) (by omega) (by omega) (by omega) lK.out uK.out).mono ?_); rintro e w15 ⟨x_K0, x_K1, rfl, R_K0, R_K1, hb⟩; replace R_J0 := hide (R_J0.out.then_ hb); replace R_J1 := hide (R_J1.out.then_ hb); have U20 : Below V8.heap.size V8 w15 := Below.then_ U19 hb; replace B := hide (Below.then_ B.out hb); replace R_K0 := hide R_K0; replace R_K1 := hide R_K1; clear hb; have tok10 : True := trivial; clear _t tok9))
      | (go_at_call 18; (have _t := tok10; (with_reducible refine (order_any (L := 3) (by omega) R_J0.out.rq R_J1.out.rq R_K0.out.rq R_K1.out.rq (Nat.le_refl _) k2.out).mono ?_); rintro e w16 ⟨rfl, hb⟩; replace R_J0 := hide (R_J0.out.then_ hb); replace R_J1 := hide (R_J1.out.then_ hb); replace R_K0 := hide (R_K0.out.then_ hb); replace R_K1 := hide (R_K1.out.then_ hb); have U21 : Below V8.heap.size V8 w16 := Below.then_ U20 hb; replace B := hide (Below.then_ B.out hb); clear hb; have tok11 : True := trivial; clear _t tok10; clear R_J0; clear R_J1; clear R_K0; clear R_K1))
      | (go_at_call 38; (have _t := tok11; (with_reducible refine (whole_any (x := 4) (y := -1) (by omega) (by omega) (by omega) (by omega) lM.out uM.out).mono ?_); rintro e w17 ⟨x_M0, x_M1, rfl, R_M0, R_M1, hb⟩; have U22 : Below V8.heap.size V8 w17 := Below.then_ U21 hb; replace B := hide (Below.then_ B.out hb); replace R_M0 := hide R_M0; replace R_M1 := hide R_M1; clear hb; have tok12 : True := trivial; clear _t tok11))
      | (go_at_call 22; (have _t := tok12; (with_reducible refine (width_any (L := 3) (by omega) R_M0.out.rq R_M1.out.rq (Nat.le_refl _) d1.out).mono ?_); rintro e w18 ⟨x_d, rfl, R_d, hb⟩; replace R_M0 := hide (R_M0.out.then_ hb); replace R_M1 := hide (R_M1.out.then_ hb); have U23 : Below V8.heap.size V8 w18 := Below.then_ U22 hb; replace B := hide (Below.then_ B.out hb); replace R_d := hide R_d; clear hb; have tok13 : True := trivial; clear _t tok12))
      | (go_at_call 39; (have _t := tok13; (with_reducible refine (print_q R_d.out.rq (by omega) (Nat.le_refl _) s5.out).mono ?_); rintro e w19 ⟨rfl, hb⟩; replace R_M0 := hide (R_M0.out.then_ hb); replace R_M1 := hide (R_M1.out.then_ hb); replace R_d := hide (R_d.out.then_ hb); have U24 : Below V8.heap.size V8 w19 := Below.then_ U23 hb; replace B := hide (Below.then_ B.out hb); clear hb; have tok14 : True := trivial; clear _t tok13)))
  clear tok14
  go_wp2
  go_ret
  exact ⟨rfl, B.out⟩

end Go.Proofs.Ytogafnfpncbgiaa

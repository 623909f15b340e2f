/-
  RatioFloor.
-/
import Derived.Test.YtieopcchchebgaaLaw3
namespace Go.Proofs.Ytieopcchchebgaa
open Go.RowKit


theorem floor_lt {q : Rat} {f : Int} {i : Nat} (h : (dig (zmag q.num)).length ≤ i ∧ (dig q.den).length ≤ i) (hf : q.floor = f) : zmag f < pw i := by
  obtain ⟨h1, _, _⟩ := sz_lt h
  refine Nat.lt_of_le_of_lt ?_ h1
  rw [← hf, Rat.floor_def]
  exact Int.natAbs_ediv_le_natAbs _ _

set_option maxHeartbeats 4000000 in
theorem floor_walk {w : World} {Bd : Nat} {A_a : Option Addr} {n_a c_a : Nat} {x_a : List Nat} {s_a : Bool} {A_ad : Option Addr} {n_ad c_ad : Nat} {x_ad : List Nat} (h_a : Rd w Bd A_a n_a c_a x_a) (g_a : n_a ≤ 40) (h_ad : Rd w Bd A_ad n_ad c_ad x_ad) (g_ad : n_ad ≤ 40) (hB : Bd ≤ w.heap.size)  :
    Calls Try.prog 10 #[.agg #[.bool s_a, .slice A_a n_a c_a, .slice A_ad n_ad c_ad]] w (RetB w (.bool true)) := by
  obtain ⟨q_a, e_a⟩ : ∃ v, qv s_a (val x_a) (val x_ad) = v := ⟨_, rfl⟩
  replace e_a := hide e_a
  have s_aq : (dig (zmag q_a.num)).length ≤ 41 ∧ (dig q_a.den).length ≤ 41 := sz_rd h_a h_ad e_a.out g_a g_ad
  replace s_aq := hide s_aq
  have b_al : n_a ≤ 1000000000 ∧ n_ad ≤ 1000000000 := ⟨Nat.le_trans g_a (by omega), Nat.le_trans g_ad (by omega)⟩
  replace b_al := hide b_al
  obtain ⟨f, e_f⟩ : ∃ v, q_a.floor = v := ⟨_, rfl⟩
  replace e_f := hide e_f
  have e_fc : (qv s_a (val x_a) (val x_ad)).floor = f := by rw [e_a.out]; exact e_f.out
  replace e_fc := hide e_fc
  obtain ⟨h, e_h⟩ : ∃ v, iv (zneg f) (val (dig (zmag f))) + iv (zneg 1) (val (dig (zmag 1))) = v := ⟨_, rfl⟩
  replace e_h := hide e_h
  have e_h1 : f + 1 = h := by rw [← e_h.out, ivz, ivz]
  replace e_h1 := hide e_h1
  have lf : zmag f < pw 41 := floor_lt s_aq.out e_f.out
  have lh : zmag h < pw 42 := by rw [← e_h1.out]; exact zl_add (j := 41) lf (by unfold zmag; exact Nat.lt_of_lt_of_le (show Int.natAbs 1 < pw 1 by decide) (pw_mono (by omega)))
  have gf : (dig (zmag f)).length ≤ 10000000000 := Nat.le_trans (zl lf) (by omega)
  replace gf := hide gf
  have gh : (dig (zmag h)).length ≤ 10000000000 := Nat.le_trans (zl lh) (by omega)
  replace gh := hide gh
  have g1 : (dig (zmag 1)).length ≤ 10000000000 := by rw [show zmag 1 = 1 from rfl, dig_one]; exact (by omega : 1 ≤ 10000000000)
  replace g1 := hide g1
  have gf1 : (dig (zmag f)).length + 1 ≤ 70368744177664 := by have := zl lf; omega
  replace gf1 := hide gf1
  have g11 : (dig (zmag 1)).length + 1 ≤ 70368744177664 := by have := g1.out; omega
  replace g11 := hide g11
  obtain ⟨q_lo, e_lo⟩ : ∃ v, Rat.divInt (iv (zneg f) (val (dig (zmag f)))) (iv (zneg 1) (val (dig (zmag 1)))) = v := ⟨_, rfl⟩
  replace e_lo := hide e_lo
  have r_lo : q_lo = (f : Rat) := by rw [← e_lo.out, ivz, ivz, divInt_one]
  replace r_lo := hide r_lo
  have s_loq : (dig (zmag q_lo.num)).length ≤ 42 ∧ (dig q_lo.den).length ≤ 42 := sz_divInt (i := 42) e_lo.out (by rw [ivz]; exact pw_le (by omega) lf) (by rw [ivz]; unfold zmag; exact Nat.lt_of_lt_of_le (show Int.natAbs 1 < pw 1 by decide) (pw_mono (by omega))) (by omega)
  replace s_loq := hide s_loq
  obtain ⟨q_hi, e_hi⟩ : ∃ v, Rat.divInt (iv (zneg h) (val (dig (zmag h)))) (iv (zneg 1) (val (dig (zmag 1)))) = v := ⟨_, rfl⟩
  replace e_hi := hide e_hi
  have r_hi : q_hi = (h : Rat) := by rw [← e_hi.out, ivz, ivz, divInt_one]
  replace r_hi := hide r_hi
  have s_hiq : (dig (zmag q_hi.num)).length ≤ 42 ∧ (dig q_hi.den).length ≤ 42 := sz_divInt (i := 42) e_hi.out (by rw [ivz]; exact lh) (by rw [ivz]; unfold zmag; exact Nat.lt_of_lt_of_le (show Int.natAbs 1 < pw 1 by decide) (pw_mono (by omega))) (by omega)
  replace s_hiq := hide s_hiq
  have e_ok : decide (iv (zneg 1) (val (dig (zmag 1))) ≠ 0) = true := by rw [ivz]; decide
  replace e_ok := hide e_ok
  obtain ⟨k1, e_k1⟩ : ∃ v, sgn (q_lo - q_a).num = v := ⟨_, rfl⟩
  replace e_k1 := hide e_k1
  have e_k1c : sgn (qv (zneg q_lo.num) (val (dig (zmag q_lo.num))) (val (dig q_lo.den)) - qv s_a (val x_a) (val x_ad)).num = k1 := by rw [qv_eta q_lo, e_a.out]; exact e_k1.out
  replace e_k1c := hide e_k1c
  obtain ⟨k2, e_k2⟩ : ∃ v, sgn (q_a - q_hi).num = v := ⟨_, rfl⟩
  replace e_k2 := hide e_k2
  have e_k2c : sgn (qv s_a (val x_a) (val x_ad) - qv (zneg q_hi.num) (val (dig (zmag q_hi.num))) (val (dig q_hi.den))).num = k2 := by rw [e_a.out, qv_eta q_hi]; exact e_k2.out
  replace e_k2c := hide e_k2c
  have hk1 : decide (k1 ≤ 0) = true := decide_eq_true (by rw [← e_k1.out, r_lo.out, ← e_f.out]; exact sgn_le (Rat.floor_le _))
  have hk2 : decide (k2 < 0) = true := decide_eq_true (by rw [← e_k2.out, r_hi.out, ← e_h1.out, ← e_f.out]; exact sgn_lt (Rat.lt_floor_add_one q_a))
  clear lf lh
  obtain ⟨W, hW⟩ : ∃ W, W = (w.alloc (.cells #[.bool s_a, .slice A_a n_a c_a, .slice A_ad n_ad c_ad] 27)) := ⟨_, rfl⟩
  have b_a : Box3 W (w.heap.size) (.bool s_a) (.slice A_a n_a c_a) (.slice A_ad n_ad c_ad) := by rw [hW]; exact (Box3.new w _ _ _ rfl)
  have hwW : Below w.heap.size w W := by rw [hW]; exact ((Below.refl _ _).alloc (Nat.le_refl _) _)
  have R_a := hide (Rd.upto h_a hwW hB)
  clear h_a
  have R_ad := hide (Rd.upto h_ad hwW hB)
  clear h_ad
  have B := hide hwW
  clear hwW
  clear hB
  have U0 : Below W.heap.size W W := Below.refl _ _
  have c_a0 := b_a.at0 b_a.lt_size (Nat.le_refl _)
  have c_a1 := b_a.at1 b_a.lt_size (Nat.le_refl _)
  have c_a2 := b_a.at2 b_a.lt_size (Nat.le_refl _)
  replace b_a := hide b_a
  go_enter Try.func10, Try.ntmps10
  go_wp2_with fail
  rw [← hW]
  clear hW
  refine (large_no g_a g_ad).mono ?_
  rintro e w1 ⟨rfl, hb⟩
  replace R_a := hide (Rd.then_ R_a.out hb)
  replace R_ad := hide (Rd.then_ R_ad.out hb)
  have U1 : Below W.heap.size W w1 := Below.then_ U0 hb
  replace B := hide (Below.then_ B.out hb)
  clear hb
  go_wp2_with fail
  refine (iof_any _ 1 (by omega) (by omega)).mono ?_
  rintro e w2 ⟨A_one, c_one, rfl, R_one, hb⟩
  replace R_a := hide (Rd.then_ R_a.out hb)
  replace R_ad := hide (Rd.then_ R_ad.out hb)
  have U2 : Below W.heap.size W w2 := Below.then_ U1 hb
  replace B := hide (Below.then_ B.out hb)
  replace R_one := hide R_one
  clear hb
  have hbx : Below w2.heap.size w2 (w2.alloc (.cells #[.bool (zneg 1), .slice A_one (dig (zmag 1)).length c_one] 25)) := ((Below.refl _ _).alloc (Nat.le_refl _) _)
  have Ux := Below.then_ U2 hbx
  go_wp2_with fail
  obtain ⟨V2, hV⟩ : ∃ V, V = (w2.alloc (.cells #[.bool (zneg 1), .slice A_one (dig (zmag 1)).length c_one] 25)) := ⟨_, rfl⟩
  obtain ⟨g_one, hg_one⟩ : ∃ g, g = w2.heap.size := ⟨_, rfl⟩
  rw [← hV]
  rw [← hV] at hbx Ux
  rw [← hg_one]
  have b_one : Box V2 g_one (.bool (zneg 1)) (.slice A_one (dig (zmag 1)).length c_one) := by rw [hV]; exact (Box.new _ _ _ hg_one)
  clear hV
  have ne_a_one : w.heap.size ≠ g_one := by have := (b_a.out.lt b_a.out.lt_size (Nat.le_refl _)) _ U2; omega
  replace ne_a_one := hide ne_a_one
  have ge_one : w.heap.size ≤ g_one := by have := B.out.size; omega
  replace ge_one := hide ge_one
  clear hg_one
  replace R_a := hide (Rd.then_ R_a.out hbx)
  replace R_ad := hide (Rd.then_ R_ad.out hbx)
  replace R_one := hide (Rd.then_ R_one.out hbx)
  have U3 : Below W.heap.size W V2 := Below.then_ U2 hbx
  replace B := hide (Below.then_ B.out hbx)
  clear hbx
  replace b_a := hide (Box3.keep b_a.out U3)
  clear c_a0 c_a1 c_a2
  replace b_one := hide b_one
  have U4 : Below V2.heap.size V2 V2 := Below.refl _ _
  have c_a0 := b_a.out.at0 b_a.out.lt_size (Nat.le_refl _)
  have c_a1 := b_a.out.at1 b_a.out.lt_size (Nat.le_refl _)
  have c_a2 := b_a.out.at2 b_a.out.lt_size (Nat.le_refl _)
  have c_one0 := b_one.out.at0 b_one.out.lt_size (Nat.le_refl _)
  have c_one1 := b_one.out.at1 b_one.out.lt_size (Nat.le_refl _)
  refine Code.wp_mono (Q := fun e a' w' => e = .normal ∧ ∃ (g : Nat) (A : Option Addr) (c : Nat) (B : Option Addr) (d : Nat) (v8 v9 v10 v11 v12 v13 v14 v15 v16 v17 : Value), a' = ⟨#[.agg #[.bool s_a, .slice A_a n_a c_a, .slice A_ad n_ad c_ad], (.pointer (some ⟨w.heap.size, 0, none⟩)), .bool false, (.pointer (some ⟨g_one, 0, none⟩)), (.pointer (some ⟨g, 0, none⟩)), .bool true, undef, undef, v8, v9, v10, v11, v12, v13, v14, v15, v16, v17, undef, undef, undef, undef, undef, undef, undef, undef, undef, undef, undef, undef, undef, undef, undef, undef, undef, undef, undef, undef, undef, undef, undef, undef, undef], []⟩ ∧ LandedR V2 w' g q_lo A c B d) ?_ ?_
  rotate_left
  · skip
    have hd := Below.drw_ V2
    replace R_a := hide (Rd.then_ R_a.out hd)
    replace R_ad := hide (Rd.then_ R_ad.out hd)
    replace R_one := hide (Rd.then_ R_one.out hd)
    have U5 : Below V2.heap.size V2 (V2.drew) := Below.then_ U4 hd
    replace B := hide (Below.then_ B.out hd)
    clear hd
    have tok1 : True := trivial
    go_region_held3 (fun w' => Below V2.heap.size V2 w') (first | assumption | (with_reducible exact Below.al_ (by assumption) _) | (with_reducible exact Below.al_drew (by assumption) _) | (with_reducible exact (landedR_new U7 R_lo.out R_lod.out).below) | (with_reducible exact (landedR_set U7 R_lo.out R_lod.out X7.out).below) | (with_reducible exact (landedR_late U7 R_lo.out R_lod.out).below) | fail)
      (first
        | (go_at_call 18; (have _t := tok1; (with_reducible refine (pfloor_any (by first | exact R_a.out | exact Rd.al_ R_a.out | exact Rd.al_drew R_a.out) b_al.out.1 (by first | exact R_ad.out | exact Rd.al_ R_ad.out | exact Rd.al_drew R_ad.out) b_al.out.2 (Nat.le_refl _) e_fc.out).mono ?_); rintro e w3 ⟨A_f1, c_f1, rfl, R_f1, hb⟩; have hb1 : Below (V2.drew).heap.size (V2.drew) w3 := (by first | exact hb | exact Below.al_then hb | exact Below.al_then_drew hb); (first | (have X6 := hide (XBox3.made_drew U5 hb)) | (have X6 := hide (XBox3.made U5 hb)) | (have X6 := hide (XBox3.keep X0.out hb1)) | skip); replace R_a := hide (Rd.then_ R_a.out hb1); replace R_ad := hide (Rd.then_ R_ad.out hb1); replace R_one := hide (Rd.then_ R_one.out hb1); have U6 : Below V2.heap.size V2 w3 := Below.then_ U5 hb1; replace B := hide (Below.then_ B.out hb1); clear hb1; replace R_f1 := hide R_f1; clear hb; have tok2 : True := trivial; clear _t tok1))
        | (go_at_call 15; (have _t := tok2; (with_reducible refine (pmake_any (by first | exact R_f1.out | exact Rd.al_ R_f1.out | exact Rd.al_drew R_f1.out) gf.out (by first | exact R_one.out | exact Rd.al_ R_one.out | exact Rd.al_drew R_one.out) g1.out (Nat.le_refl _) e_lo.out e_ok.out).mono ?_); rintro e w4 ⟨A_lo, c_lo, A_lod, c_lod, rfl, R_lo, R_lod, hb⟩; have hb1 : Below w3.heap.size w3 w4 := (by first | exact hb | exact Below.al_then hb | exact Below.al_then_drew hb); (first | (have X7 := hide (XBox3.made_drew U6 hb)) | (have X7 := hide (XBox3.made U6 hb)) | (have X7 := hide (XBox3.keep X6.out hb1)) | skip); replace R_a := hide (Rd.then_ R_a.out hb1); replace R_ad := hide (Rd.then_ R_ad.out hb1); replace R_one := hide (Rd.then_ R_one.out hb1); replace R_f1 := hide (Rd.then_ R_f1.out hb1); have U7 : Below V2.heap.size V2 w4 := Below.then_ U6 hb1; replace B := hide (Below.then_ B.out hb1); clear hb1; replace R_lo := hide R_lo; replace R_lod := hide R_lod; clear hb; have tok3 : True := trivial; clear _t tok2; (first | (have xf := XBox3.facts X7.out; obtain ⟨x0, x1, x2, x3, x4⟩ := xf) | skip))))
    all_goals (refine ⟨rfl, _, A_lo, c_lo, A_lod, c_lod, _, _, _, _, _, _, _, _, _, _, rfl, ?_⟩; first | exact landedR_new U7 R_lo.out R_lod.out | exact landedR_set U7 R_lo.out R_lod.out X7.out | exact landedR_late U7 R_lo.out R_lod.out)
  rintro e a' w5 ⟨rfl, g_lo, A_lo, c_lo, A_lod, c_lod, v8, v9, v10, v11, v12, v13, v14, v15, v16, v17, rfl, hbx, b_lo, R_lo, R_lod, hg_lo⟩
  replace R_lo := hide R_lo
  replace R_lod := hide R_lod
  have ne_a_lo : w.heap.size ≠ g_lo := by have := (b_a.out.lt b_a.out.lt_size (Nat.le_refl _)) _ U4; omega
  replace ne_a_lo := hide ne_a_lo
  have ne_one_lo : g_one ≠ g_lo := by have := (b_one.out.lt b_one.out.lt_size (Nat.le_refl _)) _ U4; omega
  replace ne_one_lo := hide ne_one_lo
  have ge_lo : w.heap.size ≤ g_lo := by have := B.out.size; omega
  replace ge_lo := hide ge_lo
  clear hg_lo
  replace R_a := hide (Rd.then_ R_a.out hbx)
  replace R_ad := hide (Rd.then_ R_ad.out hbx)
  replace R_one := hide (Rd.then_ R_one.out hbx)
  have U5 : Below V2.heap.size V2 w5 := Below.then_ U4 hbx
  replace B := hide (Below.then_ B.out hbx)
  clear hbx
  replace b_a := hide (Box3.keep b_a.out U5)
  clear c_a0 c_a1 c_a2
  replace b_one := hide (Box.keep b_one.out U5)
  clear c_one0 c_one1
  replace b_lo := hide b_lo
  have U6 : Below w5.heap.size w5 w5 := Below.refl _ _
  have c_a0 := b_a.out.at0 b_a.out.lt_size (Nat.le_refl _)
  have c_a1 := b_a.out.at1 b_a.out.lt_size (Nat.le_refl _)
  have c_a2 := b_a.out.at2 b_a.out.lt_size (Nat.le_refl _)
  have c_one0 := b_one.out.at0 b_one.out.lt_size (Nat.le_refl _)
  have c_one1 := b_one.out.at1 b_one.out.lt_size (Nat.le_refl _)
  have c_lo0 := b_lo.out.at0 b_lo.out.lt_size (Nat.le_refl _)
  have c_lo1 := b_lo.out.at1 b_lo.out.lt_size (Nat.le_refl _)
  have c_lo2 := b_lo.out.at2 b_lo.out.lt_size (Nat.le_refl _)
  go_wp2_with fail
  refine Code.wp_mono (Q := fun e a' w' => e = .normal ∧ ∃ (g : Nat) (A : Option Addr) (c : Nat) (B : Option Addr) (d : Nat) (v8 v9 v10 v11 v12 v13 v14 v15 v16 v17 v18 v19 v20 v21 v22 v23 v24 v25 v26 : Value), a' = ⟨#[.agg #[.bool s_a, .slice A_a n_a c_a, .slice A_ad n_ad c_ad], (.pointer (some ⟨w.heap.size, 0, none⟩)), .bool false, (.pointer (some ⟨g_one, 0, none⟩)), (.pointer (some ⟨g_lo, 0, none⟩)), .bool true, (.pointer (some ⟨g, 0, none⟩)), .bool true, v8, v9, v10, v11, v12, v13, v14, v15, v16, v17, v18, v19, v20, v21, v22, v23, v24, v25, v26, undef, undef, undef, undef, undef, undef, undef, undef, undef, undef, undef, undef, undef, undef, undef, undef], []⟩ ∧ LandedR w5 w' g q_hi A c B d) ?_ ?_
  rotate_left
  · skip
    have hd := Below.drw_ w5
    replace R_a := hide (Rd.then_ R_a.out hd)
    replace R_ad := hide (Rd.then_ R_ad.out hd)
    replace R_one := hide (Rd.then_ R_one.out hd)
    replace R_lo := hide (Rd.then_ R_lo.out hd)
    replace R_lod := hide (Rd.then_ R_lod.out hd)
    have U7 : Below w5.heap.size w5 (w5.drew) := Below.then_ U6 hd
    replace B := hide (Below.then_ B.out hd)
    clear hd
    have tok1 : True := trivial
    go_region_held3 (fun w' => Below w5.heap.size w5 w') (first | assumption | (with_reducible exact Below.al_ (by assumption) _) | (with_reducible exact Below.al_drew (by assumption) _) | (with_reducible exact (landedR_new U10 R_hi.out R_hid.out).below) | (with_reducible exact (landedR_set U10 R_hi.out R_hid.out X10.out).below) | (with_reducible exact (landedR_late U10 R_hi.out R_hid.out).below) | fail)
      (first
        | (go_at_call 18; (have _t := tok1; (with_reducible refine (pfloor_any (by first | exact R_a.out | exact Rd.al_ R_a.out | exact Rd.al_drew R_a.out) b_al.out.1 (by first | exact R_ad.out | exact Rd.al_ R_ad.out | exact Rd.al_drew R_ad.out) b_al.out.2 (Nat.le_refl _) e_fc.out).mono ?_); rintro e w6 ⟨A_f2, c_f2, rfl, R_f2, hb⟩; have hb1 : Below (w5.drew).heap.size (w5.drew) w6 := (by first | exact hb | exact Below.al_then hb | exact Below.al_then_drew hb); (first | (have X8 := hide (XBox3.made_drew U7 hb)) | (have X8 := hide (XBox3.made U7 hb)) | (have X8 := hide (XBox3.keep X0.out hb1)) | skip); replace R_a := hide (Rd.then_ R_a.out hb1); replace R_ad := hide (Rd.then_ R_ad.out hb1); replace R_one := hide (Rd.then_ R_one.out hb1); replace R_lo := hide (Rd.then_ R_lo.out hb1); replace R_lod := hide (Rd.then_ R_lod.out hb1); have U8 : Below w5.heap.size w5 w6 := Below.then_ U7 hb1; replace B := hide (Below.then_ B.out hb1); clear hb1; replace R_f2 := hide R_f2; clear hb; have tok2 : True := trivial; clear _t tok1))
        | (go_at_call 47; (have _t := tok2; (with_reducible refine (iadd_any _ _ _ _ _ _ _ _ _ _ _ _ (by first | exact R_f2.out | exact Rd.al_ R_f2.out | exact Rd.al_drew R_f2.out) (by first | exact R_one.out | exact Rd.al_ R_one.out | exact Rd.al_drew R_one.out) (Nat.le_refl _) gf1.out g11.out).mono ?_); rw [e_h.out]; rintro e w7 ⟨A_h, c_h, rfl, R_h, hb⟩; have hb1 : Below w6.heap.size w6 w7 := (by first | exact hb | exact Below.al_then hb | exact Below.al_then_drew hb); (first | (have X9 := hide (XBox3.made_drew U8 hb)) | (have X9 := hide (XBox3.made U8 hb)) | (have X9 := hide (XBox3.keep X8.out hb1)) | skip); replace R_a := hide (Rd.then_ R_a.out hb1); replace R_ad := hide (Rd.then_ R_ad.out hb1); replace R_one := hide (Rd.then_ R_one.out hb1); replace R_lo := hide (Rd.then_ R_lo.out hb1); replace R_lod := hide (Rd.then_ R_lod.out hb1); replace R_f2 := hide (Rd.then_ R_f2.out hb1); have U9 : Below w5.heap.size w5 w7 := Below.then_ U8 hb1; replace B := hide (Below.then_ B.out hb1); clear hb1; replace R_h := hide R_h; clear hb; have tok3 : True := trivial; clear _t tok2))
        | (go_at_call 15; (have _t := tok3; (with_reducible refine (pmake_any (by first | exact R_h.out | exact Rd.al_ R_h.out | exact Rd.al_drew R_h.out) gh.out (by first | exact R_one.out | exact Rd.al_ R_one.out | exact Rd.al_drew R_one.out) g1.out (Nat.le_refl _) e_hi.out e_ok.out).mono ?_); rintro e w8 ⟨A_hi, c_hi, A_hid, c_hid, rfl, R_hi, R_hid, hb⟩; have hb1 : Below w7.heap.size w7 w8 := (by first | exact hb | exact Below.al_then hb | exact Below.al_then_drew hb); (first | (have X10 := hide (XBox3.made_drew U9 hb)) | (have X10 := hide (XBox3.made U9 hb)) | (have X10 := hide (XBox3.keep X9.out hb1)) | skip); replace R_a := hide (Rd.then_ R_a.out hb1); replace R_ad := hide (Rd.then_ R_ad.out hb1); replace R_one := hide (Rd.then_ R_one.out hb1); replace R_lo := hide (Rd.then_ R_lo.out hb1); replace R_lod := hide (Rd.then_ R_lod.out hb1); replace R_f2 := hide (Rd.then_ R_f2.out hb1); replace R_h := hide (Rd.then_ R_h.out hb1); have U10 : Below w5.heap.size w5 w8 := Below.then_ U9 hb1; replace B := hide (Below.then_ B.out hb1); clear hb1; replace R_hi := hide R_hi; replace R_hid := hide R_hid; clear hb; have tok4 : True := trivial; clear _t tok3; (first | (have xf := XBox3.facts X10.out; obtain ⟨x0, x1, x2, x3, x4⟩ := xf) | skip))))
    all_goals (refine ⟨rfl, _, A_hi, c_hi, A_hid, c_hid, _, _, _, _, _, _, _, _, _, _, _, _, _, _, _, _, _, _, _, rfl, ?_⟩; first | exact landedR_new U10 R_hi.out R_hid.out | exact landedR_set U10 R_hi.out R_hid.out X10.out | exact landedR_late U10 R_hi.out R_hid.out)
  rintro e a' w9 ⟨rfl, g_hi, A_hi, c_hi, A_hid, c_hid, v8, v9, v10, v11, v12, v13, v14, v15, v16, v17, v18, v19, v20, v21, v22, v23, v24, v25, v26, rfl, hbx, b_hi, R_hi, R_hid, hg_hi⟩
  replace R_hi := hide R_hi
  replace R_hid := hide R_hid
  have ne_a_hi : w.heap.size ≠ g_hi := by have := (b_a.out.lt b_a.out.lt_size (Nat.le_refl _)) _ U6; omega
  replace ne_a_hi := hide ne_a_hi
  have ne_one_hi : g_one ≠ g_hi := by have := (b_one.out.lt b_one.out.lt_size (Nat.le_refl _)) _ U6; omega
  replace ne_one_hi := hide ne_one_hi
  have ne_lo_hi : g_lo ≠ g_hi := by have := (b_lo.out.lt b_lo.out.lt_size (Nat.le_refl _)) _ U6; omega
  replace ne_lo_hi := hide ne_lo_hi
  have ge_hi : w.heap.size ≤ g_hi := by have := B.out.size; omega
  replace ge_hi := hide ge_hi
  clear hg_hi
  replace R_a := hide (Rd.then_ R_a.out hbx)
  replace R_ad := hide (Rd.then_ R_ad.out hbx)
  replace R_one := hide (Rd.then_ R_one.out hbx)
  replace R_lo := hide (Rd.then_ R_lo.out hbx)
  replace R_lod := hide (Rd.then_ R_lod.out hbx)
  have U7 : Below w5.heap.size w5 w9 := Below.then_ U6 hbx
  replace B := hide (Below.then_ B.out hbx)
  clear hbx
  replace b_a := hide (Box3.keep b_a.out U7)
  clear c_a0 c_a1 c_a2
  replace b_one := hide (Box.keep b_one.out U7)
  clear c_one0 c_one1
  replace b_lo := hide (Box3.keep b_lo.out U7)
  clear c_lo0 c_lo1 c_lo2
  replace b_hi := hide b_hi
  have U8 : Below w9.heap.size w9 w9 := Below.refl _ _
  have c_a0 := b_a.out.at0 b_a.out.lt_size (Nat.le_refl _)
  have c_a1 := b_a.out.at1 b_a.out.lt_size (Nat.le_refl _)
  have c_a2 := b_a.out.at2 b_a.out.lt_size (Nat.le_refl _)
  have c_one0 := b_one.out.at0 b_one.out.lt_size (Nat.le_refl _)
  have c_one1 := b_one.out.at1 b_one.out.lt_size (Nat.le_refl _)
  have c_lo0 := b_lo.out.at0 b_lo.out.lt_size (Nat.le_refl _)
  have c_lo1 := b_lo.out.at1 b_lo.out.lt_size (Nat.le_refl _)
  have c_lo2 := b_lo.out.at2 b_lo.out.lt_size (Nat.le_refl _)
  have c_hi0 := b_hi.out.at0 b_hi.out.lt_size (Nat.le_refl _)
  have c_hi1 := b_hi.out.at1 b_hi.out.lt_size (Nat.le_refl _)
  have c_hi2 := b_hi.out.at2 b_hi.out.lt_size (Nat.le_refl _)
  go_wp2_with fail
  refine (pcmp_any R_lo.out (Nat.le_trans s_loq.out.1 (by omega)) R_lod.out (Nat.le_trans s_loq.out.2 (by omega)) R_a.out b_al.out.1 R_ad.out b_al.out.2 (Nat.le_refl _) e_k1c.out).mono ?_
  rintro e w10 ⟨rfl, hb⟩
  replace R_a := hide (Rd.then_ R_a.out hb)
  replace R_ad := hide (Rd.then_ R_ad.out hb)
  replace R_one := hide (Rd.then_ R_one.out hb)
  replace R_lo := hide (Rd.then_ R_lo.out hb)
  replace R_lod := hide (Rd.then_ R_lod.out hb)
  replace R_hi := hide (Rd.then_ R_hi.out hb)
  replace R_hid := hide (Rd.then_ R_hid.out hb)
  have U9 : Below w9.heap.size w9 w10 := Below.then_ U8 hb
  replace B := hide (Below.then_ B.out hb)
  clear hb
  go_wp2_with fail
  refine (pcmp_any R_a.out b_al.out.1 R_ad.out b_al.out.2 R_hi.out (Nat.le_trans s_hiq.out.1 (by omega)) R_hid.out (Nat.le_trans s_hiq.out.2 (by omega)) (Nat.le_refl _) e_k2c.out).mono ?_
  rintro e w11 ⟨rfl, hb⟩
  replace R_a := hide (Rd.then_ R_a.out hb)
  replace R_ad := hide (Rd.then_ R_ad.out hb)
  replace R_one := hide (Rd.then_ R_one.out hb)
  replace R_lo := hide (Rd.then_ R_lo.out hb)
  replace R_lod := hide (Rd.then_ R_lod.out hb)
  replace R_hi := hide (Rd.then_ R_hi.out hb)
  replace R_hid := hide (Rd.then_ R_hid.out hb)
  have U10 : Below w9.heap.size w9 w11 := Below.then_ U9 hb
  replace B := hide (Below.then_ B.out hb)
  clear hb
  go_wp2
  go_ret
  exact ⟨rfl, B.out⟩

set_option maxHeartbeats 4000000 in
theorem floor_walk_big0 {w : World} {A_a : Option Addr} {n_a c_a : Nat} {s_a : Bool} {A_ad : Option Addr} {n_ad c_ad : Nat}  (g : ¬ (n_a ≤ 40 ∧ n_ad ≤ 40)) :
    Calls Try.prog 10 #[.agg #[.bool s_a, .slice A_a n_a c_a, .slice A_ad n_ad c_ad]] w (RetB w (.bool true)) := by
  obtain ⟨W, hW⟩ : ∃ W, W = (w.alloc (.cells #[.bool s_a, .slice A_a n_a c_a, .slice A_ad n_ad c_ad] 27)) := ⟨_, rfl⟩
  have b_a : Box3 W (w.heap.size) (.bool s_a) (.slice A_a n_a c_a) (.slice A_ad n_ad c_ad) := by rw [hW]; exact (Box3.new w _ _ _ rfl)
  have hwW : Below w.heap.size w W := by rw [hW]; exact ((Below.refl _ _).alloc (Nat.le_refl _) _)
  have B := hide hwW
  clear hwW
  have U0 : Below W.heap.size W W := Below.refl _ _
  have c_a0 := b_a.at0 b_a.lt_size (Nat.le_refl _)
  have c_a1 := b_a.at1 b_a.lt_size (Nat.le_refl _)
  have c_a2 := b_a.at2 b_a.lt_size (Nat.le_refl _)
  replace b_a := hide b_a
  go_enter Try.func10, Try.ntmps10
  go_wp2_with fail
  rw [← hW]
  clear hW
  refine (large_yes g).mono ?_
  rintro e w1 ⟨rfl, hb⟩
  have U1 : Below W.heap.size W w1 := Below.then_ U0 hb
  replace B := hide (Below.then_ B.out hb)
  clear hb
  go_wp2
  go_ret
  exact ⟨rfl, B.out⟩

theorem floor_walk_all {w : World} {A_a A_ad : Option Addr} {n_a c_a n_ad c_ad : Nat} {x_a x_ad : List Nat} {s_a : Bool} (h_a : n_a ≤ 70368744177664 → Rd w w.heap.size A_a n_a c_a x_a) (h_ad : n_ad ≤ 70368744177664 → Rd w w.heap.size A_ad n_ad c_ad x_ad) :
    Calls Try.prog 10 #[.agg #[.bool s_a, .slice A_a n_a c_a, .slice A_ad n_ad c_ad]] w (RetB w (.bool true)) := by
  by_cases g0 : n_a ≤ 40 ∧ n_ad ≤ 40
  case neg => exact floor_walk_big0  g0
  exact floor_walk (h_a (by omega)) g0.1 (h_ad (by omega)) g0.2 (Nat.le_refl _)

end Go.Proofs.Ytieopcchchebgaa

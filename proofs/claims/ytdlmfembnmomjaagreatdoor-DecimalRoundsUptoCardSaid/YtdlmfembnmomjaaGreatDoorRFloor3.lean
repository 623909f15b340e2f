/-
  Floor of the reference.
-/
import Derived.Test.YtdlmfembnmomjaaGreatDoorLaw3s
import Derived.Test.YtdlmfembnmomjaaGreatDoorRRatB
namespace Go.Proofs.YtdlmfembnmomjaaGreatDoor
open Go.RowKit


set_option maxHeartbeats 4000000 in
theorem rfloor3_any {w : World} {Bd : Nat} {A_a : Option Addr} {n_a c_a : Nat} {x_a : List Nat} {s_a : Bool} {A_ad : Option Addr} {n_ad c_ad : Nat} {x_ad : List Nat} (h_a : Rd w Bd A_a n_a c_a x_a) (g_a : n_a ≤ 1000000000) (h_ad : Rd w Bd A_ad n_ad c_ad x_ad) (g_ad : n_ad ≤ 1000000000) (hB : Bd ≤ w.heap.size) {z : Int} (hz : (qv s_a (val x_a) (val x_ad)).floor = z) :
    Calls Tryz.prog 45 #[.agg #[.bool s_a, .slice A_a n_a c_a, .slice A_ad n_ad c_ad]] w (RetInt w z) := by
  obtain ⟨y, e_y⟩ : ∃ v, tp s_a (val x_a) (val x_ad) = v := ⟨_, rfl⟩
  replace e_y := hide e_y
  obtain ⟨d, e_d⟩ : ∃ v, lw (val x_ad) = v := ⟨_, rfl⟩
  replace e_d := hide e_d
  have l_y : zmag y < pw n_a := by rw [← e_y.out]; exact tp_lt h_a.lt
  replace l_y := hide l_y
  have l_d : d < pw (n_ad + 1) := by rw [← e_d.out]; exact lw_lt h_ad.lt
  replace l_d := hide l_d
  have q_a : mkRat y d = qv s_a (val x_a) (val x_ad) := by rw [← e_y.out, ← e_d.out, qv_tp]
  replace q_a := hide q_a
  have n_d : d ≠ 0 := by rw [← e_d.out]; exact lw_ne _
  replace n_d := hide n_d
  obtain ⟨di, e_di⟩ : ∃ v, iv false (val (dig d)) = v := ⟨_, rfl⟩
  replace e_di := hide e_di
  have hd : di = (d : Int) := by rw [← e_di.out, iv_false, val_dig]
  have hdm : zmag di = d := by rw [hd]; rfl
  have hds : zneg di = false := by rw [hd]; unfold zneg; exact decide_eq_false (by omega)
  have e_z : fq (zneg y) (zneg di) (val (dig (zmag y))) (val (dig (zmag di))) = z := by rw [hds, hdm, val_dig, val_dig, fq_floor _ _ n_d.out, iv_eta, ← mk_floor _ n_d.out, q_a.out]; exact hz
  replace e_z := hide e_z
  obtain ⟨r, e_r⟩ : ∃ v, fr (zneg y) (zneg di) (val (dig (zmag y))) (val (dig (zmag di))) = v := ⟨_, rfl⟩
  replace e_r := hide e_r
  have h0 : val (dig (zmag di)) ≠ 0 := by rw [hdm, val_dig]; exact n_d.out
  replace h0 := hide h0
  have g1 : (dig (zmag y)).length + (dig (zmag di)).length + 2 ≤ 70368744177664 ∧ (dig (zmag y)).length ≤ 35184372088000 := by rw [hdm]; have := zl l_y.out; have := dl l_d.out; omega
  replace g1 := hide g1
  clear hz hd hdm hds l_y l_d q_a n_d
  obtain ⟨W, hW⟩ : ∃ W, W = ((w.alloc (.cells #[.bool s_a, .slice A_a n_a c_a, .slice A_ad n_ad c_ad] 27)).alloc (.cells #[.bool false, .slice none 0 0] 25)) := ⟨_, rfl⟩
  have b_a : Box3 W (w.heap.size) (.bool s_a) (.slice A_a n_a c_a) (.slice A_ad n_ad c_ad) := by rw [hW]; exact ((Box3.new w _ _ _ rfl).al _)
  have b_r0 : Box W (w.heap.size + 1) (.bool false) (.slice none 0 0) := by rw [hW]; exact (Box.new _ _ _ (by simp))
  have hwW : Below w.heap.size w W := by rw [hW]; exact (((Below.refl _ _).alloc (Nat.le_refl _) _).alloc (by simp) _)
  have R_a := hide (Rd.upto h_a hwW hB)
  clear h_a
  have R_ad := hide (Rd.upto h_ad hwW hB)
  clear h_ad
  have B := hide hwW
  clear hwW
  clear hB
  have U0 : Below W.heap.size W W := Below.refl _ _
  have c_a0 := b_a.at0 b_a.lt_size (Nat.le_refl _)
  have c_a1 := b_a.at1 b_a.lt_size (Nat.le_refl _)
  have c_a2 := b_a.at2 b_a.lt_size (Nat.le_refl _)
  replace b_a := hide b_a
  have c_r00 := b_r0.at0 b_r0.lt_size (Nat.le_refl _)
  have c_r01 := b_r0.at1 b_r0.lt_size (Nat.le_refl _)
  have f_r00 := b_r0.free0 b_r0.lt_size (Nat.le_refl _)
  have f_r01 := b_r0.free1 b_r0.lt_size (Nat.le_refl _)
  have l_r0 := b_r0.lt b_r0.lt_size (Nat.le_refl _)
  replace b_r0 := hide b_r0
  go_enter Tryz.func45, Tryz.ntmps45
  go_wp2_with fail
  rw [← hW]
  clear hW
  refine Code.wp_mono (Q := fun e a' w' => e = .normal ∧ ∃ (g h : Nat) (xA : Option Addr) (xc : Nat) (yA : Option Addr) (yc : Nat) (v6 v7 v8 v9 v10 v11 v12 v13 v14 v15 : Value), a' = ⟨#[.agg #[.bool s_a, .slice A_a n_a c_a, .slice A_ad n_ad c_ad], (.pointer (some ⟨w.heap.size, 0, none⟩)), (.pointer (some ⟨w.heap.size + 1, 0, none⟩)), (.pointer (some ⟨g, 0, none⟩)), (.pointer (some ⟨h, 0, none⟩)), .bool true, v6, v7, v8, v9, v10, v11, v12, v13, v14, v15, undef], []⟩ ∧ Land2 W w' g z xA xc h r yA yc) ?_ ?_
  rotate_left
  · skip
    have hd := Below.drw_ W
    replace R_a := hide (Rd.then_ R_a.out hd)
    replace R_ad := hide (Rd.then_ R_ad.out hd)
    have U1 : Below W.heap.size W (W.drew) := Below.then_ U0 hd
    replace B := hide (Below.then_ B.out hd)
    clear hd
    have tok1 : True := trivial
    go_region_held3 (fun w' => Below W.heap.size W w') (first | (with_reducible assumption) | (with_reducible exact Below.al2_drew (by with_reducible assumption) _ _) | (with_reducible exact Below.al_drew (by with_reducible assumption) _) | ((repeat (first | (with_reducible refine Below.al_ ?_ _) | (with_reducible refine Below.set_ ?_ ?_))); all_goals first | (with_reducible assumption) | (exact X5.out.2) | (exact Y5.out.2) | fail))
      (first
        | (go_at_call 80; (have _t := tok1; (with_reducible refine (top_any (by with_reducible first | exact R_a.out | exact Rd.al2_drew R_a.out | exact Rd.al_drew R_a.out) (by omega) (by with_reducible first | exact R_ad.out | exact Rd.al2_drew R_ad.out | exact Rd.al_drew R_ad.out) (by omega) (Nat.le_refl _) e_y.out).mono ?_); rintro e w1 ⟨A_y, c_y, rfl, R_y, hb⟩; have hb1 : Below (W.drew).heap.size (W.drew) w1 := (by with_reducible first | exact hb | exact Below.al2_then_drew hb | exact Below.al_then_drew hb); (first | ((have X2 : Hid (XBox W w1 W.heap.size) := (by with_reducible exact hide (XBox.made2a_drew U1 hb))); (have Y2 : Hid (XBox W w1 (W.heap.size + 1)) := (by with_reducible exact hide (XBox.made2b_drew U1 hb))); (have N2 : Hid (W.heap.size ≠ (W.heap.size + 1) ∧ (W.heap.size + 1) ≠ W.heap.size) := hide ⟨by omega, by omega⟩)) | (have X2 : Hid (XBox W w1 W.heap.size) := (by with_reducible exact hide (XBox.made_drew U1 hb))) | skip); replace R_a := hide (Rd.then_ R_a.out hb1); replace R_ad := hide (Rd.then_ R_ad.out hb1); have U2 : Below W.heap.size W w1 := Below.then_ U1 hb1; replace B := hide (Below.then_ B.out hb1); clear hb1; replace R_y := hide R_y; clear hb; have tok2 : True := trivial; clear _t tok1))
        | (go_at_call 82; (have _t := tok2; (with_reducible refine (rlow_any (by with_reducible first | exact R_a.out | exact Rd.al_ (Rd.al_ R_a.out) | exact Rd.al_ R_a.out) (by omega) (by with_reducible first | exact R_ad.out | exact Rd.al_ (Rd.al_ R_ad.out) | exact Rd.al_ R_ad.out) (by omega) (Nat.le_refl _) e_d.out).mono ?_); rintro e w2 ⟨A_d, c_d, rfl, R_d, hb⟩; have hb1 : Below w1.heap.size w1 w2 := (by with_reducible first | exact hb | exact Below.al2_then hb | exact Below.al_then hb); (first | ((have X3 : Hid (XBox W w2 w1.heap.size) := (by with_reducible exact hide (XBox.made2a U2 hb))); (have Y3 : Hid (XBox W w2 (w1.heap.size + 1)) := (by with_reducible exact hide (XBox.made2b U2 hb))); (have N3 : Hid (w1.heap.size ≠ (w1.heap.size + 1) ∧ (w1.heap.size + 1) ≠ w1.heap.size) := hide ⟨by omega, by omega⟩)) | ((with_reducible have X3 := hide (XBox.keep X2.out hb1)); (have Y3 : Hid (XBox W w2 w1.heap.size) := (by with_reducible exact hide (XBox.made U2 hb))); (have N3 := hide (XBox.apart X2.out))) | (have X3 : Hid (XBox W w2 w1.heap.size) := (by with_reducible exact hide (XBox.made U2 hb))) | ((with_reducible have X3 := hide (XBox.keep X2.out hb1)); (with_reducible have Y3 := hide (XBox.keep Y2.out hb1)); (have N3 := N2)) | (with_reducible have X3 := hide (XBox.keep X2.out hb1)) | skip); replace R_a := hide (Rd.then_ R_a.out hb1); replace R_ad := hide (Rd.then_ R_ad.out hb1); replace R_y := hide (Rd.then_ R_y.out hb1); have U3 : Below W.heap.size W w2 := Below.then_ U2 hb1; replace B := hide (Below.then_ B.out hb1); clear hb1; replace R_d := hide R_d; clear hb; have tok3 : True := trivial; clear _t tok2))
        | (go_at_call 86; (have _t := tok3; (with_reducible refine (rimake_any _ _ _ _ _ _ _ (by with_reducible first | exact R_d.out | exact Rd.al_ (Rd.al_ R_d.out) | exact Rd.al_ R_d.out) (Nat.le_refl _)).mono ?_); rw [e_di.out]; rintro e w3 ⟨A_di, c_di, rfl, R_di, hb⟩; have hb1 : Below w2.heap.size w2 w3 := (by with_reducible first | exact hb | exact Below.al2_then hb | exact Below.al_then hb); (first | ((have X4 : Hid (XBox W w3 w2.heap.size) := (by with_reducible exact hide (XBox.made2a U3 hb))); (have Y4 : Hid (XBox W w3 (w2.heap.size + 1)) := (by with_reducible exact hide (XBox.made2b U3 hb))); (have N4 : Hid (w2.heap.size ≠ (w2.heap.size + 1) ∧ (w2.heap.size + 1) ≠ w2.heap.size) := hide ⟨by omega, by omega⟩)) | ((with_reducible have X4 := hide (XBox.keep X3.out hb1)); (have Y4 : Hid (XBox W w3 w2.heap.size) := (by with_reducible exact hide (XBox.made U3 hb))); (have N4 := hide (XBox.apart X3.out))) | (have X4 : Hid (XBox W w3 w2.heap.size) := (by with_reducible exact hide (XBox.made U3 hb))) | ((with_reducible have X4 := hide (XBox.keep X3.out hb1)); (with_reducible have Y4 := hide (XBox.keep Y3.out hb1)); (have N4 := N3)) | (with_reducible have X4 := hide (XBox.keep X3.out hb1)) | skip); replace R_a := hide (Rd.then_ R_a.out hb1); replace R_ad := hide (Rd.then_ R_ad.out hb1); replace R_y := hide (Rd.then_ R_y.out hb1); replace R_d := hide (Rd.then_ R_d.out hb1); have U4 : Below W.heap.size W w3 := Below.then_ U3 hb1; replace B := hide (Below.then_ B.out hb1); clear hb1; replace R_di := hide R_di; clear hb; have tok4 : True := trivial; clear _t tok3))
        | (go_at_call 85; (have _t := tok4; (with_reducible refine (ridiv_any _ _ _ _ _ _ _ _ _ _ _ _ (by with_reducible first | exact R_y.out | exact Rd.al_ (Rd.al_ R_y.out) | exact Rd.al_ R_y.out) (by with_reducible first | exact R_di.out | exact Rd.al_ (Rd.al_ R_di.out) | exact Rd.al_ R_di.out) (Nat.le_refl _) g1.out.1 g1.out.2 h0.out).mono ?_); rw [e_z.out, e_r.out]; rintro e w4 ⟨A_f, c_f, A_g, c_g, rfl, R_f, R_g, hb⟩; have hb1 : Below w3.heap.size w3 w4 := (by with_reducible first | exact hb | exact Below.al2_then hb | exact Below.al_then hb); (first | ((have X5 : Hid (XBox W w4 w3.heap.size) := (by with_reducible exact hide (XBox.made2a U4 hb))); (have Y5 : Hid (XBox W w4 (w3.heap.size + 1)) := (by with_reducible exact hide (XBox.made2b U4 hb))); (have N5 : Hid (w3.heap.size ≠ (w3.heap.size + 1) ∧ (w3.heap.size + 1) ≠ w3.heap.size) := hide ⟨by omega, by omega⟩)) | ((with_reducible have X5 := hide (XBox.keep X4.out hb1)); (have Y5 : Hid (XBox W w4 w3.heap.size) := (by with_reducible exact hide (XBox.made U4 hb))); (have N5 := hide (XBox.apart X4.out))) | (have X5 : Hid (XBox W w4 w3.heap.size) := (by with_reducible exact hide (XBox.made U4 hb))) | ((with_reducible have X5 := hide (XBox.keep X4.out hb1)); (with_reducible have Y5 := hide (XBox.keep Y4.out hb1)); (have N5 := N4)) | (with_reducible have X5 := hide (XBox.keep X4.out hb1)) | skip); replace R_a := hide (Rd.then_ R_a.out hb1); replace R_ad := hide (Rd.then_ R_ad.out hb1); replace R_y := hide (Rd.then_ R_y.out hb1); replace R_d := hide (Rd.then_ R_d.out hb1); replace R_di := hide (Rd.then_ R_di.out hb1); have U5 : Below W.heap.size W w4 := Below.then_ U4 hb1; replace B := hide (Below.then_ B.out hb1); clear hb1; replace R_f := hide R_f; replace R_g := hide R_g; clear hb; have tok5 : True := trivial; clear _t tok4; (first | (have xf := XBox.facts X5.out; obtain ⟨x0, x1, x2, x3, x4⟩ := xf) | skip); (first | (have yf := XBox.facts Y5.out; obtain ⟨y0, y1, y2, y3, y4⟩ := yf) | skip); (first | (have nf := N5.out; obtain ⟨nf1, nf2⟩ := nf) | skip); (first | (have xa := XBox.apart X5.out; obtain ⟨xa1, xa2⟩ := xa) | skip))))
    all_goals (refine ⟨rfl, _, _, A_f, c_f, A_g, c_g, _, _, _, _, _, _, _, _, _, _, rfl, ?_⟩; first | (with_reducible exact land2_ll U5 R_f.out R_g.out) | (with_reducible exact land2_rr U5 R_f.out R_g.out) | (with_reducible exact land2_xl U5 R_f.out R_g.out X5.out) | (with_reducible exact land2_lx U5 R_f.out R_g.out X5.out) | (with_reducible exact land2_set U5 R_f.out R_g.out X5.out Y5.out N5.out.1) | (with_reducible exact land2_set U5 R_f.out R_g.out Y5.out X5.out N5.out.2))
  rintro e a' w5 ⟨rfl, g_f, g_g, A_f, c_f, A_g, c_g, v6, v7, v8, v9, v10, v11, v12, v13, v14, v15, rfl, hbx, b_f, b_g, R_f, R_g, hg_f, hg_g, hne⟩
  replace R_f := hide R_f
  replace R_g := hide R_g
  clear hne
  have ne_f_r0 : g_f ≠ w.heap.size + 1 := by have := l_r0 _ U0; omega
  replace ne_f_r0 := hide ne_f_r0
  have ne_g_r0 : g_g ≠ w.heap.size + 1 := by have := l_r0 _ U0; omega
  replace ne_g_r0 := hide ne_g_r0
  have ne_a_f : w.heap.size ≠ g_f := by have := (b_a.out.lt b_a.out.lt_size (Nat.le_refl _)) _ U0; omega
  replace ne_a_f := hide ne_a_f
  have ne_r0_f := hide (Ne.symm ne_f_r0.out)
  have ge_f : w.heap.size ≤ g_f := by have := B.out.size; omega
  replace ge_f := hide ge_f
  have ne_a_g : w.heap.size ≠ g_g := by have := (b_a.out.lt b_a.out.lt_size (Nat.le_refl _)) _ U0; omega
  replace ne_a_g := hide ne_a_g
  have ne_r0_g := hide (Ne.symm ne_g_r0.out)
  have ge_g : w.heap.size ≤ g_g := by have := B.out.size; omega
  replace ge_g := hide ge_g
  clear hg_f
  clear hg_g
  replace R_a := hide (Rd.then_ R_a.out hbx)
  replace R_ad := hide (Rd.then_ R_ad.out hbx)
  have U1 : Below W.heap.size W w5 := Below.then_ U0 hbx
  replace B := hide (Below.then_ B.out hbx)
  clear hbx
  replace b_a := hide (Box3.keep b_a.out U1)
  clear c_a0 c_a1 c_a2
  replace b_r0 := hide (Box.keep b_r0.out U1)
  clear c_r00 c_r01 f_r00 f_r01 l_r0
  replace b_f := hide b_f
  replace b_g := hide b_g
  have U2 : Below w5.heap.size w5 w5 := Below.refl _ _
  have c_a0 := b_a.out.at0 b_a.out.lt_size (Nat.le_refl _)
  have c_a1 := b_a.out.at1 b_a.out.lt_size (Nat.le_refl _)
  have c_a2 := b_a.out.at2 b_a.out.lt_size (Nat.le_refl _)
  have c_r00 := b_r0.out.at0 b_r0.out.lt_size (Nat.le_refl _)
  have c_r01 := b_r0.out.at1 b_r0.out.lt_size (Nat.le_refl _)
  have f_r00 := b_r0.out.free0 b_r0.out.lt_size (Nat.le_refl _)
  have f_r01 := b_r0.out.free1 b_r0.out.lt_size (Nat.le_refl _)
  have l_r0 := b_r0.out.lt b_r0.out.lt_size (Nat.le_refl _)
  have c_f0 := b_f.out.at0 b_f.out.lt_size (Nat.le_refl _)
  have c_f1 := b_f.out.at1 b_f.out.lt_size (Nat.le_refl _)
  have c_g0 := b_g.out.at0 b_g.out.lt_size (Nat.le_refl _)
  have c_g1 := b_g.out.at1 b_g.out.lt_size (Nat.le_refl _)
  go_wp2_with fail
  go_wp2
  exact bodyPost_ret (v := .agg #[.bool (zneg z), .slice A_f (dig (zmag z)).length c_f]) (by simp [results, Tryz.results45, go_sem, c_r00 _ U2, c_r01 _ U2]) rfl (RetInt.box B.out (by omega) (c_r00 _ U2) (c_r01 _ U2) R_f.out)

end Go.Proofs.YtdlmfembnmomjaaGreatDoor

/-
  RatioUnary.
-/
import Derived.Test.YtieopcchchebgaaFresh3
import Derived.Test.YtieopcchchebgaaRFloor3
import Derived.Test.YtieopcchchebgaaRPrint3
namespace Go.Proofs.Ytieopcchchebgaa
open Go.RowKit


/-- the loops' state: what the call to Norm handed back is written over; all else is as it was when Norm was called -/
def WInv (W : World) (gn : Nat) (a b c : Value) (A : Option Addr) (n : Nat) (B : Option Addr) (m : Nat) (wr : World) : Prop :=
  Below W.heap.size W wr ∧ Box3 wr gn a b c ∧ Fresh W wr A n ∧ Fresh W wr B m
theorem Fresh.put {W w : World} {A : Option Addr} {n : Nat} (h : Fresh W w A n) {g j x : Nat} {u : Int} (hx : x < 4294967296) (hu : u = (x : Int)) : Fresh W (w.setCell ⟨g, j, none⟩ (.int .u32 u)) A n := fun h0 => by
  obtain ⟨k, os, e, hk, hO, hn⟩ := h h0
  by_cases hg : k = g
  · subst hg
    exact ⟨k, _, e, hk, hO.put hx hu, by rw [List.length_set]; exact hn⟩
  · exact ⟨k, os, e, hk, hO.block (Below.heap_setCell _ _ _ _ hg), hn⟩
theorem WInv.put {W wr : World} {gn n m : Nat} {a b c : Value} {A B : Option Addr} (h : WInv W gn a b c A n B m wr) {g : Nat} {os : List Nat} (hO : Own wr g os) (hg : W.heap.size ≤ g) {j x : Nat} {u : Int} (hx : x < 4294967296) (hu : u = (x : Int)) :
    WInv W gn a b c A n B m (wr.setCell ⟨g, j, none⟩ (.int .u32 u)) := by
  obtain ⟨h1, h2, h3, h4⟩ := h
  have hne : gn ≠ g := by
    rintro rfl
    obtain ⟨cur, hcur, _⟩ := hO.blk
    rw [show wr.heap[gn]? = some (.cells #[a, b, c] 27 (0, 0)) from h2] at hcur
    simp at hcur
  exact ⟨h1.setCell hg _, Box3.other h2 hne _, h3.put hx hu, h4.put hx hu⟩

set_option maxHeartbeats 4000000 in
theorem unary_walk {w : World} {Bd : Nat} {A_a : Option Addr} {n_a c_a : Nat} {x_a : List Nat} {s_a : Bool} {A_ad : Option Addr} {n_ad c_ad : Nat} {x_ad : List Nat} (h_a : Rd w Bd A_a n_a c_a x_a) (g_a : n_a ≤ 40) (h_ad : Rd w Bd A_ad n_ad c_ad x_ad) (g_ad : n_ad ≤ 40) (hB : Bd ≤ w.heap.size)  :
    Calls Try.prog 4 #[.agg #[.bool s_a, .slice A_a n_a c_a, .slice A_ad n_ad c_ad]] w (RetB w (.bool true)) := by
  obtain ⟨q_a, e_a⟩ : ∃ v, qv s_a (val x_a) (val x_ad) = v := ⟨_, rfl⟩
  replace e_a := hide e_a
  have s_aq : (dig (zmag q_a.num)).length ≤ 41 ∧ (dig q_a.den).length ≤ 41 := sz_rd h_a h_ad e_a.out g_a g_ad
  replace s_aq := hide s_aq
  have b_al : n_a ≤ 1000000000 ∧ n_ad ≤ 1000000000 := ⟨Nat.le_trans g_a (by omega), Nat.le_trans g_ad (by omega)⟩
  replace b_al := hide b_al
  obtain ⟨f, e_f⟩ : ∃ v, q_a.floor = v := ⟨_, rfl⟩
  replace e_f := hide e_f
  have e_fc : (qv s_a (val x_a) (val x_ad)).floor = f := by rw [e_a.out]; exact e_f.out
  replace e_fc := hide e_fc
  have e_x : q_a = q_a := rfl
  replace e_x := hide e_x
  have c_xq : qv s_a (val x_a) (val x_ad) = q_a := by rw [e_a.out]
  replace c_xq := hide c_xq
  have s_xq : (dig (zmag q_a.num)).length ≤ 41 ∧ (dig q_a.den).length ≤ 41 := by rw [← e_x.out]; exact s_aq.out
  replace s_xq := hide s_xq
  obtain ⟨v_n, e_n⟩ : ∃ v, -q_a = v := ⟨_, rfl⟩
  replace e_n := hide e_n
  have c_nq : -qv s_a (val x_a) (val x_ad) = v_n := by rw [e_a.out]; exact e_n.out
  replace c_nq := hide c_nq
  have s_nq : (dig (zmag v_n.num)).length ≤ 41 ∧ (dig v_n.den).length ≤ 41 := sz_neg e_n.out s_aq.out
  replace s_nq := hide s_nq
  obtain ⟨v_b, e_b⟩ : ∃ v, qabs q_a = v := ⟨_, rfl⟩
  replace e_b := hide e_b
  have c_bq : qabs (qv s_a (val x_a) (val x_ad)) = v_b := by rw [e_a.out]; exact e_b.out
  replace c_bq := hide c_bq
  obtain ⟨k, e_k⟩ : ∃ v, sgn (q_a).num = v := ⟨_, rfl⟩
  replace e_k := hide e_k
  have e_kc : sgn (qv s_a (val x_a) (val x_ad)).num = k := by rw [e_a.out]; exact e_k.out
  replace e_kc := hide e_kc
  obtain ⟨qs, e_qs⟩ : ∃ qs, qstr q_a = qs := ⟨_, rfl⟩
  replace e_qs := hide e_qs
  have g10 : n_a ≤ 10000000000 ∧ n_ad ≤ 10000000000 := by omega
  replace g10 := hide g10
  obtain ⟨W, hW⟩ : ∃ W, W = (w.alloc (.cells #[.bool s_a, .slice A_a n_a c_a, .slice A_ad n_ad c_ad] 27)) := ⟨_, rfl⟩
  have b_a : Box3 W (w.heap.size) (.bool s_a) (.slice A_a n_a c_a) (.slice A_ad n_ad c_ad) := by rw [hW]; exact (Box3.new w _ _ _ rfl)
  have hwW : Below w.heap.size w W := by rw [hW]; exact ((Below.refl _ _).alloc (Nat.le_refl _) _)
  have R_a := hide (Rd.upto h_a hwW hB)
  clear h_a
  have R_ad := hide (Rd.upto h_ad hwW hB)
  clear h_ad
  have B := hide hwW
  clear hwW
  clear hB
  have U0 : Below W.heap.size W W := Below.refl _ _
  have c_a0 := b_a.at0 b_a.lt_size (Nat.le_refl _)
  have c_a1 := b_a.at1 b_a.lt_size (Nat.le_refl _)
  have c_a2 := b_a.at2 b_a.lt_size (Nat.le_refl _)
  replace b_a := hide b_a
  go_enter Try.func4, Try.ntmps4
  go_wp2_with fail
  rw [← hW]
  clear hW
  refine (large_no g_a g_ad).mono ?_
  rintro e w1 ⟨rfl, hb⟩
  replace R_a := hide (Rd.then_ R_a.out hb)
  replace R_ad := hide (Rd.then_ R_ad.out hb)
  have U1 : Below W.heap.size W w1 := Below.then_ U0 hb
  replace B := hide (Below.then_ B.out hb)
  clear hb
  go_wp2_with fail
  replace b_a := hide (Box3.keep b_a.out U1)
  clear c_a0 c_a1 c_a2
  have U2 : Below w1.heap.size w1 w1 := Below.refl _ _
  have c_a0 := b_a.out.at0 b_a.out.lt_size (Nat.le_refl _)
  have c_a1 := b_a.out.at1 b_a.out.lt_size (Nat.le_refl _)
  have c_a2 := b_a.out.at2 b_a.out.lt_size (Nat.le_refl _)
  refine Code.wp_mono (Q := fun e a' w' => e = .normal ∧ ∃ (g h : Nat) (xA : Option Addr) (xc : Nat) (yA : Option Addr) (yc : Nat) (v8 v9 v10 v11 v12 v13 : Value), a' = ⟨#[.agg #[.bool s_a, .slice A_a n_a c_a, .slice A_ad n_ad c_ad], (.pointer (some ⟨w.heap.size, 0, none⟩)), .bool false, (.pointer (some ⟨g, 0, none⟩)), (.pointer (some ⟨h, 0, none⟩)), undef, undef, undef, v8, v9, v10, v11, v12, v13, undef, undef, undef, undef, undef, undef, undef, undef, undef, undef, undef, undef, undef, undef, undef, undef, undef, undef, undef, undef, undef, undef, undef, undef, undef, undef, undef, undef, undef, undef, undef, undef, undef, undef, undef, undef, undef, undef, undef, undef, undef, undef, undef, undef, undef, undef, undef, undef, undef, undef, undef, undef, undef, undef, undef, undef, undef, undef, undef, undef, undef, undef, undef, undef, undef, undef, undef, undef, undef, undef, undef, undef, undef, undef, undef, undef, undef, undef, undef, undef], []⟩ ∧ Land2 w1 w' g f xA xc h f yA yc) ?_ ?_
  rotate_left
  · skip
    clear c_xq s_xq e_x c_nq s_nq e_n c_bq e_b e_k e_kc e_qs s_aq e_a e_f g10
    have hd := Below.drw_ w1
    replace R_a := hide (Rd.then_ R_a.out hd)
    replace R_ad := hide (Rd.then_ R_ad.out hd)
    have U3 : Below w1.heap.size w1 (w1.drew) := Below.then_ U2 hd
    replace B := hide (Below.then_ B.out hd)
    clear hd
    have tok1 : True := trivial
    go_region_held3 (fun w' => Below w1.heap.size w1 w') (first | (with_reducible assumption) | (with_reducible exact Below.al2_drew (by with_reducible assumption) _ _) | (with_reducible exact Below.al_drew (by with_reducible assumption) _) | ((repeat (first | (with_reducible refine Below.al_ ?_ _) | (with_reducible refine Below.set_ ?_ ?_))); all_goals first | (with_reducible assumption) | (exact X5.out.2) | (exact Y5.out.2) | fail))
      (first
        | (go_at_call 18; (have _t := tok1; (with_reducible refine (pfloor_any (by with_reducible first | exact R_a.out | exact Rd.al2_drew R_a.out | exact Rd.al_drew R_a.out) b_al.out.1 (by with_reducible first | exact R_ad.out | exact Rd.al2_drew R_ad.out | exact Rd.al_drew R_ad.out) b_al.out.2 (Nat.le_refl _) e_fc.out).mono ?_); rintro e w2 ⟨A_f1, c_f1, rfl, R_f1, hb⟩; have hb1 : Below (w1.drew).heap.size (w1.drew) w2 := (by with_reducible first | exact hb | exact Below.al2_then_drew hb | exact Below.al_then_drew hb); (first | ((have X4 : Hid (XBox w1 w2 w1.heap.size) := (by with_reducible exact hide (XBox.made2a_drew U3 hb))); (have Y4 : Hid (XBox w1 w2 (w1.heap.size + 1)) := (by with_reducible exact hide (XBox.made2b_drew U3 hb))); (have N4 : Hid (w1.heap.size ≠ (w1.heap.size + 1) ∧ (w1.heap.size + 1) ≠ w1.heap.size) := hide ⟨by omega, by omega⟩)) | (have X4 : Hid (XBox w1 w2 w1.heap.size) := (by with_reducible exact hide (XBox.made_drew U3 hb))) | skip); replace R_a := hide (Rd.then_ R_a.out hb1); replace R_ad := hide (Rd.then_ R_ad.out hb1); have U4 : Below w1.heap.size w1 w2 := Below.then_ U3 hb1; replace B := hide (Below.then_ B.out hb1); clear hb1; replace R_f1 := hide R_f1; clear hb; have tok2 : True := trivial; clear _t tok1))
        | (go_at_call 19; (have _t := tok2; (with_reducible refine (rfloor3_any (by with_reducible first | exact R_a.out | exact Rd.al_ (Rd.al_ R_a.out) | exact Rd.al_ R_a.out) b_al.out.1 (by with_reducible first | exact R_ad.out | exact Rd.al_ (Rd.al_ R_ad.out) | exact Rd.al_ R_ad.out) b_al.out.2 (Nat.le_refl _) e_fc.out).mono ?_); rintro e w3 ⟨A_f2, c_f2, rfl, R_f2, hb⟩; have hb1 : Below w2.heap.size w2 w3 := (by with_reducible first | exact hb | exact Below.al2_then hb | exact Below.al_then hb); (first | ((have X5 : Hid (XBox w1 w3 w2.heap.size) := (by with_reducible exact hide (XBox.made2a U4 hb))); (have Y5 : Hid (XBox w1 w3 (w2.heap.size + 1)) := (by with_reducible exact hide (XBox.made2b U4 hb))); (have N5 : Hid (w2.heap.size ≠ (w2.heap.size + 1) ∧ (w2.heap.size + 1) ≠ w2.heap.size) := hide ⟨by omega, by omega⟩)) | ((with_reducible have X5 := hide (XBox.keep X4.out hb1)); (have Y5 : Hid (XBox w1 w3 w2.heap.size) := (by with_reducible exact hide (XBox.made U4 hb))); (have N5 := hide (XBox.apart X4.out))) | (have X5 : Hid (XBox w1 w3 w2.heap.size) := (by with_reducible exact hide (XBox.made U4 hb))) | ((with_reducible have X5 := hide (XBox.keep X4.out hb1)); (with_reducible have Y5 := hide (XBox.keep Y4.out hb1)); (have N5 := N4)) | (with_reducible have X5 := hide (XBox.keep X4.out hb1)) | skip); replace R_a := hide (Rd.then_ R_a.out hb1); replace R_ad := hide (Rd.then_ R_ad.out hb1); replace R_f1 := hide (Rd.then_ R_f1.out hb1); have U5 : Below w1.heap.size w1 w3 := Below.then_ U4 hb1; replace B := hide (Below.then_ B.out hb1); clear hb1; replace R_f2 := hide R_f2; clear hb; have tok3 : True := trivial; clear _t tok2; (first | (have xf := XBox.facts X5.out; obtain ⟨x0, x1, x2, x3, x4⟩ := xf) | skip); (first | (have yf := XBox.facts Y5.out; obtain ⟨y0, y1, y2, y3, y4⟩ := yf) | skip); (first | (have nf := N5.out; obtain ⟨nf1, nf2⟩ := nf) | skip); (first | (have xa := XBox.apart X5.out; obtain ⟨xa1, xa2⟩ := xa) | skip))))
    all_goals (refine ⟨rfl, _, _, A_f1, c_f1, A_f2, c_f2, _, _, _, _, _, _, rfl, ?_⟩; first | (with_reducible exact land2_ll U5 R_f1.out R_f2.out) | (with_reducible exact land2_rr U5 R_f1.out R_f2.out) | (with_reducible exact land2_xl U5 R_f1.out R_f2.out X5.out) | (with_reducible exact land2_lx U5 R_f1.out R_f2.out X5.out) | (with_reducible exact land2_set U5 R_f1.out R_f2.out X5.out Y5.out N5.out.1) | (with_reducible exact land2_set U5 R_f1.out R_f2.out Y5.out X5.out N5.out.2))
  rintro e a' w4 ⟨rfl, g_fb, g_gb, A_fb, c_fb, A_gb, c_gb, v8, v9, v10, v11, v12, v13, rfl, hbx, b_fb, b_gb, R_fb, R_gb, hg_fb, hg_gb, hne⟩
  replace R_fb := hide R_fb
  replace R_gb := hide R_gb
  clear hne
  have ne_a_fb : w.heap.size ≠ g_fb := by have := (b_a.out.lt b_a.out.lt_size (Nat.le_refl _)) _ U2; omega
  replace ne_a_fb := hide ne_a_fb
  have ge_fb : w.heap.size ≤ g_fb := by have := B.out.size; omega
  replace ge_fb := hide ge_fb
  have ne_a_gb : w.heap.size ≠ g_gb := by have := (b_a.out.lt b_a.out.lt_size (Nat.le_refl _)) _ U2; omega
  replace ne_a_gb := hide ne_a_gb
  have ge_gb : w.heap.size ≤ g_gb := by have := B.out.size; omega
  replace ge_gb := hide ge_gb
  clear hg_fb
  clear hg_gb
  replace R_a := hide (Rd.then_ R_a.out hbx)
  replace R_ad := hide (Rd.then_ R_ad.out hbx)
  have U3 : Below w1.heap.size w1 w4 := Below.then_ U2 hbx
  replace B := hide (Below.then_ B.out hbx)
  clear hbx
  replace b_a := hide (Box3.keep b_a.out U3)
  clear c_a0 c_a1 c_a2
  replace b_fb := hide b_fb
  replace b_gb := hide b_gb
  have U4 : Below w4.heap.size w4 w4 := Below.refl _ _
  have c_a0 := b_a.out.at0 b_a.out.lt_size (Nat.le_refl _)
  have c_a1 := b_a.out.at1 b_a.out.lt_size (Nat.le_refl _)
  have c_a2 := b_a.out.at2 b_a.out.lt_size (Nat.le_refl _)
  have c_fb0 := b_fb.out.at0 b_fb.out.lt_size (Nat.le_refl _)
  have c_fb1 := b_fb.out.at1 b_fb.out.lt_size (Nat.le_refl _)
  have c_gb0 := b_gb.out.at0 b_gb.out.lt_size (Nat.le_refl _)
  have c_gb1 := b_gb.out.at1 b_gb.out.lt_size (Nat.le_refl _)
  go_wp2_with fail
  have hd := Below.drw_ w4
  replace R_a := hide (Rd.then_ R_a.out hd)
  replace R_ad := hide (Rd.then_ R_ad.out hd)
  replace R_fb := hide (Rd.then_ R_fb.out hd)
  replace R_gb := hide (Rd.then_ R_gb.out hd)
  have U5 : Below w4.heap.size w4 (w4.drew) := Below.then_ U4 hd
  replace B := hide (Below.then_ B.out hd)
  clear hd
  have tok1 : True := trivial
  go_region_held3 (fun w' => Below w4.heap.size w4 w') (assumption)
    (first
      | (go_at_call 20; (have _t := tok1; (with_reducible refine (pnorm1_any R_a.out b_al.out.1 R_ad.out b_al.out.2 (Nat.le_refl _) c_xq.out).mono ?_); rintro e w5 ⟨A_x1, c_x1, A_x1d, c_x1d, rfl, R_x1, R_x1d, hb⟩; replace R_a := hide (Rd.then_ R_a.out hb); replace R_ad := hide (Rd.then_ R_ad.out hb); replace R_fb := hide (Rd.then_ R_fb.out hb); replace R_gb := hide (Rd.then_ R_gb.out hb); have U6 : Below w4.heap.size w4 w5 := Below.then_ U5 hb; replace B := hide (Below.then_ B.out hb); replace R_x1 := hide R_x1; replace R_x1d := hide R_x1d; clear hb; have tok2 : True := trivial; clear _t tok1))
      | (go_at_call 21; (have _t := tok2; (with_reducible refine (rnorm3_any R_a.out b_al.out.1 R_ad.out b_al.out.2 (Nat.le_refl _) c_xq.out).mono ?_); rintro e w6 ⟨A_x2, c_x2, A_x2d, c_x2d, rfl, R_x2, R_x2d, hb⟩; replace R_a := hide (Rd.then_ R_a.out hb); replace R_ad := hide (Rd.then_ R_ad.out hb); replace R_fb := hide (Rd.then_ R_fb.out hb); replace R_gb := hide (Rd.then_ R_gb.out hb); replace R_x1 := hide (Rd.then_ R_x1.out hb); replace R_x1d := hide (Rd.then_ R_x1d.out hb); have U7 : Below w4.heap.size w4 w6 := Below.then_ U6 hb; replace B := hide (Below.then_ B.out hb); replace R_x2 := hide R_x2; replace R_x2d := hide R_x2d; clear hb; have tok3 : True := trivial; clear _t tok2))
      | (go_at_call 14; (have _t := tok3; (with_reducible refine (same_t R_x1.out R_x1d.out R_x2.out R_x2d.out (Nat.le_refl _) rfl).mono ?_); rintro e w7 ⟨rfl, hb⟩; replace R_a := hide (Rd.then_ R_a.out hb); replace R_ad := hide (Rd.then_ R_ad.out hb); replace R_fb := hide (Rd.then_ R_fb.out hb); replace R_gb := hide (Rd.then_ R_gb.out hb); replace R_x1 := hide (Rd.then_ R_x1.out hb); replace R_x1d := hide (Rd.then_ R_x1d.out hb); replace R_x2 := hide (Rd.then_ R_x2.out hb); replace R_x2d := hide (Rd.then_ R_x2d.out hb); have U8 : Below w4.heap.size w4 w7 := Below.then_ U7 hb; replace B := hide (Below.then_ B.out hb); clear hb; have tok4 : True := trivial; clear _t tok3; clear R_x1; clear R_x1d; clear R_x2; clear R_x2d))
      | (go_at_call 22; (have _t := tok4; (with_reducible refine (pneg_any R_a.out b_al.out.1 R_ad.out b_al.out.2 (Nat.le_refl _) c_nq.out).mono ?_); rintro e w8 ⟨A_n1, c_n1, A_n1d, c_n1d, rfl, R_n1, R_n1d, hb⟩; replace R_a := hide (Rd.then_ R_a.out hb); replace R_ad := hide (Rd.then_ R_ad.out hb); replace R_fb := hide (Rd.then_ R_fb.out hb); replace R_gb := hide (Rd.then_ R_gb.out hb); have U9 : Below w4.heap.size w4 w8 := Below.then_ U8 hb; replace B := hide (Below.then_ B.out hb); replace R_n1 := hide R_n1; replace R_n1d := hide R_n1d; clear hb; have tok5 : True := trivial; clear _t tok4))
      | (go_at_call 23; (have _t := tok5; (with_reducible refine (rneg3_any R_a.out b_al.out.1 R_ad.out b_al.out.2 (Nat.le_refl _) c_nq.out).mono ?_); rintro e w9 ⟨A_n2, c_n2, A_n2d, c_n2d, rfl, R_n2, R_n2d, hb⟩; replace R_a := hide (Rd.then_ R_a.out hb); replace R_ad := hide (Rd.then_ R_ad.out hb); replace R_fb := hide (Rd.then_ R_fb.out hb); replace R_gb := hide (Rd.then_ R_gb.out hb); replace R_n1 := hide (Rd.then_ R_n1.out hb); replace R_n1d := hide (Rd.then_ R_n1d.out hb); have U10 : Below w4.heap.size w4 w9 := Below.then_ U9 hb; replace B := hide (Below.then_ B.out hb); replace R_n2 := hide R_n2; replace R_n2d := hide R_n2d; clear hb; have tok6 : True := trivial; clear _t tok5))
      | (go_at_call 14; (have _t := tok6; (with_reducible refine (same_t R_n1.out R_n1d.out R_n2.out R_n2d.out (Nat.le_refl _) rfl).mono ?_); rintro e w10 ⟨rfl, hb⟩; replace R_a := hide (Rd.then_ R_a.out hb); replace R_ad := hide (Rd.then_ R_ad.out hb); replace R_fb := hide (Rd.then_ R_fb.out hb); replace R_gb := hide (Rd.then_ R_gb.out hb); replace R_n1 := hide (Rd.then_ R_n1.out hb); replace R_n1d := hide (Rd.then_ R_n1d.out hb); replace R_n2 := hide (Rd.then_ R_n2.out hb); replace R_n2d := hide (Rd.then_ R_n2d.out hb); have U11 : Below w4.heap.size w4 w10 := Below.then_ U10 hb; replace B := hide (Below.then_ B.out hb); clear hb; have tok7 : True := trivial; clear _t tok6; clear R_n1; clear R_n1d; clear R_n2; clear R_n2d))
      | (go_at_call 24; (have _t := tok7; (with_reducible refine (pabs_any R_a.out g10.out.1 R_ad.out g10.out.2 (Nat.le_refl _) c_bq.out).mono ?_); rintro e w11 ⟨A_b1, c_b1, A_b1d, c_b1d, rfl, R_b1, R_b1d, hb⟩; replace R_a := hide (Rd.then_ R_a.out hb); replace R_ad := hide (Rd.then_ R_ad.out hb); replace R_fb := hide (Rd.then_ R_fb.out hb); replace R_gb := hide (Rd.then_ R_gb.out hb); have U12 : Below w4.heap.size w4 w11 := Below.then_ U11 hb; replace B := hide (Below.then_ B.out hb); replace R_b1 := hide R_b1; replace R_b1d := hide R_b1d; clear hb; have tok8 : True := trivial; clear _t tok7))
      | (go_at_call 25; (have _t := tok8; (with_reducible refine (rabs_any R_a.out b_al.out.1 R_ad.out b_al.out.2 (Nat.le_refl _) c_bq.out).mono ?_); rintro e w12 ⟨A_b2, c_b2, A_b2d, c_b2d, rfl, R_b2, R_b2d, hb⟩; replace R_a := hide (Rd.then_ R_a.out hb); replace R_ad := hide (Rd.then_ R_ad.out hb); replace R_fb := hide (Rd.then_ R_fb.out hb); replace R_gb := hide (Rd.then_ R_gb.out hb); replace R_b1 := hide (Rd.then_ R_b1.out hb); replace R_b1d := hide (Rd.then_ R_b1d.out hb); have U13 : Below w4.heap.size w4 w12 := Below.then_ U12 hb; replace B := hide (Below.then_ B.out hb); replace R_b2 := hide R_b2; replace R_b2d := hide R_b2d; clear hb; have tok9 : True := trivial; clear _t tok8))
      | (go_at_call 14; (have _t := tok9; (with_reducible refine (same_t R_b1.out R_b1d.out R_b2.out R_b2d.out (Nat.le_refl _) rfl).mono ?_); rintro e w13 ⟨rfl, hb⟩; replace R_a := hide (Rd.then_ R_a.out hb); replace R_ad := hide (Rd.then_ R_ad.out hb); replace R_fb := hide (Rd.then_ R_fb.out hb); replace R_gb := hide (Rd.then_ R_gb.out hb); replace R_b1 := hide (Rd.then_ R_b1.out hb); replace R_b1d := hide (Rd.then_ R_b1d.out hb); replace R_b2 := hide (Rd.then_ R_b2.out hb); replace R_b2d := hide (Rd.then_ R_b2d.out hb); have U14 : Below w4.heap.size w4 w13 := Below.then_ U13 hb; replace B := hide (Below.then_ B.out hb); clear hb; have tok10 : True := trivial; clear _t tok9; clear R_b1; clear R_b1d; clear R_b2; clear R_b2d)))
  clear tok10
  go_wp2_with fail
  have hd := Below.drw_ w13
  replace R_a := hide (Rd.then_ R_a.out hd)
  replace R_ad := hide (Rd.then_ R_ad.out hd)
  replace R_fb := hide (Rd.then_ R_fb.out hd)
  replace R_gb := hide (Rd.then_ R_gb.out hd)
  have U15 : Below w4.heap.size w4 (w13.drew) := Below.then_ U14 hd
  replace B := hide (Below.then_ B.out hd)
  clear hd
  have tok11 : True := trivial
  go_region_held3 (fun w' => Below w4.heap.size w4 w') (assumption)
    (first
      | (go_at_call 26; (have _t := tok11; (with_reducible refine (psign_any R_a.out b_al.out.1 R_ad.out b_al.out.2 (Nat.le_refl _) e_kc.out).mono ?_); rintro e w14 ⟨rfl, hb⟩; replace R_a := hide (Rd.then_ R_a.out hb); replace R_ad := hide (Rd.then_ R_ad.out hb); replace R_fb := hide (Rd.then_ R_fb.out hb); replace R_gb := hide (Rd.then_ R_gb.out hb); have U16 : Below w4.heap.size w4 w14 := Below.then_ U15 hb; replace B := hide (Below.then_ B.out hb); clear hb; have tok12 : True := trivial; clear _t tok11))
      | (go_at_call 27; (have _t := tok12; (with_reducible refine (rsign3_any R_a.out b_al.out.1 R_ad.out b_al.out.2 (Nat.le_refl _) e_kc.out).mono ?_); rintro e w15 ⟨rfl, hb⟩; replace R_a := hide (Rd.then_ R_a.out hb); replace R_ad := hide (Rd.then_ R_ad.out hb); replace R_fb := hide (Rd.then_ R_fb.out hb); replace R_gb := hide (Rd.then_ R_gb.out hb); have U17 : Below w4.heap.size w4 w15 := Below.then_ U16 hb; replace B := hide (Below.then_ B.out hb); clear hb; have tok13 : True := trivial; clear _t tok12))
      | (go_at_call 28; (have _t := tok13; (with_reducible refine (limbs_any R_fb.out R_gb.out (decide_eq_true rfl)).mono ?_); rintro e w16 ⟨rfl, hb⟩; replace R_a := hide (Rd.then_ R_a.out hb); replace R_ad := hide (Rd.then_ R_ad.out hb); replace R_fb := hide (Rd.then_ R_fb.out hb); replace R_gb := hide (Rd.then_ R_gb.out hb); have U18 : Below w4.heap.size w4 w16 := Below.then_ U17 hb; replace B := hide (Below.then_ B.out hb); clear hb; have tok14 : True := trivial; clear _t tok13))
      | (go_at_call 29; (have _t := tok14; (with_reducible refine (pprint3_any R_a.out b_al.out.1 R_ad.out b_al.out.2 (Nat.le_refl _) e_a.out).mono ?_); rw [e_qs.out]; rintro e w17 ⟨rfl, hb⟩; replace R_a := hide (Rd.then_ R_a.out hb); replace R_ad := hide (Rd.then_ R_ad.out hb); replace R_fb := hide (Rd.then_ R_fb.out hb); replace R_gb := hide (Rd.then_ R_gb.out hb); have U19 : Below w4.heap.size w4 w17 := Below.then_ U18 hb; replace B := hide (Below.then_ B.out hb); clear hb; have tok15 : True := trivial; clear _t tok14))
      | (go_at_call 30; (have _t := tok15; (with_reducible refine (rprint3_any R_a.out b_al.out.1 R_ad.out b_al.out.2 (Nat.le_refl _) e_a.out).mono ?_); rw [e_qs.out]; rintro e w18 ⟨rfl, hb⟩; replace R_a := hide (Rd.then_ R_a.out hb); replace R_ad := hide (Rd.then_ R_ad.out hb); replace R_fb := hide (Rd.then_ R_fb.out hb); replace R_gb := hide (Rd.then_ R_gb.out hb); have U20 : Below w4.heap.size w4 w18 := Below.then_ U19 hb; replace B := hide (Below.then_ B.out hb); clear hb; have tok16 : True := trivial; clear _t tok15)))
  clear tok16
  go_wp2_with fail
  replace b_a := hide (Box3.keep b_a.out U20)
  clear c_a0 c_a1 c_a2
  replace b_fb := hide (Box.keep b_fb.out U20)
  clear c_fb0 c_fb1
  replace b_gb := hide (Box.keep b_gb.out U20)
  clear c_gb0 c_gb1
  have U21 : Below w18.heap.size w18 w18 := Below.refl _ _
  have c_a0 := b_a.out.at0 b_a.out.lt_size (Nat.le_refl _)
  have c_a1 := b_a.out.at1 b_a.out.lt_size (Nat.le_refl _)
  have c_a2 := b_a.out.at2 b_a.out.lt_size (Nat.le_refl _)
  have c_fb0 := b_fb.out.at0 b_fb.out.lt_size (Nat.le_refl _)
  have c_fb1 := b_fb.out.at1 b_fb.out.lt_size (Nat.le_refl _)
  have c_gb0 := b_gb.out.at0 b_gb.out.lt_size (Nat.le_refl _)
  have c_gb1 := b_gb.out.at1 b_gb.out.lt_size (Nat.le_refl _)
  have d_a0 := c_a0
  have d_a1 := c_a1
  have d_a2 := c_a2
  have Q_a := R_a
  have Q_ad := R_ad
  have B0 := B
  refine (pnorm_f R_a.out g10.out.1 R_ad.out g10.out.2 (Nat.le_refl _) c_xq.out).mono ?_
  rintro e w19 ⟨A_m, c_m, A_md, c_md, rfl, R_m, R_md, hb, F_m, F_md⟩
  replace R_a := hide (Rd.then_ R_a.out hb)
  replace R_ad := hide (Rd.then_ R_ad.out hb)
  replace R_fb := hide (Rd.then_ R_fb.out hb)
  replace R_gb := hide (Rd.then_ R_gb.out hb)
  have U22 : Below w18.heap.size w18 w19 := Below.then_ U21 hb
  replace B := hide (Below.then_ B.out hb)
  replace R_m := hide R_m
  replace R_md := hide R_md
  replace F_m := hide F_m
  replace F_md := hide F_md
  clear hb
  have len_m := R_m.out.len
  have cap_m := R_m.out.cap
  have big_m := R_m.out.big
  have cap_md := R_md.out.cap
  have big_md := R_md.out.big
  clear len_m
  have hbx : Below w19.heap.size w19 (w19.alloc (.cells #[.bool (zneg q_a.num), .slice A_m (dig (zmag q_a.num)).length c_m, .slice A_md (dig q_a.den).length c_md] 27)) := ((Below.refl _ _).alloc (Nat.le_refl _) _)
  have Ux := Below.then_ U22 hbx
  go_wp2_with fail
  obtain ⟨V22, hV⟩ : ∃ V, V = (w19.alloc (.cells #[.bool (zneg q_a.num), .slice A_m (dig (zmag q_a.num)).length c_m, .slice A_md (dig q_a.den).length c_md] 27)) := ⟨_, rfl⟩
  obtain ⟨g_m, hg_m⟩ : ∃ g, g = w19.heap.size := ⟨_, rfl⟩
  rw [← hV]
  rw [← hV] at hbx Ux
  rw [← hg_m]
  have b_m : Box3 V22 g_m (.bool (zneg q_a.num)) (.slice A_m (dig (zmag q_a.num)).length c_m) (.slice A_md (dig q_a.den).length c_md) := by rw [hV]; exact (Box3.new _ _ _ _ hg_m)
  clear hV
  have ne_a_m : w.heap.size ≠ g_m := by have := (b_a.out.lt b_a.out.lt_size (Nat.le_refl _)) _ U22; omega
  replace ne_a_m := hide ne_a_m
  have ne_fb_m : g_fb ≠ g_m := by have := (b_fb.out.lt b_fb.out.lt_size (Nat.le_refl _)) _ U22; omega
  replace ne_fb_m := hide ne_fb_m
  have ne_gb_m : g_gb ≠ g_m := by have := (b_gb.out.lt b_gb.out.lt_size (Nat.le_refl _)) _ U22; omega
  replace ne_gb_m := hide ne_gb_m
  have ge_m : w.heap.size ≤ g_m := by have := B.out.size; omega
  replace ge_m := hide ge_m
  clear hg_m
  replace R_a := hide (Rd.then_ R_a.out hbx)
  replace R_ad := hide (Rd.then_ R_ad.out hbx)
  replace R_fb := hide (Rd.then_ R_fb.out hbx)
  replace R_gb := hide (Rd.then_ R_gb.out hbx)
  replace R_m := hide (Rd.then_ R_m.out hbx)
  replace R_md := hide (Rd.then_ R_md.out hbx)
  have U23 : Below w18.heap.size w18 V22 := Below.then_ U22 hbx
  replace B := hide (Below.then_ B.out hbx)
  replace F_m := hide (Fresh.keep F_m.out hbx)
  replace F_md := hide (Fresh.keep F_md.out hbx)
  clear hbx
  replace b_a := hide (Box3.keep b_a.out U23)
  clear c_a0 c_a1 c_a2
  replace b_fb := hide (Box.keep b_fb.out U23)
  clear c_fb0 c_fb1
  replace b_gb := hide (Box.keep b_gb.out U23)
  clear c_gb0 c_gb1
  replace b_m := hide b_m
  have U24 : Below V22.heap.size V22 V22 := Below.refl _ _
  have c_a0 := b_a.out.at0 b_a.out.lt_size (Nat.le_refl _)
  have c_a1 := b_a.out.at1 b_a.out.lt_size (Nat.le_refl _)
  have c_a2 := b_a.out.at2 b_a.out.lt_size (Nat.le_refl _)
  have c_fb0 := b_fb.out.at0 b_fb.out.lt_size (Nat.le_refl _)
  have c_fb1 := b_fb.out.at1 b_fb.out.lt_size (Nat.le_refl _)
  have c_gb0 := b_gb.out.at0 b_gb.out.lt_size (Nat.le_refl _)
  have c_gb1 := b_gb.out.at1 b_gb.out.lt_size (Nat.le_refl _)
  have c_m0 := b_m.out.at0 b_m.out.lt_size (Nat.le_refl _)
  have c_m1 := b_m.out.at1 b_m.out.lt_size (Nat.le_refl _)
  have c_m2 := b_m.out.at2 b_m.out.lt_size (Nat.le_refl _)
  have hI0 := hide (show WInv w18 g_m (.bool (zneg q_a.num)) (.slice A_m (dig (zmag q_a.num)).length c_m) (.slice A_md (dig q_a.den).length c_md) A_m (dig (zmag q_a.num)).length A_md (dig q_a.den).length V22 from ⟨Ux, b_m.out, F_m.out, F_md.out⟩)
  obtain ⟨N1, hN1⟩ : ∃ N, N = (dig (zmag q_a.num)).length := ⟨_, rfl⟩
  obtain ⟨N2, hN2⟩ : ∃ N, N = (dig q_a.den).length := ⟨_, rfl⟩
  clear R_a R_ad B F_m F_md
  clear c_a0 c_a1 c_a2
  clear c_fb0 c_fb1
  clear c_gb0 c_gb1
  clear c_m0 c_m1 c_m2
  rw [← hN1] at big_m cap_m hI0
  rw [← hN2] at big_md cap_md hI0
  rw [← hN1, ← hN2]
  go_loopw [6] (fun i wr => ∃ k : Nat, k ≤ N1 ∧ i = .int .i64 k ∧ Hid (WInv w18 g_m (.bool (zneg q_a.num)) (.slice A_m N1 c_m) (.slice A_md N2 c_md) A_m N1 A_md N2 wr)) (fun i _ => N1 - (intOf i).toNat)
  case atStart => exact ⟨0, Nat.zero_le _, rfl, hI0⟩
  case round =>
    obtain ⟨k, hk, rfl, hI⟩ := hrel
    have Ur := hI.out.1
    obtain ⟨m0, m1, m2, mf0, mf1, mf2, ml⟩ := box3_kept_at hI.out.2.1 hI.out.2.1.lt_size (Nat.le_refl _) (Below.refl _ _)
    by_cases hkl : k < N1
    · obtain ⟨g, os, hA, hg, hO, hn⟩ := hI.out.2.2.1 (by omega)
      subst hA
      have e0 := hO.cell (j := k) (by omega)
      have e1 := hO.frozen k
      have hS := hide (fun j => hI.out.put hO hg (j := j) (x := 7) (u := 7) (by omega) rfl)
      clear hn hO hg hI
      go_wp2
      go_roundw
      case rel => exact ⟨k + 1, by omega, by go_num, hS.out k⟩
      case measure => simp [intOf]; omega
    · obtain rfl : N1 = k := by omega
      go_wp2
      go_loopw [7] (fun i wr => ∃ k : Nat, k ≤ N2 ∧ i = .int .i64 k ∧ Hid (WInv w18 g_m (.bool (zneg q_a.num)) (.slice A_m N1 c_m) (.slice A_md N2 c_md) A_m N1 A_md N2 wr)) (fun i _ => N2 - (intOf i).toNat)
      case atStart => exact ⟨0, Nat.zero_le _, rfl, hI⟩
      case round =>
        obtain ⟨k, hk, rfl, hI⟩ := hrel
        have Ur := hI.out.1
        obtain ⟨m0, m1, m2, mf0, mf1, mf2, ml⟩ := box3_kept_at hI.out.2.1 hI.out.2.1.lt_size (Nat.le_refl _) (Below.refl _ _)
        by_cases hkl : k < N2
        · obtain ⟨g, os, hA, hg, hO, hn⟩ := hI.out.2.2.2 (by omega)
          subst hA
          have e0 := hO.cell (j := k) (by omega)
          have e1 := hO.frozen k
          have hS := hide (fun j => hI.out.put hO hg (j := j) (x := 9) (u := 9) (by omega) rfl)
          clear hn hO hg hI
          go_wp2
          go_roundw
          case rel => exact ⟨k + 1, by omega, by go_num, hS.out k⟩
          case measure => simp [intOf]; omega
        · obtain rfl : N2 = k := by omega
          have R_a := hide (Q_a.out.then_ Ur)
          have R_ad := hide (Q_ad.out.then_ Ur)
          have B := hide (Below.then_ B0.out Ur)
          have c_a0 : ∀ w', Below wr.heap.size wr w' → w'.cell? ⟨w.heap.size, 0, none⟩ = some (.bool s_a) := fun w' hb => d_a0 w' (Below.then_ Ur hb)
          have c_a1 : ∀ w', Below wr.heap.size wr w' → w'.cell? ⟨w.heap.size, 1, none⟩ = some (.slice A_a n_a c_a) := fun w' hb => d_a1 w' (Below.then_ Ur hb)
          have c_a2 : ∀ w', Below wr.heap.size wr w' → w'.cell? ⟨w.heap.size, 2, none⟩ = some (.slice A_ad n_ad c_ad) := fun w' hb => d_a2 w' (Below.then_ Ur hb)
          have V0 : Below wr.heap.size wr wr := Below.refl _ _
          go_wp2_with fail
          clear Q_a Q_ad B0 d_a0 d_a1 d_a2 m0 m1 m2 mf0 mf1 mf2 ml hI hkl hk
          have hd := Below.drw_ wr
          replace R_a := hide (Rd.then_ R_a.out hd)
          replace R_ad := hide (Rd.then_ R_ad.out hd)
          have U25 : Below wr.heap.size wr (wr.drew) := Below.then_ V0 hd
          replace B := hide (Below.then_ B.out hd)
          clear hd
          have tok17 : True := trivial
          go_region_held3 (fun w' => Below wr.heap.size wr w') (assumption)
            (first
              | (go_at_call 20; (have _t := tok17; (with_reducible refine (pnorm1_any R_a.out b_al.out.1 R_ad.out b_al.out.2 (Nat.le_refl _) c_xq.out).mono ?_); rintro e w20 ⟨A_x3, c_x3, A_x3d, c_x3d, rfl, R_x3, R_x3d, hb⟩; replace R_a := hide (Rd.then_ R_a.out hb); replace R_ad := hide (Rd.then_ R_ad.out hb); have U26 : Below wr.heap.size wr w20 := Below.then_ U25 hb; replace B := hide (Below.then_ B.out hb); replace R_x3 := hide R_x3; replace R_x3d := hide R_x3d; clear hb; have tok18 : True := trivial; clear _t tok17))
              | (go_at_call 21; (have _t := tok18; (with_reducible refine (rnorm3_any R_a.out b_al.out.1 R_ad.out b_al.out.2 (Nat.le_refl _) c_xq.out).mono ?_); rintro e w21 ⟨A_x4, c_x4, A_x4d, c_x4d, rfl, R_x4, R_x4d, hb⟩; replace R_a := hide (Rd.then_ R_a.out hb); replace R_ad := hide (Rd.then_ R_ad.out hb); replace R_x3 := hide (Rd.then_ R_x3.out hb); replace R_x3d := hide (Rd.then_ R_x3d.out hb); have U27 : Below wr.heap.size wr w21 := Below.then_ U26 hb; replace B := hide (Below.then_ B.out hb); replace R_x4 := hide R_x4; replace R_x4d := hide R_x4d; clear hb; have tok19 : True := trivial; clear _t tok18))
              | (go_at_call 14; (have _t := tok19; (with_reducible refine (same_t R_x3.out R_x3d.out R_x4.out R_x4d.out (Nat.le_refl _) rfl).mono ?_); rintro e w22 ⟨rfl, hb⟩; replace R_a := hide (Rd.then_ R_a.out hb); replace R_ad := hide (Rd.then_ R_ad.out hb); replace R_x3 := hide (Rd.then_ R_x3.out hb); replace R_x3d := hide (Rd.then_ R_x3d.out hb); replace R_x4 := hide (Rd.then_ R_x4.out hb); replace R_x4d := hide (Rd.then_ R_x4d.out hb); have U28 : Below wr.heap.size wr w22 := Below.then_ U27 hb; replace B := hide (Below.then_ B.out hb); clear hb; have tok20 : True := trivial; clear _t tok19)))
          clear tok20
          go_wp2
          go_ret
          exact ⟨rfl, B.out⟩

set_option maxHeartbeats 4000000 in
theorem unary_walk_big0 {w : World} {A_a : Option Addr} {n_a c_a : Nat} {s_a : Bool} {A_ad : Option Addr} {n_ad c_ad : Nat}  (g : ¬ (n_a ≤ 40 ∧ n_ad ≤ 40)) :
    Calls Try.prog 4 #[.agg #[.bool s_a, .slice A_a n_a c_a, .slice A_ad n_ad c_ad]] w (RetB w (.bool true)) := by
  obtain ⟨W, hW⟩ : ∃ W, W = (w.alloc (.cells #[.bool s_a, .slice A_a n_a c_a, .slice A_ad n_ad c_ad] 27)) := ⟨_, rfl⟩
  have b_a : Box3 W (w.heap.size) (.bool s_a) (.slice A_a n_a c_a) (.slice A_ad n_ad c_ad) := by rw [hW]; exact (Box3.new w _ _ _ rfl)
  have hwW : Below w.heap.size w W := by rw [hW]; exact ((Below.refl _ _).alloc (Nat.le_refl _) _)
  have B := hide hwW
  clear hwW
  have U0 : Below W.heap.size W W := Below.refl _ _
  have c_a0 := b_a.at0 b_a.lt_size (Nat.le_refl _)
  have c_a1 := b_a.at1 b_a.lt_size (Nat.le_refl _)
  have c_a2 := b_a.at2 b_a.lt_size (Nat.le_refl _)
  replace b_a := hide b_a
  go_enter Try.func4, Try.ntmps4
  go_wp2_with fail
  rw [← hW]
  clear hW
  refine (large_yes g).mono ?_
  rintro e w1 ⟨rfl, hb⟩
  have U1 : Below W.heap.size W w1 := Below.then_ U0 hb
  replace B := hide (Below.then_ B.out hb)
  clear hb
  go_wp2
  go_ret
  exact ⟨rfl, B.out⟩

theorem unary_walk_all {w : World} {A_a A_ad : Option Addr} {n_a c_a n_ad c_ad : Nat} {x_a x_ad : List Nat} {s_a : Bool} (h_a : n_a ≤ 70368744177664 → Rd w w.heap.size A_a n_a c_a x_a) (h_ad : n_ad ≤ 70368744177664 → Rd w w.heap.size A_ad n_ad c_ad x_ad) :
    Calls Try.prog 4 #[.agg #[.bool s_a, .slice A_a n_a c_a, .slice A_ad n_ad c_ad]] w (RetB w (.bool true)) := by
  by_cases g0 : n_a ≤ 40 ∧ n_ad ≤ 40
  case neg => exact unary_walk_big0  g0
  exact unary_walk (h_a (by omega)) g0.1 (h_ad (by omega)) g0.2 (Nat.le_refl _)

end Go.Proofs.Ytieopcchchebgaa

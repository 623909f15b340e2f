/-
  RatioNormal.
-/
import Derived.Test.YtieopcchchebgaaTwo3
namespace Go.Proofs.Ytieopcchchebgaa
open Go.RowKit


theorem sgn_sub_zero (x y : Rat) : (sgn (x - y).num == 0) = decide (x = y) := by
  have h : sgn (x - y).num = 0 ↔ x = y := by
    constructor
    · intro e
      have e2 := Rat.num_eq_zero.1 ((sgn_zero_iff _).1 e)
      have := Rat.sub_add_cancel (a := x) (b := y)
      rw [e2, Rat.zero_add] at this
      exact this.symm
    · intro e; rw [e, Rat.sub_self]; rfl
  by_cases hx : x = y
  · rw [decide_eq_true hx, h.2 hx]; rfl
  · rw [decide_eq_false hx]; have := mt h.1 hx; simpa using this

set_option maxHeartbeats 4000000 in
theorem normal_walk {w : World} {Bd : Nat} {A_a : Option Addr} {n_a c_a : Nat} {x_a : List Nat} {s_a : Bool} {A_ad : Option Addr} {n_ad c_ad : Nat} {x_ad : List Nat} {A_b : Option Addr} {n_b c_b : Nat} {x_b : List Nat} {s_b : Bool} {A_bd : Option Addr} {n_bd c_bd : Nat} {x_bd : List Nat} (h_a : Rd w Bd A_a n_a c_a x_a) (g_a : n_a ≤ 40) (h_ad : Rd w Bd A_ad n_ad c_ad x_ad) (g_ad : n_ad ≤ 40) (h_b : Rd w Bd A_b n_b c_b x_b) (g_b : n_b ≤ 40) (h_bd : Rd w Bd A_bd n_bd c_bd x_bd) (g_bd : n_bd ≤ 40) (hB : Bd ≤ w.heap.size)  :
    Calls Try.prog 9 #[.agg #[.bool s_a, .slice A_a n_a c_a, .slice A_ad n_ad c_ad], .agg #[.bool s_b, .slice A_b n_b c_b, .slice A_bd n_bd c_bd]] w (RetB w (.bool true)) := by
  obtain ⟨q_a, e_a⟩ : ∃ v, qv s_a (val x_a) (val x_ad) = v := ⟨_, rfl⟩
  replace e_a := hide e_a
  have s_aq : (dig (zmag q_a.num)).length ≤ 41 ∧ (dig q_a.den).length ≤ 41 := sz_rd h_a h_ad e_a.out g_a g_ad
  replace s_aq := hide s_aq
  have b_al : n_a ≤ 1000000000 ∧ n_ad ≤ 1000000000 := ⟨Nat.le_trans g_a (by omega), Nat.le_trans g_ad (by omega)⟩
  replace b_al := hide b_al
  obtain ⟨q_b, e_b⟩ : ∃ v, qv s_b (val x_b) (val x_bd) = v := ⟨_, rfl⟩
  replace e_b := hide e_b
  have s_bq : (dig (zmag q_b.num)).length ≤ 41 ∧ (dig q_b.den).length ≤ 41 := sz_rd h_b h_bd e_b.out g_b g_bd
  replace s_bq := hide s_bq
  have b_bl : n_b ≤ 1000000000 ∧ n_bd ≤ 1000000000 := ⟨Nat.le_trans g_b (by omega), Nat.le_trans g_bd (by omega)⟩
  replace b_bl := hide b_bl
  have e_x : q_a = q_a := rfl
  replace e_x := hide e_x
  have c_xq : qv s_a (val x_a) (val x_ad) = q_a := by rw [e_a.out]
  replace c_xq := hide c_xq
  have s_xq : (dig (zmag q_a.num)).length ≤ 41 ∧ (dig q_a.den).length ≤ 41 := by rw [← e_x.out]; exact s_aq.out
  replace s_xq := hide s_xq
  have e_y : q_b = q_b := rfl
  replace e_y := hide e_y
  have c_yq : qv s_b (val x_b) (val x_bd) = q_b := by rw [e_b.out]
  replace c_yq := hide c_yq
  have s_yq : (dig (zmag q_b.num)).length ≤ 41 ∧ (dig q_b.den).length ≤ 41 := by rw [← e_y.out]; exact s_bq.out
  replace s_yq := hide s_yq
  obtain ⟨v_s, e_s⟩ : ∃ v, q_a + q_b = v := ⟨_, rfl⟩
  replace e_s := hide e_s
  have c_sq : qv s_a (val x_a) (val x_ad) + qv s_b (val x_b) (val x_bd) = v_s := by rw [e_a.out, e_b.out]; exact e_s.out
  replace c_sq := hide c_sq
  have s_sq : (dig (zmag v_s.num)).length ≤ 83 ∧ (dig v_s.den).length ≤ 83 := sz_add e_s.out s_aq.out s_bq.out
  replace s_sq := hide s_sq
  obtain ⟨v_m, e_m⟩ : ∃ v, q_a * q_b = v := ⟨_, rfl⟩
  replace e_m := hide e_m
  have c_mq : qv s_a (val x_a) (val x_ad) * qv s_b (val x_b) (val x_bd) = v_m := by rw [e_a.out, e_b.out]; exact e_m.out
  replace c_mq := hide c_mq
  have s_mq : (dig (zmag v_m.num)).length ≤ 82 ∧ (dig v_m.den).length ≤ 82 := sz_mul e_m.out s_aq.out s_bq.out
  replace s_mq := hide s_mq
  obtain ⟨v_n, e_n⟩ : ∃ v, -q_a = v := ⟨_, rfl⟩
  replace e_n := hide e_n
  have c_nq : -qv s_a (val x_a) (val x_ad) = v_n := by rw [e_a.out]; exact e_n.out
  replace c_nq := hide c_nq
  have s_nq : (dig (zmag v_n.num)).length ≤ 41 ∧ (dig v_n.den).length ≤ 41 := sz_neg e_n.out s_aq.out
  replace s_nq := hide s_nq
  obtain ⟨v_f, e_f⟩ : ∃ v, q_a - q_b = v := ⟨_, rfl⟩
  replace e_f := hide e_f
  have c_fq : qv s_a (val x_a) (val x_ad) - qv s_b (val x_b) (val x_bd) = v_f := by rw [e_a.out, e_b.out]; exact e_f.out
  replace c_fq := hide c_fq
  have s_fq : (dig (zmag v_f.num)).length ≤ 83 ∧ (dig v_f.den).length ≤ 83 := sz_sub e_f.out s_aq.out s_bq.out
  replace s_fq := hide s_fq
  obtain ⟨v_d, e_d⟩ : ∃ v, q_a / q_b = v := ⟨_, rfl⟩
  replace e_d := hide e_d
  have c_dq : qv s_a (val x_a) (val x_ad) / qv s_b (val x_b) (val x_bd) = v_d := by rw [e_a.out, e_b.out]; exact e_d.out
  replace c_dq := hide c_dq
  have s_dq : (dig (zmag v_d.num)).length ≤ 82 ∧ (dig v_d.den).length ≤ 82 := sz_div e_d.out s_aq.out s_bq.out
  replace s_dq := hide s_dq
  obtain ⟨ok, e_ok⟩ : ∃ ok, decide (q_b ≠ 0) = ok := ⟨_, rfl⟩
  have c_ok : decide (qv s_b (val x_b) (val x_bd) ≠ 0) = ok := by rw [e_b.out]; exact e_ok
  replace c_ok := hide c_ok
  clear e_ok
  obtain ⟨k, e_k⟩ : ∃ v, sgn (q_a - q_b).num = v := ⟨_, rfl⟩
  replace e_k := hide e_k
  have e_kc : sgn (qv s_a (val x_a) (val x_ad) - qv s_b (val x_b) (val x_bd)).num = k := by rw [e_a.out, e_b.out]; exact e_k.out
  replace e_kc := hide e_kc
  obtain ⟨r, e_r⟩ : ∃ r, decide (q_a = q_b) = r := ⟨_, rfl⟩
  have h_k : (k == 0) = r := by rw [← e_r, ← e_k.out]; exact sgn_sub_zero q_a q_b
  replace e_r := hide e_r
  replace h_k := hide h_k
  have gn_x : (dig (zmag q_a.num)).length ≤ 10000000000 ∧ (dig q_a.den).length ≤ 10000000000 := by have := s_xq.out; omega
  replace gn_x := hide gn_x
  have gn_y : (dig (zmag q_b.num)).length ≤ 10000000000 ∧ (dig q_b.den).length ≤ 10000000000 := by have := s_yq.out; omega
  replace gn_y := hide gn_y
  have gn_s : (dig (zmag v_s.num)).length ≤ 10000000000 ∧ (dig v_s.den).length ≤ 10000000000 := by have := s_sq.out; omega
  replace gn_s := hide gn_s
  have gn_m : (dig (zmag v_m.num)).length ≤ 10000000000 ∧ (dig v_m.den).length ≤ 10000000000 := by have := s_mq.out; omega
  replace gn_m := hide gn_m
  have gn_n : (dig (zmag v_n.num)).length ≤ 10000000000 ∧ (dig v_n.den).length ≤ 10000000000 := by have := s_nq.out; omega
  replace gn_n := hide gn_n
  have gn_f : (dig (zmag v_f.num)).length ≤ 10000000000 ∧ (dig v_f.den).length ≤ 10000000000 := by have := s_fq.out; omega
  replace gn_f := hide gn_f
  have gn_d : (dig (zmag v_d.num)).length ≤ 10000000000 ∧ (dig v_d.den).length ≤ 10000000000 := by have := s_dq.out; omega
  replace gn_d := hide gn_d
  obtain ⟨W, hW⟩ : ∃ W, W = ((w.alloc (.cells #[.bool s_a, .slice A_a n_a c_a, .slice A_ad n_ad c_ad] 27)).alloc (.cells #[.bool s_b, .slice A_b n_b c_b, .slice A_bd n_bd c_bd] 27)) := ⟨_, rfl⟩
  have b_a : Box3 W (w.heap.size) (.bool s_a) (.slice A_a n_a c_a) (.slice A_ad n_ad c_ad) := by rw [hW]; exact ((Box3.new w _ _ _ rfl).al _)
  have b_b : Box3 W (w.heap.size + 1) (.bool s_b) (.slice A_b n_b c_b) (.slice A_bd n_bd c_bd) := by rw [hW]; exact (Box3.new _ _ _ _ (by simp))
  have hwW : Below w.heap.size w W := by rw [hW]; exact (((Below.refl _ _).alloc (Nat.le_refl _) _).alloc (by simp) _)
  have R_a := hide (Rd.upto h_a hwW hB)
  clear h_a
  have R_ad := hide (Rd.upto h_ad hwW hB)
  clear h_ad
  have R_b := hide (Rd.upto h_b hwW hB)
  clear h_b
  have R_bd := hide (Rd.upto h_bd hwW hB)
  clear h_bd
  have B := hide hwW
  clear hwW
  clear hB
  have U0 : Below W.heap.size W W := Below.refl _ _
  have c_a0 := b_a.at0 b_a.lt_size (Nat.le_refl _)
  have c_a1 := b_a.at1 b_a.lt_size (Nat.le_refl _)
  have c_a2 := b_a.at2 b_a.lt_size (Nat.le_refl _)
  replace b_a := hide b_a
  have c_b0 := b_b.at0 b_b.lt_size (Nat.le_refl _)
  have c_b1 := b_b.at1 b_b.lt_size (Nat.le_refl _)
  have c_b2 := b_b.at2 b_b.lt_size (Nat.le_refl _)
  replace b_b := hide b_b
  go_enter Try.func9, Try.ntmps9
  go_wp2_with fail
  rw [← hW]
  clear hW
  refine (large_no g_a g_ad).mono ?_
  rintro e w1 ⟨rfl, hb⟩
  replace R_a := hide (Rd.then_ R_a.out hb)
  replace R_ad := hide (Rd.then_ R_ad.out hb)
  replace R_b := hide (Rd.then_ R_b.out hb)
  replace R_bd := hide (Rd.then_ R_bd.out hb)
  have U1 : Below W.heap.size W w1 := Below.then_ U0 hb
  replace B := hide (Below.then_ B.out hb)
  clear hb
  go_wp2_with fail
  refine (large_no g_b g_bd).mono ?_
  rintro e w2 ⟨rfl, hb⟩
  replace R_a := hide (Rd.then_ R_a.out hb)
  replace R_ad := hide (Rd.then_ R_ad.out hb)
  replace R_b := hide (Rd.then_ R_b.out hb)
  replace R_bd := hide (Rd.then_ R_bd.out hb)
  have U2 : Below W.heap.size W w2 := Below.then_ U1 hb
  replace B := hide (Below.then_ B.out hb)
  clear hb
  go_wp2_with fail
  replace b_a := hide (Box3.keep b_a.out U2)
  clear c_a0 c_a1 c_a2
  replace b_b := hide (Box3.keep b_b.out U2)
  clear c_b0 c_b1 c_b2
  have U3 : Below w2.heap.size w2 w2 := Below.refl _ _
  have c_a0 := b_a.out.at0 b_a.out.lt_size (Nat.le_refl _)
  have c_a1 := b_a.out.at1 b_a.out.lt_size (Nat.le_refl _)
  have c_a2 := b_a.out.at2 b_a.out.lt_size (Nat.le_refl _)
  have c_b0 := b_b.out.at0 b_b.out.lt_size (Nat.le_refl _)
  have c_b1 := b_b.out.at1 b_b.out.lt_size (Nat.le_refl _)
  have c_b2 := b_b.out.at2 b_b.out.lt_size (Nat.le_refl _)
  refine Code.wp_mono (Q := fun e a' w' => e = .normal ∧ ∃ (g h : Nat) (xA : Option Addr) (xc : Nat) (xB : Option Addr) (xd : Nat) (yA : Option Addr) (yc : Nat) (yB : Option Addr) (yd : Nat) (v9 v10 v11 v12 v13 v14 v15 v16 v17 v18 : Value), a' = ⟨#[.agg #[.bool s_a, .slice A_a n_a c_a, .slice A_ad n_ad c_ad], .agg #[.bool s_b, .slice A_b n_b c_b, .slice A_bd n_bd c_bd], (.pointer (some ⟨w.heap.size, 0, none⟩)), (.pointer (some ⟨w.heap.size + 1, 0, none⟩)), .bool false, (.pointer (some ⟨g, 0, none⟩)), (.pointer (some ⟨h, 0, none⟩)), undef, undef, v9, v10, v11, v12, v13, v14, v15, v16, v17, v18, undef, undef, undef, undef, undef, undef, undef, undef, undef, undef, undef, undef, undef, undef, undef, undef, undef, undef, undef, undef, undef, undef, undef, undef, undef, undef, undef, undef, undef, undef, undef, undef, undef, undef, undef, undef, undef, undef, undef, undef, undef, undef, undef, undef, undef, undef, undef, undef, undef, undef, undef, undef, undef], []⟩ ∧ Land23 w2 w' g q_a xA xc xB xd h q_b yA yc yB yd) ?_ ?_
  rotate_left
  · skip
    clear e_s c_sq s_sq e_m c_mq s_mq e_n c_nq s_nq e_f c_fq s_fq e_d c_dq s_dq gn_x gn_y gn_s gn_m gn_n gn_f gn_d c_ok e_kc e_k h_k e_r s_aq s_bq s_xq s_yq e_x e_y
    have hd := Below.drw_ w2
    replace R_a := hide (Rd.then_ R_a.out hd)
    replace R_ad := hide (Rd.then_ R_ad.out hd)
    replace R_b := hide (Rd.then_ R_b.out hd)
    replace R_bd := hide (Rd.then_ R_bd.out hd)
    have U4 : Below w2.heap.size w2 (w2.drew) := Below.then_ U3 hd
    replace B := hide (Below.then_ B.out hd)
    clear hd
    have tok1 : True := trivial
    go_region_held3 (fun w' => Below w2.heap.size w2 w') (first | (with_reducible assumption) | (with_reducible exact Below.al2_drew (by with_reducible assumption) _ _) | (with_reducible exact Below.al_drew (by with_reducible assumption) _) | ((repeat (first | (with_reducible refine Below.al_ ?_ _) | (with_reducible refine Below.set_ ?_ ?_))); all_goals first | (with_reducible assumption) | (exact X6.out.2) | (exact Y6.out.2) | fail))
      (first
        | (go_at_call 20; (have _t := tok1; (with_reducible refine (pnorm1_any (by with_reducible first | exact R_a.out | exact Rd.al2_drew R_a.out | exact Rd.al_drew R_a.out) b_al.out.1 (by with_reducible first | exact R_ad.out | exact Rd.al2_drew R_ad.out | exact Rd.al_drew R_ad.out) b_al.out.2 (Nat.le_refl _) c_xq.out).mono ?_); rintro e w3 ⟨A_x, c_x, A_xd, c_xd, rfl, R_x, R_xd, hb⟩; have hb1 : Below (w2.drew).heap.size (w2.drew) w3 := (by with_reducible first | exact hb | exact Below.al2_then_drew hb | exact Below.al_then_drew hb); (first | ((have X5 : Hid (XBox3 w2 w3 w2.heap.size) := (by with_reducible exact hide (XBox3.made2a_drew U4 hb))); (have Y5 : Hid (XBox3 w2 w3 (w2.heap.size + 1)) := (by with_reducible exact hide (XBox3.made2b_drew U4 hb))); (have N5 : Hid (w2.heap.size ≠ (w2.heap.size + 1) ∧ (w2.heap.size + 1) ≠ w2.heap.size) := hide ⟨by omega, by omega⟩)) | (have X5 : Hid (XBox3 w2 w3 w2.heap.size) := (by with_reducible exact hide (XBox3.made_drew U4 hb))) | skip); replace R_a := hide (Rd.then_ R_a.out hb1); replace R_ad := hide (Rd.then_ R_ad.out hb1); replace R_b := hide (Rd.then_ R_b.out hb1); replace R_bd := hide (Rd.then_ R_bd.out hb1); have U5 : Below w2.heap.size w2 w3 := Below.then_ U4 hb1; replace B := hide (Below.then_ B.out hb1); clear hb1; replace R_x := hide R_x; replace R_xd := hide R_xd; clear hb; have tok2 : True := trivial; clear _t tok1))
        | (go_at_call 20; (have _t := tok2; (with_reducible refine (pnorm1_any (by with_reducible first | exact R_b.out | exact Rd.al_ (Rd.al_ R_b.out) | exact Rd.al_ R_b.out) b_bl.out.1 (by with_reducible first | exact R_bd.out | exact Rd.al_ (Rd.al_ R_bd.out) | exact Rd.al_ R_bd.out) b_bl.out.2 (Nat.le_refl _) c_yq.out).mono ?_); rintro e w4 ⟨A_y, c_y, A_yd, c_yd, rfl, R_y, R_yd, hb⟩; have hb1 : Below w3.heap.size w3 w4 := (by with_reducible first | exact hb | exact Below.al2_then hb | exact Below.al_then hb); (first | ((have X6 : Hid (XBox3 w2 w4 w3.heap.size) := (by with_reducible exact hide (XBox3.made2a U5 hb))); (have Y6 : Hid (XBox3 w2 w4 (w3.heap.size + 1)) := (by with_reducible exact hide (XBox3.made2b U5 hb))); (have N6 : Hid (w3.heap.size ≠ (w3.heap.size + 1) ∧ (w3.heap.size + 1) ≠ w3.heap.size) := hide ⟨by omega, by omega⟩)) | ((with_reducible have X6 := hide (XBox3.keep X5.out hb1)); (have Y6 : Hid (XBox3 w2 w4 w3.heap.size) := (by with_reducible exact hide (XBox3.made U5 hb))); (have N6 := hide (XBox3.apart X5.out))) | (have X6 : Hid (XBox3 w2 w4 w3.heap.size) := (by with_reducible exact hide (XBox3.made U5 hb))) | ((with_reducible have X6 := hide (XBox3.keep X5.out hb1)); (with_reducible have Y6 := hide (XBox3.keep Y5.out hb1)); (have N6 := N5)) | (with_reducible have X6 := hide (XBox3.keep X5.out hb1)) | skip); replace R_a := hide (Rd.then_ R_a.out hb1); replace R_ad := hide (Rd.then_ R_ad.out hb1); replace R_b := hide (Rd.then_ R_b.out hb1); replace R_bd := hide (Rd.then_ R_bd.out hb1); replace R_x := hide (Rd.then_ R_x.out hb1); replace R_xd := hide (Rd.then_ R_xd.out hb1); have U6 : Below w2.heap.size w2 w4 := Below.then_ U5 hb1; replace B := hide (Below.then_ B.out hb1); clear hb1; replace R_y := hide R_y; replace R_yd := hide R_yd; clear hb; have tok3 : True := trivial; clear _t tok2; (first | (have xf := XBox3.facts X6.out; obtain ⟨x0, x1, x2, x3, x4, x5, x6⟩ := xf) | skip); (first | (have yf := XBox3.facts Y6.out; obtain ⟨y0, y1, y2, y3, y4, y5, y6⟩ := yf) | skip); (first | (have nf := N6.out; obtain ⟨nf1, nf2⟩ := nf) | skip); (first | (have xa := XBox3.apart X6.out; obtain ⟨xa1, xa2⟩ := xa) | skip))))
    all_goals (refine ⟨rfl, _, _, A_x, c_x, A_xd, c_xd, A_y, c_y, A_yd, c_yd, _, _, _, _, _, _, _, _, _, _, rfl, ?_⟩; first | (with_reducible exact land23_ll U6 R_x.out R_xd.out R_y.out R_yd.out) | (with_reducible exact land23_rr U6 R_x.out R_xd.out R_y.out R_yd.out) | (with_reducible exact land23_xl U6 R_x.out R_xd.out R_y.out R_yd.out X6.out) | (with_reducible exact land23_lx U6 R_x.out R_xd.out R_y.out R_yd.out X6.out) | (with_reducible exact land23_set U6 R_x.out R_xd.out R_y.out R_yd.out X6.out Y6.out N6.out.1) | (with_reducible exact land23_set U6 R_x.out R_xd.out R_y.out R_yd.out Y6.out X6.out N6.out.2))
  rintro e a' w5 ⟨rfl, g_x, g_y, A_x, c_x, A_xd, c_xd, A_y, c_y, A_yd, c_yd, v9, v10, v11, v12, v13, v14, v15, v16, v17, v18, rfl, hbx, b_x, b_y, R_x, R_xd, R_y, R_yd, hg_x, hg_y, hne⟩
  replace R_x := hide R_x
  replace R_xd := hide R_xd
  replace R_y := hide R_y
  replace R_yd := hide R_yd
  clear hne
  have ne_a_x : w.heap.size ≠ g_x := by have := (b_a.out.lt b_a.out.lt_size (Nat.le_refl _)) _ U3; omega
  replace ne_a_x := hide ne_a_x
  have ne_b_x : w.heap.size + 1 ≠ g_x := by have := (b_b.out.lt b_b.out.lt_size (Nat.le_refl _)) _ U3; omega
  replace ne_b_x := hide ne_b_x
  have ge_x : w.heap.size ≤ g_x := by have := B.out.size; omega
  replace ge_x := hide ge_x
  have ne_a_y : w.heap.size ≠ g_y := by have := (b_a.out.lt b_a.out.lt_size (Nat.le_refl _)) _ U3; omega
  replace ne_a_y := hide ne_a_y
  have ne_b_y : w.heap.size + 1 ≠ g_y := by have := (b_b.out.lt b_b.out.lt_size (Nat.le_refl _)) _ U3; omega
  replace ne_b_y := hide ne_b_y
  have ge_y : w.heap.size ≤ g_y := by have := B.out.size; omega
  replace ge_y := hide ge_y
  clear hg_x
  clear hg_y
  replace R_a := hide (Rd.then_ R_a.out hbx)
  replace R_ad := hide (Rd.then_ R_ad.out hbx)
  replace R_b := hide (Rd.then_ R_b.out hbx)
  replace R_bd := hide (Rd.then_ R_bd.out hbx)
  have U4 : Below w2.heap.size w2 w5 := Below.then_ U3 hbx
  replace B := hide (Below.then_ B.out hbx)
  clear hbx
  replace b_a := hide (Box3.keep b_a.out U4)
  clear c_a0 c_a1 c_a2
  replace b_b := hide (Box3.keep b_b.out U4)
  clear c_b0 c_b1 c_b2
  replace b_x := hide b_x
  replace b_y := hide b_y
  have U5 : Below w5.heap.size w5 w5 := Below.refl _ _
  have c_a0 := b_a.out.at0 b_a.out.lt_size (Nat.le_refl _)
  have c_a1 := b_a.out.at1 b_a.out.lt_size (Nat.le_refl _)
  have c_a2 := b_a.out.at2 b_a.out.lt_size (Nat.le_refl _)
  have c_b0 := b_b.out.at0 b_b.out.lt_size (Nat.le_refl _)
  have c_b1 := b_b.out.at1 b_b.out.lt_size (Nat.le_refl _)
  have c_b2 := b_b.out.at2 b_b.out.lt_size (Nat.le_refl _)
  have c_x0 := b_x.out.at0 b_x.out.lt_size (Nat.le_refl _)
  have c_x1 := b_x.out.at1 b_x.out.lt_size (Nat.le_refl _)
  have c_x2 := b_x.out.at2 b_x.out.lt_size (Nat.le_refl _)
  have c_y0 := b_y.out.at0 b_y.out.lt_size (Nat.le_refl _)
  have c_y1 := b_y.out.at1 b_y.out.lt_size (Nat.le_refl _)
  have c_y2 := b_y.out.at2 b_y.out.lt_size (Nat.le_refl _)
  go_wp2_with fail
  refine (normal_any R_x.out gn_x.out.1 R_xd.out gn_x.out.2 (Nat.le_refl _)).mono ?_
  rintro e w6 ⟨rfl, hb⟩
  replace R_a := hide (Rd.then_ R_a.out hb)
  replace R_ad := hide (Rd.then_ R_ad.out hb)
  replace R_b := hide (Rd.then_ R_b.out hb)
  replace R_bd := hide (Rd.then_ R_bd.out hb)
  replace R_x := hide (Rd.then_ R_x.out hb)
  replace R_xd := hide (Rd.then_ R_xd.out hb)
  replace R_y := hide (Rd.then_ R_y.out hb)
  replace R_yd := hide (Rd.then_ R_yd.out hb)
  have U6 : Below w5.heap.size w5 w6 := Below.then_ U5 hb
  replace B := hide (Below.then_ B.out hb)
  clear hb
  go_wp2_with fail
  refine (normal_any R_y.out gn_y.out.1 R_yd.out gn_y.out.2 (Nat.le_refl _)).mono ?_
  rintro e w7 ⟨rfl, hb⟩
  replace R_a := hide (Rd.then_ R_a.out hb)
  replace R_ad := hide (Rd.then_ R_ad.out hb)
  replace R_b := hide (Rd.then_ R_b.out hb)
  replace R_bd := hide (Rd.then_ R_bd.out hb)
  replace R_x := hide (Rd.then_ R_x.out hb)
  replace R_xd := hide (Rd.then_ R_xd.out hb)
  replace R_y := hide (Rd.then_ R_y.out hb)
  replace R_yd := hide (Rd.then_ R_yd.out hb)
  have U7 : Below w5.heap.size w5 w7 := Below.then_ U6 hb
  replace B := hide (Below.then_ B.out hb)
  clear hb
  go_wp2_with fail
  refine (padd_any R_a.out b_al.out.1 R_ad.out b_al.out.2 R_b.out b_bl.out.1 R_bd.out b_bl.out.2 (Nat.le_refl _) c_sq.out).mono ?_
  rintro e w8 ⟨A_s, c_s, A_sd, c_sd, rfl, R_s, R_sd, hb⟩
  replace R_a := hide (Rd.then_ R_a.out hb)
  replace R_ad := hide (Rd.then_ R_ad.out hb)
  replace R_b := hide (Rd.then_ R_b.out hb)
  replace R_bd := hide (Rd.then_ R_bd.out hb)
  replace R_x := hide (Rd.then_ R_x.out hb)
  replace R_xd := hide (Rd.then_ R_xd.out hb)
  replace R_y := hide (Rd.then_ R_y.out hb)
  replace R_yd := hide (Rd.then_ R_yd.out hb)
  have U8 : Below w5.heap.size w5 w8 := Below.then_ U7 hb
  replace B := hide (Below.then_ B.out hb)
  replace R_s := hide R_s
  replace R_sd := hide R_sd
  clear hb
  go_wp2_with fail
  refine (normal_any R_s.out gn_s.out.1 R_sd.out gn_s.out.2 (Nat.le_refl _)).mono ?_
  rintro e w9 ⟨rfl, hb⟩
  replace R_a := hide (Rd.then_ R_a.out hb)
  replace R_ad := hide (Rd.then_ R_ad.out hb)
  replace R_b := hide (Rd.then_ R_b.out hb)
  replace R_bd := hide (Rd.then_ R_bd.out hb)
  replace R_x := hide (Rd.then_ R_x.out hb)
  replace R_xd := hide (Rd.then_ R_xd.out hb)
  replace R_y := hide (Rd.then_ R_y.out hb)
  replace R_yd := hide (Rd.then_ R_yd.out hb)
  replace R_s := hide (Rd.then_ R_s.out hb)
  replace R_sd := hide (Rd.then_ R_sd.out hb)
  have U9 : Below w5.heap.size w5 w9 := Below.then_ U8 hb
  replace B := hide (Below.then_ B.out hb)
  clear hb
  clear R_s
  clear R_sd
  go_wp2_with fail
  refine (pmul_any R_a.out b_al.out.1 R_ad.out b_al.out.2 R_b.out b_bl.out.1 R_bd.out b_bl.out.2 (Nat.le_refl _) c_mq.out).mono ?_
  rintro e w10 ⟨A_m, c_m, A_md, c_md, rfl, R_m, R_md, hb⟩
  replace R_a := hide (Rd.then_ R_a.out hb)
  replace R_ad := hide (Rd.then_ R_ad.out hb)
  replace R_b := hide (Rd.then_ R_b.out hb)
  replace R_bd := hide (Rd.then_ R_bd.out hb)
  replace R_x := hide (Rd.then_ R_x.out hb)
  replace R_xd := hide (Rd.then_ R_xd.out hb)
  replace R_y := hide (Rd.then_ R_y.out hb)
  replace R_yd := hide (Rd.then_ R_yd.out hb)
  have U10 : Below w5.heap.size w5 w10 := Below.then_ U9 hb
  replace B := hide (Below.then_ B.out hb)
  replace R_m := hide R_m
  replace R_md := hide R_md
  clear hb
  go_wp2_with fail
  refine (normal_any R_m.out gn_m.out.1 R_md.out gn_m.out.2 (Nat.le_refl _)).mono ?_
  rintro e w11 ⟨rfl, hb⟩
  replace R_a := hide (Rd.then_ R_a.out hb)
  replace R_ad := hide (Rd.then_ R_ad.out hb)
  replace R_b := hide (Rd.then_ R_b.out hb)
  replace R_bd := hide (Rd.then_ R_bd.out hb)
  replace R_x := hide (Rd.then_ R_x.out hb)
  replace R_xd := hide (Rd.then_ R_xd.out hb)
  replace R_y := hide (Rd.then_ R_y.out hb)
  replace R_yd := hide (Rd.then_ R_yd.out hb)
  replace R_m := hide (Rd.then_ R_m.out hb)
  replace R_md := hide (Rd.then_ R_md.out hb)
  have U11 : Below w5.heap.size w5 w11 := Below.then_ U10 hb
  replace B := hide (Below.then_ B.out hb)
  clear hb
  clear R_m
  clear R_md
  go_wp2_with fail
  refine (pneg_any R_a.out b_al.out.1 R_ad.out b_al.out.2 (Nat.le_refl _) c_nq.out).mono ?_
  rintro e w12 ⟨A_n, c_n, A_nd, c_nd, rfl, R_n, R_nd, hb⟩
  replace R_a := hide (Rd.then_ R_a.out hb)
  replace R_ad := hide (Rd.then_ R_ad.out hb)
  replace R_b := hide (Rd.then_ R_b.out hb)
  replace R_bd := hide (Rd.then_ R_bd.out hb)
  replace R_x := hide (Rd.then_ R_x.out hb)
  replace R_xd := hide (Rd.then_ R_xd.out hb)
  replace R_y := hide (Rd.then_ R_y.out hb)
  replace R_yd := hide (Rd.then_ R_yd.out hb)
  have U12 : Below w5.heap.size w5 w12 := Below.then_ U11 hb
  replace B := hide (Below.then_ B.out hb)
  replace R_n := hide R_n
  replace R_nd := hide R_nd
  clear hb
  go_wp2_with fail
  refine (normal_any R_n.out gn_n.out.1 R_nd.out gn_n.out.2 (Nat.le_refl _)).mono ?_
  rintro e w13 ⟨rfl, hb⟩
  replace R_a := hide (Rd.then_ R_a.out hb)
  replace R_ad := hide (Rd.then_ R_ad.out hb)
  replace R_b := hide (Rd.then_ R_b.out hb)
  replace R_bd := hide (Rd.then_ R_bd.out hb)
  replace R_x := hide (Rd.then_ R_x.out hb)
  replace R_xd := hide (Rd.then_ R_xd.out hb)
  replace R_y := hide (Rd.then_ R_y.out hb)
  replace R_yd := hide (Rd.then_ R_yd.out hb)
  replace R_n := hide (Rd.then_ R_n.out hb)
  replace R_nd := hide (Rd.then_ R_nd.out hb)
  have U13 : Below w5.heap.size w5 w13 := Below.then_ U12 hb
  replace B := hide (Below.then_ B.out hb)
  clear hb
  clear R_n
  clear R_nd
  go_wp2_with fail
  refine (psub_any R_a.out b_al.out.1 R_ad.out b_al.out.2 R_b.out b_bl.out.1 R_bd.out b_bl.out.2 (Nat.le_refl _) c_fq.out).mono ?_
  rintro e w14 ⟨A_f, c_f, A_fd, c_fd, rfl, R_f, R_fd, hb⟩
  replace R_a := hide (Rd.then_ R_a.out hb)
  replace R_ad := hide (Rd.then_ R_ad.out hb)
  replace R_b := hide (Rd.then_ R_b.out hb)
  replace R_bd := hide (Rd.then_ R_bd.out hb)
  replace R_x := hide (Rd.then_ R_x.out hb)
  replace R_xd := hide (Rd.then_ R_xd.out hb)
  replace R_y := hide (Rd.then_ R_y.out hb)
  replace R_yd := hide (Rd.then_ R_yd.out hb)
  have U14 : Below w5.heap.size w5 w14 := Below.then_ U13 hb
  replace B := hide (Below.then_ B.out hb)
  replace R_f := hide R_f
  replace R_fd := hide R_fd
  clear hb
  go_wp2_with fail
  refine (normal_any R_f.out gn_f.out.1 R_fd.out gn_f.out.2 (Nat.le_refl _)).mono ?_
  rintro e w15 ⟨rfl, hb⟩
  replace R_a := hide (Rd.then_ R_a.out hb)
  replace R_ad := hide (Rd.then_ R_ad.out hb)
  replace R_b := hide (Rd.then_ R_b.out hb)
  replace R_bd := hide (Rd.then_ R_bd.out hb)
  replace R_x := hide (Rd.then_ R_x.out hb)
  replace R_xd := hide (Rd.then_ R_xd.out hb)
  replace R_y := hide (Rd.then_ R_y.out hb)
  replace R_yd := hide (Rd.then_ R_yd.out hb)
  replace R_f := hide (Rd.then_ R_f.out hb)
  replace R_fd := hide (Rd.then_ R_fd.out hb)
  have U15 : Below w5.heap.size w5 w15 := Below.then_ U14 hb
  replace B := hide (Below.then_ B.out hb)
  clear hb
  clear R_f
  clear R_fd
  go_wp2_with fail
  refine (pdiv_any R_a.out b_al.out.1 R_ad.out b_al.out.2 R_b.out b_bl.out.1 R_bd.out b_bl.out.2 (Nat.le_refl _) c_dq.out c_ok.out).mono ?_
  rintro e w16 ⟨A_d, c_d, A_dd, c_dd, rfl, R_d, R_dd, hb⟩
  replace R_a := hide (Rd.then_ R_a.out hb)
  replace R_ad := hide (Rd.then_ R_ad.out hb)
  replace R_b := hide (Rd.then_ R_b.out hb)
  replace R_bd := hide (Rd.then_ R_bd.out hb)
  replace R_x := hide (Rd.then_ R_x.out hb)
  replace R_xd := hide (Rd.then_ R_xd.out hb)
  replace R_y := hide (Rd.then_ R_y.out hb)
  replace R_yd := hide (Rd.then_ R_yd.out hb)
  have U16 : Below w5.heap.size w5 w16 := Below.then_ U15 hb
  replace B := hide (Below.then_ B.out hb)
  replace R_d := hide R_d
  replace R_dd := hide R_dd
  clear hb
  have hbx : Below w16.heap.size w16 (w16.alloc (.cells #[.bool (zneg v_d.num), .slice A_d (dig (zmag v_d.num)).length c_d, .slice A_dd (dig v_d.den).length c_dd] 27)) := ((Below.refl _ _).alloc (Nat.le_refl _) _)
  have Ux := Below.then_ U16 hbx
  go_wp2_with fail
  obtain ⟨V16, hV⟩ : ∃ V, V = (w16.alloc (.cells #[.bool (zneg v_d.num), .slice A_d (dig (zmag v_d.num)).length c_d, .slice A_dd (dig v_d.den).length c_dd] 27)) := ⟨_, rfl⟩
  obtain ⟨g_d, hg_d⟩ : ∃ g, g = w16.heap.size := ⟨_, rfl⟩
  rw [← hV]
  rw [← hV] at hbx Ux
  rw [← hg_d]
  have b_d : Box3 V16 g_d (.bool (zneg v_d.num)) (.slice A_d (dig (zmag v_d.num)).length c_d) (.slice A_dd (dig v_d.den).length c_dd) := by rw [hV]; exact (Box3.new _ _ _ _ hg_d)
  clear hV
  have ne_a_d : w.heap.size ≠ g_d := by have := (b_a.out.lt b_a.out.lt_size (Nat.le_refl _)) _ U16; omega
  replace ne_a_d := hide ne_a_d
  have ne_b_d : w.heap.size + 1 ≠ g_d := by have := (b_b.out.lt b_b.out.lt_size (Nat.le_refl _)) _ U16; omega
  replace ne_b_d := hide ne_b_d
  have ne_x_d : g_x ≠ g_d := by have := (b_x.out.lt b_x.out.lt_size (Nat.le_refl _)) _ U16; omega
  replace ne_x_d := hide ne_x_d
  have ne_y_d : g_y ≠ g_d := by have := (b_y.out.lt b_y.out.lt_size (Nat.le_refl _)) _ U16; omega
  replace ne_y_d := hide ne_y_d
  have ge_d : w.heap.size ≤ g_d := by have := B.out.size; omega
  replace ge_d := hide ge_d
  clear hg_d
  replace R_a := hide (Rd.then_ R_a.out hbx)
  replace R_ad := hide (Rd.then_ R_ad.out hbx)
  replace R_b := hide (Rd.then_ R_b.out hbx)
  replace R_bd := hide (Rd.then_ R_bd.out hbx)
  replace R_x := hide (Rd.then_ R_x.out hbx)
  replace R_xd := hide (Rd.then_ R_xd.out hbx)
  replace R_y := hide (Rd.then_ R_y.out hbx)
  replace R_yd := hide (Rd.then_ R_yd.out hbx)
  replace R_d := hide (Rd.then_ R_d.out hbx)
  replace R_dd := hide (Rd.then_ R_dd.out hbx)
  have U17 : Below w5.heap.size w5 V16 := Below.then_ U16 hbx
  replace B := hide (Below.then_ B.out hbx)
  clear hbx
  replace b_a := hide (Box3.keep b_a.out U17)
  clear c_a0 c_a1 c_a2
  replace b_b := hide (Box3.keep b_b.out U17)
  clear c_b0 c_b1 c_b2
  replace b_x := hide (Box3.keep b_x.out U17)
  clear c_x0 c_x1 c_x2
  replace b_y := hide (Box3.keep b_y.out U17)
  clear c_y0 c_y1 c_y2
  replace b_d := hide b_d
  have U18 : Below V16.heap.size V16 V16 := Below.refl _ _
  have c_a0 := b_a.out.at0 b_a.out.lt_size (Nat.le_refl _)
  have c_a1 := b_a.out.at1 b_a.out.lt_size (Nat.le_refl _)
  have c_a2 := b_a.out.at2 b_a.out.lt_size (Nat.le_refl _)
  have c_b0 := b_b.out.at0 b_b.out.lt_size (Nat.le_refl _)
  have c_b1 := b_b.out.at1 b_b.out.lt_size (Nat.le_refl _)
  have c_b2 := b_b.out.at2 b_b.out.lt_size (Nat.le_refl _)
  have c_x0 := b_x.out.at0 b_x.out.lt_size (Nat.le_refl _)
  have c_x1 := b_x.out.at1 b_x.out.lt_size (Nat.le_refl _)
  have c_x2 := b_x.out.at2 b_x.out.lt_size (Nat.le_refl _)
  have c_y0 := b_y.out.at0 b_y.out.lt_size (Nat.le_refl _)
  have c_y1 := b_y.out.at1 b_y.out.lt_size (Nat.le_refl _)
  have c_y2 := b_y.out.at2 b_y.out.lt_size (Nat.le_refl _)
  have c_d0 := b_d.out.at0 b_d.out.lt_size (Nat.le_refl _)
  have c_d1 := b_d.out.at1 b_d.out.lt_size (Nat.le_refl _)
  have c_d2 := b_d.out.at2 b_d.out.lt_size (Nat.le_refl _)
  replace h_k := h_k.out
  go_wp2_with fail
  have hd := Below.drw_ V16
  replace R_a := hide (Rd.then_ R_a.out hd)
  replace R_ad := hide (Rd.then_ R_ad.out hd)
  replace R_b := hide (Rd.then_ R_b.out hd)
  replace R_bd := hide (Rd.then_ R_bd.out hd)
  replace R_x := hide (Rd.then_ R_x.out hd)
  replace R_xd := hide (Rd.then_ R_xd.out hd)
  replace R_y := hide (Rd.then_ R_y.out hd)
  replace R_yd := hide (Rd.then_ R_yd.out hd)
  replace R_d := hide (Rd.then_ R_d.out hd)
  replace R_dd := hide (Rd.then_ R_dd.out hd)
  have U19 : Below V16.heap.size V16 (V16.drew) := Below.then_ U18 hd
  replace B := hide (Below.then_ B.out hd)
  clear hd
  have tok1 : True := trivial
  go_region_held3 (fun w' => Below V16.heap.size V16 w') (assumption)
    (first
      | (go_at_call 45; (have _t := tok1; (with_reducible refine (normal_any R_d.out gn_d.out.1 R_dd.out gn_d.out.2 (Nat.le_refl _)).mono ?_); rintro e w17 ⟨rfl, hb⟩; replace R_a := hide (Rd.then_ R_a.out hb); replace R_ad := hide (Rd.then_ R_ad.out hb); replace R_b := hide (Rd.then_ R_b.out hb); replace R_bd := hide (Rd.then_ R_bd.out hb); replace R_x := hide (Rd.then_ R_x.out hb); replace R_xd := hide (Rd.then_ R_xd.out hb); replace R_y := hide (Rd.then_ R_y.out hb); replace R_yd := hide (Rd.then_ R_yd.out hb); replace R_d := hide (Rd.then_ R_d.out hb); replace R_dd := hide (Rd.then_ R_dd.out hb); have U20 : Below V16.heap.size V16 w17 := Below.then_ U19 hb; replace B := hide (Below.then_ B.out hb); clear hb; have tok2 : True := trivial; clear _t tok1))
      | (go_at_call 31; (have _t := tok2; (with_reducible refine (pcmp_any R_a.out b_al.out.1 R_ad.out b_al.out.2 R_b.out b_bl.out.1 R_bd.out b_bl.out.2 (Nat.le_refl _) e_kc.out).mono ?_); rintro e w18 ⟨rfl, hb⟩; replace R_a := hide (Rd.then_ R_a.out hb); replace R_ad := hide (Rd.then_ R_ad.out hb); replace R_b := hide (Rd.then_ R_b.out hb); replace R_bd := hide (Rd.then_ R_bd.out hb); replace R_x := hide (Rd.then_ R_x.out hb); replace R_xd := hide (Rd.then_ R_xd.out hb); replace R_y := hide (Rd.then_ R_y.out hb); replace R_yd := hide (Rd.then_ R_yd.out hb); replace R_d := hide (Rd.then_ R_d.out hb); replace R_dd := hide (Rd.then_ R_dd.out hb); have U21 : Below V16.heap.size V16 w18 := Below.then_ U20 hb; replace B := hide (Below.then_ B.out hb); clear hb; have tok3 : True := trivial; clear _t tok2))
      | (go_at_call 14; (have _t := tok3; (with_reducible refine (same_q R_x.out R_xd.out R_y.out R_yd.out (Nat.le_refl _) e_r.out).mono ?_); rintro e w19 ⟨rfl, hb⟩; replace R_a := hide (Rd.then_ R_a.out hb); replace R_ad := hide (Rd.then_ R_ad.out hb); replace R_b := hide (Rd.then_ R_b.out hb); replace R_bd := hide (Rd.then_ R_bd.out hb); replace R_x := hide (Rd.then_ R_x.out hb); replace R_xd := hide (Rd.then_ R_xd.out hb); replace R_y := hide (Rd.then_ R_y.out hb); replace R_yd := hide (Rd.then_ R_yd.out hb); replace R_d := hide (Rd.then_ R_d.out hb); replace R_dd := hide (Rd.then_ R_dd.out hb); have U22 : Below V16.heap.size V16 w19 := Below.then_ U21 hb; replace B := hide (Below.then_ B.out hb); clear hb; have tok4 : True := trivial; clear _t tok3)))
  clear tok4
  go_wp2
  go_ret
  exact ⟨rfl, B.out⟩

set_option maxHeartbeats 4000000 in
theorem normal_walk_big0 {w : World} {A_a : Option Addr} {n_a c_a : Nat} {s_a : Bool} {A_ad : Option Addr} {n_ad c_ad : Nat} {A_b : Option Addr} {n_b c_b : Nat} {s_b : Bool} {A_bd : Option Addr} {n_bd c_bd : Nat}  (g : ¬ (n_a ≤ 40 ∧ n_ad ≤ 40)) :
    Calls Try.prog 9 #[.agg #[.bool s_a, .slice A_a n_a c_a, .slice A_ad n_ad c_ad], .agg #[.bool s_b, .slice A_b n_b c_b, .slice A_bd n_bd c_bd]] w (RetB w (.bool true)) := by
  obtain ⟨W, hW⟩ : ∃ W, W = ((w.alloc (.cells #[.bool s_a, .slice A_a n_a c_a, .slice A_ad n_ad c_ad] 27)).alloc (.cells #[.bool s_b, .slice A_b n_b c_b, .slice A_bd n_bd c_bd] 27)) := ⟨_, rfl⟩
  have b_a : Box3 W (w.heap.size) (.bool s_a) (.slice A_a n_a c_a) (.slice A_ad n_ad c_ad) := by rw [hW]; exact ((Box3.new w _ _ _ rfl).al _)
  have b_b : Box3 W (w.heap.size + 1) (.bool s_b) (.slice A_b n_b c_b) (.slice A_bd n_bd c_bd) := by rw [hW]; exact (Box3.new _ _ _ _ (by simp))
  have hwW : Below w.heap.size w W := by rw [hW]; exact (((Below.refl _ _).alloc (Nat.le_refl _) _).alloc (by simp) _)
  have B := hide hwW
  clear hwW
  have U0 : Below W.heap.size W W := Below.refl _ _
  have c_a0 := b_a.at0 b_a.lt_size (Nat.le_refl _)
  have c_a1 := b_a.at1 b_a.lt_size (Nat.le_refl _)
  have c_a2 := b_a.at2 b_a.lt_size (Nat.le_refl _)
  replace b_a := hide b_a
  have c_b0 := b_b.at0 b_b.lt_size (Nat.le_refl _)
  have c_b1 := b_b.at1 b_b.lt_size (Nat.le_refl _)
  have c_b2 := b_b.at2 b_b.lt_size (Nat.le_refl _)
  replace b_b := hide b_b
  go_enter Try.func9, Try.ntmps9
  go_wp2_with fail
  rw [← hW]
  clear hW
  refine (large_yes g).mono ?_
  rintro e w1 ⟨rfl, hb⟩
  have U1 : Below W.heap.size W w1 := Below.then_ U0 hb
  replace B := hide (Below.then_ B.out hb)
  clear hb
  go_wp2
  go_ret
  exact ⟨rfl, B.out⟩

set_option maxHeartbeats 4000000 in
theorem normal_walk_big1 {w : World} {A_a : Option Addr} {n_a c_a : Nat} {s_a : Bool} {A_ad : Option Addr} {n_ad c_ad : Nat} {A_b : Option Addr} {n_b c_b : Nat} {s_b : Bool} {A_bd : Option Addr} {n_bd c_bd : Nat}  (g_a : n_a ≤ 40) (g_ad : n_ad ≤ 40) (g : ¬ (n_b ≤ 40 ∧ n_bd ≤ 40)) :
    Calls Try.prog 9 #[.agg #[.bool s_a, .slice A_a n_a c_a, .slice A_ad n_ad c_ad], .agg #[.bool s_b, .slice A_b n_b c_b, .slice A_bd n_bd c_bd]] w (RetB w (.bool true)) := by
  obtain ⟨W, hW⟩ : ∃ W, W = ((w.alloc (.cells #[.bool s_a, .slice A_a n_a c_a, .slice A_ad n_ad c_ad] 27)).alloc (.cells #[.bool s_b, .slice A_b n_b c_b, .slice A_bd n_bd c_bd] 27)) := ⟨_, rfl⟩
  have b_a : Box3 W (w.heap.size) (.bool s_a) (.slice A_a n_a c_a) (.slice A_ad n_ad c_ad) := by rw [hW]; exact ((Box3.new w _ _ _ rfl).al _)
  have b_b : Box3 W (w.heap.size + 1) (.bool s_b) (.slice A_b n_b c_b) (.slice A_bd n_bd c_bd) := by rw [hW]; exact (Box3.new _ _ _ _ (by simp))
  have hwW : Below w.heap.size w W := by rw [hW]; exact (((Below.refl _ _).alloc (Nat.le_refl _) _).alloc (by simp) _)
  have B := hide hwW
  clear hwW
  have U0 : Below W.heap.size W W := Below.refl _ _
  have c_a0 := b_a.at0 b_a.lt_size (Nat.le_refl _)
  have c_a1 := b_a.at1 b_a.lt_size (Nat.le_refl _)
  have c_a2 := b_a.at2 b_a.lt_size (Nat.le_refl _)
  replace b_a := hide b_a
  have c_b0 := b_b.at0 b_b.lt_size (Nat.le_refl _)
  have c_b1 := b_b.at1 b_b.lt_size (Nat.le_refl _)
  have c_b2 := b_b.at2 b_b.lt_size (Nat.le_refl _)
  replace b_b := hide b_b
  go_enter Try.func9, Try.ntmps9
  go_wp2_with fail
  rw [← hW]
  clear hW
  refine (large_no g_a g_ad).mono ?_
  rintro e w1 ⟨rfl, hb⟩
  have U1 : Below W.heap.size W w1 := Below.then_ U0 hb
  replace B := hide (Below.then_ B.out hb)
  clear hb
  go_wp2_with fail
  refine (large_yes g).mono ?_
  rintro e w2 ⟨rfl, hb⟩
  have U2 : Below W.heap.size W w2 := Below.then_ U1 hb
  replace B := hide (Below.then_ B.out hb)
  clear hb
  go_wp2
  go_ret
  exact ⟨rfl, B.out⟩

theorem normal_walk_all {w : World} {A_a A_ad : Option Addr} {n_a c_a n_ad c_ad : Nat} {x_a x_ad : List Nat} {s_a : Bool} {A_b A_bd : Option Addr} {n_b c_b n_bd c_bd : Nat} {x_b x_bd : List Nat} {s_b : Bool} (h_a : n_a ≤ 70368744177664 → Rd w w.heap.size A_a n_a c_a x_a) (h_ad : n_ad ≤ 70368744177664 → Rd w w.heap.size A_ad n_ad c_ad x_ad) (h_b : n_b ≤ 70368744177664 → Rd w w.heap.size A_b n_b c_b x_b) (h_bd : n_bd ≤ 70368744177664 → Rd w w.heap.size A_bd n_bd c_bd x_bd) :
    Calls Try.prog 9 #[.agg #[.bool s_a, .slice A_a n_a c_a, .slice A_ad n_ad c_ad], .agg #[.bool s_b, .slice A_b n_b c_b, .slice A_bd n_bd c_bd]] w (RetB w (.bool true)) := by
  by_cases g0 : n_a ≤ 40 ∧ n_ad ≤ 40
  case neg => exact normal_walk_big0  g0
  by_cases g1 : n_b ≤ 40 ∧ n_bd ≤ 40
  case neg => exact normal_walk_big1 g0.1 g0.2 g1
  exact normal_walk (h_a (by omega)) g0.1 (h_ad (by omega)) g0.2 (h_b (by omega)) g1.1 (h_bd (by omega)) g1.2 (Nat.le_refl _)

end Go.Proofs.Ytieopcchchebgaa

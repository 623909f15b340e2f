/-
  RatioArith.
-/
import Derived.Test.YtieopcchchebgaaLaw3
namespace Go.Proofs.Ytieopcchchebgaa
open Go.RowKit


set_option maxHeartbeats 4000000 in
theorem arith_walk {w : World} {Bd : Nat} {A_a : Option Addr} {n_a c_a : Nat} {x_a : List Nat} {s_a : Bool} {A_ad : Option Addr} {n_ad c_ad : Nat} {x_ad : List Nat} {A_b : Option Addr} {n_b c_b : Nat} {x_b : List Nat} {s_b : Bool} {A_bd : Option Addr} {n_bd c_bd : Nat} {x_bd : List Nat} (h_a : Rd w Bd A_a n_a c_a x_a) (g_a : n_a ≤ 40) (h_ad : Rd w Bd A_ad n_ad c_ad x_ad) (g_ad : n_ad ≤ 40) (h_b : Rd w Bd A_b n_b c_b x_b) (g_b : n_b ≤ 40) (h_bd : Rd w Bd A_bd n_bd c_bd x_bd) (g_bd : n_bd ≤ 40) (hB : Bd ≤ w.heap.size)  :
    Calls Try.prog 5 #[.agg #[.bool s_a, .slice A_a n_a c_a, .slice A_ad n_ad c_ad], .agg #[.bool s_b, .slice A_b n_b c_b, .slice A_bd n_bd c_bd]] w (RetB w (.bool true)) := by
  obtain ⟨q_a, e_a⟩ : ∃ v, qv s_a (val x_a) (val x_ad) = v := ⟨_, rfl⟩
  replace e_a := hide e_a
  have s_aq : (dig (zmag q_a.num)).length ≤ 41 ∧ (dig q_a.den).length ≤ 41 := sz_rd h_a h_ad e_a.out g_a g_ad
  replace s_aq := hide s_aq
  have b_al : n_a ≤ 1000000000 ∧ n_ad ≤ 1000000000 := ⟨Nat.le_trans g_a (by omega), Nat.le_trans g_ad (by omega)⟩
  replace b_al := hide b_al
  obtain ⟨q_b, e_b⟩ : ∃ v, qv s_b (val x_b) (val x_bd) = v := ⟨_, rfl⟩
  replace e_b := hide e_b
  have s_bq : (dig (zmag q_b.num)).length ≤ 41 ∧ (dig q_b.den).length ≤ 41 := sz_rd h_b h_bd e_b.out g_b g_bd
  replace s_bq := hide s_bq
  have b_bl : n_b ≤ 1000000000 ∧ n_bd ≤ 1000000000 := ⟨Nat.le_trans g_b (by omega), Nat.le_trans g_bd (by omega)⟩
  replace b_bl := hide b_bl
  obtain ⟨k, e_k⟩ : ∃ v, sgn (q_a - q_b).num = v := ⟨_, rfl⟩
  replace e_k := hide e_k
  have e_kc : sgn (qv s_a (val x_a) (val x_ad) - qv s_b (val x_b) (val x_bd)).num = k := by rw [e_a.out, e_b.out]; exact e_k.out
  replace e_kc := hide e_kc
  obtain ⟨v_s, e_s⟩ : ∃ v, q_a + q_b = v := ⟨_, rfl⟩
  replace e_s := hide e_s
  have c_sq : qv s_a (val x_a) (val x_ad) + qv s_b (val x_b) (val x_bd) = v_s := by rw [e_a.out, e_b.out]; exact e_s.out
  replace c_sq := hide c_sq
  have s_sq : (dig (zmag v_s.num)).length ≤ 83 ∧ (dig v_s.den).length ≤ 83 := sz_add e_s.out s_aq.out s_bq.out
  replace s_sq := hide s_sq
  obtain ⟨v_t, e_t⟩ : ∃ v, q_a - q_b = v := ⟨_, rfl⟩
  replace e_t := hide e_t
  have c_tq : qv s_a (val x_a) (val x_ad) - qv s_b (val x_b) (val x_bd) = v_t := by rw [e_a.out, e_b.out]; exact e_t.out
  replace c_tq := hide c_tq
  have s_tq : (dig (zmag v_t.num)).length ≤ 83 ∧ (dig v_t.den).length ≤ 83 := sz_sub e_t.out s_aq.out s_bq.out
  replace s_tq := hide s_tq
  obtain ⟨v_u, e_u⟩ : ∃ v, q_a * q_b = v := ⟨_, rfl⟩
  replace e_u := hide e_u
  have c_uq : qv s_a (val x_a) (val x_ad) * qv s_b (val x_b) (val x_bd) = v_u := by rw [e_a.out, e_b.out]; exact e_u.out
  replace c_uq := hide c_uq
  have s_uq : (dig (zmag v_u.num)).length ≤ 82 ∧ (dig v_u.den).length ≤ 82 := sz_mul e_u.out s_aq.out s_bq.out
  replace s_uq := hide s_uq
  obtain ⟨v_d, e_d⟩ : ∃ v, q_a / q_b = v := ⟨_, rfl⟩
  replace e_d := hide e_d
  have c_dq : qv s_a (val x_a) (val x_ad) / qv s_b (val x_b) (val x_bd) = v_d := by rw [e_a.out, e_b.out]; exact e_d.out
  replace c_dq := hide c_dq
  have s_dq : (dig (zmag v_d.num)).length ≤ 82 ∧ (dig v_d.den).length ≤ 82 := sz_div e_d.out s_aq.out s_bq.out
  replace s_dq := hide s_dq
  obtain ⟨ok, e_ok⟩ : ∃ ok, decide (q_b ≠ 0) = ok := ⟨_, rfl⟩
  have c_ok : decide (qv s_b (val x_b) (val x_bd) ≠ 0) = ok := by rw [e_b.out]; exact e_ok
  replace c_ok := hide c_ok
  clear e_ok
  obtain ⟨W, hW⟩ : ∃ W, W = ((w.alloc (.cells #[.bool s_a, .slice A_a n_a c_a, .slice A_ad n_ad c_ad] 27)).alloc (.cells #[.bool s_b, .slice A_b n_b c_b, .slice A_bd n_bd c_bd] 27)) := ⟨_, rfl⟩
  have b_a : Box3 W (w.heap.size) (.bool s_a) (.slice A_a n_a c_a) (.slice A_ad n_ad c_ad) := by rw [hW]; exact ((Box3.new w _ _ _ rfl).al _)
  have b_b : Box3 W (w.heap.size + 1) (.bool s_b) (.slice A_b n_b c_b) (.slice A_bd n_bd c_bd) := by rw [hW]; exact (Box3.new _ _ _ _ (by simp))
  have hwW : Below w.heap.size w W := by rw [hW]; exact (((Below.refl _ _).alloc (Nat.le_refl _) _).alloc (by simp) _)
  have R_a := hide (Rd.upto h_a hwW hB)
  clear h_a
  have R_ad := hide (Rd.upto h_ad hwW hB)
  clear h_ad
  have R_b := hide (Rd.upto h_b hwW hB)
  clear h_b
  have R_bd := hide (Rd.upto h_bd hwW hB)
  clear h_bd
  have B := hide hwW
  clear hwW
  clear hB
  have U0 : Below W.heap.size W W := Below.refl _ _
  have c_a0 := b_a.at0 b_a.lt_size (Nat.le_refl _)
  have c_a1 := b_a.at1 b_a.lt_size (Nat.le_refl _)
  have c_a2 := b_a.at2 b_a.lt_size (Nat.le_refl _)
  replace b_a := hide b_a
  have c_b0 := b_b.at0 b_b.lt_size (Nat.le_refl _)
  have c_b1 := b_b.at1 b_b.lt_size (Nat.le_refl _)
  have c_b2 := b_b.at2 b_b.lt_size (Nat.le_refl _)
  replace b_b := hide b_b
  go_enter Try.func5, Try.ntmps5
  go_wp2_with fail
  rw [← hW]
  clear hW
  refine (large_no g_a g_ad).mono ?_
  rintro e w1 ⟨rfl, hb⟩
  replace R_a := hide (Rd.then_ R_a.out hb)
  replace R_ad := hide (Rd.then_ R_ad.out hb)
  replace R_b := hide (Rd.then_ R_b.out hb)
  replace R_bd := hide (Rd.then_ R_bd.out hb)
  have U1 : Below W.heap.size W w1 := Below.then_ U0 hb
  replace B := hide (Below.then_ B.out hb)
  clear hb
  go_wp2_with fail
  refine (large_no g_b g_bd).mono ?_
  rintro e w2 ⟨rfl, hb⟩
  replace R_a := hide (Rd.then_ R_a.out hb)
  replace R_ad := hide (Rd.then_ R_ad.out hb)
  replace R_b := hide (Rd.then_ R_b.out hb)
  replace R_bd := hide (Rd.then_ R_bd.out hb)
  have U2 : Below W.heap.size W w2 := Below.then_ U1 hb
  replace B := hide (Below.then_ B.out hb)
  clear hb
  go_wp2_with fail
  have hd := Below.drw_ w2
  replace R_a := hide (Rd.then_ R_a.out hd)
  replace R_ad := hide (Rd.then_ R_ad.out hd)
  replace R_b := hide (Rd.then_ R_b.out hd)
  replace R_bd := hide (Rd.then_ R_bd.out hd)
  have U3 : Below W.heap.size W (w2.drew) := Below.then_ U2 hd
  replace B := hide (Below.then_ B.out hd)
  clear hd
  have tok1 : True := trivial
  go_region_held3 (fun w' => Below W.heap.size W w') (assumption)
    (first
      | (go_at_call 31; (have _t := tok1; (with_reducible refine (pcmp_any R_a.out b_al.out.1 R_ad.out b_al.out.2 R_b.out b_bl.out.1 R_bd.out b_bl.out.2 (Nat.le_refl _) e_kc.out).mono ?_); rintro e w3 ⟨rfl, hb⟩; replace R_a := hide (Rd.then_ R_a.out hb); replace R_ad := hide (Rd.then_ R_ad.out hb); replace R_b := hide (Rd.then_ R_b.out hb); replace R_bd := hide (Rd.then_ R_bd.out hb); have U4 : Below W.heap.size W w3 := Below.then_ U3 hb; replace B := hide (Below.then_ B.out hb); clear hb; have tok2 : True := trivial; clear _t tok1))
      | (go_at_call 32; (have _t := tok2; (with_reducible refine (rcmp3_any R_a.out b_al.out.1 R_ad.out b_al.out.2 R_b.out b_bl.out.1 R_bd.out b_bl.out.2 (Nat.le_refl _) e_kc.out).mono ?_); rintro e w4 ⟨rfl, hb⟩; replace R_a := hide (Rd.then_ R_a.out hb); replace R_ad := hide (Rd.then_ R_ad.out hb); replace R_b := hide (Rd.then_ R_b.out hb); replace R_bd := hide (Rd.then_ R_bd.out hb); have U5 : Below W.heap.size W w4 := Below.then_ U4 hb; replace B := hide (Below.then_ B.out hb); clear hb; have tok3 : True := trivial; clear _t tok2))
      | (go_at_call 33; (have _t := tok3; (with_reducible refine (padd_any R_a.out b_al.out.1 R_ad.out b_al.out.2 R_b.out b_bl.out.1 R_bd.out b_bl.out.2 (Nat.le_refl _) c_sq.out).mono ?_); rintro e w5 ⟨A_s1, c_s1, A_s1d, c_s1d, rfl, R_s1, R_s1d, hb⟩; replace R_a := hide (Rd.then_ R_a.out hb); replace R_ad := hide (Rd.then_ R_ad.out hb); replace R_b := hide (Rd.then_ R_b.out hb); replace R_bd := hide (Rd.then_ R_bd.out hb); have U6 : Below W.heap.size W w5 := Below.then_ U5 hb; replace B := hide (Below.then_ B.out hb); replace R_s1 := hide R_s1; replace R_s1d := hide R_s1d; clear hb; have tok4 : True := trivial; clear _t tok3))
      | (go_at_call 34; (have _t := tok4; (with_reducible refine (radd3_any R_a.out b_al.out.1 R_ad.out b_al.out.2 R_b.out b_bl.out.1 R_bd.out b_bl.out.2 (Nat.le_refl _) c_sq.out).mono ?_); rintro e w6 ⟨A_s2, c_s2, A_s2d, c_s2d, rfl, R_s2, R_s2d, hb⟩; replace R_a := hide (Rd.then_ R_a.out hb); replace R_ad := hide (Rd.then_ R_ad.out hb); replace R_b := hide (Rd.then_ R_b.out hb); replace R_bd := hide (Rd.then_ R_bd.out hb); replace R_s1 := hide (Rd.then_ R_s1.out hb); replace R_s1d := hide (Rd.then_ R_s1d.out hb); have U7 : Below W.heap.size W w6 := Below.then_ U6 hb; replace B := hide (Below.then_ B.out hb); replace R_s2 := hide R_s2; replace R_s2d := hide R_s2d; clear hb; have tok5 : True := trivial; clear _t tok4))
      | (go_at_call 14; (have _t := tok5; (with_reducible refine (same_t R_s1.out R_s1d.out R_s2.out R_s2d.out (Nat.le_refl _) rfl).mono ?_); rintro e w7 ⟨rfl, hb⟩; replace R_a := hide (Rd.then_ R_a.out hb); replace R_ad := hide (Rd.then_ R_ad.out hb); replace R_b := hide (Rd.then_ R_b.out hb); replace R_bd := hide (Rd.then_ R_bd.out hb); replace R_s1 := hide (Rd.then_ R_s1.out hb); replace R_s1d := hide (Rd.then_ R_s1d.out hb); replace R_s2 := hide (Rd.then_ R_s2.out hb); replace R_s2d := hide (Rd.then_ R_s2d.out hb); have U8 : Below W.heap.size W w7 := Below.then_ U7 hb; replace B := hide (Below.then_ B.out hb); clear hb; have tok6 : True := trivial; clear _t tok5; clear R_s1; clear R_s1d; clear R_s2; clear R_s2d)))
  clear tok6
  go_wp2_with fail
  have hd := Below.drw_ w7
  replace R_a := hide (Rd.then_ R_a.out hd)
  replace R_ad := hide (Rd.then_ R_ad.out hd)
  replace R_b := hide (Rd.then_ R_b.out hd)
  replace R_bd := hide (Rd.then_ R_bd.out hd)
  have U9 : Below W.heap.size W (w7.drew) := Below.then_ U8 hd
  replace B := hide (Below.then_ B.out hd)
  clear hd
  have tok7 : True := trivial
  go_region_held3 (fun w' => Below W.heap.size W w') (assumption)
    (first
      | (go_at_call 35; (have _t := tok7; (with_reducible refine (psub_any R_a.out b_al.out.1 R_ad.out b_al.out.2 R_b.out b_bl.out.1 R_bd.out b_bl.out.2 (Nat.le_refl _) c_tq.out).mono ?_); rintro e w8 ⟨A_t1, c_t1, A_t1d, c_t1d, rfl, R_t1, R_t1d, hb⟩; replace R_a := hide (Rd.then_ R_a.out hb); replace R_ad := hide (Rd.then_ R_ad.out hb); replace R_b := hide (Rd.then_ R_b.out hb); replace R_bd := hide (Rd.then_ R_bd.out hb); have U10 : Below W.heap.size W w8 := Below.then_ U9 hb; replace B := hide (Below.then_ B.out hb); replace R_t1 := hide R_t1; replace R_t1d := hide R_t1d; clear hb; have tok8 : True := trivial; clear _t tok7))
      | (go_at_call 36; (have _t := tok8; (with_reducible refine (rsub3_any R_a.out b_al.out.1 R_ad.out b_al.out.2 R_b.out b_bl.out.1 R_bd.out b_bl.out.2 (Nat.le_refl _) c_tq.out).mono ?_); rintro e w9 ⟨A_t2, c_t2, A_t2d, c_t2d, rfl, R_t2, R_t2d, hb⟩; replace R_a := hide (Rd.then_ R_a.out hb); replace R_ad := hide (Rd.then_ R_ad.out hb); replace R_b := hide (Rd.then_ R_b.out hb); replace R_bd := hide (Rd.then_ R_bd.out hb); replace R_t1 := hide (Rd.then_ R_t1.out hb); replace R_t1d := hide (Rd.then_ R_t1d.out hb); have U11 : Below W.heap.size W w9 := Below.then_ U10 hb; replace B := hide (Below.then_ B.out hb); replace R_t2 := hide R_t2; replace R_t2d := hide R_t2d; clear hb; have tok9 : True := trivial; clear _t tok8))
      | (go_at_call 14; (have _t := tok9; (with_reducible refine (same_t R_t1.out R_t1d.out R_t2.out R_t2d.out (Nat.le_refl _) rfl).mono ?_); rintro e w10 ⟨rfl, hb⟩; replace R_a := hide (Rd.then_ R_a.out hb); replace R_ad := hide (Rd.then_ R_ad.out hb); replace R_b := hide (Rd.then_ R_b.out hb); replace R_bd := hide (Rd.then_ R_bd.out hb); replace R_t1 := hide (Rd.then_ R_t1.out hb); replace R_t1d := hide (Rd.then_ R_t1d.out hb); replace R_t2 := hide (Rd.then_ R_t2.out hb); replace R_t2d := hide (Rd.then_ R_t2d.out hb); have U12 : Below W.heap.size W w10 := Below.then_ U11 hb; replace B := hide (Below.then_ B.out hb); clear hb; have tok10 : True := trivial; clear _t tok9; clear R_t1; clear R_t1d; clear R_t2; clear R_t2d))
      | (go_at_call 37; (have _t := tok10; (with_reducible refine (pmul_any R_a.out b_al.out.1 R_ad.out b_al.out.2 R_b.out b_bl.out.1 R_bd.out b_bl.out.2 (Nat.le_refl _) c_uq.out).mono ?_); rintro e w11 ⟨A_u1, c_u1, A_u1d, c_u1d, rfl, R_u1, R_u1d, hb⟩; replace R_a := hide (Rd.then_ R_a.out hb); replace R_ad := hide (Rd.then_ R_ad.out hb); replace R_b := hide (Rd.then_ R_b.out hb); replace R_bd := hide (Rd.then_ R_bd.out hb); have U13 : Below W.heap.size W w11 := Below.then_ U12 hb; replace B := hide (Below.then_ B.out hb); replace R_u1 := hide R_u1; replace R_u1d := hide R_u1d; clear hb; have tok11 : True := trivial; clear _t tok10))
      | (go_at_call 38; (have _t := tok11; (with_reducible refine (rmul3w_any R_a.out b_al.out.1 R_ad.out b_al.out.2 R_b.out b_bl.out.1 R_bd.out b_bl.out.2 (Nat.le_refl _) c_uq.out).mono ?_); rintro e w12 ⟨A_u2, c_u2, A_u2d, c_u2d, rfl, R_u2, R_u2d, hb⟩; replace R_a := hide (Rd.then_ R_a.out hb); replace R_ad := hide (Rd.then_ R_ad.out hb); replace R_b := hide (Rd.then_ R_b.out hb); replace R_bd := hide (Rd.then_ R_bd.out hb); replace R_u1 := hide (Rd.then_ R_u1.out hb); replace R_u1d := hide (Rd.then_ R_u1d.out hb); have U14 : Below W.heap.size W w12 := Below.then_ U13 hb; replace B := hide (Below.then_ B.out hb); replace R_u2 := hide R_u2; replace R_u2d := hide R_u2d; clear hb; have tok12 : True := trivial; clear _t tok11))
      | (go_at_call 14; (have _t := tok12; (with_reducible refine (same_t R_u1.out R_u1d.out R_u2.out R_u2d.out (Nat.le_refl _) rfl).mono ?_); rintro e w13 ⟨rfl, hb⟩; replace R_a := hide (Rd.then_ R_a.out hb); replace R_ad := hide (Rd.then_ R_ad.out hb); replace R_b := hide (Rd.then_ R_b.out hb); replace R_bd := hide (Rd.then_ R_bd.out hb); replace R_u1 := hide (Rd.then_ R_u1.out hb); replace R_u1d := hide (Rd.then_ R_u1d.out hb); replace R_u2 := hide (Rd.then_ R_u2.out hb); replace R_u2d := hide (Rd.then_ R_u2d.out hb); have U15 : Below W.heap.size W w13 := Below.then_ U14 hb; replace B := hide (Below.then_ B.out hb); clear hb; have tok13 : True := trivial; clear _t tok12; clear R_u1; clear R_u1d; clear R_u2; clear R_u2d)))
  clear tok13
  go_wp2_with fail
  refine (pdiv_any R_a.out b_al.out.1 R_ad.out b_al.out.2 R_b.out b_bl.out.1 R_bd.out b_bl.out.2 (Nat.le_refl _) c_dq.out c_ok.out).mono ?_
  rintro e w14 ⟨A_d1, c_d1, A_d1d, c_d1d, rfl, R_d1, R_d1d, hb⟩
  replace R_a := hide (Rd.then_ R_a.out hb)
  replace R_ad := hide (Rd.then_ R_ad.out hb)
  replace R_b := hide (Rd.then_ R_b.out hb)
  replace R_bd := hide (Rd.then_ R_bd.out hb)
  have U16 : Below W.heap.size W w14 := Below.then_ U15 hb
  replace B := hide (Below.then_ B.out hb)
  replace R_d1 := hide R_d1
  replace R_d1d := hide R_d1d
  clear hb
  have hbx : Below w14.heap.size w14 (w14.alloc (.cells #[.bool (zneg v_d.num), .slice A_d1 (dig (zmag v_d.num)).length c_d1, .slice A_d1d (dig v_d.den).length c_d1d] 27)) := ((Below.refl _ _).alloc (Nat.le_refl _) _)
  have Ux := Below.then_ U16 hbx
  go_wp2_with fail
  obtain ⟨V16, hV⟩ : ∃ V, V = (w14.alloc (.cells #[.bool (zneg v_d.num), .slice A_d1 (dig (zmag v_d.num)).length c_d1, .slice A_d1d (dig v_d.den).length c_d1d] 27)) := ⟨_, rfl⟩
  obtain ⟨g_d1, hg_d1⟩ : ∃ g, g = w14.heap.size := ⟨_, rfl⟩
  rw [← hV]
  rw [← hV] at hbx Ux
  rw [← hg_d1]
  have b_d1 : Box3 V16 g_d1 (.bool (zneg v_d.num)) (.slice A_d1 (dig (zmag v_d.num)).length c_d1) (.slice A_d1d (dig v_d.den).length c_d1d) := by rw [hV]; exact (Box3.new _ _ _ _ hg_d1)
  clear hV
  have ne_a_d1 : w.heap.size ≠ g_d1 := by have := (b_a.out.lt b_a.out.lt_size (Nat.le_refl _)) _ U16; omega
  replace ne_a_d1 := hide ne_a_d1
  have ne_b_d1 : w.heap.size + 1 ≠ g_d1 := by have := (b_b.out.lt b_b.out.lt_size (Nat.le_refl _)) _ U16; omega
  replace ne_b_d1 := hide ne_b_d1
  have ge_d1 : w.heap.size ≤ g_d1 := by have := B.out.size; omega
  replace ge_d1 := hide ge_d1
  clear hg_d1
  replace R_a := hide (Rd.then_ R_a.out hbx)
  replace R_ad := hide (Rd.then_ R_ad.out hbx)
  replace R_b := hide (Rd.then_ R_b.out hbx)
  replace R_bd := hide (Rd.then_ R_bd.out hbx)
  replace R_d1 := hide (Rd.then_ R_d1.out hbx)
  replace R_d1d := hide (Rd.then_ R_d1d.out hbx)
  have U17 : Below W.heap.size W V16 := Below.then_ U16 hbx
  replace B := hide (Below.then_ B.out hbx)
  clear hbx
  replace b_a := hide (Box3.keep b_a.out U17)
  clear c_a0 c_a1 c_a2
  replace b_b := hide (Box3.keep b_b.out U17)
  clear c_b0 c_b1 c_b2
  replace b_d1 := hide b_d1
  have U18 : Below V16.heap.size V16 V16 := Below.refl _ _
  have c_a0 := b_a.out.at0 b_a.out.lt_size (Nat.le_refl _)
  have c_a1 := b_a.out.at1 b_a.out.lt_size (Nat.le_refl _)
  have c_a2 := b_a.out.at2 b_a.out.lt_size (Nat.le_refl _)
  have c_b0 := b_b.out.at0 b_b.out.lt_size (Nat.le_refl _)
  have c_b1 := b_b.out.at1 b_b.out.lt_size (Nat.le_refl _)
  have c_b2 := b_b.out.at2 b_b.out.lt_size (Nat.le_refl _)
  have c_d10 := b_d1.out.at0 b_d1.out.lt_size (Nat.le_refl _)
  have c_d11 := b_d1.out.at1 b_d1.out.lt_size (Nat.le_refl _)
  have c_d12 := b_d1.out.at2 b_d1.out.lt_size (Nat.le_refl _)
  refine (rdiv3_any R_a.out b_al.out.1 R_ad.out b_al.out.2 R_b.out b_bl.out.1 R_bd.out b_bl.out.2 (Nat.le_refl _) c_dq.out c_ok.out).mono ?_
  rintro e w15 ⟨A_d2, c_d2, A_d2d, c_d2d, rfl, R_d2, R_d2d, hb⟩
  replace R_a := hide (Rd.then_ R_a.out hb)
  replace R_ad := hide (Rd.then_ R_ad.out hb)
  replace R_b := hide (Rd.then_ R_b.out hb)
  replace R_bd := hide (Rd.then_ R_bd.out hb)
  replace R_d1 := hide (Rd.then_ R_d1.out hb)
  replace R_d1d := hide (Rd.then_ R_d1d.out hb)
  have U19 : Below V16.heap.size V16 w15 := Below.then_ U18 hb
  replace B := hide (Below.then_ B.out hb)
  replace R_d2 := hide R_d2
  replace R_d2d := hide R_d2d
  clear hb
  have hbx : Below w15.heap.size w15 (w15.alloc (.cells #[.bool (zneg v_d.num), .slice A_d2 (dig (zmag v_d.num)).length c_d2, .slice A_d2d (dig v_d.den).length c_d2d] 27)) := ((Below.refl _ _).alloc (Nat.le_refl _) _)
  have Ux := Below.then_ U19 hbx
  go_wp2_with fail
  obtain ⟨V19, hV⟩ : ∃ V, V = (w15.alloc (.cells #[.bool (zneg v_d.num), .slice A_d2 (dig (zmag v_d.num)).length c_d2, .slice A_d2d (dig v_d.den).length c_d2d] 27)) := ⟨_, rfl⟩
  obtain ⟨g_d2, hg_d2⟩ : ∃ g, g = w15.heap.size := ⟨_, rfl⟩
  rw [← hV]
  rw [← hV] at hbx Ux
  rw [← hg_d2]
  have b_d2 : Box3 V19 g_d2 (.bool (zneg v_d.num)) (.slice A_d2 (dig (zmag v_d.num)).length c_d2) (.slice A_d2d (dig v_d.den).length c_d2d) := by rw [hV]; exact (Box3.new _ _ _ _ hg_d2)
  clear hV
  have ne_a_d2 : w.heap.size ≠ g_d2 := by have := (b_a.out.lt b_a.out.lt_size (Nat.le_refl _)) _ U19; omega
  replace ne_a_d2 := hide ne_a_d2
  have ne_b_d2 : w.heap.size + 1 ≠ g_d2 := by have := (b_b.out.lt b_b.out.lt_size (Nat.le_refl _)) _ U19; omega
  replace ne_b_d2 := hide ne_b_d2
  have ne_d1_d2 : g_d1 ≠ g_d2 := by have := (b_d1.out.lt b_d1.out.lt_size (Nat.le_refl _)) _ U19; omega
  replace ne_d1_d2 := hide ne_d1_d2
  have ge_d2 : w.heap.size ≤ g_d2 := by have := B.out.size; omega
  replace ge_d2 := hide ge_d2
  clear hg_d2
  replace R_a := hide (Rd.then_ R_a.out hbx)
  replace R_ad := hide (Rd.then_ R_ad.out hbx)
  replace R_b := hide (Rd.then_ R_b.out hbx)
  replace R_bd := hide (Rd.then_ R_bd.out hbx)
  replace R_d1 := hide (Rd.then_ R_d1.out hbx)
  replace R_d1d := hide (Rd.then_ R_d1d.out hbx)
  replace R_d2 := hide (Rd.then_ R_d2.out hbx)
  replace R_d2d := hide (Rd.then_ R_d2d.out hbx)
  have U20 : Below V16.heap.size V16 V19 := Below.then_ U19 hbx
  replace B := hide (Below.then_ B.out hbx)
  clear hbx
  replace b_a := hide (Box3.keep b_a.out U20)
  clear c_a0 c_a1 c_a2
  replace b_b := hide (Box3.keep b_b.out U20)
  clear c_b0 c_b1 c_b2
  replace b_d1 := hide (Box3.keep b_d1.out U20)
  clear c_d10 c_d11 c_d12
  replace b_d2 := hide b_d2
  have U21 : Below V19.heap.size V19 V19 := Below.refl _ _
  have c_a0 := b_a.out.at0 b_a.out.lt_size (Nat.le_refl _)
  have c_a1 := b_a.out.at1 b_a.out.lt_size (Nat.le_refl _)
  have c_a2 := b_a.out.at2 b_a.out.lt_size (Nat.le_refl _)
  have c_b0 := b_b.out.at0 b_b.out.lt_size (Nat.le_refl _)
  have c_b1 := b_b.out.at1 b_b.out.lt_size (Nat.le_refl _)
  have c_b2 := b_b.out.at2 b_b.out.lt_size (Nat.le_refl _)
  have c_d10 := b_d1.out.at0 b_d1.out.lt_size (Nat.le_refl _)
  have c_d11 := b_d1.out.at1 b_d1.out.lt_size (Nat.le_refl _)
  have c_d12 := b_d1.out.at2 b_d1.out.lt_size (Nat.le_refl _)
  have c_d20 := b_d2.out.at0 b_d2.out.lt_size (Nat.le_refl _)
  have c_d21 := b_d2.out.at1 b_d2.out.lt_size (Nat.le_refl _)
  have c_d22 := b_d2.out.at2 b_d2.out.lt_size (Nat.le_refl _)
  refine (same_t R_d1.out R_d1d.out R_d2.out R_d2d.out (Nat.le_refl _) rfl).mono ?_
  rintro e w16 ⟨rfl, hb⟩
  replace R_a := hide (Rd.then_ R_a.out hb)
  replace R_ad := hide (Rd.then_ R_ad.out hb)
  replace R_b := hide (Rd.then_ R_b.out hb)
  replace R_bd := hide (Rd.then_ R_bd.out hb)
  replace R_d1 := hide (Rd.then_ R_d1.out hb)
  replace R_d1d := hide (Rd.then_ R_d1d.out hb)
  replace R_d2 := hide (Rd.then_ R_d2.out hb)
  replace R_d2d := hide (Rd.then_ R_d2d.out hb)
  have U22 : Below V19.heap.size V19 w16 := Below.then_ U21 hb
  replace B := hide (Below.then_ B.out hb)
  clear hb
  go_wp2
  go_ret
  exact ⟨rfl, B.out⟩

set_option maxHeartbeats 4000000 in
theorem arith_walk_big0 {w : World} {A_a : Option Addr} {n_a c_a : Nat} {s_a : Bool} {A_ad : Option Addr} {n_ad c_ad : Nat} {A_b : Option Addr} {n_b c_b : Nat} {s_b : Bool} {A_bd : Option Addr} {n_bd c_bd : Nat}  (g : ¬ (n_a ≤ 40 ∧ n_ad ≤ 40)) :
    Calls Try.prog 5 #[.agg #[.bool s_a, .slice A_a n_a c_a, .slice A_ad n_ad c_ad], .agg #[.bool s_b, .slice A_b n_b c_b, .slice A_bd n_bd c_bd]] w (RetB w (.bool true)) := by
  obtain ⟨W, hW⟩ : ∃ W, W = ((w.alloc (.cells #[.bool s_a, .slice A_a n_a c_a, .slice A_ad n_ad c_ad] 27)).alloc (.cells #[.bool s_b, .slice A_b n_b c_b, .slice A_bd n_bd c_bd] 27)) := ⟨_, rfl⟩
  have b_a : Box3 W (w.heap.size) (.bool s_a) (.slice A_a n_a c_a) (.slice A_ad n_ad c_ad) := by rw [hW]; exact ((Box3.new w _ _ _ rfl).al _)
  have b_b : Box3 W (w.heap.size + 1) (.bool s_b) (.slice A_b n_b c_b) (.slice A_bd n_bd c_bd) := by rw [hW]; exact (Box3.new _ _ _ _ (by simp))
  have hwW : Below w.heap.size w W := by rw [hW]; exact (((Below.refl _ _).alloc (Nat.le_refl _) _).alloc (by simp) _)
  have B := hide hwW
  clear hwW
  have U0 : Below W.heap.size W W := Below.refl _ _
  have c_a0 := b_a.at0 b_a.lt_size (Nat.le_refl _)
  have c_a1 := b_a.at1 b_a.lt_size (Nat.le_refl _)
  have c_a2 := b_a.at2 b_a.lt_size (Nat.le_refl _)
  replace b_a := hide b_a
  have c_b0 := b_b.at0 b_b.lt_size (Nat.le_refl _)
  have c_b1 := b_b.at1 b_b.lt_size (Nat.le_refl _)
  have c_b2 := b_b.at2 b_b.lt_size (Nat.le_refl _)
  replace b_b := hide b_b
  go_enter Try.func5, Try.ntmps5
  go_wp2_with fail
  rw [← hW]
  clear hW
  refine (large_yes g).mono ?_
  rintro e w1 ⟨rfl, hb⟩
  have U1 : Below W.heap.size W w1 := Below.then_ U0 hb
  replace B := hide (Below.then_ B.out hb)
  clear hb
  go_wp2
  go_ret
  exact ⟨rfl, B.out⟩

set_option maxHeartbeats 4000000 in
theorem arith_walk_big1 {w : World} {A_a : Option Addr} {n_a c_a : Nat} {s_a : Bool} {A_ad : Option Addr} {n_ad c_ad : Nat} {A_b : Option Addr} {n_b c_b : Nat} {s_b : Bool} {A_bd : Option Addr} {n_bd c_bd : Nat}  (g_a : n_a ≤ 40) (g_ad : n_ad ≤ 40) (g : ¬ (n_b ≤ 40 ∧ n_bd ≤ 40)) :
    Calls Try.prog 5 #[.agg #[.bool s_a, .slice A_a n_a c_a, .slice A_ad n_ad c_ad], .agg #[.bool s_b, .slice A_b n_b c_b, .slice A_bd n_bd c_bd]] w (RetB w (.bool true)) := by
  obtain ⟨W, hW⟩ : ∃ W, W = ((w.alloc (.cells #[.bool s_a, .slice A_a n_a c_a, .slice A_ad n_ad c_ad] 27)).alloc (.cells #[.bool s_b, .slice A_b n_b c_b, .slice A_bd n_bd c_bd] 27)) := ⟨_, rfl⟩
  have b_a : Box3 W (w.heap.size) (.bool s_a) (.slice A_a n_a c_a) (.slice A_ad n_ad c_ad) := by rw [hW]; exact ((Box3.new w _ _ _ rfl).al _)
  have b_b : Box3 W (w.heap.size + 1) (.bool s_b) (.slice A_b n_b c_b) (.slice A_bd n_bd c_bd) := by rw [hW]; exact (Box3.new _ _ _ _ (by simp))
  have hwW : Below w.heap.size w W := by rw [hW]; exact (((Below.refl _ _).alloc (Nat.le_refl _) _).alloc (by simp) _)
  have B := hide hwW
  clear hwW
  have U0 : Below W.heap.size W W := Below.refl _ _
  have c_a0 := b_a.at0 b_a.lt_size (Nat.le_refl _)
  have c_a1 := b_a.at1 b_a.lt_size (Nat.le_refl _)
  have c_a2 := b_a.at2 b_a.lt_size (Nat.le_refl _)
  replace b_a := hide b_a
  have c_b0 := b_b.at0 b_b.lt_size (Nat.le_refl _)
  have c_b1 := b_b.at1 b_b.lt_size (Nat.le_refl _)
  have c_b2 := b_b.at2 b_b.lt_size (Nat.le_refl _)
  replace b_b := hide b_b
  go_enter Try.func5, Try.ntmps5
  go_wp2_with fail
  rw [← hW]
  clear hW
  refine (large_no g_a g_ad).mono ?_
  rintro e w1 ⟨rfl, hb⟩
  have U1 : Below W.heap.size W w1 := Below.then_ U0 hb
  replace B := hide (Below.then_ B.out hb)
  clear hb
  go_wp2_with fail
  refine (large_yes g).mono ?_
  rintro e w2 ⟨rfl, hb⟩
  have U2 : Below W.heap.size W w2 := Below.then_ U1 hb
  replace B := hide (Below.then_ B.out hb)
  clear hb
  go_wp2
  go_ret
  exact ⟨rfl, B.out⟩

theorem arith_walk_all {w : World} {A_a A_ad : Option Addr} {n_a c_a n_ad c_ad : Nat} {x_a x_ad : List Nat} {s_a : Bool} {A_b A_bd : Option Addr} {n_b c_b n_bd c_bd : Nat} {x_b x_bd : List Nat} {s_b : Bool} (h_a : n_a ≤ 70368744177664 → Rd w w.heap.size A_a n_a c_a x_a) (h_ad : n_ad ≤ 70368744177664 → Rd w w.heap.size A_ad n_ad c_ad x_ad) (h_b : n_b ≤ 70368744177664 → Rd w w.heap.size A_b n_b c_b x_b) (h_bd : n_bd ≤ 70368744177664 → Rd w w.heap.size A_bd n_bd c_bd x_bd) :
    Calls Try.prog 5 #[.agg #[.bool s_a, .slice A_a n_a c_a, .slice A_ad n_ad c_ad], .agg #[.bool s_b, .slice A_b n_b c_b, .slice A_bd n_bd c_bd]] w (RetB w (.bool true)) := by
  by_cases g0 : n_a ≤ 40 ∧ n_ad ≤ 40
  case neg => exact arith_walk_big0  g0
  by_cases g1 : n_b ≤ 40 ∧ n_bd ≤ 40
  case neg => exact arith_walk_big1 g0.1 g0.2 g1
  exact arith_walk (h_a (by omega)) g0.1 (h_ad (by omega)) g0.2 (h_b (by omega)) g1.1 (h_bd (by omega)) g1.2 (Nat.le_refl _)

end Go.Proofs.Ytieopcchchebgaa

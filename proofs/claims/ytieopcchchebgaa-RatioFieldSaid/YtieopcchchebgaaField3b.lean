/-
  RatioField, where b is not 0.
-/
import Derived.Test.YtieopcchchebgaaLaw3m
namespace Go.Proofs.Ytieopcchchebgaa
open Go.RowKit


set_option maxRecDepth 100000 in
set_option maxHeartbeats 4000000 in
theorem field_ok {w : World} {Bd : Nat} {A_a : Option Addr} {n_a c_a : Nat} {x_a : List Nat} {s_a : Bool} {A_ad : Option Addr} {n_ad c_ad : Nat} {x_ad : List Nat} {A_b : Option Addr} {n_b c_b : Nat} {x_b : List Nat} {s_b : Bool} {A_bd : Option Addr} {n_bd c_bd : Nat} {x_bd : List Nat} {A_c : Option Addr} {n_c c_c : Nat} {x_c : List Nat} {s_c : Bool} {A_cd : Option Addr} {n_cd c_cd : Nat} {x_cd : List Nat} (h_a : Rd w Bd A_a n_a c_a x_a) (g_a : n_a ≤ 40) (h_ad : Rd w Bd A_ad n_ad c_ad x_ad) (g_ad : n_ad ≤ 40) (h_b : Rd w Bd A_b n_b c_b x_b) (g_b : n_b ≤ 40) (h_bd : Rd w Bd A_bd n_bd c_bd x_bd) (g_bd : n_bd ≤ 40) (h_c : Rd w Bd A_c n_c c_c x_c) (g_c : n_c ≤ 40) (h_cd : Rd w Bd A_cd n_cd c_cd x_cd) (g_cd : n_cd ≤ 40) (hB : Bd ≤ w.heap.size) (hb0 : qv s_b (val x_b) (val x_bd) ≠ 0) :
    Calls Try.prog 8 #[.agg #[.bool s_a, .slice A_a n_a c_a, .slice A_ad n_ad c_ad], .agg #[.bool s_b, .slice A_b n_b c_b, .slice A_bd n_bd c_bd], .agg #[.bool s_c, .slice A_c n_c c_c, .slice A_cd n_cd c_cd]] w (RetB w (.bool true)) := by
  obtain ⟨q_a, e_a⟩ : ∃ v, qv s_a (val x_a) (val x_ad) = v := ⟨_, rfl⟩
  replace e_a := hide e_a
  have s_aq : (dig (zmag q_a.num)).length ≤ 41 ∧ (dig q_a.den).length ≤ 41 := sz_rd h_a h_ad e_a.out g_a g_ad
  replace s_aq := hide s_aq
  have b_al : n_a ≤ 1000000000 ∧ n_ad ≤ 1000000000 := ⟨Nat.le_trans g_a (by omega), Nat.le_trans g_ad (by omega)⟩
  replace b_al := hide b_al
  obtain ⟨q_b, e_b⟩ : ∃ v, qv s_b (val x_b) (val x_bd) = v := ⟨_, rfl⟩
  replace e_b := hide e_b
  have s_bq : (dig (zmag q_b.num)).length ≤ 41 ∧ (dig q_b.den).length ≤ 41 := sz_rd h_b h_bd e_b.out g_b g_bd
  replace s_bq := hide s_bq
  have b_bl : n_b ≤ 1000000000 ∧ n_bd ≤ 1000000000 := ⟨Nat.le_trans g_b (by omega), Nat.le_trans g_bd (by omega)⟩
  replace b_bl := hide b_bl
  obtain ⟨q_c, e_c⟩ : ∃ v, qv s_c (val x_c) (val x_cd) = v := ⟨_, rfl⟩
  replace e_c := hide e_c
  have s_cq : (dig (zmag q_c.num)).length ≤ 41 ∧ (dig q_c.den).length ≤ 41 := sz_rd h_c h_cd e_c.out g_c g_cd
  replace s_cq := hide s_cq
  have b_cl : n_c ≤ 1000000000 ∧ n_cd ≤ 1000000000 := ⟨Nat.le_trans g_c (by omega), Nat.le_trans g_cd (by omega)⟩
  replace b_cl := hide b_cl
  rw [e_b.out] at hb0
  replace hb0 := hide hb0
  obtain ⟨v_one, e_one⟩ : ∃ v, Rat.divInt 1 1 = v := ⟨_, rfl⟩
  replace e_one := hide e_one
  have r_one : v_one = 1 := by rw [← e_one.out, divInt_one]; rfl
  replace r_one := hide r_one
  have s_oneq : (dig (zmag v_one.num)).length ≤ 1 ∧ (dig v_one.den).length ≤ 1 := by rw [r_one.out, show zmag (1 : Rat).num = 1 from rfl, show (1 : Rat).den = 1 from rfl, dig_one]; exact ⟨Nat.le_refl _, Nat.le_refl _⟩
  replace s_oneq := hide s_oneq
  have gn_one : (dig (zmag v_one.num)).length ≤ 10000000000 ∧ (dig v_one.den).length ≤ 10000000000 := by have := s_oneq.out; omega
  replace gn_one := hide gn_one
  obtain ⟨v_s, e_s⟩ : ∃ v, q_a + q_b = v := ⟨_, rfl⟩
  replace e_s := hide e_s
  have c_sq : qv s_a (val x_a) (val x_ad) + qv s_b (val x_b) (val x_bd) = v_s := by rw [e_a.out, e_b.out]; exact e_s.out
  replace c_sq := hide c_sq
  have s_sq : (dig (zmag v_s.num)).length ≤ 83 ∧ (dig v_s.den).length ≤ 83 := sz_add e_s.out s_aq.out s_bq.out
  replace s_sq := hide s_sq
  have e_s2 : q_b + q_a = v_s := by rw [Rat.add_comm]; exact e_s.out
  replace e_s2 := hide e_s2
  have c_s2q : qv s_b (val x_b) (val x_bd) + qv s_a (val x_a) (val x_ad) = v_s := by rw [e_b.out, e_a.out]; exact e_s2.out
  replace c_s2q := hide c_s2q
  have s_s2q : (dig (zmag v_s.num)).length ≤ 83 ∧ (dig v_s.den).length ≤ 83 := sz_add e_s2.out s_bq.out s_aq.out
  replace s_s2q := hide s_s2q
  obtain ⟨v_m, e_m⟩ : ∃ v, q_a * q_b = v := ⟨_, rfl⟩
  replace e_m := hide e_m
  have c_mq : qv s_a (val x_a) (val x_ad) * qv s_b (val x_b) (val x_bd) = v_m := by rw [e_a.out, e_b.out]; exact e_m.out
  replace c_mq := hide c_mq
  have s_mq : (dig (zmag v_m.num)).length ≤ 82 ∧ (dig v_m.den).length ≤ 82 := sz_mul e_m.out s_aq.out s_bq.out
  replace s_mq := hide s_mq
  have e_m2 : q_b * q_a = v_m := by rw [Rat.mul_comm]; exact e_m.out
  replace e_m2 := hide e_m2
  have c_m2q : qv s_b (val x_b) (val x_bd) * qv s_a (val x_a) (val x_ad) = v_m := by rw [e_b.out, e_a.out]; exact e_m2.out
  replace c_m2q := hide c_m2q
  have s_m2q : (dig (zmag v_m.num)).length ≤ 82 ∧ (dig v_m.den).length ≤ 82 := sz_mul e_m2.out s_bq.out s_aq.out
  replace s_m2q := hide s_m2q
  obtain ⟨v_s3, e_s3⟩ : ∃ v, v_s + q_c = v := ⟨_, rfl⟩
  replace e_s3 := hide e_s3
  have c_s3q : qv (zneg v_s.num) (val (dig (zmag v_s.num))) (val (dig v_s.den)) + qv s_c (val x_c) (val x_cd) = v_s3 := by rw [qv_eta v_s, e_c.out]; exact e_s3.out
  replace c_s3q := hide c_s3q
  have s_s3q : (dig (zmag v_s3.num)).length ≤ 125 ∧ (dig v_s3.den).length ≤ 125 := sz_add e_s3.out s_sq.out s_cq.out
  replace s_s3q := hide s_s3q
  obtain ⟨v_t, e_t⟩ : ∃ v, q_b + q_c = v := ⟨_, rfl⟩
  replace e_t := hide e_t
  have c_tq : qv s_b (val x_b) (val x_bd) + qv s_c (val x_c) (val x_cd) = v_t := by rw [e_b.out, e_c.out]; exact e_t.out
  replace c_tq := hide c_tq
  have s_tq : (dig (zmag v_t.num)).length ≤ 83 ∧ (dig v_t.den).length ≤ 83 := sz_add e_t.out s_bq.out s_cq.out
  replace s_tq := hide s_tq
  have e_s4 : q_a + v_t = v_s3 := by rw [← e_t.out, ← Rat.add_assoc, e_s.out]; exact e_s3.out
  replace e_s4 := hide e_s4
  have c_s4q : qv s_a (val x_a) (val x_ad) + qv (zneg v_t.num) (val (dig (zmag v_t.num))) (val (dig v_t.den)) = v_s3 := by rw [e_a.out, qv_eta v_t]; exact e_s4.out
  replace c_s4q := hide c_s4q
  have s_s4q : (dig (zmag v_s3.num)).length ≤ 125 ∧ (dig v_s3.den).length ≤ 125 := sz_add e_s4.out s_aq.out s_tq.out
  replace s_s4q := hide s_s4q
  obtain ⟨v_m3, e_m3⟩ : ∃ v, v_m * q_c = v := ⟨_, rfl⟩
  replace e_m3 := hide e_m3
  have c_m3q : qv (zneg v_m.num) (val (dig (zmag v_m.num))) (val (dig v_m.den)) * qv s_c (val x_c) (val x_cd) = v_m3 := by rw [qv_eta v_m, e_c.out]; exact e_m3.out
  replace c_m3q := hide c_m3q
  have s_m3q : (dig (zmag v_m3.num)).length ≤ 123 ∧ (dig v_m3.den).length ≤ 123 := sz_mul e_m3.out s_mq.out s_cq.out
  replace s_m3q := hide s_m3q
  obtain ⟨v_u, e_u⟩ : ∃ v, q_b * q_c = v := ⟨_, rfl⟩
  replace e_u := hide e_u
  have c_uq : qv s_b (val x_b) (val x_bd) * qv s_c (val x_c) (val x_cd) = v_u := by rw [e_b.out, e_c.out]; exact e_u.out
  replace c_uq := hide c_uq
  have s_uq : (dig (zmag v_u.num)).length ≤ 82 ∧ (dig v_u.den).length ≤ 82 := sz_mul e_u.out s_bq.out s_cq.out
  replace s_uq := hide s_uq
  have e_m4 : q_a * v_u = v_m3 := by rw [← e_u.out, ← Rat.mul_assoc, e_m.out]; exact e_m3.out
  replace e_m4 := hide e_m4
  have c_m4q : qv s_a (val x_a) (val x_ad) * qv (zneg v_u.num) (val (dig (zmag v_u.num))) (val (dig v_u.den)) = v_m3 := by rw [e_a.out, qv_eta v_u]; exact e_m4.out
  replace c_m4q := hide c_m4q
  have s_m4q : (dig (zmag v_m3.num)).length ≤ 123 ∧ (dig v_m3.den).length ≤ 123 := sz_mul e_m4.out s_aq.out s_uq.out
  replace s_m4q := hide s_m4q
  obtain ⟨v_d1, e_d1⟩ : ∃ v, q_a * v_t = v := ⟨_, rfl⟩
  replace e_d1 := hide e_d1
  have c_d1q : qv s_a (val x_a) (val x_ad) * qv (zneg v_t.num) (val (dig (zmag v_t.num))) (val (dig v_t.den)) = v_d1 := by rw [e_a.out, qv_eta v_t]; exact e_d1.out
  replace c_d1q := hide c_d1q
  have s_d1q : (dig (zmag v_d1.num)).length ≤ 124 ∧ (dig v_d1.den).length ≤ 124 := sz_mul e_d1.out s_aq.out s_tq.out
  replace s_d1q := hide s_d1q
  obtain ⟨v_p, e_p⟩ : ∃ v, q_a * q_c = v := ⟨_, rfl⟩
  replace e_p := hide e_p
  have c_pq : qv s_a (val x_a) (val x_ad) * qv s_c (val x_c) (val x_cd) = v_p := by rw [e_a.out, e_c.out]; exact e_p.out
  replace c_pq := hide c_pq
  have s_pq : (dig (zmag v_p.num)).length ≤ 82 ∧ (dig v_p.den).length ≤ 82 := sz_mul e_p.out s_aq.out s_cq.out
  replace s_pq := hide s_pq
  have e_d2 : v_m + v_p = v_d1 := by rw [← e_m.out, ← e_p.out, ← Rat.mul_add, e_t.out]; exact e_d1.out
  replace e_d2 := hide e_d2
  have c_d2q : qv (zneg v_m.num) (val (dig (zmag v_m.num))) (val (dig v_m.den)) + qv (zneg v_p.num) (val (dig (zmag v_p.num))) (val (dig v_p.den)) = v_d1 := by rw [qv_eta v_m, qv_eta v_p]; exact e_d2.out
  replace c_d2q := hide c_d2q
  have s_d2q : (dig (zmag v_d1.num)).length ≤ 165 ∧ (dig v_d1.den).length ≤ 165 := sz_add e_d2.out s_mq.out s_pq.out
  replace s_d2q := hide s_d2q
  have e_i : q_a * v_one = q_a := by rw [r_one.out, Rat.mul_one]
  replace e_i := hide e_i
  have c_iq : qv s_a (val x_a) (val x_ad) * qv (zneg v_one.num) (val (dig (zmag v_one.num))) (val (dig v_one.den)) = q_a := by rw [e_a.out, qv_eta v_one]; exact e_i.out
  replace c_iq := hide c_iq
  have s_iq : (dig (zmag q_a.num)).length ≤ 42 ∧ (dig q_a.den).length ≤ 42 := sz_mul e_i.out s_aq.out s_oneq.out
  replace s_iq := hide s_iq
  have e_n : q_a = q_a := rfl
  replace e_n := hide e_n
  have c_nq : qv s_a (val x_a) (val x_ad) = q_a := by rw [e_a.out]
  replace c_nq := hide c_nq
  have s_nq : (dig (zmag q_a.num)).length ≤ 41 ∧ (dig q_a.den).length ≤ 41 := by rw [← e_n.out]; exact s_aq.out
  replace s_nq := hide s_nq
  obtain ⟨v_f, e_f⟩ : ∃ v, q_a - q_b = v := ⟨_, rfl⟩
  replace e_f := hide e_f
  have c_fq : qv s_a (val x_a) (val x_ad) - qv s_b (val x_b) (val x_bd) = v_f := by rw [e_a.out, e_b.out]; exact e_f.out
  replace c_fq := hide c_fq
  have s_fq : (dig (zmag v_f.num)).length ≤ 83 ∧ (dig v_f.den).length ≤ 83 := sz_sub e_f.out s_aq.out s_bq.out
  replace s_fq := hide s_fq
  have e_f2 : v_f + q_b = q_a := by rw [← e_f.out, Rat.sub_add_cancel]
  replace e_f2 := hide e_f2
  have c_f2q : qv (zneg v_f.num) (val (dig (zmag v_f.num))) (val (dig v_f.den)) + qv s_b (val x_b) (val x_bd) = q_a := by rw [qv_eta v_f, e_b.out]; exact e_f2.out
  replace c_f2q := hide c_f2q
  have s_f2q : (dig (zmag q_a.num)).length ≤ 125 ∧ (dig q_a.den).length ≤ 125 := sz_add e_f2.out s_fq.out s_bq.out
  replace s_f2q := hide s_f2q
  obtain ⟨v_o, e_o⟩ : ∃ v, q_a - q_a = v := ⟨_, rfl⟩
  replace e_o := hide e_o
  have c_oq : qv s_a (val x_a) (val x_ad) - qv s_a (val x_a) (val x_ad) = v_o := by rw [e_a.out]; exact e_o.out
  replace c_oq := hide c_oq
  have s_oq : (dig (zmag v_o.num)).length ≤ 83 ∧ (dig v_o.den).length ≤ 83 := sz_sub e_o.out s_aq.out s_aq.out
  replace s_oq := hide s_oq
  have e_ko : sgn (v_o).num = 0 := by rw [← e_o.out, Rat.sub_self]; rfl
  replace e_ko := hide e_ko
  have e_koc : sgn (qv (zneg v_o.num) (val (dig (zmag v_o.num))) (val (dig v_o.den))).num = 0 := by rw [qv_eta v_o]; exact e_ko.out
  replace e_koc := hide e_koc
  obtain ⟨v_q, e_q⟩ : ∃ v, q_a / q_b = v := ⟨_, rfl⟩
  replace e_q := hide e_q
  have c_qq : qv s_a (val x_a) (val x_ad) / qv s_b (val x_b) (val x_bd) = v_q := by rw [e_a.out, e_b.out]; exact e_q.out
  replace c_qq := hide c_qq
  have s_qq : (dig (zmag v_q.num)).length ≤ 82 ∧ (dig v_q.den).length ≤ 82 := sz_div e_q.out s_aq.out s_bq.out
  replace s_qq := hide s_qq
  obtain ⟨ok, e_ok⟩ : ∃ ok, decide (q_b ≠ 0) = ok := ⟨_, rfl⟩
  obtain rfl : ok = true := by rw [← e_ok]; exact decide_eq_true hb0.out
  replace e_ok := hide e_ok
  have c_ok : decide (qv s_b (val x_b) (val x_bd) ≠ 0) = true := by rw [e_b.out]; exact e_ok.out
  replace c_ok := hide c_ok
  obtain ⟨sb, e_sb⟩ : ∃ v, sgn (q_b).num = v := ⟨_, rfl⟩
  replace e_sb := hide e_sb
  have e_sbc : sgn (qv s_b (val x_b) (val x_bd)).num = sb := by rw [e_b.out]; exact e_sb.out
  replace e_sbc := hide e_sbc
  have h_sb : (sb != 0) = true := by rw [← e_sb.out]; have := fun h => hb0.out (Rat.num_eq_zero.1 ((sgn_zero_iff q_b.num).1 h)); simpa using this
  have e_qb : v_q * q_b = q_a := by rw [← e_q.out]; exact Rat.div_mul_cancel hb0.out
  replace e_qb := hide e_qb
  have c_qbq : qv (zneg v_q.num) (val (dig (zmag v_q.num))) (val (dig v_q.den)) * qv s_b (val x_b) (val x_bd) = q_a := by rw [qv_eta v_q, e_b.out]; exact e_qb.out
  replace c_qbq := hide c_qbq
  have s_qbq : (dig (zmag q_a.num)).length ≤ 123 ∧ (dig q_a.den).length ≤ 123 := sz_mul e_qb.out s_qq.out s_bq.out
  replace s_qbq := hide s_qbq
  obtain ⟨k, e_k⟩ : ∃ v, sgn (q_a - q_b).num = v := ⟨_, rfl⟩
  replace e_k := hide e_k
  have e_kc : sgn (qv s_a (val x_a) (val x_ad) - qv s_b (val x_b) (val x_bd)).num = k := by rw [e_a.out, e_b.out]; exact e_k.out
  replace e_kc := hide e_kc
  obtain ⟨k2, e_k2⟩ : ∃ v, sgn (q_b - q_a).num = v := ⟨_, rfl⟩
  replace e_k2 := hide e_k2
  have e_k2c : sgn (qv s_b (val x_b) (val x_bd) - qv s_a (val x_a) (val x_ad)).num = k2 := by rw [e_b.out, e_a.out]; exact e_k2.out
  replace e_k2c := hide e_k2c
  have b_k := sgn_three (q_a - q_b).num
  rw [e_k.out] at b_k
  have h_k2 : IntKind.i64.wrap (-k2) = k := by rw [← e_k2.out, ← e_k.out, ← Rat.neg_sub, Rat.neg_num, sgn_neg, Int.neg_neg]; exact wrap_sgn _
  have e_kf : sgn (v_f).num = k := by rw [← e_f.out]; exact e_k.out
  replace e_kf := hide e_kf
  have e_kfc : sgn (qv (zneg v_f.num) (val (dig (zmag v_f.num))) (val (dig v_f.den))).num = k := by rw [qv_eta v_f]; exact e_kf.out
  replace e_kfc := hide e_kfc
  obtain ⟨v_g, e_g⟩ : ∃ v, q_a + q_c = v := ⟨_, rfl⟩
  replace e_g := hide e_g
  have c_gq : qv s_a (val x_a) (val x_ad) + qv s_c (val x_c) (val x_cd) = v_g := by rw [e_a.out, e_c.out]; exact e_g.out
  replace c_gq := hide c_gq
  have s_gq : (dig (zmag v_g.num)).length ≤ 83 ∧ (dig v_g.den).length ≤ 83 := sz_add e_g.out s_aq.out s_cq.out
  replace s_gq := hide s_gq
  obtain ⟨v_h, e_h⟩ : ∃ v, q_b + q_c = v := ⟨_, rfl⟩
  replace e_h := hide e_h
  have c_hq : qv s_b (val x_b) (val x_bd) + qv s_c (val x_c) (val x_cd) = v_h := by rw [e_b.out, e_c.out]; exact e_h.out
  replace c_hq := hide c_hq
  have s_hq : (dig (zmag v_h.num)).length ≤ 83 ∧ (dig v_h.den).length ≤ 83 := sz_add e_h.out s_bq.out s_cq.out
  replace s_hq := hide s_hq
  have e_kw : sgn (v_g - v_h).num = k := by rw [← e_g.out, ← e_h.out, add_sub_add, e_k.out]
  replace e_kw := hide e_kw
  have e_kwc : sgn (qv (zneg v_g.num) (val (dig (zmag v_g.num))) (val (dig v_g.den)) - qv (zneg v_h.num) (val (dig (zmag v_h.num))) (val (dig v_h.den))).num = k := by rw [qv_eta v_g, qv_eta v_h]; exact e_kw.out
  replace e_kwc := hide e_kwc
  obtain ⟨sc, e_sc⟩ : ∃ v, sgn (q_c).num = v := ⟨_, rfl⟩
  replace e_sc := hide e_sc
  have e_scc : sgn (qv s_c (val x_c) (val x_cd)).num = sc := by rw [e_c.out]; exact e_sc.out
  replace e_scc := hide e_scc
  obtain ⟨v_x, e_x⟩ : ∃ v, q_a * q_c = v := ⟨_, rfl⟩
  replace e_x := hide e_x
  have c_xq : qv s_a (val x_a) (val x_ad) * qv s_c (val x_c) (val x_cd) = v_x := by rw [e_a.out, e_c.out]; exact e_x.out
  replace c_xq := hide c_xq
  have s_xq : (dig (zmag v_x.num)).length ≤ 82 ∧ (dig v_x.den).length ≤ 82 := sz_mul e_x.out s_aq.out s_cq.out
  replace s_xq := hide s_xq
  obtain ⟨v_y, e_y⟩ : ∃ v, q_b * q_c = v := ⟨_, rfl⟩
  replace e_y := hide e_y
  have c_yq : qv s_b (val x_b) (val x_bd) * qv s_c (val x_c) (val x_cd) = v_y := by rw [e_b.out, e_c.out]; exact e_y.out
  replace c_yq := hide c_yq
  have s_yq : (dig (zmag v_y.num)).length ≤ 82 ∧ (dig v_y.den).length ≤ 82 := sz_mul e_y.out s_bq.out s_cq.out
  replace s_yq := hide s_yq
  obtain ⟨km, e_km⟩ : ∃ v, sgn (v_x - v_y).num = v := ⟨_, rfl⟩
  replace e_km := hide e_km
  have e_kmc : sgn (qv (zneg v_x.num) (val (dig (zmag v_x.num))) (val (dig v_x.den)) - qv (zneg v_y.num) (val (dig (zmag v_y.num))) (val (dig v_y.den))).num = km := by rw [qv_eta v_x, qv_eta v_y]; exact e_km.out
  replace e_kmc := hide e_kmc
  have h_km : IntKind.i64.wrap (k * sc) = km := by rw [← e_k.out, ← e_sc.out, ← e_km.out, ← e_x.out, ← e_y.out, ← sub_mul', sgn_qmul]; exact wrap_sgn_mul _ _
  clear b_k
  obtain ⟨W, hW⟩ : ∃ W, W = (((w.alloc (.cells #[.bool s_a, .slice A_a n_a c_a, .slice A_ad n_ad c_ad] 27)).alloc (.cells #[.bool s_b, .slice A_b n_b c_b, .slice A_bd n_bd c_bd] 27)).alloc (.cells #[.bool s_c, .slice A_c n_c c_c, .slice A_cd n_cd c_cd] 27)) := ⟨_, rfl⟩
  have b_a : Box3 W (w.heap.size) (.bool s_a) (.slice A_a n_a c_a) (.slice A_ad n_ad c_ad) := by rw [hW]; exact (((Box3.new w _ _ _ rfl).al _).al _)
  have b_b : Box3 W (w.heap.size + 1) (.bool s_b) (.slice A_b n_b c_b) (.slice A_bd n_bd c_bd) := by rw [hW]; exact ((Box3.new _ _ _ _ (by simp)).al _)
  have b_c : Box3 W (w.heap.size + 1 + 1) (.bool s_c) (.slice A_c n_c c_c) (.slice A_cd n_cd c_cd) := by rw [hW]; exact (Box3.new _ _ _ _ (by simp))
  have hwW : Below w.heap.size w W := by rw [hW]; exact ((((Below.refl _ _).alloc (Nat.le_refl _) _).alloc (by simp) _).alloc (by simp; omega) _)
  have R_a := hide (Rd.upto h_a hwW hB)
  clear h_a
  have R_ad := hide (Rd.upto h_ad hwW hB)
  clear h_ad
  have R_b := hide (Rd.upto h_b hwW hB)
  clear h_b
  have R_bd := hide (Rd.upto h_bd hwW hB)
  clear h_bd
  have R_c := hide (Rd.upto h_c hwW hB)
  clear h_c
  have R_cd := hide (Rd.upto h_cd hwW hB)
  clear h_cd
  have B := hide hwW
  clear hwW
  clear hB
  have U0 : Below W.heap.size W W := Below.refl _ _
  have c_a0 := b_a.at0 b_a.lt_size (Nat.le_refl _)
  have c_a1 := b_a.at1 b_a.lt_size (Nat.le_refl _)
  have c_a2 := b_a.at2 b_a.lt_size (Nat.le_refl _)
  replace b_a := hide b_a
  have c_b0 := b_b.at0 b_b.lt_size (Nat.le_refl _)
  have c_b1 := b_b.at1 b_b.lt_size (Nat.le_refl _)
  have c_b2 := b_b.at2 b_b.lt_size (Nat.le_refl _)
  replace b_b := hide b_b
  have c_c0 := b_c.at0 b_c.lt_size (Nat.le_refl _)
  have c_c1 := b_c.at1 b_c.lt_size (Nat.le_refl _)
  have c_c2 := b_c.at2 b_c.lt_size (Nat.le_refl _)
  replace b_c := hide b_c
  go_enter Try.func8, Try.ntmps8
  go_wp2_with fail
  rw [← hW]
  clear hW
  refine (large_no g_a g_ad).mono ?_
  rintro e w1 ⟨rfl, hb⟩
  replace R_a := hide (Rd.then_ R_a.out hb)
  replace R_ad := hide (Rd.then_ R_ad.out hb)
  replace R_b := hide (Rd.then_ R_b.out hb)
  replace R_bd := hide (Rd.then_ R_bd.out hb)
  replace R_c := hide (Rd.then_ R_c.out hb)
  replace R_cd := hide (Rd.then_ R_cd.out hb)
  have U1 : Below W.heap.size W w1 := Below.then_ U0 hb
  replace B := hide (Below.then_ B.out hb)
  clear U0
  clear hb
  go_wp2_with fail
  refine (large_no g_b g_bd).mono ?_
  rintro e w2 ⟨rfl, hb⟩
  replace R_a := hide (Rd.then_ R_a.out hb)
  replace R_ad := hide (Rd.then_ R_ad.out hb)
  replace R_b := hide (Rd.then_ R_b.out hb)
  replace R_bd := hide (Rd.then_ R_bd.out hb)
  replace R_c := hide (Rd.then_ R_c.out hb)
  replace R_cd := hide (Rd.then_ R_cd.out hb)
  have U2 : Below W.heap.size W w2 := Below.then_ U1 hb
  replace B := hide (Below.then_ B.out hb)
  clear U1
  clear hb
  go_wp2_with fail
  refine (large_no g_c g_cd).mono ?_
  rintro e w3 ⟨rfl, hb⟩
  replace R_a := hide (Rd.then_ R_a.out hb)
  replace R_ad := hide (Rd.then_ R_ad.out hb)
  replace R_b := hide (Rd.then_ R_b.out hb)
  replace R_bd := hide (Rd.then_ R_bd.out hb)
  replace R_c := hide (Rd.then_ R_c.out hb)
  replace R_cd := hide (Rd.then_ R_cd.out hb)
  have U3 : Below W.heap.size W w3 := Below.then_ U2 hb
  replace B := hide (Below.then_ B.out hb)
  clear U2
  clear hb
  go_wp2_with fail
  refine (pof_any (x := 1) (y := 1) (by omega) (by omega) (by omega) (by omega) e_one.out (show decide ((1 : Int) ≠ 0) = true by decide)).mono ?_
  rintro e w4 ⟨A_one, c_one, A_oned, c_oned, rfl, R_one, R_oned, hb⟩
  replace R_a := hide (Rd.then_ R_a.out hb)
  replace R_ad := hide (Rd.then_ R_ad.out hb)
  replace R_b := hide (Rd.then_ R_b.out hb)
  replace R_bd := hide (Rd.then_ R_bd.out hb)
  replace R_c := hide (Rd.then_ R_c.out hb)
  replace R_cd := hide (Rd.then_ R_cd.out hb)
  have U4 : Below W.heap.size W w4 := Below.then_ U3 hb
  replace B := hide (Below.then_ B.out hb)
  clear U3
  replace R_one := hide R_one
  replace R_oned := hide R_oned
  clear hb
  have hbx : Below w4.heap.size w4 (w4.alloc (.cells #[.bool (zneg v_one.num), .slice A_one (dig (zmag v_one.num)).length c_one, .slice A_oned (dig v_one.den).length c_oned] 27)) := ((Below.refl _ _).alloc (Nat.le_refl _) _)
  have Ux := Below.then_ U4 hbx
  go_wp2_with fail
  obtain ⟨V4, hV⟩ : ∃ V, V = (w4.alloc (.cells #[.bool (zneg v_one.num), .slice A_one (dig (zmag v_one.num)).length c_one, .slice A_oned (dig v_one.den).length c_oned] 27)) := ⟨_, rfl⟩
  obtain ⟨g_one, hg_one⟩ : ∃ g, g = w4.heap.size := ⟨_, rfl⟩
  rw [← hV]
  rw [← hV] at hbx Ux
  rw [← hg_one]
  have b_one : Box3 V4 g_one (.bool (zneg v_one.num)) (.slice A_one (dig (zmag v_one.num)).length c_one) (.slice A_oned (dig v_one.den).length c_oned) := by rw [hV]; exact (Box3.new _ _ _ _ hg_one)
  clear hV
  have ne_a_one : w.heap.size ≠ g_one := by have := (b_a.out.lt b_a.out.lt_size (Nat.le_refl _)) _ U4; omega
  replace ne_a_one := hide ne_a_one
  have ne_b_one : w.heap.size + 1 ≠ g_one := by have := (b_b.out.lt b_b.out.lt_size (Nat.le_refl _)) _ U4; omega
  replace ne_b_one := hide ne_b_one
  have ne_c_one : w.heap.size + 1 + 1 ≠ g_one := by have := (b_c.out.lt b_c.out.lt_size (Nat.le_refl _)) _ U4; omega
  replace ne_c_one := hide ne_c_one
  have ge_one : w.heap.size ≤ g_one := by have := B.out.size; omega
  replace ge_one := hide ge_one
  clear hg_one
  replace R_a := hide (Rd.then_ R_a.out hbx)
  replace R_ad := hide (Rd.then_ R_ad.out hbx)
  replace R_b := hide (Rd.then_ R_b.out hbx)
  replace R_bd := hide (Rd.then_ R_bd.out hbx)
  replace R_c := hide (Rd.then_ R_c.out hbx)
  replace R_cd := hide (Rd.then_ R_cd.out hbx)
  replace R_one := hide (Rd.then_ R_one.out hbx)
  replace R_oned := hide (Rd.then_ R_oned.out hbx)
  have U5 : Below W.heap.size W V4 := Below.then_ U4 hbx
  replace B := hide (Below.then_ B.out hbx)
  clear U4
  clear hbx
  replace b_a := hide (Box3.keep b_a.out U5)
  clear c_a0 c_a1 c_a2
  replace b_b := hide (Box3.keep b_b.out U5)
  clear c_b0 c_b1 c_b2
  replace b_c := hide (Box3.keep b_c.out U5)
  clear c_c0 c_c1 c_c2
  replace b_one := hide b_one
  have U6 : Below V4.heap.size V4 V4 := Below.refl _ _
  have c_a0 := b_a.out.at0 b_a.out.lt_size (Nat.le_refl _)
  have c_a1 := b_a.out.at1 b_a.out.lt_size (Nat.le_refl _)
  have c_a2 := b_a.out.at2 b_a.out.lt_size (Nat.le_refl _)
  have c_b0 := b_b.out.at0 b_b.out.lt_size (Nat.le_refl _)
  have c_b1 := b_b.out.at1 b_b.out.lt_size (Nat.le_refl _)
  have c_b2 := b_b.out.at2 b_b.out.lt_size (Nat.le_refl _)
  have c_c0 := b_c.out.at0 b_c.out.lt_size (Nat.le_refl _)
  have c_c1 := b_c.out.at1 b_c.out.lt_size (Nat.le_refl _)
  have c_c2 := b_c.out.at2 b_c.out.lt_size (Nat.le_refl _)
  have c_one0 := b_one.out.at0 b_one.out.lt_size (Nat.le_refl _)
  have c_one1 := b_one.out.at1 b_one.out.lt_size (Nat.le_refl _)
  have c_one2 := b_one.out.at2 b_one.out.lt_size (Nat.le_refl _)
  clear U5
  go_wp2_with fail
  have hd := Below.drw_ V4
  replace R_a := hide (Rd.then_ R_a.out hd)
  replace R_ad := hide (Rd.then_ R_ad.out hd)
  replace R_b := hide (Rd.then_ R_b.out hd)
  replace R_bd := hide (Rd.then_ R_bd.out hd)
  replace R_c := hide (Rd.then_ R_c.out hd)
  replace R_cd := hide (Rd.then_ R_cd.out hd)
  replace R_one := hide (Rd.then_ R_one.out hd)
  replace R_oned := hide (Rd.then_ R_oned.out hd)
  have U7 : Below V4.heap.size V4 (V4.drew) := Below.then_ U6 hd
  replace B := hide (Below.then_ B.out hd)
  clear U6
  clear hd
  have tok1 : True := trivial
  go_region_held3 (fun w' => Below V4.heap.size V4 w') (assumption)
    (first
      | (go_at_call 45; (have _t := tok1; (with_reducible refine (normal_any R_one.out gn_one.out.1 R_oned.out gn_one.out.2 (Nat.le_refl _)).mono ?_); rintro e w5 ⟨rfl, hb⟩; replace R_a := hide (Rd.then_ R_a.out hb); replace R_ad := hide (Rd.then_ R_ad.out hb); replace R_b := hide (Rd.then_ R_b.out hb); replace R_bd := hide (Rd.then_ R_bd.out hb); replace R_c := hide (Rd.then_ R_c.out hb); replace R_cd := hide (Rd.then_ R_cd.out hb); replace R_one := hide (Rd.then_ R_one.out hb); replace R_oned := hide (Rd.then_ R_oned.out hb); have U8 : Below V4.heap.size V4 w5 := Below.then_ U7 hb; replace B := hide (Below.then_ B.out hb); clear U7; clear hb; have tok2 : True := trivial; clear _t tok1))
      | (go_at_call 33; (have _t := tok2; (with_reducible refine (padd_any R_a.out b_al.out.1 R_ad.out b_al.out.2 R_b.out b_bl.out.1 R_bd.out b_bl.out.2 (Nat.le_refl _) c_sq.out).mono ?_); rintro e w6 ⟨A_s, c_s, A_sd, c_sd, rfl, R_s, R_sd, hb⟩; replace R_a := hide (Rd.then_ R_a.out hb); replace R_ad := hide (Rd.then_ R_ad.out hb); replace R_b := hide (Rd.then_ R_b.out hb); replace R_bd := hide (Rd.then_ R_bd.out hb); replace R_c := hide (Rd.then_ R_c.out hb); replace R_cd := hide (Rd.then_ R_cd.out hb); replace R_one := hide (Rd.then_ R_one.out hb); replace R_oned := hide (Rd.then_ R_oned.out hb); have U9 : Below V4.heap.size V4 w6 := Below.then_ U8 hb; replace B := hide (Below.then_ B.out hb); clear U8; replace R_s := hide R_s; replace R_sd := hide R_sd; clear hb; have tok3 : True := trivial; clear _t tok2))
      | (go_at_call 33; (have _t := tok3; (with_reducible refine (padd_any R_b.out b_bl.out.1 R_bd.out b_bl.out.2 R_a.out b_al.out.1 R_ad.out b_al.out.2 (Nat.le_refl _) c_s2q.out).mono ?_); rintro e w7 ⟨A_s2, c_s2, A_s2d, c_s2d, rfl, R_s2, R_s2d, hb⟩; replace R_a := hide (Rd.then_ R_a.out hb); replace R_ad := hide (Rd.then_ R_ad.out hb); replace R_b := hide (Rd.then_ R_b.out hb); replace R_bd := hide (Rd.then_ R_bd.out hb); replace R_c := hide (Rd.then_ R_c.out hb); replace R_cd := hide (Rd.then_ R_cd.out hb); replace R_one := hide (Rd.then_ R_one.out hb); replace R_oned := hide (Rd.then_ R_oned.out hb); replace R_s := hide (Rd.then_ R_s.out hb); replace R_sd := hide (Rd.then_ R_sd.out hb); have U10 : Below V4.heap.size V4 w7 := Below.then_ U9 hb; replace B := hide (Below.then_ B.out hb); clear U9; replace R_s2 := hide R_s2; replace R_s2d := hide R_s2d; clear hb; have tok4 : True := trivial; clear _t tok3))
      | (go_at_call 14; (have _t := tok4; (with_reducible refine (same_t R_s.out R_sd.out R_s2.out R_s2d.out (Nat.le_refl _) rfl).mono ?_); rintro e w8 ⟨rfl, hb⟩; replace R_a := hide (Rd.then_ R_a.out hb); replace R_ad := hide (Rd.then_ R_ad.out hb); replace R_b := hide (Rd.then_ R_b.out hb); replace R_bd := hide (Rd.then_ R_bd.out hb); replace R_c := hide (Rd.then_ R_c.out hb); replace R_cd := hide (Rd.then_ R_cd.out hb); replace R_one := hide (Rd.then_ R_one.out hb); replace R_oned := hide (Rd.then_ R_oned.out hb); replace R_s := hide (Rd.then_ R_s.out hb); replace R_sd := hide (Rd.then_ R_sd.out hb); replace R_s2 := hide (Rd.then_ R_s2.out hb); replace R_s2d := hide (Rd.then_ R_s2d.out hb); have U11 : Below V4.heap.size V4 w8 := Below.then_ U10 hb; replace B := hide (Below.then_ B.out hb); clear U10; clear hb; have tok5 : True := trivial; clear _t tok4; clear R_s; clear R_sd; clear R_s2; clear R_s2d))
      | (go_at_call 37; (have _t := tok5; (with_reducible refine (pmul_any R_a.out b_al.out.1 R_ad.out b_al.out.2 R_b.out b_bl.out.1 R_bd.out b_bl.out.2 (Nat.le_refl _) c_mq.out).mono ?_); rintro e w9 ⟨A_m, c_m, A_md, c_md, rfl, R_m, R_md, hb⟩; replace R_a := hide (Rd.then_ R_a.out hb); replace R_ad := hide (Rd.then_ R_ad.out hb); replace R_b := hide (Rd.then_ R_b.out hb); replace R_bd := hide (Rd.then_ R_bd.out hb); replace R_c := hide (Rd.then_ R_c.out hb); replace R_cd := hide (Rd.then_ R_cd.out hb); replace R_one := hide (Rd.then_ R_one.out hb); replace R_oned := hide (Rd.then_ R_oned.out hb); have U12 : Below V4.heap.size V4 w9 := Below.then_ U11 hb; replace B := hide (Below.then_ B.out hb); clear U11; replace R_m := hide R_m; replace R_md := hide R_md; clear hb; have tok6 : True := trivial; clear _t tok5))
      | (go_at_call 37; (have _t := tok6; (with_reducible refine (pmul_any R_b.out b_bl.out.1 R_bd.out b_bl.out.2 R_a.out b_al.out.1 R_ad.out b_al.out.2 (Nat.le_refl _) c_m2q.out).mono ?_); rintro e w10 ⟨A_m2, c_m2, A_m2d, c_m2d, rfl, R_m2, R_m2d, hb⟩; replace R_a := hide (Rd.then_ R_a.out hb); replace R_ad := hide (Rd.then_ R_ad.out hb); replace R_b := hide (Rd.then_ R_b.out hb); replace R_bd := hide (Rd.then_ R_bd.out hb); replace R_c := hide (Rd.then_ R_c.out hb); replace R_cd := hide (Rd.then_ R_cd.out hb); replace R_one := hide (Rd.then_ R_one.out hb); replace R_oned := hide (Rd.then_ R_oned.out hb); replace R_m := hide (Rd.then_ R_m.out hb); replace R_md := hide (Rd.then_ R_md.out hb); have U13 : Below V4.heap.size V4 w10 := Below.then_ U12 hb; replace B := hide (Below.then_ B.out hb); clear U12; replace R_m2 := hide R_m2; replace R_m2d := hide R_m2d; clear hb; have tok7 : True := trivial; clear _t tok6))
      | (go_at_call 14; (have _t := tok7; (with_reducible refine (same_t R_m.out R_md.out R_m2.out R_m2d.out (Nat.le_refl _) rfl).mono ?_); rintro e w11 ⟨rfl, hb⟩; replace R_a := hide (Rd.then_ R_a.out hb); replace R_ad := hide (Rd.then_ R_ad.out hb); replace R_b := hide (Rd.then_ R_b.out hb); replace R_bd := hide (Rd.then_ R_bd.out hb); replace R_c := hide (Rd.then_ R_c.out hb); replace R_cd := hide (Rd.then_ R_cd.out hb); replace R_one := hide (Rd.then_ R_one.out hb); replace R_oned := hide (Rd.then_ R_oned.out hb); replace R_m := hide (Rd.then_ R_m.out hb); replace R_md := hide (Rd.then_ R_md.out hb); replace R_m2 := hide (Rd.then_ R_m2.out hb); replace R_m2d := hide (Rd.then_ R_m2d.out hb); have U14 : Below V4.heap.size V4 w11 := Below.then_ U13 hb; replace B := hide (Below.then_ B.out hb); clear U13; clear hb; have tok8 : True := trivial; clear _t tok7; clear R_m; clear R_md; clear R_m2; clear R_m2d)))
  clear tok8
  go_wp2_with fail
  have hd := Below.drw_ w11
  replace R_a := hide (Rd.then_ R_a.out hd)
  replace R_ad := hide (Rd.then_ R_ad.out hd)
  replace R_b := hide (Rd.then_ R_b.out hd)
  replace R_bd := hide (Rd.then_ R_bd.out hd)
  replace R_c := hide (Rd.then_ R_c.out hd)
  replace R_cd := hide (Rd.then_ R_cd.out hd)
  replace R_one := hide (Rd.then_ R_one.out hd)
  replace R_oned := hide (Rd.then_ R_oned.out hd)
  have U15 : Below V4.heap.size V4 (w11.drew) := Below.then_ U14 hd
  replace B := hide (Below.then_ B.out hd)
  clear U14
  clear hd
  have tok9 : True := trivial
  go_region_held3 (fun w' => Below V4.heap.size V4 w') (assumption)
    (first
      | (go_at_call 33; (have _t := tok9; (with_reducible refine (padd_any R_a.out b_al.out.1 R_ad.out b_al.out.2 R_b.out b_bl.out.1 R_bd.out b_bl.out.2 (Nat.le_refl _) c_sq.out).mono ?_); rintro e w12 ⟨A_s, c_s, A_sd, c_sd, rfl, R_s, R_sd, hb⟩; replace R_a := hide (Rd.then_ R_a.out hb); replace R_ad := hide (Rd.then_ R_ad.out hb); replace R_b := hide (Rd.then_ R_b.out hb); replace R_bd := hide (Rd.then_ R_bd.out hb); replace R_c := hide (Rd.then_ R_c.out hb); replace R_cd := hide (Rd.then_ R_cd.out hb); replace R_one := hide (Rd.then_ R_one.out hb); replace R_oned := hide (Rd.then_ R_oned.out hb); have U16 : Below V4.heap.size V4 w12 := Below.then_ U15 hb; replace B := hide (Below.then_ B.out hb); clear U15; replace R_s := hide R_s; replace R_sd := hide R_sd; clear hb; have tok10 : True := trivial; clear _t tok9))
      | (go_at_call 33; (have _t := tok10; (with_reducible refine (padd_any R_s.out (Nat.le_trans s_sq.out.1 (by omega)) R_sd.out (Nat.le_trans s_sq.out.2 (by omega)) R_c.out b_cl.out.1 R_cd.out b_cl.out.2 (Nat.le_refl _) c_s3q.out).mono ?_); rintro e w13 ⟨A_s3, c_s3, A_s3d, c_s3d, rfl, R_s3, R_s3d, hb⟩; replace R_a := hide (Rd.then_ R_a.out hb); replace R_ad := hide (Rd.then_ R_ad.out hb); replace R_b := hide (Rd.then_ R_b.out hb); replace R_bd := hide (Rd.then_ R_bd.out hb); replace R_c := hide (Rd.then_ R_c.out hb); replace R_cd := hide (Rd.then_ R_cd.out hb); replace R_one := hide (Rd.then_ R_one.out hb); replace R_oned := hide (Rd.then_ R_oned.out hb); replace R_s := hide (Rd.then_ R_s.out hb); replace R_sd := hide (Rd.then_ R_sd.out hb); have U17 : Below V4.heap.size V4 w13 := Below.then_ U16 hb; replace B := hide (Below.then_ B.out hb); clear U16; replace R_s3 := hide R_s3; replace R_s3d := hide R_s3d; clear hb; have tok11 : True := trivial; clear _t tok10))
      | (go_at_call 33; (have _t := tok11; (with_reducible refine (padd_any R_b.out b_bl.out.1 R_bd.out b_bl.out.2 R_c.out b_cl.out.1 R_cd.out b_cl.out.2 (Nat.le_refl _) c_tq.out).mono ?_); rintro e w14 ⟨A_t, c_t, A_td, c_td, rfl, R_t, R_td, hb⟩; replace R_a := hide (Rd.then_ R_a.out hb); replace R_ad := hide (Rd.then_ R_ad.out hb); replace R_b := hide (Rd.then_ R_b.out hb); replace R_bd := hide (Rd.then_ R_bd.out hb); replace R_c := hide (Rd.then_ R_c.out hb); replace R_cd := hide (Rd.then_ R_cd.out hb); replace R_one := hide (Rd.then_ R_one.out hb); replace R_oned := hide (Rd.then_ R_oned.out hb); replace R_s := hide (Rd.then_ R_s.out hb); replace R_sd := hide (Rd.then_ R_sd.out hb); replace R_s3 := hide (Rd.then_ R_s3.out hb); replace R_s3d := hide (Rd.then_ R_s3d.out hb); have U18 : Below V4.heap.size V4 w14 := Below.then_ U17 hb; replace B := hide (Below.then_ B.out hb); clear U17; replace R_t := hide R_t; replace R_td := hide R_td; clear hb; have tok12 : True := trivial; clear _t tok11))
      | (go_at_call 33; (have _t := tok12; (with_reducible refine (padd_any R_a.out b_al.out.1 R_ad.out b_al.out.2 R_t.out (Nat.le_trans s_tq.out.1 (by omega)) R_td.out (Nat.le_trans s_tq.out.2 (by omega)) (Nat.le_refl _) c_s4q.out).mono ?_); rintro e w15 ⟨A_s4, c_s4, A_s4d, c_s4d, rfl, R_s4, R_s4d, hb⟩; replace R_a := hide (Rd.then_ R_a.out hb); replace R_ad := hide (Rd.then_ R_ad.out hb); replace R_b := hide (Rd.then_ R_b.out hb); replace R_bd := hide (Rd.then_ R_bd.out hb); replace R_c := hide (Rd.then_ R_c.out hb); replace R_cd := hide (Rd.then_ R_cd.out hb); replace R_one := hide (Rd.then_ R_one.out hb); replace R_oned := hide (Rd.then_ R_oned.out hb); replace R_s := hide (Rd.then_ R_s.out hb); replace R_sd := hide (Rd.then_ R_sd.out hb); replace R_s3 := hide (Rd.then_ R_s3.out hb); replace R_s3d := hide (Rd.then_ R_s3d.out hb); replace R_t := hide (Rd.then_ R_t.out hb); replace R_td := hide (Rd.then_ R_td.out hb); have U19 : Below V4.heap.size V4 w15 := Below.then_ U18 hb; replace B := hide (Below.then_ B.out hb); clear U18; replace R_s4 := hide R_s4; replace R_s4d := hide R_s4d; clear hb; have tok13 : True := trivial; clear _t tok12))
      | (go_at_call 14; (have _t := tok13; (with_reducible refine (same_t R_s3.out R_s3d.out R_s4.out R_s4d.out (Nat.le_refl _) rfl).mono ?_); rintro e w16 ⟨rfl, hb⟩; replace R_a := hide (Rd.then_ R_a.out hb); replace R_ad := hide (Rd.then_ R_ad.out hb); replace R_b := hide (Rd.then_ R_b.out hb); replace R_bd := hide (Rd.then_ R_bd.out hb); replace R_c := hide (Rd.then_ R_c.out hb); replace R_cd := hide (Rd.then_ R_cd.out hb); replace R_one := hide (Rd.then_ R_one.out hb); replace R_oned := hide (Rd.then_ R_oned.out hb); replace R_s := hide (Rd.then_ R_s.out hb); replace R_sd := hide (Rd.then_ R_sd.out hb); replace R_s3 := hide (Rd.then_ R_s3.out hb); replace R_s3d := hide (Rd.then_ R_s3d.out hb); replace R_t := hide (Rd.then_ R_t.out hb); replace R_td := hide (Rd.then_ R_td.out hb); replace R_s4 := hide (Rd.then_ R_s4.out hb); replace R_s4d := hide (Rd.then_ R_s4d.out hb); have U20 : Below V4.heap.size V4 w16 := Below.then_ U19 hb; replace B := hide (Below.then_ B.out hb); clear U19; clear hb; have tok14 : True := trivial; clear _t tok13; clear R_s; clear R_sd; clear R_s3; clear R_s3d; clear R_t; clear R_td; clear R_s4; clear R_s4d))
      | (go_at_call 37; (have _t := tok14; (with_reducible refine (pmul_any R_a.out b_al.out.1 R_ad.out b_al.out.2 R_b.out b_bl.out.1 R_bd.out b_bl.out.2 (Nat.le_refl _) c_mq.out).mono ?_); rintro e w17 ⟨A_m, c_m, A_md, c_md, rfl, R_m, R_md, hb⟩; replace R_a := hide (Rd.then_ R_a.out hb); replace R_ad := hide (Rd.then_ R_ad.out hb); replace R_b := hide (Rd.then_ R_b.out hb); replace R_bd := hide (Rd.then_ R_bd.out hb); replace R_c := hide (Rd.then_ R_c.out hb); replace R_cd := hide (Rd.then_ R_cd.out hb); replace R_one := hide (Rd.then_ R_one.out hb); replace R_oned := hide (Rd.then_ R_oned.out hb); have U21 : Below V4.heap.size V4 w17 := Below.then_ U20 hb; replace B := hide (Below.then_ B.out hb); clear U20; replace R_m := hide R_m; replace R_md := hide R_md; clear hb; have tok15 : True := trivial; clear _t tok14))
      | (go_at_call 37; (have _t := tok15; (with_reducible refine (pmul_any R_m.out (Nat.le_trans s_mq.out.1 (by omega)) R_md.out (Nat.le_trans s_mq.out.2 (by omega)) R_c.out b_cl.out.1 R_cd.out b_cl.out.2 (Nat.le_refl _) c_m3q.out).mono ?_); rintro e w18 ⟨A_m3, c_m3, A_m3d, c_m3d, rfl, R_m3, R_m3d, hb⟩; replace R_a := hide (Rd.then_ R_a.out hb); replace R_ad := hide (Rd.then_ R_ad.out hb); replace R_b := hide (Rd.then_ R_b.out hb); replace R_bd := hide (Rd.then_ R_bd.out hb); replace R_c := hide (Rd.then_ R_c.out hb); replace R_cd := hide (Rd.then_ R_cd.out hb); replace R_one := hide (Rd.then_ R_one.out hb); replace R_oned := hide (Rd.then_ R_oned.out hb); replace R_m := hide (Rd.then_ R_m.out hb); replace R_md := hide (Rd.then_ R_md.out hb); have U22 : Below V4.heap.size V4 w18 := Below.then_ U21 hb; replace B := hide (Below.then_ B.out hb); clear U21; replace R_m3 := hide R_m3; replace R_m3d := hide R_m3d; clear hb; have tok16 : True := trivial; clear _t tok15))
      | (go_at_call 37; (have _t := tok16; (with_reducible refine (pmul_any R_b.out b_bl.out.1 R_bd.out b_bl.out.2 R_c.out b_cl.out.1 R_cd.out b_cl.out.2 (Nat.le_refl _) c_uq.out).mono ?_); rintro e w19 ⟨A_u, c_u, A_ud, c_ud, rfl, R_u, R_ud, hb⟩; replace R_a := hide (Rd.then_ R_a.out hb); replace R_ad := hide (Rd.then_ R_ad.out hb); replace R_b := hide (Rd.then_ R_b.out hb); replace R_bd := hide (Rd.then_ R_bd.out hb); replace R_c := hide (Rd.then_ R_c.out hb); replace R_cd := hide (Rd.then_ R_cd.out hb); replace R_one := hide (Rd.then_ R_one.out hb); replace R_oned := hide (Rd.then_ R_oned.out hb); replace R_m := hide (Rd.then_ R_m.out hb); replace R_md := hide (Rd.then_ R_md.out hb); replace R_m3 := hide (Rd.then_ R_m3.out hb); replace R_m3d := hide (Rd.then_ R_m3d.out hb); have U23 : Below V4.heap.size V4 w19 := Below.then_ U22 hb; replace B := hide (Below.then_ B.out hb); clear U22; replace R_u := hide R_u; replace R_ud := hide R_ud; clear hb; have tok17 : True := trivial; clear _t tok16))
      | (go_at_call 37; (have _t := tok17; (with_reducible refine (pmul_any R_a.out b_al.out.1 R_ad.out b_al.out.2 R_u.out (Nat.le_trans s_uq.out.1 (by omega)) R_ud.out (Nat.le_trans s_uq.out.2 (by omega)) (Nat.le_refl _) c_m4q.out).mono ?_); rintro e w20 ⟨A_m4, c_m4, A_m4d, c_m4d, rfl, R_m4, R_m4d, hb⟩; replace R_a := hide (Rd.then_ R_a.out hb); replace R_ad := hide (Rd.then_ R_ad.out hb); replace R_b := hide (Rd.then_ R_b.out hb); replace R_bd := hide (Rd.then_ R_bd.out hb); replace R_c := hide (Rd.then_ R_c.out hb); replace R_cd := hide (Rd.then_ R_cd.out hb); replace R_one := hide (Rd.then_ R_one.out hb); replace R_oned := hide (Rd.then_ R_oned.out hb); replace R_m := hide (Rd.then_ R_m.out hb); replace R_md := hide (Rd.then_ R_md.out hb); replace R_m3 := hide (Rd.then_ R_m3.out hb); replace R_m3d := hide (Rd.then_ R_m3d.out hb); replace R_u := hide (Rd.then_ R_u.out hb); replace R_ud := hide (Rd.then_ R_ud.out hb); have U24 : Below V4.heap.size V4 w20 := Below.then_ U23 hb; replace B := hide (Below.then_ B.out hb); clear U23; replace R_m4 := hide R_m4; replace R_m4d := hide R_m4d; clear hb; have tok18 : True := trivial; clear _t tok17))
      | (go_at_call 14; (have _t := tok18; (with_reducible refine (same_t R_m3.out R_m3d.out R_m4.out R_m4d.out (Nat.le_refl _) rfl).mono ?_); rintro e w21 ⟨rfl, hb⟩; replace R_a := hide (Rd.then_ R_a.out hb); replace R_ad := hide (Rd.then_ R_ad.out hb); replace R_b := hide (Rd.then_ R_b.out hb); replace R_bd := hide (Rd.then_ R_bd.out hb); replace R_c := hide (Rd.then_ R_c.out hb); replace R_cd := hide (Rd.then_ R_cd.out hb); replace R_one := hide (Rd.then_ R_one.out hb); replace R_oned := hide (Rd.then_ R_oned.out hb); replace R_m := hide (Rd.then_ R_m.out hb); replace R_md := hide (Rd.then_ R_md.out hb); replace R_m3 := hide (Rd.then_ R_m3.out hb); replace R_m3d := hide (Rd.then_ R_m3d.out hb); replace R_u := hide (Rd.then_ R_u.out hb); replace R_ud := hide (Rd.then_ R_ud.out hb); replace R_m4 := hide (Rd.then_ R_m4.out hb); replace R_m4d := hide (Rd.then_ R_m4d.out hb); have U25 : Below V4.heap.size V4 w21 := Below.then_ U24 hb; replace B := hide (Below.then_ B.out hb); clear U24; clear hb; have tok19 : True := trivial; clear _t tok18; clear R_m; clear R_md; clear R_m3; clear R_m3d; clear R_u; clear R_ud; clear R_m4; clear R_m4d)))
  clear tok19
  go_wp2_with fail
  have hd := Below.drw_ w21
  replace R_a := hide (Rd.then_ R_a.out hd)
  replace R_ad := hide (Rd.then_ R_ad.out hd)
  replace R_b := hide (Rd.then_ R_b.out hd)
  replace R_bd := hide (Rd.then_ R_bd.out hd)
  replace R_c := hide (Rd.then_ R_c.out hd)
  replace R_cd := hide (Rd.then_ R_cd.out hd)
  replace R_one := hide (Rd.then_ R_one.out hd)
  replace R_oned := hide (Rd.then_ R_oned.out hd)
  have U26 : Below V4.heap.size V4 (w21.drew) := Below.then_ U25 hd
  replace B := hide (Below.then_ B.out hd)
  clear U25
  clear hd
  have tok20 : True := trivial
  go_region_held3 (fun w' => Below V4.heap.size V4 w') (assumption)
    (first
      | (go_at_call 33; (have _t := tok20; (with_reducible refine (padd_any R_b.out b_bl.out.1 R_bd.out b_bl.out.2 R_c.out b_cl.out.1 R_cd.out b_cl.out.2 (Nat.le_refl _) c_tq.out).mono ?_); rintro e w22 ⟨A_t, c_t, A_td, c_td, rfl, R_t, R_td, hb⟩; replace R_a := hide (Rd.then_ R_a.out hb); replace R_ad := hide (Rd.then_ R_ad.out hb); replace R_b := hide (Rd.then_ R_b.out hb); replace R_bd := hide (Rd.then_ R_bd.out hb); replace R_c := hide (Rd.then_ R_c.out hb); replace R_cd := hide (Rd.then_ R_cd.out hb); replace R_one := hide (Rd.then_ R_one.out hb); replace R_oned := hide (Rd.then_ R_oned.out hb); have U27 : Below V4.heap.size V4 w22 := Below.then_ U26 hb; replace B := hide (Below.then_ B.out hb); clear U26; replace R_t := hide R_t; replace R_td := hide R_td; clear hb; have tok21 : True := trivial; clear _t tok20))
      | (go_at_call 37; (have _t := tok21; (with_reducible refine (pmul_any R_a.out b_al.out.1 R_ad.out b_al.out.2 R_t.out (Nat.le_trans s_tq.out.1 (by omega)) R_td.out (Nat.le_trans s_tq.out.2 (by omega)) (Nat.le_refl _) c_d1q.out).mono ?_); rintro e w23 ⟨A_d1, c_d1, A_d1d, c_d1d, rfl, R_d1, R_d1d, hb⟩; replace R_a := hide (Rd.then_ R_a.out hb); replace R_ad := hide (Rd.then_ R_ad.out hb); replace R_b := hide (Rd.then_ R_b.out hb); replace R_bd := hide (Rd.then_ R_bd.out hb); replace R_c := hide (Rd.then_ R_c.out hb); replace R_cd := hide (Rd.then_ R_cd.out hb); replace R_one := hide (Rd.then_ R_one.out hb); replace R_oned := hide (Rd.then_ R_oned.out hb); replace R_t := hide (Rd.then_ R_t.out hb); replace R_td := hide (Rd.then_ R_td.out hb); have U28 : Below V4.heap.size V4 w23 := Below.then_ U27 hb; replace B := hide (Below.then_ B.out hb); clear U27; replace R_d1 := hide R_d1; replace R_d1d := hide R_d1d; clear hb; have tok22 : True := trivial; clear _t tok21))
      | (go_at_call 37; (have _t := tok22; (with_reducible refine (pmul_any R_a.out b_al.out.1 R_ad.out b_al.out.2 R_b.out b_bl.out.1 R_bd.out b_bl.out.2 (Nat.le_refl _) c_mq.out).mono ?_); rintro e w24 ⟨A_m, c_m, A_md, c_md, rfl, R_m, R_md, hb⟩; replace R_a := hide (Rd.then_ R_a.out hb); replace R_ad := hide (Rd.then_ R_ad.out hb); replace R_b := hide (Rd.then_ R_b.out hb); replace R_bd := hide (Rd.then_ R_bd.out hb); replace R_c := hide (Rd.then_ R_c.out hb); replace R_cd := hide (Rd.then_ R_cd.out hb); replace R_one := hide (Rd.then_ R_one.out hb); replace R_oned := hide (Rd.then_ R_oned.out hb); replace R_t := hide (Rd.then_ R_t.out hb); replace R_td := hide (Rd.then_ R_td.out hb); replace R_d1 := hide (Rd.then_ R_d1.out hb); replace R_d1d := hide (Rd.then_ R_d1d.out hb); have U29 : Below V4.heap.size V4 w24 := Below.then_ U28 hb; replace B := hide (Below.then_ B.out hb); clear U28; replace R_m := hide R_m; replace R_md := hide R_md; clear hb; have tok23 : True := trivial; clear _t tok22))
      | (go_at_call 37; (have _t := tok23; (with_reducible refine (pmul_any R_a.out b_al.out.1 R_ad.out b_al.out.2 R_c.out b_cl.out.1 R_cd.out b_cl.out.2 (Nat.le_refl _) c_pq.out).mono ?_); rintro e w25 ⟨A_p, c_p, A_pd, c_pd, rfl, R_p, R_pd, hb⟩; replace R_a := hide (Rd.then_ R_a.out hb); replace R_ad := hide (Rd.then_ R_ad.out hb); replace R_b := hide (Rd.then_ R_b.out hb); replace R_bd := hide (Rd.then_ R_bd.out hb); replace R_c := hide (Rd.then_ R_c.out hb); replace R_cd := hide (Rd.then_ R_cd.out hb); replace R_one := hide (Rd.then_ R_one.out hb); replace R_oned := hide (Rd.then_ R_oned.out hb); replace R_t := hide (Rd.then_ R_t.out hb); replace R_td := hide (Rd.then_ R_td.out hb); replace R_d1 := hide (Rd.then_ R_d1.out hb); replace R_d1d := hide (Rd.then_ R_d1d.out hb); replace R_m := hide (Rd.then_ R_m.out hb); replace R_md := hide (Rd.then_ R_md.out hb); have U30 : Below V4.heap.size V4 w25 := Below.then_ U29 hb; replace B := hide (Below.then_ B.out hb); clear U29; replace R_p := hide R_p; replace R_pd := hide R_pd; clear hb; have tok24 : True := trivial; clear _t tok23))
      | (go_at_call 33; (have _t := tok24; (with_reducible refine (padd_any R_m.out (Nat.le_trans s_mq.out.1 (by omega)) R_md.out (Nat.le_trans s_mq.out.2 (by omega)) R_p.out (Nat.le_trans s_pq.out.1 (by omega)) R_pd.out (Nat.le_trans s_pq.out.2 (by omega)) (Nat.le_refl _) c_d2q.out).mono ?_); rintro e w26 ⟨A_d2, c_d2, A_d2d, c_d2d, rfl, R_d2, R_d2d, hb⟩; replace R_a := hide (Rd.then_ R_a.out hb); replace R_ad := hide (Rd.then_ R_ad.out hb); replace R_b := hide (Rd.then_ R_b.out hb); replace R_bd := hide (Rd.then_ R_bd.out hb); replace R_c := hide (Rd.then_ R_c.out hb); replace R_cd := hide (Rd.then_ R_cd.out hb); replace R_one := hide (Rd.then_ R_one.out hb); replace R_oned := hide (Rd.then_ R_oned.out hb); replace R_t := hide (Rd.then_ R_t.out hb); replace R_td := hide (Rd.then_ R_td.out hb); replace R_d1 := hide (Rd.then_ R_d1.out hb); replace R_d1d := hide (Rd.then_ R_d1d.out hb); replace R_m := hide (Rd.then_ R_m.out hb); replace R_md := hide (Rd.then_ R_md.out hb); replace R_p := hide (Rd.then_ R_p.out hb); replace R_pd := hide (Rd.then_ R_pd.out hb); have U31 : Below V4.heap.size V4 w26 := Below.then_ U30 hb; replace B := hide (Below.then_ B.out hb); clear U30; replace R_d2 := hide R_d2; replace R_d2d := hide R_d2d; clear hb; have tok25 : True := trivial; clear _t tok24))
      | (go_at_call 14; (have _t := tok25; (with_reducible refine (same_t R_d1.out R_d1d.out R_d2.out R_d2d.out (Nat.le_refl _) rfl).mono ?_); rintro e w27 ⟨rfl, hb⟩; replace R_a := hide (Rd.then_ R_a.out hb); replace R_ad := hide (Rd.then_ R_ad.out hb); replace R_b := hide (Rd.then_ R_b.out hb); replace R_bd := hide (Rd.then_ R_bd.out hb); replace R_c := hide (Rd.then_ R_c.out hb); replace R_cd := hide (Rd.then_ R_cd.out hb); replace R_one := hide (Rd.then_ R_one.out hb); replace R_oned := hide (Rd.then_ R_oned.out hb); replace R_t := hide (Rd.then_ R_t.out hb); replace R_td := hide (Rd.then_ R_td.out hb); replace R_d1 := hide (Rd.then_ R_d1.out hb); replace R_d1d := hide (Rd.then_ R_d1d.out hb); replace R_m := hide (Rd.then_ R_m.out hb); replace R_md := hide (Rd.then_ R_md.out hb); replace R_p := hide (Rd.then_ R_p.out hb); replace R_pd := hide (Rd.then_ R_pd.out hb); replace R_d2 := hide (Rd.then_ R_d2.out hb); replace R_d2d := hide (Rd.then_ R_d2d.out hb); have U32 : Below V4.heap.size V4 w27 := Below.then_ U31 hb; replace B := hide (Below.then_ B.out hb); clear U31; clear hb; have tok26 : True := trivial; clear _t tok25; clear R_t; clear R_td; clear R_d1; clear R_d1d; clear R_m; clear R_md; clear R_p; clear R_pd; clear R_d2; clear R_d2d))
      | (go_at_call 37; (have _t := tok26; (with_reducible refine (pmul_any R_a.out b_al.out.1 R_ad.out b_al.out.2 R_one.out (Nat.le_trans s_oneq.out.1 (by omega)) R_oned.out (Nat.le_trans s_oneq.out.2 (by omega)) (Nat.le_refl _) c_iq.out).mono ?_); rintro e w28 ⟨A_i, c_i, A_id, c_id, rfl, R_i, R_id, hb⟩; replace R_a := hide (Rd.then_ R_a.out hb); replace R_ad := hide (Rd.then_ R_ad.out hb); replace R_b := hide (Rd.then_ R_b.out hb); replace R_bd := hide (Rd.then_ R_bd.out hb); replace R_c := hide (Rd.then_ R_c.out hb); replace R_cd := hide (Rd.then_ R_cd.out hb); replace R_one := hide (Rd.then_ R_one.out hb); replace R_oned := hide (Rd.then_ R_oned.out hb); have U33 : Below V4.heap.size V4 w28 := Below.then_ U32 hb; replace B := hide (Below.then_ B.out hb); clear U32; replace R_i := hide R_i; replace R_id := hide R_id; clear hb; have tok27 : True := trivial; clear _t tok26))
      | (go_at_call 20; (have _t := tok27; (with_reducible refine (pnorm1_any R_a.out b_al.out.1 R_ad.out b_al.out.2 (Nat.le_refl _) c_nq.out).mono ?_); rintro e w29 ⟨A_n, c_n, A_nd, c_nd, rfl, R_n, R_nd, hb⟩; replace R_a := hide (Rd.then_ R_a.out hb); replace R_ad := hide (Rd.then_ R_ad.out hb); replace R_b := hide (Rd.then_ R_b.out hb); replace R_bd := hide (Rd.then_ R_bd.out hb); replace R_c := hide (Rd.then_ R_c.out hb); replace R_cd := hide (Rd.then_ R_cd.out hb); replace R_one := hide (Rd.then_ R_one.out hb); replace R_oned := hide (Rd.then_ R_oned.out hb); replace R_i := hide (Rd.then_ R_i.out hb); replace R_id := hide (Rd.then_ R_id.out hb); have U34 : Below V4.heap.size V4 w29 := Below.then_ U33 hb; replace B := hide (Below.then_ B.out hb); clear U33; replace R_n := hide R_n; replace R_nd := hide R_nd; clear hb; have tok28 : True := trivial; clear _t tok27))
      | (go_at_call 14; (have _t := tok28; (with_reducible refine (same_t R_i.out R_id.out R_n.out R_nd.out (Nat.le_refl _) rfl).mono ?_); rintro e w30 ⟨rfl, hb⟩; replace R_a := hide (Rd.then_ R_a.out hb); replace R_ad := hide (Rd.then_ R_ad.out hb); replace R_b := hide (Rd.then_ R_b.out hb); replace R_bd := hide (Rd.then_ R_bd.out hb); replace R_c := hide (Rd.then_ R_c.out hb); replace R_cd := hide (Rd.then_ R_cd.out hb); replace R_one := hide (Rd.then_ R_one.out hb); replace R_oned := hide (Rd.then_ R_oned.out hb); replace R_i := hide (Rd.then_ R_i.out hb); replace R_id := hide (Rd.then_ R_id.out hb); replace R_n := hide (Rd.then_ R_n.out hb); replace R_nd := hide (Rd.then_ R_nd.out hb); have U35 : Below V4.heap.size V4 w30 := Below.then_ U34 hb; replace B := hide (Below.then_ B.out hb); clear U34; clear hb; have tok29 : True := trivial; clear _t tok28; clear R_i; clear R_id; clear R_n; clear R_nd)))
  clear tok29
  go_wp2_with fail
  have hd := Below.drw_ w30
  replace R_a := hide (Rd.then_ R_a.out hd)
  replace R_ad := hide (Rd.then_ R_ad.out hd)
  replace R_b := hide (Rd.then_ R_b.out hd)
  replace R_bd := hide (Rd.then_ R_bd.out hd)
  replace R_c := hide (Rd.then_ R_c.out hd)
  replace R_cd := hide (Rd.then_ R_cd.out hd)
  replace R_one := hide (Rd.then_ R_one.out hd)
  replace R_oned := hide (Rd.then_ R_oned.out hd)
  have U36 : Below V4.heap.size V4 (w30.drew) := Below.then_ U35 hd
  replace B := hide (Below.then_ B.out hd)
  clear U35
  clear hd
  have tok30 : True := trivial
  go_region_held3 (fun w' => Below V4.heap.size V4 w') (assumption)
    (first
      | (go_at_call 35; (have _t := tok30; (with_reducible refine (psub_any R_a.out b_al.out.1 R_ad.out b_al.out.2 R_b.out b_bl.out.1 R_bd.out b_bl.out.2 (Nat.le_refl _) c_fq.out).mono ?_); rintro e w31 ⟨A_f, c_f, A_fd, c_fd, rfl, R_f, R_fd, hb⟩; replace R_a := hide (Rd.then_ R_a.out hb); replace R_ad := hide (Rd.then_ R_ad.out hb); replace R_b := hide (Rd.then_ R_b.out hb); replace R_bd := hide (Rd.then_ R_bd.out hb); replace R_c := hide (Rd.then_ R_c.out hb); replace R_cd := hide (Rd.then_ R_cd.out hb); replace R_one := hide (Rd.then_ R_one.out hb); replace R_oned := hide (Rd.then_ R_oned.out hb); have U37 : Below V4.heap.size V4 w31 := Below.then_ U36 hb; replace B := hide (Below.then_ B.out hb); clear U36; replace R_f := hide R_f; replace R_fd := hide R_fd; clear hb; have tok31 : True := trivial; clear _t tok30))
      | (go_at_call 33; (have _t := tok31; (with_reducible refine (padd_any R_f.out (Nat.le_trans s_fq.out.1 (by omega)) R_fd.out (Nat.le_trans s_fq.out.2 (by omega)) R_b.out b_bl.out.1 R_bd.out b_bl.out.2 (Nat.le_refl _) c_f2q.out).mono ?_); rintro e w32 ⟨A_f2, c_f2, A_f2d, c_f2d, rfl, R_f2, R_f2d, hb⟩; replace R_a := hide (Rd.then_ R_a.out hb); replace R_ad := hide (Rd.then_ R_ad.out hb); replace R_b := hide (Rd.then_ R_b.out hb); replace R_bd := hide (Rd.then_ R_bd.out hb); replace R_c := hide (Rd.then_ R_c.out hb); replace R_cd := hide (Rd.then_ R_cd.out hb); replace R_one := hide (Rd.then_ R_one.out hb); replace R_oned := hide (Rd.then_ R_oned.out hb); replace R_f := hide (Rd.then_ R_f.out hb); replace R_fd := hide (Rd.then_ R_fd.out hb); have U38 : Below V4.heap.size V4 w32 := Below.then_ U37 hb; replace B := hide (Below.then_ B.out hb); clear U37; replace R_f2 := hide R_f2; replace R_f2d := hide R_f2d; clear hb; have tok32 : True := trivial; clear _t tok31))
      | (go_at_call 20; (have _t := tok32; (with_reducible refine (pnorm1_any R_a.out b_al.out.1 R_ad.out b_al.out.2 (Nat.le_refl _) c_nq.out).mono ?_); rintro e w33 ⟨A_n, c_n, A_nd, c_nd, rfl, R_n, R_nd, hb⟩; replace R_a := hide (Rd.then_ R_a.out hb); replace R_ad := hide (Rd.then_ R_ad.out hb); replace R_b := hide (Rd.then_ R_b.out hb); replace R_bd := hide (Rd.then_ R_bd.out hb); replace R_c := hide (Rd.then_ R_c.out hb); replace R_cd := hide (Rd.then_ R_cd.out hb); replace R_one := hide (Rd.then_ R_one.out hb); replace R_oned := hide (Rd.then_ R_oned.out hb); replace R_f := hide (Rd.then_ R_f.out hb); replace R_fd := hide (Rd.then_ R_fd.out hb); replace R_f2 := hide (Rd.then_ R_f2.out hb); replace R_f2d := hide (Rd.then_ R_f2d.out hb); have U39 : Below V4.heap.size V4 w33 := Below.then_ U38 hb; replace B := hide (Below.then_ B.out hb); clear U38; replace R_n := hide R_n; replace R_nd := hide R_nd; clear hb; have tok33 : True := trivial; clear _t tok32))
      | (go_at_call 14; (have _t := tok33; (with_reducible refine (same_t R_f2.out R_f2d.out R_n.out R_nd.out (Nat.le_refl _) rfl).mono ?_); rintro e w34 ⟨rfl, hb⟩; replace R_a := hide (Rd.then_ R_a.out hb); replace R_ad := hide (Rd.then_ R_ad.out hb); replace R_b := hide (Rd.then_ R_b.out hb); replace R_bd := hide (Rd.then_ R_bd.out hb); replace R_c := hide (Rd.then_ R_c.out hb); replace R_cd := hide (Rd.then_ R_cd.out hb); replace R_one := hide (Rd.then_ R_one.out hb); replace R_oned := hide (Rd.then_ R_oned.out hb); replace R_f := hide (Rd.then_ R_f.out hb); replace R_fd := hide (Rd.then_ R_fd.out hb); replace R_f2 := hide (Rd.then_ R_f2.out hb); replace R_f2d := hide (Rd.then_ R_f2d.out hb); replace R_n := hide (Rd.then_ R_n.out hb); replace R_nd := hide (Rd.then_ R_nd.out hb); have U40 : Below V4.heap.size V4 w34 := Below.then_ U39 hb; replace B := hide (Below.then_ B.out hb); clear U39; clear hb; have tok34 : True := trivial; clear _t tok33; clear R_f; clear R_fd; clear R_f2; clear R_f2d; clear R_n; clear R_nd))
      | (go_at_call 35; (have _t := tok34; (with_reducible refine (psub_any R_a.out b_al.out.1 R_ad.out b_al.out.2 R_a.out b_al.out.1 R_ad.out b_al.out.2 (Nat.le_refl _) c_oq.out).mono ?_); rintro e w35 ⟨A_o, c_o, A_od, c_od, rfl, R_o, R_od, hb⟩; replace R_a := hide (Rd.then_ R_a.out hb); replace R_ad := hide (Rd.then_ R_ad.out hb); replace R_b := hide (Rd.then_ R_b.out hb); replace R_bd := hide (Rd.then_ R_bd.out hb); replace R_c := hide (Rd.then_ R_c.out hb); replace R_cd := hide (Rd.then_ R_cd.out hb); replace R_one := hide (Rd.then_ R_one.out hb); replace R_oned := hide (Rd.then_ R_oned.out hb); have U41 : Below V4.heap.size V4 w35 := Below.then_ U40 hb; replace B := hide (Below.then_ B.out hb); clear U40; replace R_o := hide R_o; replace R_od := hide R_od; clear hb; have tok35 : True := trivial; clear _t tok34))
      | (go_at_call 26; (have _t := tok35; (with_reducible refine (psign_any R_o.out (Nat.le_trans s_oq.out.1 (by omega)) R_od.out (Nat.le_trans s_oq.out.2 (by omega)) (Nat.le_refl _) e_koc.out).mono ?_); rintro e w36 ⟨rfl, hb⟩; replace R_a := hide (Rd.then_ R_a.out hb); replace R_ad := hide (Rd.then_ R_ad.out hb); replace R_b := hide (Rd.then_ R_b.out hb); replace R_bd := hide (Rd.then_ R_bd.out hb); replace R_c := hide (Rd.then_ R_c.out hb); replace R_cd := hide (Rd.then_ R_cd.out hb); replace R_one := hide (Rd.then_ R_one.out hb); replace R_oned := hide (Rd.then_ R_oned.out hb); replace R_o := hide (Rd.then_ R_o.out hb); replace R_od := hide (Rd.then_ R_od.out hb); have U42 : Below V4.heap.size V4 w36 := Below.then_ U41 hb; replace B := hide (Below.then_ B.out hb); clear U41; clear hb; have tok36 : True := trivial; clear _t tok35; clear R_o; clear R_od)))
  clear tok36
  go_wp2_with fail
  refine (pdiv_any R_a.out b_al.out.1 R_ad.out b_al.out.2 R_b.out b_bl.out.1 R_bd.out b_bl.out.2 (Nat.le_refl _) c_qq.out c_ok.out).mono ?_
  rintro e w37 ⟨A_q, c_q, A_qd, c_qd, rfl, R_q, R_qd, hb⟩
  replace R_a := hide (Rd.then_ R_a.out hb)
  replace R_ad := hide (Rd.then_ R_ad.out hb)
  replace R_b := hide (Rd.then_ R_b.out hb)
  replace R_bd := hide (Rd.then_ R_bd.out hb)
  replace R_c := hide (Rd.then_ R_c.out hb)
  replace R_cd := hide (Rd.then_ R_cd.out hb)
  replace R_one := hide (Rd.then_ R_one.out hb)
  replace R_oned := hide (Rd.then_ R_oned.out hb)
  have U43 : Below V4.heap.size V4 w37 := Below.then_ U42 hb
  replace B := hide (Below.then_ B.out hb)
  clear U42
  replace R_q := hide R_q
  replace R_qd := hide R_qd
  clear hb
  have hbx : Below w37.heap.size w37 (w37.alloc (.cells #[.bool (zneg v_q.num), .slice A_q (dig (zmag v_q.num)).length c_q, .slice A_qd (dig v_q.den).length c_qd] 27)) := ((Below.refl _ _).alloc (Nat.le_refl _) _)
  have Ux := Below.then_ U43 hbx
  go_wp2_with fail
  obtain ⟨V43, hV⟩ : ∃ V, V = (w37.alloc (.cells #[.bool (zneg v_q.num), .slice A_q (dig (zmag v_q.num)).length c_q, .slice A_qd (dig v_q.den).length c_qd] 27)) := ⟨_, rfl⟩
  obtain ⟨g_q, hg_q⟩ : ∃ g, g = w37.heap.size := ⟨_, rfl⟩
  rw [← hV]
  rw [← hV] at hbx Ux
  rw [← hg_q]
  have b_q : Box3 V43 g_q (.bool (zneg v_q.num)) (.slice A_q (dig (zmag v_q.num)).length c_q) (.slice A_qd (dig v_q.den).length c_qd) := by rw [hV]; exact (Box3.new _ _ _ _ hg_q)
  clear hV
  have ne_a_q : w.heap.size ≠ g_q := by have := (b_a.out.lt b_a.out.lt_size (Nat.le_refl _)) _ U43; omega
  replace ne_a_q := hide ne_a_q
  have ne_b_q : w.heap.size + 1 ≠ g_q := by have := (b_b.out.lt b_b.out.lt_size (Nat.le_refl _)) _ U43; omega
  replace ne_b_q := hide ne_b_q
  have ne_c_q : w.heap.size + 1 + 1 ≠ g_q := by have := (b_c.out.lt b_c.out.lt_size (Nat.le_refl _)) _ U43; omega
  replace ne_c_q := hide ne_c_q
  have ne_one_q : g_one ≠ g_q := by have := (b_one.out.lt b_one.out.lt_size (Nat.le_refl _)) _ U43; omega
  replace ne_one_q := hide ne_one_q
  have ge_q : w.heap.size ≤ g_q := by have := B.out.size; omega
  replace ge_q := hide ge_q
  clear hg_q
  replace R_a := hide (Rd.then_ R_a.out hbx)
  replace R_ad := hide (Rd.then_ R_ad.out hbx)
  replace R_b := hide (Rd.then_ R_b.out hbx)
  replace R_bd := hide (Rd.then_ R_bd.out hbx)
  replace R_c := hide (Rd.then_ R_c.out hbx)
  replace R_cd := hide (Rd.then_ R_cd.out hbx)
  replace R_one := hide (Rd.then_ R_one.out hbx)
  replace R_oned := hide (Rd.then_ R_oned.out hbx)
  replace R_q := hide (Rd.then_ R_q.out hbx)
  replace R_qd := hide (Rd.then_ R_qd.out hbx)
  have U44 : Below V4.heap.size V4 V43 := Below.then_ U43 hbx
  replace B := hide (Below.then_ B.out hbx)
  clear U43
  clear hbx
  replace b_a := hide (Box3.keep b_a.out U44)
  clear c_a0 c_a1 c_a2
  replace b_b := hide (Box3.keep b_b.out U44)
  clear c_b0 c_b1 c_b2
  replace b_c := hide (Box3.keep b_c.out U44)
  clear c_c0 c_c1 c_c2
  replace b_one := hide (Box3.keep b_one.out U44)
  clear c_one0 c_one1 c_one2
  replace b_q := hide b_q
  have U45 : Below V43.heap.size V43 V43 := Below.refl _ _
  have c_a0 := b_a.out.at0 b_a.out.lt_size (Nat.le_refl _)
  have c_a1 := b_a.out.at1 b_a.out.lt_size (Nat.le_refl _)
  have c_a2 := b_a.out.at2 b_a.out.lt_size (Nat.le_refl _)
  have c_b0 := b_b.out.at0 b_b.out.lt_size (Nat.le_refl _)
  have c_b1 := b_b.out.at1 b_b.out.lt_size (Nat.le_refl _)
  have c_b2 := b_b.out.at2 b_b.out.lt_size (Nat.le_refl _)
  have c_c0 := b_c.out.at0 b_c.out.lt_size (Nat.le_refl _)
  have c_c1 := b_c.out.at1 b_c.out.lt_size (Nat.le_refl _)
  have c_c2 := b_c.out.at2 b_c.out.lt_size (Nat.le_refl _)
  have c_one0 := b_one.out.at0 b_one.out.lt_size (Nat.le_refl _)
  have c_one1 := b_one.out.at1 b_one.out.lt_size (Nat.le_refl _)
  have c_one2 := b_one.out.at2 b_one.out.lt_size (Nat.le_refl _)
  have c_q0 := b_q.out.at0 b_q.out.lt_size (Nat.le_refl _)
  have c_q1 := b_q.out.at1 b_q.out.lt_size (Nat.le_refl _)
  have c_q2 := b_q.out.at2 b_q.out.lt_size (Nat.le_refl _)
  clear U44
  go_wp2_with fail
  have hd := Below.drw_ V43
  replace R_a := hide (Rd.then_ R_a.out hd)
  replace R_ad := hide (Rd.then_ R_ad.out hd)
  replace R_b := hide (Rd.then_ R_b.out hd)
  replace R_bd := hide (Rd.then_ R_bd.out hd)
  replace R_c := hide (Rd.then_ R_c.out hd)
  replace R_cd := hide (Rd.then_ R_cd.out hd)
  replace R_one := hide (Rd.then_ R_one.out hd)
  replace R_oned := hide (Rd.then_ R_oned.out hd)
  replace R_q := hide (Rd.then_ R_q.out hd)
  replace R_qd := hide (Rd.then_ R_qd.out hd)
  have U46 : Below V43.heap.size V43 (V43.drew) := Below.then_ U45 hd
  replace B := hide (Below.then_ B.out hd)
  clear U45
  clear hd
  have tok37 : True := trivial
  go_region_held3 (fun w' => Below V43.heap.size V43 w') (assumption)
    (first
      | (go_at_call 26; (have _t := tok37; (with_reducible refine (psign_any R_b.out b_bl.out.1 R_bd.out b_bl.out.2 (Nat.le_refl _) e_sbc.out).mono ?_); rintro e w38 ⟨rfl, hb⟩; replace R_a := hide (Rd.then_ R_a.out hb); replace R_ad := hide (Rd.then_ R_ad.out hb); replace R_b := hide (Rd.then_ R_b.out hb); replace R_bd := hide (Rd.then_ R_bd.out hb); replace R_c := hide (Rd.then_ R_c.out hb); replace R_cd := hide (Rd.then_ R_cd.out hb); replace R_one := hide (Rd.then_ R_one.out hb); replace R_oned := hide (Rd.then_ R_oned.out hb); replace R_q := hide (Rd.then_ R_q.out hb); replace R_qd := hide (Rd.then_ R_qd.out hb); have U47 : Below V43.heap.size V43 w38 := Below.then_ U46 hb; replace B := hide (Below.then_ B.out hb); clear U46; clear hb; have tok38 : True := trivial; clear _t tok37))
      | (go_at_call 37; (have _t := tok38; (with_reducible refine (pmul_any R_q.out (Nat.le_trans s_qq.out.1 (by omega)) R_qd.out (Nat.le_trans s_qq.out.2 (by omega)) R_b.out b_bl.out.1 R_bd.out b_bl.out.2 (Nat.le_refl _) c_qbq.out).mono ?_); rintro e w39 ⟨A_qb, c_qb, A_qbd, c_qbd, rfl, R_qb, R_qbd, hb⟩; replace R_a := hide (Rd.then_ R_a.out hb); replace R_ad := hide (Rd.then_ R_ad.out hb); replace R_b := hide (Rd.then_ R_b.out hb); replace R_bd := hide (Rd.then_ R_bd.out hb); replace R_c := hide (Rd.then_ R_c.out hb); replace R_cd := hide (Rd.then_ R_cd.out hb); replace R_one := hide (Rd.then_ R_one.out hb); replace R_oned := hide (Rd.then_ R_oned.out hb); replace R_q := hide (Rd.then_ R_q.out hb); replace R_qd := hide (Rd.then_ R_qd.out hb); have U48 : Below V43.heap.size V43 w39 := Below.then_ U47 hb; replace B := hide (Below.then_ B.out hb); clear U47; replace R_qb := hide R_qb; replace R_qbd := hide R_qbd; clear hb; have tok39 : True := trivial; clear _t tok38))
      | (go_at_call 20; (have _t := tok39; (with_reducible refine (pnorm1_any R_a.out b_al.out.1 R_ad.out b_al.out.2 (Nat.le_refl _) c_nq.out).mono ?_); rintro e w40 ⟨A_n, c_n, A_nd, c_nd, rfl, R_n, R_nd, hb⟩; replace R_a := hide (Rd.then_ R_a.out hb); replace R_ad := hide (Rd.then_ R_ad.out hb); replace R_b := hide (Rd.then_ R_b.out hb); replace R_bd := hide (Rd.then_ R_bd.out hb); replace R_c := hide (Rd.then_ R_c.out hb); replace R_cd := hide (Rd.then_ R_cd.out hb); replace R_one := hide (Rd.then_ R_one.out hb); replace R_oned := hide (Rd.then_ R_oned.out hb); replace R_q := hide (Rd.then_ R_q.out hb); replace R_qd := hide (Rd.then_ R_qd.out hb); replace R_qb := hide (Rd.then_ R_qb.out hb); replace R_qbd := hide (Rd.then_ R_qbd.out hb); have U49 : Below V43.heap.size V43 w40 := Below.then_ U48 hb; replace B := hide (Below.then_ B.out hb); clear U48; replace R_n := hide R_n; replace R_nd := hide R_nd; clear hb; have tok40 : True := trivial; clear _t tok39))
      | (go_at_call 14; (have _t := tok40; (with_reducible refine (same_t R_qb.out R_qbd.out R_n.out R_nd.out (Nat.le_refl _) rfl).mono ?_); rintro e w41 ⟨rfl, hb⟩; replace R_a := hide (Rd.then_ R_a.out hb); replace R_ad := hide (Rd.then_ R_ad.out hb); replace R_b := hide (Rd.then_ R_b.out hb); replace R_bd := hide (Rd.then_ R_bd.out hb); replace R_c := hide (Rd.then_ R_c.out hb); replace R_cd := hide (Rd.then_ R_cd.out hb); replace R_one := hide (Rd.then_ R_one.out hb); replace R_oned := hide (Rd.then_ R_oned.out hb); replace R_q := hide (Rd.then_ R_q.out hb); replace R_qd := hide (Rd.then_ R_qd.out hb); replace R_qb := hide (Rd.then_ R_qb.out hb); replace R_qbd := hide (Rd.then_ R_qbd.out hb); replace R_n := hide (Rd.then_ R_n.out hb); replace R_nd := hide (Rd.then_ R_nd.out hb); have U50 : Below V43.heap.size V43 w41 := Below.then_ U49 hb; replace B := hide (Below.then_ B.out hb); clear U49; clear hb; have tok41 : True := trivial; clear _t tok40; clear R_qb; clear R_qbd; clear R_n; clear R_nd)))
  clear tok41
  go_wp2_with fail
  refine (pcmp_any R_a.out b_al.out.1 R_ad.out b_al.out.2 R_b.out b_bl.out.1 R_bd.out b_bl.out.2 (Nat.le_refl _) e_kc.out).mono ?_
  rintro e w42 ⟨rfl, hb⟩
  replace R_a := hide (Rd.then_ R_a.out hb)
  replace R_ad := hide (Rd.then_ R_ad.out hb)
  replace R_b := hide (Rd.then_ R_b.out hb)
  replace R_bd := hide (Rd.then_ R_bd.out hb)
  replace R_c := hide (Rd.then_ R_c.out hb)
  replace R_cd := hide (Rd.then_ R_cd.out hb)
  replace R_one := hide (Rd.then_ R_one.out hb)
  replace R_oned := hide (Rd.then_ R_oned.out hb)
  replace R_q := hide (Rd.then_ R_q.out hb)
  replace R_qd := hide (Rd.then_ R_qd.out hb)
  have U51 : Below V43.heap.size V43 w42 := Below.then_ U50 hb
  replace B := hide (Below.then_ B.out hb)
  clear U50
  clear hb
  go_wp2_with fail
  have hd := Below.drw_ w42
  replace R_a := hide (Rd.then_ R_a.out hd)
  replace R_ad := hide (Rd.then_ R_ad.out hd)
  replace R_b := hide (Rd.then_ R_b.out hd)
  replace R_bd := hide (Rd.then_ R_bd.out hd)
  replace R_c := hide (Rd.then_ R_c.out hd)
  replace R_cd := hide (Rd.then_ R_cd.out hd)
  replace R_one := hide (Rd.then_ R_one.out hd)
  replace R_oned := hide (Rd.then_ R_oned.out hd)
  replace R_q := hide (Rd.then_ R_q.out hd)
  replace R_qd := hide (Rd.then_ R_qd.out hd)
  have U52 : Below V43.heap.size V43 (w42.drew) := Below.then_ U51 hd
  replace B := hide (Below.then_ B.out hd)
  clear U51
  clear hd
  have tok42 : True := trivial
  go_region_held3 (fun w' => Below V43.heap.size V43 w') (assumption)
    (first
      | (go_at_call 31; (have _t := tok42; (with_reducible refine (pcmp_any R_b.out b_bl.out.1 R_bd.out b_bl.out.2 R_a.out b_al.out.1 R_ad.out b_al.out.2 (Nat.le_refl _) e_k2c.out).mono ?_); rintro e w43 ⟨rfl, hb⟩; replace R_a := hide (Rd.then_ R_a.out hb); replace R_ad := hide (Rd.then_ R_ad.out hb); replace R_b := hide (Rd.then_ R_b.out hb); replace R_bd := hide (Rd.then_ R_bd.out hb); replace R_c := hide (Rd.then_ R_c.out hb); replace R_cd := hide (Rd.then_ R_cd.out hb); replace R_one := hide (Rd.then_ R_one.out hb); replace R_oned := hide (Rd.then_ R_oned.out hb); replace R_q := hide (Rd.then_ R_q.out hb); replace R_qd := hide (Rd.then_ R_qd.out hb); have U53 : Below V43.heap.size V43 w43 := Below.then_ U52 hb; replace B := hide (Below.then_ B.out hb); clear U52; clear hb; have tok43 : True := trivial; clear _t tok42))
      | (go_at_call 35; (have _t := tok43; (with_reducible refine (psub_any R_a.out b_al.out.1 R_ad.out b_al.out.2 R_b.out b_bl.out.1 R_bd.out b_bl.out.2 (Nat.le_refl _) c_fq.out).mono ?_); rintro e w44 ⟨A_f, c_f, A_fd, c_fd, rfl, R_f, R_fd, hb⟩; replace R_a := hide (Rd.then_ R_a.out hb); replace R_ad := hide (Rd.then_ R_ad.out hb); replace R_b := hide (Rd.then_ R_b.out hb); replace R_bd := hide (Rd.then_ R_bd.out hb); replace R_c := hide (Rd.then_ R_c.out hb); replace R_cd := hide (Rd.then_ R_cd.out hb); replace R_one := hide (Rd.then_ R_one.out hb); replace R_oned := hide (Rd.then_ R_oned.out hb); replace R_q := hide (Rd.then_ R_q.out hb); replace R_qd := hide (Rd.then_ R_qd.out hb); have U54 : Below V43.heap.size V43 w44 := Below.then_ U53 hb; replace B := hide (Below.then_ B.out hb); clear U53; replace R_f := hide R_f; replace R_fd := hide R_fd; clear hb; have tok44 : True := trivial; clear _t tok43))
      | (go_at_call 26; (have _t := tok44; (with_reducible refine (psign_any R_f.out (Nat.le_trans s_fq.out.1 (by omega)) R_fd.out (Nat.le_trans s_fq.out.2 (by omega)) (Nat.le_refl _) e_kfc.out).mono ?_); rintro e w45 ⟨rfl, hb⟩; replace R_a := hide (Rd.then_ R_a.out hb); replace R_ad := hide (Rd.then_ R_ad.out hb); replace R_b := hide (Rd.then_ R_b.out hb); replace R_bd := hide (Rd.then_ R_bd.out hb); replace R_c := hide (Rd.then_ R_c.out hb); replace R_cd := hide (Rd.then_ R_cd.out hb); replace R_one := hide (Rd.then_ R_one.out hb); replace R_oned := hide (Rd.then_ R_oned.out hb); replace R_q := hide (Rd.then_ R_q.out hb); replace R_qd := hide (Rd.then_ R_qd.out hb); replace R_f := hide (Rd.then_ R_f.out hb); replace R_fd := hide (Rd.then_ R_fd.out hb); have U55 : Below V43.heap.size V43 w45 := Below.then_ U54 hb; replace B := hide (Below.then_ B.out hb); clear U54; clear hb; have tok45 : True := trivial; clear _t tok44; clear R_f; clear R_fd))
      | (go_at_call 33; (have _t := tok45; (with_reducible refine (padd_any R_a.out b_al.out.1 R_ad.out b_al.out.2 R_c.out b_cl.out.1 R_cd.out b_cl.out.2 (Nat.le_refl _) c_gq.out).mono ?_); rintro e w46 ⟨A_g, c_g, A_gd, c_gd, rfl, R_g, R_gd, hb⟩; replace R_a := hide (Rd.then_ R_a.out hb); replace R_ad := hide (Rd.then_ R_ad.out hb); replace R_b := hide (Rd.then_ R_b.out hb); replace R_bd := hide (Rd.then_ R_bd.out hb); replace R_c := hide (Rd.then_ R_c.out hb); replace R_cd := hide (Rd.then_ R_cd.out hb); replace R_one := hide (Rd.then_ R_one.out hb); replace R_oned := hide (Rd.then_ R_oned.out hb); replace R_q := hide (Rd.then_ R_q.out hb); replace R_qd := hide (Rd.then_ R_qd.out hb); have U56 : Below V43.heap.size V43 w46 := Below.then_ U55 hb; replace B := hide (Below.then_ B.out hb); clear U55; replace R_g := hide R_g; replace R_gd := hide R_gd; clear hb; have tok46 : True := trivial; clear _t tok45))
      | (go_at_call 33; (have _t := tok46; (with_reducible refine (padd_any R_b.out b_bl.out.1 R_bd.out b_bl.out.2 R_c.out b_cl.out.1 R_cd.out b_cl.out.2 (Nat.le_refl _) c_hq.out).mono ?_); rintro e w47 ⟨A_h, c_h, A_hd, c_hd, rfl, R_h, R_hd, hb⟩; replace R_a := hide (Rd.then_ R_a.out hb); replace R_ad := hide (Rd.then_ R_ad.out hb); replace R_b := hide (Rd.then_ R_b.out hb); replace R_bd := hide (Rd.then_ R_bd.out hb); replace R_c := hide (Rd.then_ R_c.out hb); replace R_cd := hide (Rd.then_ R_cd.out hb); replace R_one := hide (Rd.then_ R_one.out hb); replace R_oned := hide (Rd.then_ R_oned.out hb); replace R_q := hide (Rd.then_ R_q.out hb); replace R_qd := hide (Rd.then_ R_qd.out hb); replace R_g := hide (Rd.then_ R_g.out hb); replace R_gd := hide (Rd.then_ R_gd.out hb); have U57 : Below V43.heap.size V43 w47 := Below.then_ U56 hb; replace B := hide (Below.then_ B.out hb); clear U56; replace R_h := hide R_h; replace R_hd := hide R_hd; clear hb; have tok47 : True := trivial; clear _t tok46))
      | (go_at_call 31; (have _t := tok47; (with_reducible refine (pcmp_any R_g.out (Nat.le_trans s_gq.out.1 (by omega)) R_gd.out (Nat.le_trans s_gq.out.2 (by omega)) R_h.out (Nat.le_trans s_hq.out.1 (by omega)) R_hd.out (Nat.le_trans s_hq.out.2 (by omega)) (Nat.le_refl _) e_kwc.out).mono ?_); rintro e w48 ⟨rfl, hb⟩; replace R_a := hide (Rd.then_ R_a.out hb); replace R_ad := hide (Rd.then_ R_ad.out hb); replace R_b := hide (Rd.then_ R_b.out hb); replace R_bd := hide (Rd.then_ R_bd.out hb); replace R_c := hide (Rd.then_ R_c.out hb); replace R_cd := hide (Rd.then_ R_cd.out hb); replace R_one := hide (Rd.then_ R_one.out hb); replace R_oned := hide (Rd.then_ R_oned.out hb); replace R_q := hide (Rd.then_ R_q.out hb); replace R_qd := hide (Rd.then_ R_qd.out hb); replace R_g := hide (Rd.then_ R_g.out hb); replace R_gd := hide (Rd.then_ R_gd.out hb); replace R_h := hide (Rd.then_ R_h.out hb); replace R_hd := hide (Rd.then_ R_hd.out hb); have U58 : Below V43.heap.size V43 w48 := Below.then_ U57 hb; replace B := hide (Below.then_ B.out hb); clear U57; clear hb; have tok48 : True := trivial; clear _t tok47; clear R_g; clear R_gd; clear R_h; clear R_hd)))
  clear tok48
  go_wp2_with fail
  have hd := Below.drw_ w48
  replace R_a := hide (Rd.then_ R_a.out hd)
  replace R_ad := hide (Rd.then_ R_ad.out hd)
  replace R_b := hide (Rd.then_ R_b.out hd)
  replace R_bd := hide (Rd.then_ R_bd.out hd)
  replace R_c := hide (Rd.then_ R_c.out hd)
  replace R_cd := hide (Rd.then_ R_cd.out hd)
  replace R_one := hide (Rd.then_ R_one.out hd)
  replace R_oned := hide (Rd.then_ R_oned.out hd)
  replace R_q := hide (Rd.then_ R_q.out hd)
  replace R_qd := hide (Rd.then_ R_qd.out hd)
  have U59 : Below V43.heap.size V43 (w48.drew) := Below.then_ U58 hd
  replace B := hide (Below.then_ B.out hd)
  clear U58
  clear hd
  have tok49 : True := trivial
  go_region_held3 (fun w' => Below V43.heap.size V43 w') (assumption)
    (first
      | (go_at_call 26; (have _t := tok49; (with_reducible refine (psign_any R_c.out b_cl.out.1 R_cd.out b_cl.out.2 (Nat.le_refl _) e_scc.out).mono ?_); rintro e w49 ⟨rfl, hb⟩; replace R_a := hide (Rd.then_ R_a.out hb); replace R_ad := hide (Rd.then_ R_ad.out hb); replace R_b := hide (Rd.then_ R_b.out hb); replace R_bd := hide (Rd.then_ R_bd.out hb); replace R_c := hide (Rd.then_ R_c.out hb); replace R_cd := hide (Rd.then_ R_cd.out hb); replace R_one := hide (Rd.then_ R_one.out hb); replace R_oned := hide (Rd.then_ R_oned.out hb); replace R_q := hide (Rd.then_ R_q.out hb); replace R_qd := hide (Rd.then_ R_qd.out hb); have U60 : Below V43.heap.size V43 w49 := Below.then_ U59 hb; replace B := hide (Below.then_ B.out hb); clear U59; clear hb; have tok50 : True := trivial; clear _t tok49))
      | (go_at_call 37; (have _t := tok50; (with_reducible refine (pmul_any R_a.out b_al.out.1 R_ad.out b_al.out.2 R_c.out b_cl.out.1 R_cd.out b_cl.out.2 (Nat.le_refl _) c_xq.out).mono ?_); rintro e w50 ⟨A_x, c_x, A_xd, c_xd, rfl, R_x, R_xd, hb⟩; replace R_a := hide (Rd.then_ R_a.out hb); replace R_ad := hide (Rd.then_ R_ad.out hb); replace R_b := hide (Rd.then_ R_b.out hb); replace R_bd := hide (Rd.then_ R_bd.out hb); replace R_c := hide (Rd.then_ R_c.out hb); replace R_cd := hide (Rd.then_ R_cd.out hb); replace R_one := hide (Rd.then_ R_one.out hb); replace R_oned := hide (Rd.then_ R_oned.out hb); replace R_q := hide (Rd.then_ R_q.out hb); replace R_qd := hide (Rd.then_ R_qd.out hb); have U61 : Below V43.heap.size V43 w50 := Below.then_ U60 hb; replace B := hide (Below.then_ B.out hb); clear U60; replace R_x := hide R_x; replace R_xd := hide R_xd; clear hb; have tok51 : True := trivial; clear _t tok50))
      | (go_at_call 37; (have _t := tok51; (with_reducible refine (pmul_any R_b.out b_bl.out.1 R_bd.out b_bl.out.2 R_c.out b_cl.out.1 R_cd.out b_cl.out.2 (Nat.le_refl _) c_yq.out).mono ?_); rintro e w51 ⟨A_y, c_y, A_yd, c_yd, rfl, R_y, R_yd, hb⟩; replace R_a := hide (Rd.then_ R_a.out hb); replace R_ad := hide (Rd.then_ R_ad.out hb); replace R_b := hide (Rd.then_ R_b.out hb); replace R_bd := hide (Rd.then_ R_bd.out hb); replace R_c := hide (Rd.then_ R_c.out hb); replace R_cd := hide (Rd.then_ R_cd.out hb); replace R_one := hide (Rd.then_ R_one.out hb); replace R_oned := hide (Rd.then_ R_oned.out hb); replace R_q := hide (Rd.then_ R_q.out hb); replace R_qd := hide (Rd.then_ R_qd.out hb); replace R_x := hide (Rd.then_ R_x.out hb); replace R_xd := hide (Rd.then_ R_xd.out hb); have U62 : Below V43.heap.size V43 w51 := Below.then_ U61 hb; replace B := hide (Below.then_ B.out hb); clear U61; replace R_y := hide R_y; replace R_yd := hide R_yd; clear hb; have tok52 : True := trivial; clear _t tok51))
      | (go_at_call 31; (have _t := tok52; (with_reducible refine (pcmp_any R_x.out (Nat.le_trans s_xq.out.1 (by omega)) R_xd.out (Nat.le_trans s_xq.out.2 (by omega)) R_y.out (Nat.le_trans s_yq.out.1 (by omega)) R_yd.out (Nat.le_trans s_yq.out.2 (by omega)) (Nat.le_refl _) e_kmc.out).mono ?_); rintro e w52 ⟨rfl, hb⟩; replace R_a := hide (Rd.then_ R_a.out hb); replace R_ad := hide (Rd.then_ R_ad.out hb); replace R_b := hide (Rd.then_ R_b.out hb); replace R_bd := hide (Rd.then_ R_bd.out hb); replace R_c := hide (Rd.then_ R_c.out hb); replace R_cd := hide (Rd.then_ R_cd.out hb); replace R_one := hide (Rd.then_ R_one.out hb); replace R_oned := hide (Rd.then_ R_oned.out hb); replace R_q := hide (Rd.then_ R_q.out hb); replace R_qd := hide (Rd.then_ R_qd.out hb); replace R_x := hide (Rd.then_ R_x.out hb); replace R_xd := hide (Rd.then_ R_xd.out hb); replace R_y := hide (Rd.then_ R_y.out hb); replace R_yd := hide (Rd.then_ R_yd.out hb); have U63 : Below V43.heap.size V43 w52 := Below.then_ U62 hb; replace B := hide (Below.then_ B.out hb); clear U62; clear hb; have tok53 : True := trivial; clear _t tok52; clear R_x; clear R_xd; clear R_y; clear R_yd)))
  clear tok53
  go_wp2
  go_ret
  exact ⟨rfl, B.out⟩

end Go.Proofs.Ytieopcchchebgaa

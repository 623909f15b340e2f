/-
  DecimalNearest.
-/
import Derived.Test.YtdlmfembnmomjaaGreatDoorNearMath
namespace Go.Proofs.YtdlmfembnmomjaaGreatDoor
open Go.RowKit


set_option maxHeartbeats 4000000 in
theorem near_bad {w : World} {Bd : Nat} {A_a : Option Addr} {n_a c_a : Nat} {x_a : List Nat} {s_a : Bool} {A_ad : Option Addr} {n_ad c_ad : Nat} {x_ad : List Nat} {p m : Int} (h_a : Rd w Bd A_a n_a c_a x_a) (g_a : n_a ≤ 10000000) (h_ad : Rd w Bd A_ad n_ad c_ad x_ad) (g_ad : n_ad ≤ 10000000) (hB : Bd ≤ w.heap.size) (h : ¬ okd p m) :
    Calls Tryz.prog 4 #[.agg #[.bool s_a, .slice A_a n_a c_a, .slice A_ad n_ad c_ad], .int .i64 p, .int .i64 m] w (RetB w (.bool true)) := by
  obtain ⟨e, e_e⟩ : ∃ e, re p m = e := ⟨_, rfl⟩
  replace e_e := hide e_e
  have he : (e != 0) = true := by rw [← e_e.out]; unfold re; rw [if_neg h]; split <;> rfl
  have e_z : rz p m (qv s_a (val x_a) (val x_ad)) = 0 := if_neg h
  replace e_z := hide e_z
  have e_P : rp p m = 0 := if_neg h
  replace e_P := hide e_P
  have g1 : n_a ≤ 1000000000 ∧ n_ad ≤ 1000000000 := by omega
  replace g1 := hide g1
  replace h := hide h
  obtain ⟨W, hW⟩ : ∃ W, W = (w.alloc (.cells #[.bool s_a, .slice A_a n_a c_a, .slice A_ad n_ad c_ad] 27)) := ⟨_, rfl⟩
  have b_a : Box3 W (w.heap.size) (.bool s_a) (.slice A_a n_a c_a) (.slice A_ad n_ad c_ad) := by rw [hW]; exact (Box3.new w _ _ _ rfl)
  have hwW : Below w.heap.size w W := by rw [hW]; exact ((Below.refl _ _).alloc (Nat.le_refl _) _)
  have R_a := hide (Rd.upto h_a hwW hB)
  clear h_a
  have R_ad := hide (Rd.upto h_ad hwW hB)
  clear h_ad
  have B := hide hwW
  clear hwW
  clear hB
  have U0 : Below W.heap.size W W := Below.refl _ _
  have c_a0 := b_a.at0 b_a.lt_size (Nat.le_refl _)
  have c_a1 := b_a.at1 b_a.lt_size (Nat.le_refl _)
  have c_a2 := b_a.at2 b_a.lt_size (Nat.le_refl _)
  replace b_a := hide b_a
  go_enter Tryz.func4, Tryz.ntmps4
  go_wp2_with fail
  rw [← hW]
  clear hW
  refine (pround_gen R_a.out g1.out.1 R_ad.out g1.out.2 (Nat.le_refl _) e_z.out e_P.out e_e.out).mono ?_
  rintro e w1 ⟨A_d, c_d, rfl, R_d, hb⟩
  replace R_a := hide (Rd.then_ R_a.out hb)
  replace R_ad := hide (Rd.then_ R_ad.out hb)
  have U1 : Below W.heap.size W w1 := Below.then_ U0 hb
  replace B := hide (Below.then_ B.out hb)
  replace R_d := hide R_d
  clear hb
  have hbx : Below w1.heap.size w1 (w1.alloc (.cells #[.bool (zneg 0), .slice A_d (dig (zmag 0)).length c_d, .int .i64 0] 29)) := ((Below.refl _ _).alloc (Nat.le_refl _) _)
  have Ux := Below.then_ U1 hbx
  go_wp2_with fail
  obtain ⟨V1, hV⟩ : ∃ V, V = (w1.alloc (.cells #[.bool (zneg 0), .slice A_d (dig (zmag 0)).length c_d, .int .i64 0] 29)) := ⟨_, rfl⟩
  obtain ⟨g_d, hg_d⟩ : ∃ g, g = w1.heap.size := ⟨_, rfl⟩
  rw [← hV]
  rw [← hV] at hbx Ux
  rw [← hg_d]
  have b_d : BoxD V1 g_d (.bool (zneg 0)) (.slice A_d (dig (zmag 0)).length c_d) (.int .i64 0) := by rw [hV]; exact (BoxD.new _ _ _ _ hg_d)
  clear hV
  have ne_a_d : w.heap.size ≠ g_d := by have := (b_a.out.lt b_a.out.lt_size (Nat.le_refl _)) _ U1; omega
  replace ne_a_d := hide ne_a_d
  have ge_d : w.heap.size ≤ g_d := by have := B.out.size; omega
  replace ge_d := hide ge_d
  clear hg_d
  replace R_a := hide (Rd.then_ R_a.out hbx)
  replace R_ad := hide (Rd.then_ R_ad.out hbx)
  replace R_d := hide (Rd.then_ R_d.out hbx)
  have U2 : Below W.heap.size W V1 := Below.then_ U1 hbx
  replace B := hide (Below.then_ B.out hbx)
  clear hbx
  replace b_a := hide (Box3.keep b_a.out U2)
  clear c_a0 c_a1 c_a2
  replace b_d := hide b_d
  have U3 : Below V1.heap.size V1 V1 := Below.refl _ _
  have c_a0 := b_a.out.at0 b_a.out.lt_size (Nat.le_refl _)
  have c_a1 := b_a.out.at1 b_a.out.lt_size (Nat.le_refl _)
  have c_a2 := b_a.out.at2 b_a.out.lt_size (Nat.le_refl _)
  have c_d0 := b_d.out.at0 b_d.out.lt_size (Nat.le_refl _)
  have c_d1 := b_d.out.at1 b_d.out.lt_size (Nat.le_refl _)
  have c_d2 := b_d.out.at2 b_d.out.lt_size (Nat.le_refl _)
  refine (valid_no h.out).mono ?_
  rintro e w2 ⟨rfl, hb⟩
  replace R_a := hide (Rd.then_ R_a.out hb)
  replace R_ad := hide (Rd.then_ R_ad.out hb)
  replace R_d := hide (Rd.then_ R_d.out hb)
  have U4 : Below V1.heap.size V1 w2 := Below.then_ U3 hb
  replace B := hide (Below.then_ B.out hb)
  clear hb
  go_wp2_with fail
  refine (awake_any).mono ?_
  rintro e w3 ⟨rfl, hb⟩
  replace R_a := hide (Rd.then_ R_a.out hb)
  replace R_ad := hide (Rd.then_ R_ad.out hb)
  replace R_d := hide (Rd.then_ R_d.out hb)
  have U5 : Below V1.heap.size V1 w3 := Below.then_ U4 hb
  replace B := hide (Below.then_ B.out hb)
  clear hb
  go_wp2
  go_ret
  exact ⟨rfl, B.out⟩

set_option maxHeartbeats 4000000 in
theorem near_6 {w : World} {Bd : Nat} {A_a : Option Addr} {n_a c_a : Nat} {x_a : List Nat} {s_a : Bool} {A_ad : Option Addr} {n_ad c_ad : Nat} {x_ad : List Nat} {p : Nat} (h_a : Rd w Bd A_a n_a c_a x_a) (g_a : n_a ≤ 10000000) (h_ad : Rd w Bd A_ad n_ad c_ad x_ad) (g_ad : n_ad ≤ 10000000) (hB : Bd ≤ w.heap.size) (h9 : p ≤ 9) :
    Calls Tryz.prog 4 #[.agg #[.bool s_a, .slice A_a n_a c_a, .slice A_ad n_ad c_ad], .int .i64 (p : Int), .int .i64 6] w (RetB w (.bool true)) := by
  have h1 : (1 : Int) ≤ 6 := by omega
  replace h1 := hide h1
  have h7 : (6 : Int) ≤ 7 := by omega
  replace h7 := hide h7
  obtain ⟨T, e_T⟩ : ∃ new, 10 ^ p = new := ⟨_, rfl⟩
  replace e_T := hide e_T
  have hT : T ≠ 0 := by rw [← e_T.out]; exact ten_ne p
  have lT : T < pw 1 := by rw [← e_T.out]; exact Nat.lt_of_le_of_lt (Nat.pow_le_pow_right (by omega) h9) (by decide)
  obtain ⟨q, e_q⟩ : ∃ new, qv s_a (val x_a) (val x_ad) = new := ⟨_, rfl⟩
  replace e_q := hide e_q
  have s_q := sz_rd h_a h_ad e_q.out g_a g_ad
  obtain ⟨x, e_x⟩ : ∃ new, q * (T : Rat) = new := ⟨_, rfl⟩
  replace e_x := hide e_x
  have s_x : (dig (zmag x.num)).length ≤ 10000001 + 1 ∧ (dig x.den).length ≤ 10000001 + 1 := sz_mul e_x.out s_q (sz_int (z := (T : Int)) lT (by omega))
  obtain ⟨z, e_z⟩ : ∃ new, rnd 6 x = new := ⟨_, rfl⟩
  replace e_z := hide e_z
  have l_z := rnd_len e_z.out s_x
  obtain ⟨v, e_v⟩ : ∃ new, mkRat z T = new := ⟨_, rfl⟩
  replace e_v := hide e_v
  have s_v : (dig (zmag v.num)).length ≤ 10000003 ∧ (dig v.den).length ≤ 10000003 := by rw [← e_v.out]; exact sz_mk l_z (pw_le (by omega) lT) (by omega)
  obtain ⟨s, e_s⟩ : ∃ new, v - q = new := ⟨_, rfl⟩
  replace e_s := hide e_s
  have s_s := sz_sub e_s.out s_v s_q
  obtain ⟨ab, e_ab⟩ : ∃ new, qabs s = new := ⟨_, rfl⟩
  replace e_ab := hide e_ab
  have s_ab := sz_abs e_ab.out s_s
  obtain ⟨u1, e_u1⟩ : ∃ new, mkRat 1 T / mkRat ((1 : Nat) : Int) 1 = new := ⟨_, rfl⟩
  replace e_u1 := hide e_u1
  have s_u1 : (dig (zmag u1.num)).length ≤ 2 ∧ (dig u1.den).length ≤ 2 := sz_div e_u1.out (sz_mk (i := 1) (by decide) lT (by omega)) (sz_mk (i := 1) (by decide) (by decide) (by omega))
  have fa_u1 : mkRat 1 (10 ^ p) / mkRat ((1 : Nat) : Int) 1 = u1 := by rw [e_T.out]; exact e_u1.out
  replace fa_u1 := hide fa_u1
  have bb_u1 : (dig (zmag u1.num)).length ≤ 1000000000 ∧ (dig u1.den).length ≤ 1000000000 := by omega
  replace bb_u1 := hide bb_u1
  obtain ⟨k1, e_k1⟩ : ∃ new, sgn (ab - u1).num = new := ⟨_, rfl⟩
  replace e_k1 := hide e_k1
  have hk1 : decide (0 ≤ k1) = false := decide_eq_false (by rw [← e_k1.out, ← e_ab.out, ← e_s.out, ← e_u1.out]; have := sgn_lt (near_lt hT e_x.out e_z.out e_v.out); omega)
  obtain ⟨b1, e_b1⟩ : ∃ new, qabs v = new := ⟨_, rfl⟩
  replace e_b1 := hide e_b1
  obtain ⟨b2, e_b2⟩ : ∃ new, qabs q = new := ⟨_, rfl⟩
  replace e_b2 := hide e_b2
  have s_b1 := sz_abs e_b1.out s_v
  have s_b2 := sz_abs e_b2.out s_q
  obtain ⟨k2, e_k2⟩ : ∃ new, sgn (b1 - b2).num = new := ⟨_, rfl⟩
  replace e_k2 := hide e_k2
  obtain ⟨k3, e_k3⟩ : ∃ new, sgn (v - q).num = new := ⟨_, rfl⟩
  replace e_k3 := hide e_k3
  have hk3 : decide (k3 ≤ 0) = true := decide_eq_true (by rw [← e_k3.out]; exact sgn_le (near_floor hT e_x.out e_z.out e_v.out))
  have fa_k3 : sgn (qv (zneg v.num) (val (dig (zmag v.num))) (val (dig v.den)) - qv s_a (val x_a) (val x_ad)).num = k3 := by rw [qv_eta, e_q.out]; exact e_k3.out
  replace fa_k3 := hide fa_k3
  have fa_x : qv s_a (val x_a) (val x_ad) * ((10 ^ p : Nat) : Rat) = x := by rw [e_T.out, e_q.out]; exact e_x.out
  replace fa_x := hide fa_x
  have fa_v : mkRat (iv (zneg z) (val (dig (zmag z)))) (10 ^ p) = v := by rw [ivz, e_T.out]; exact e_v.out
  replace fa_v := hide fa_v
  have fa_s : qv (zneg v.num) (val (dig (zmag v.num))) (val (dig v.den)) - qv s_a (val x_a) (val x_ad) = s := by rw [qv_eta, e_q.out]; exact e_s.out
  replace fa_s := hide fa_s
  have fa_ab : qabs (qv (zneg s.num) (val (dig (zmag s.num))) (val (dig s.den))) = ab := by rw [qv_eta]; exact e_ab.out
  replace fa_ab := hide fa_ab
  have fa_k1 : sgn (qv (zneg ab.num) (val (dig (zmag ab.num))) (val (dig ab.den)) - qv (zneg u1.num) (val (dig (zmag u1.num))) (val (dig u1.den))).num = k1 := by rw [qv_eta, qv_eta]; exact e_k1.out
  replace fa_k1 := hide fa_k1
  have fa_b1 : qabs (qv (zneg v.num) (val (dig (zmag v.num))) (val (dig v.den))) = b1 := by rw [qv_eta]; exact e_b1.out
  replace fa_b1 := hide fa_b1
  have fa_b2 : qabs (qv s_a (val x_a) (val x_ad)) = b2 := by rw [e_q.out]; exact e_b2.out
  replace fa_b2 := hide fa_b2
  have fa_k2 : sgn (qv (zneg b1.num) (val (dig (zmag b1.num))) (val (dig b1.den)) - qv (zneg b2.num) (val (dig (zmag b2.num))) (val (dig b2.den))).num = k2 := by rw [qv_eta, qv_eta]; exact e_k2.out
  replace fa_k2 := hide fa_k2
  have bb_v : (dig (zmag v.num)).length ≤ 1000000000 ∧ (dig v.den).length ≤ 1000000000 := by omega
  replace bb_v := hide bb_v
  have bb_s : (dig (zmag s.num)).length ≤ 1000000000 ∧ (dig s.den).length ≤ 1000000000 := by omega
  replace bb_s := hide bb_s
  have bb_ab : (dig (zmag ab.num)).length ≤ 1000000000 ∧ (dig ab.den).length ≤ 1000000000 := by omega
  replace bb_ab := hide bb_ab
  have bb_b1 : (dig (zmag b1.num)).length ≤ 1000000000 ∧ (dig b1.den).length ≤ 1000000000 := by omega
  replace bb_b1 := hide bb_b1
  have bb_b2 : (dig (zmag b2.num)).length ≤ 1000000000 ∧ (dig b2.den).length ≤ 1000000000 := by omega
  replace bb_b2 := hide bb_b2
  have bb_z : (dig (zmag z)).length ≤ 10000000000 := by have := zl l_z; omega
  replace bb_z := hide bb_z
  have g1 : n_a ≤ 1000000000 ∧ n_ad ≤ 1000000000 := by omega
  replace g1 := hide g1
  have f0 : (0 : Int) ≤ (p : Int) := by omega
  replace f0 := hide f0
  have f9 : (p : Int) ≤ 9 := by omega
  replace f9 := hide f9
  clear hT lT s_q s_x l_z s_v s_s s_ab s_u1 s_b1 s_b2
  replace h9 := hide h9
  obtain ⟨W, hW⟩ : ∃ W, W = (w.alloc (.cells #[.bool s_a, .slice A_a n_a c_a, .slice A_ad n_ad c_ad] 27)) := ⟨_, rfl⟩
  have b_a : Box3 W (w.heap.size) (.bool s_a) (.slice A_a n_a c_a) (.slice A_ad n_ad c_ad) := by rw [hW]; exact (Box3.new w _ _ _ rfl)
  have hwW : Below w.heap.size w W := by rw [hW]; exact ((Below.refl _ _).alloc (Nat.le_refl _) _)
  have R_a := hide (Rd.upto h_a hwW hB)
  clear h_a
  have R_ad := hide (Rd.upto h_ad hwW hB)
  clear h_ad
  have B := hide hwW
  clear hwW
  clear hB
  have U0 : Below W.heap.size W W := Below.refl _ _
  have c_a0 := b_a.at0 b_a.lt_size (Nat.le_refl _)
  have c_a1 := b_a.at1 b_a.lt_size (Nat.le_refl _)
  have c_a2 := b_a.at2 b_a.lt_size (Nat.le_refl _)
  replace b_a := hide b_a
  go_enter Tryz.func4, Tryz.ntmps4
  go_wp2_with fail
  rw [← hW]
  clear hW
  refine (pround_any R_a.out g1.out.1 R_ad.out g1.out.2 (Nat.le_refl _) h9.out h1.out h7.out fa_x.out e_z.out).mono ?_
  rintro e w1 ⟨A_d, c_d, rfl, R_d, hb⟩
  replace R_a := hide (Rd.then_ R_a.out hb)
  replace R_ad := hide (Rd.then_ R_ad.out hb)
  have U1 : Below W.heap.size W w1 := Below.then_ U0 hb
  replace B := hide (Below.then_ B.out hb)
  replace R_d := hide R_d
  clear hb
  have hbx : Below w1.heap.size w1 (w1.alloc (.cells #[.bool (zneg z), .slice A_d (dig (zmag z)).length c_d, .int .i64 (p : Int)] 29)) := ((Below.refl _ _).alloc (Nat.le_refl _) _)
  have Ux := Below.then_ U1 hbx
  go_wp2_with fail
  obtain ⟨V1, hV⟩ : ∃ V, V = (w1.alloc (.cells #[.bool (zneg z), .slice A_d (dig (zmag z)).length c_d, .int .i64 (p : Int)] 29)) := ⟨_, rfl⟩
  obtain ⟨g_d, hg_d⟩ : ∃ g, g = w1.heap.size := ⟨_, rfl⟩
  rw [← hV]
  rw [← hV] at hbx Ux
  rw [← hg_d]
  have b_d : BoxD V1 g_d (.bool (zneg z)) (.slice A_d (dig (zmag z)).length c_d) (.int .i64 (p : Int)) := by rw [hV]; exact (BoxD.new _ _ _ _ hg_d)
  clear hV
  have ne_a_d : w.heap.size ≠ g_d := by have := (b_a.out.lt b_a.out.lt_size (Nat.le_refl _)) _ U1; omega
  replace ne_a_d := hide ne_a_d
  have ge_d : w.heap.size ≤ g_d := by have := B.out.size; omega
  replace ge_d := hide ge_d
  clear hg_d
  replace R_a := hide (Rd.then_ R_a.out hbx)
  replace R_ad := hide (Rd.then_ R_ad.out hbx)
  replace R_d := hide (Rd.then_ R_d.out hbx)
  have U2 : Below W.heap.size W V1 := Below.then_ U1 hbx
  replace B := hide (Below.then_ B.out hbx)
  clear hbx
  replace b_a := hide (Box3.keep b_a.out U2)
  clear c_a0 c_a1 c_a2
  replace b_d := hide b_d
  have U3 : Below V1.heap.size V1 V1 := Below.refl _ _
  have c_a0 := b_a.out.at0 b_a.out.lt_size (Nat.le_refl _)
  have c_a1 := b_a.out.at1 b_a.out.lt_size (Nat.le_refl _)
  have c_a2 := b_a.out.at2 b_a.out.lt_size (Nat.le_refl _)
  have c_d0 := b_d.out.at0 b_d.out.lt_size (Nat.le_refl _)
  have c_d1 := b_d.out.at1 b_d.out.lt_size (Nat.le_refl _)
  have c_d2 := b_d.out.at2 b_d.out.lt_size (Nat.le_refl _)
  refine (pvalue_ok R_d.out bb_z.out (Nat.le_refl _) rfl h9.out fa_v.out).mono ?_
  rintro e w2 ⟨A_v, c_v, A_vd, c_vd, rfl, R_v, R_vd, hb⟩
  replace R_a := hide (Rd.then_ R_a.out hb)
  replace R_ad := hide (Rd.then_ R_ad.out hb)
  replace R_d := hide (Rd.then_ R_d.out hb)
  have U4 : Below V1.heap.size V1 w2 := Below.then_ U3 hb
  replace B := hide (Below.then_ B.out hb)
  replace R_v := hide R_v
  replace R_vd := hide R_vd
  clear hb
  have hbx : Below w2.heap.size w2 (w2.alloc (.cells #[.bool (zneg v.num), .slice A_v (dig (zmag v.num)).length c_v, .slice A_vd (dig v.den).length c_vd] 27)) := ((Below.refl _ _).alloc (Nat.le_refl _) _)
  have Ux := Below.then_ U4 hbx
  go_wp2_with fail
  obtain ⟨V4, hV⟩ : ∃ V, V = (w2.alloc (.cells #[.bool (zneg v.num), .slice A_v (dig (zmag v.num)).length c_v, .slice A_vd (dig v.den).length c_vd] 27)) := ⟨_, rfl⟩
  obtain ⟨g_v, hg_v⟩ : ∃ g, g = w2.heap.size := ⟨_, rfl⟩
  rw [← hV]
  rw [← hV] at hbx Ux
  rw [← hg_v]
  have b_v : Box3 V4 g_v (.bool (zneg v.num)) (.slice A_v (dig (zmag v.num)).length c_v) (.slice A_vd (dig v.den).length c_vd) := by rw [hV]; exact (Box3.new _ _ _ _ hg_v)
  clear hV
  have ne_a_v : w.heap.size ≠ g_v := by have := (b_a.out.lt b_a.out.lt_size (Nat.le_refl _)) _ U4; omega
  replace ne_a_v := hide ne_a_v
  have ne_d_v : g_d ≠ g_v := by have := (b_d.out.lt b_d.out.lt_size (Nat.le_refl _)) _ U4; omega
  replace ne_d_v := hide ne_d_v
  have ge_v : w.heap.size ≤ g_v := by have := B.out.size; omega
  replace ge_v := hide ge_v
  clear hg_v
  replace R_a := hide (Rd.then_ R_a.out hbx)
  replace R_ad := hide (Rd.then_ R_ad.out hbx)
  replace R_d := hide (Rd.then_ R_d.out hbx)
  replace R_v := hide (Rd.then_ R_v.out hbx)
  replace R_vd := hide (Rd.then_ R_vd.out hbx)
  have U5 : Below V1.heap.size V1 V4 := Below.then_ U4 hbx
  replace B := hide (Below.then_ B.out hbx)
  clear hbx
  replace b_a := hide (Box3.keep b_a.out U5)
  clear c_a0 c_a1 c_a2
  replace b_d := hide (BoxD.keep b_d.out U5)
  clear c_d0 c_d1 c_d2
  replace b_v := hide b_v
  have U6 : Below V4.heap.size V4 V4 := Below.refl _ _
  have c_a0 := b_a.out.at0 b_a.out.lt_size (Nat.le_refl _)
  have c_a1 := b_a.out.at1 b_a.out.lt_size (Nat.le_refl _)
  have c_a2 := b_a.out.at2 b_a.out.lt_size (Nat.le_refl _)
  have c_d0 := b_d.out.at0 b_d.out.lt_size (Nat.le_refl _)
  have c_d1 := b_d.out.at1 b_d.out.lt_size (Nat.le_refl _)
  have c_d2 := b_d.out.at2 b_d.out.lt_size (Nat.le_refl _)
  have c_v0 := b_v.out.at0 b_v.out.lt_size (Nat.le_refl _)
  have c_v1 := b_v.out.at1 b_v.out.lt_size (Nat.le_refl _)
  have c_v2 := b_v.out.at2 b_v.out.lt_size (Nat.le_refl _)
  refine (valid_yes f0.out f9.out h1.out h7.out).mono ?_
  rintro e w3 ⟨rfl, hb⟩
  replace R_a := hide (Rd.then_ R_a.out hb)
  replace R_ad := hide (Rd.then_ R_ad.out hb)
  replace R_d := hide (Rd.then_ R_d.out hb)
  replace R_v := hide (Rd.then_ R_v.out hb)
  replace R_vd := hide (Rd.then_ R_vd.out hb)
  have U7 : Below V4.heap.size V4 w3 := Below.then_ U6 hb
  replace B := hide (Below.then_ B.out hb)
  clear hb
  go_wp2_with fail
  refine (psub_any R_v.out bb_v.out.1 R_vd.out bb_v.out.2 R_a.out g1.out.1 R_ad.out g1.out.2 (Nat.le_refl _) fa_s.out).mono ?_
  rintro e w4 ⟨A_s, c_s, A_sd, c_sd, rfl, R_s, R_sd, hb⟩
  replace R_a := hide (Rd.then_ R_a.out hb)
  replace R_ad := hide (Rd.then_ R_ad.out hb)
  replace R_d := hide (Rd.then_ R_d.out hb)
  replace R_v := hide (Rd.then_ R_v.out hb)
  replace R_vd := hide (Rd.then_ R_vd.out hb)
  have U8 : Below V4.heap.size V4 w4 := Below.then_ U7 hb
  replace B := hide (Below.then_ B.out hb)
  replace R_s := hide R_s
  replace R_sd := hide R_sd
  clear hb
  go_wp2_with fail
  refine (pabs_any R_s.out (Nat.le_trans bb_s.out.1 (by omega)) R_sd.out (Nat.le_trans bb_s.out.2 (by omega)) (Nat.le_refl _) fa_ab.out).mono ?_
  rintro e w5 ⟨A_ab, c_ab, A_abd, c_abd, rfl, R_ab, R_abd, hb⟩
  replace R_a := hide (Rd.then_ R_a.out hb)
  replace R_ad := hide (Rd.then_ R_ad.out hb)
  replace R_d := hide (Rd.then_ R_d.out hb)
  replace R_v := hide (Rd.then_ R_v.out hb)
  replace R_vd := hide (Rd.then_ R_vd.out hb)
  replace R_s := hide (Rd.then_ R_s.out hb)
  replace R_sd := hide (Rd.then_ R_sd.out hb)
  have U9 : Below V4.heap.size V4 w5 := Below.then_ U8 hb
  replace B := hide (Below.then_ B.out hb)
  replace R_ab := hide R_ab
  replace R_abd := hide R_abd
  clear hb
  have hbx : Below w5.heap.size w5 (w5.alloc (.cells #[.bool (zneg ab.num), .slice A_ab (dig (zmag ab.num)).length c_ab, .slice A_abd (dig ab.den).length c_abd] 27)) := ((Below.refl _ _).alloc (Nat.le_refl _) _)
  have Ux := Below.then_ U9 hbx
  go_wp2_with fail
  obtain ⟨V9, hV⟩ : ∃ V, V = (w5.alloc (.cells #[.bool (zneg ab.num), .slice A_ab (dig (zmag ab.num)).length c_ab, .slice A_abd (dig ab.den).length c_abd] 27)) := ⟨_, rfl⟩
  obtain ⟨g_ab, hg_ab⟩ : ∃ g, g = w5.heap.size := ⟨_, rfl⟩
  rw [← hV]
  rw [← hV] at hbx Ux
  rw [← hg_ab]
  have b_ab : Box3 V9 g_ab (.bool (zneg ab.num)) (.slice A_ab (dig (zmag ab.num)).length c_ab) (.slice A_abd (dig ab.den).length c_abd) := by rw [hV]; exact (Box3.new _ _ _ _ hg_ab)
  clear hV
  have ne_a_ab : w.heap.size ≠ g_ab := by have := (b_a.out.lt b_a.out.lt_size (Nat.le_refl _)) _ U9; omega
  replace ne_a_ab := hide ne_a_ab
  have ne_d_ab : g_d ≠ g_ab := by have := (b_d.out.lt b_d.out.lt_size (Nat.le_refl _)) _ U9; omega
  replace ne_d_ab := hide ne_d_ab
  have ne_v_ab : g_v ≠ g_ab := by have := (b_v.out.lt b_v.out.lt_size (Nat.le_refl _)) _ U9; omega
  replace ne_v_ab := hide ne_v_ab
  have ge_ab : w.heap.size ≤ g_ab := by have := B.out.size; omega
  replace ge_ab := hide ge_ab
  clear hg_ab
  replace R_a := hide (Rd.then_ R_a.out hbx)
  replace R_ad := hide (Rd.then_ R_ad.out hbx)
  replace R_d := hide (Rd.then_ R_d.out hbx)
  replace R_v := hide (Rd.then_ R_v.out hbx)
  replace R_vd := hide (Rd.then_ R_vd.out hbx)
  replace R_s := hide (Rd.then_ R_s.out hbx)
  replace R_sd := hide (Rd.then_ R_sd.out hbx)
  replace R_ab := hide (Rd.then_ R_ab.out hbx)
  replace R_abd := hide (Rd.then_ R_abd.out hbx)
  have U10 : Below V4.heap.size V4 V9 := Below.then_ U9 hbx
  replace B := hide (Below.then_ B.out hbx)
  clear hbx
  replace b_a := hide (Box3.keep b_a.out U10)
  clear c_a0 c_a1 c_a2
  replace b_d := hide (BoxD.keep b_d.out U10)
  clear c_d0 c_d1 c_d2
  replace b_v := hide (Box3.keep b_v.out U10)
  clear c_v0 c_v1 c_v2
  replace b_ab := hide b_ab
  have U11 : Below V9.heap.size V9 V9 := Below.refl _ _
  have c_a0 := b_a.out.at0 b_a.out.lt_size (Nat.le_refl _)
  have c_a1 := b_a.out.at1 b_a.out.lt_size (Nat.le_refl _)
  have c_a2 := b_a.out.at2 b_a.out.lt_size (Nat.le_refl _)
  have c_d0 := b_d.out.at0 b_d.out.lt_size (Nat.le_refl _)
  have c_d1 := b_d.out.at1 b_d.out.lt_size (Nat.le_refl _)
  have c_d2 := b_d.out.at2 b_d.out.lt_size (Nat.le_refl _)
  have c_v0 := b_v.out.at0 b_v.out.lt_size (Nat.le_refl _)
  have c_v1 := b_v.out.at1 b_v.out.lt_size (Nat.le_refl _)
  have c_v2 := b_v.out.at2 b_v.out.lt_size (Nat.le_refl _)
  have c_ab0 := b_ab.out.at0 b_ab.out.lt_size (Nat.le_refl _)
  have c_ab1 := b_ab.out.at1 b_ab.out.lt_size (Nat.le_refl _)
  have c_ab2 := b_ab.out.at2 b_ab.out.lt_size (Nat.le_refl _)
  have hd := Below.drw_ V9
  replace R_a := hide (Rd.then_ R_a.out hd)
  replace R_ad := hide (Rd.then_ R_ad.out hd)
  replace R_d := hide (Rd.then_ R_d.out hd)
  replace R_v := hide (Rd.then_ R_v.out hd)
  replace R_vd := hide (Rd.then_ R_vd.out hd)
  replace R_s := hide (Rd.then_ R_s.out hd)
  replace R_sd := hide (Rd.then_ R_sd.out hd)
  replace R_ab := hide (Rd.then_ R_ab.out hd)
  replace R_abd := hide (Rd.then_ R_abd.out hd)
  have U12 : Below V9.heap.size V9 (V9.drew) := Below.then_ U11 hd
  replace B := hide (Below.then_ B.out hd)
  clear hd
  have tok1 : True := trivial
  go_region_held3 (fun w' => Below V9.heap.size V9 w') (assumption)
    (first
      | (go_at_call 21; (have _t := tok1; (with_reducible refine (unit1_any h9.out fa_u1.out).mono ?_); rintro e w6 ⟨A_u1, c_u1, A_u1d, c_u1d, rfl, R_u1, R_u1d, hb⟩; replace R_a := hide (Rd.then_ R_a.out hb); replace R_ad := hide (Rd.then_ R_ad.out hb); replace R_d := hide (Rd.then_ R_d.out hb); replace R_v := hide (Rd.then_ R_v.out hb); replace R_vd := hide (Rd.then_ R_vd.out hb); replace R_s := hide (Rd.then_ R_s.out hb); replace R_sd := hide (Rd.then_ R_sd.out hb); replace R_ab := hide (Rd.then_ R_ab.out hb); replace R_abd := hide (Rd.then_ R_abd.out hb); have U13 : Below V9.heap.size V9 w6 := Below.then_ U12 hb; replace B := hide (Below.then_ B.out hb); replace R_u1 := hide R_u1; replace R_u1d := hide R_u1d; clear hb; have tok2 : True := trivial; clear _t tok1))
      | (go_at_call 20; (have _t := tok2; (with_reducible refine (pcmp_any R_ab.out bb_ab.out.1 R_abd.out bb_ab.out.2 R_u1.out bb_u1.out.1 R_u1d.out bb_u1.out.2 (Nat.le_refl _) fa_k1.out).mono ?_); rintro e w7 ⟨rfl, hb⟩; replace R_a := hide (Rd.then_ R_a.out hb); replace R_ad := hide (Rd.then_ R_ad.out hb); replace R_d := hide (Rd.then_ R_d.out hb); replace R_v := hide (Rd.then_ R_v.out hb); replace R_vd := hide (Rd.then_ R_vd.out hb); replace R_s := hide (Rd.then_ R_s.out hb); replace R_sd := hide (Rd.then_ R_sd.out hb); replace R_ab := hide (Rd.then_ R_ab.out hb); replace R_abd := hide (Rd.then_ R_abd.out hb); replace R_u1 := hide (Rd.then_ R_u1.out hb); replace R_u1d := hide (Rd.then_ R_u1d.out hb); have U14 : Below V9.heap.size V9 w7 := Below.then_ U13 hb; replace B := hide (Below.then_ B.out hb); clear hb; have tok3 : True := trivial; clear _t tok2)))
  clear tok3
  go_wp2_with fail
  have hd := Below.drw_ w7
  replace R_a := hide (Rd.then_ R_a.out hd)
  replace R_ad := hide (Rd.then_ R_ad.out hd)
  replace R_d := hide (Rd.then_ R_d.out hd)
  replace R_v := hide (Rd.then_ R_v.out hd)
  replace R_vd := hide (Rd.then_ R_vd.out hd)
  replace R_s := hide (Rd.then_ R_s.out hd)
  replace R_sd := hide (Rd.then_ R_sd.out hd)
  replace R_ab := hide (Rd.then_ R_ab.out hd)
  replace R_abd := hide (Rd.then_ R_abd.out hd)
  replace R_u1 := hide (Rd.then_ R_u1.out hd)
  replace R_u1d := hide (Rd.then_ R_u1d.out hd)
  have U15 : Below V9.heap.size V9 (w7.drew) := Below.then_ U14 hd
  replace B := hide (Below.then_ B.out hd)
  clear hd
  have tok4 : True := trivial
  go_region_held3 (fun w' => Below V9.heap.size V9 w') (assumption)
    (first
      | (go_at_call 18; (have _t := tok4; (with_reducible refine (pabs_any R_v.out (Nat.le_trans bb_v.out.1 (by omega)) R_vd.out (Nat.le_trans bb_v.out.2 (by omega)) (Nat.le_refl _) fa_b1.out).mono ?_); rintro e w8 ⟨A_b1, c_b1, A_b1d, c_b1d, rfl, R_b1, R_b1d, hb⟩; replace R_a := hide (Rd.then_ R_a.out hb); replace R_ad := hide (Rd.then_ R_ad.out hb); replace R_d := hide (Rd.then_ R_d.out hb); replace R_v := hide (Rd.then_ R_v.out hb); replace R_vd := hide (Rd.then_ R_vd.out hb); replace R_s := hide (Rd.then_ R_s.out hb); replace R_sd := hide (Rd.then_ R_sd.out hb); replace R_ab := hide (Rd.then_ R_ab.out hb); replace R_abd := hide (Rd.then_ R_abd.out hb); replace R_u1 := hide (Rd.then_ R_u1.out hb); replace R_u1d := hide (Rd.then_ R_u1d.out hb); have U16 : Below V9.heap.size V9 w8 := Below.then_ U15 hb; replace B := hide (Below.then_ B.out hb); replace R_b1 := hide R_b1; replace R_b1d := hide R_b1d; clear hb; have tok5 : True := trivial; clear _t tok4))
      | (go_at_call 18; (have _t := tok5; (with_reducible refine (pabs_any R_a.out (Nat.le_trans g1.out.1 (by omega)) R_ad.out (Nat.le_trans g1.out.2 (by omega)) (Nat.le_refl _) fa_b2.out).mono ?_); rintro e w9 ⟨A_b2, c_b2, A_b2d, c_b2d, rfl, R_b2, R_b2d, hb⟩; replace R_a := hide (Rd.then_ R_a.out hb); replace R_ad := hide (Rd.then_ R_ad.out hb); replace R_d := hide (Rd.then_ R_d.out hb); replace R_v := hide (Rd.then_ R_v.out hb); replace R_vd := hide (Rd.then_ R_vd.out hb); replace R_s := hide (Rd.then_ R_s.out hb); replace R_sd := hide (Rd.then_ R_sd.out hb); replace R_ab := hide (Rd.then_ R_ab.out hb); replace R_abd := hide (Rd.then_ R_abd.out hb); replace R_u1 := hide (Rd.then_ R_u1.out hb); replace R_u1d := hide (Rd.then_ R_u1d.out hb); replace R_b1 := hide (Rd.then_ R_b1.out hb); replace R_b1d := hide (Rd.then_ R_b1d.out hb); have U17 : Below V9.heap.size V9 w9 := Below.then_ U16 hb; replace B := hide (Below.then_ B.out hb); replace R_b2 := hide R_b2; replace R_b2d := hide R_b2d; clear hb; have tok6 : True := trivial; clear _t tok5))
      | (go_at_call 20; (have _t := tok6; (with_reducible refine (pcmp_any R_b1.out bb_b1.out.1 R_b1d.out bb_b1.out.2 R_b2.out bb_b2.out.1 R_b2d.out bb_b2.out.2 (Nat.le_refl _) fa_k2.out).mono ?_); rintro e w10 ⟨rfl, hb⟩; replace R_a := hide (Rd.then_ R_a.out hb); replace R_ad := hide (Rd.then_ R_ad.out hb); replace R_d := hide (Rd.then_ R_d.out hb); replace R_v := hide (Rd.then_ R_v.out hb); replace R_vd := hide (Rd.then_ R_vd.out hb); replace R_s := hide (Rd.then_ R_s.out hb); replace R_sd := hide (Rd.then_ R_sd.out hb); replace R_ab := hide (Rd.then_ R_ab.out hb); replace R_abd := hide (Rd.then_ R_abd.out hb); replace R_u1 := hide (Rd.then_ R_u1.out hb); replace R_u1d := hide (Rd.then_ R_u1d.out hb); replace R_b1 := hide (Rd.then_ R_b1.out hb); replace R_b1d := hide (Rd.then_ R_b1d.out hb); replace R_b2 := hide (Rd.then_ R_b2.out hb); replace R_b2d := hide (Rd.then_ R_b2d.out hb); have U18 : Below V9.heap.size V9 w10 := Below.then_ U17 hb; replace B := hide (Below.then_ B.out hb); clear hb; have tok7 : True := trivial; clear _t tok6)))
  clear tok7
  go_wp2_with fail
  refine (pcmp_any R_v.out bb_v.out.1 R_vd.out bb_v.out.2 R_a.out g1.out.1 R_ad.out g1.out.2 (Nat.le_refl _) fa_k3.out).mono ?_
  rintro e w11 ⟨rfl, hb⟩
  replace R_a := hide (Rd.then_ R_a.out hb)
  replace R_ad := hide (Rd.then_ R_ad.out hb)
  replace R_d := hide (Rd.then_ R_d.out hb)
  replace R_v := hide (Rd.then_ R_v.out hb)
  replace R_vd := hide (Rd.then_ R_vd.out hb)
  replace R_s := hide (Rd.then_ R_s.out hb)
  replace R_sd := hide (Rd.then_ R_sd.out hb)
  replace R_ab := hide (Rd.then_ R_ab.out hb)
  replace R_abd := hide (Rd.then_ R_abd.out hb)
  replace R_u1 := hide (Rd.then_ R_u1.out hb)
  replace R_u1d := hide (Rd.then_ R_u1d.out hb)
  replace R_b1 := hide (Rd.then_ R_b1.out hb)
  replace R_b1d := hide (Rd.then_ R_b1d.out hb)
  replace R_b2 := hide (Rd.then_ R_b2.out hb)
  replace R_b2d := hide (Rd.then_ R_b2d.out hb)
  have U19 : Below V9.heap.size V9 w11 := Below.then_ U18 hb
  replace B := hide (Below.then_ B.out hb)
  clear hb
  go_wp2_with fail
  refine (awake_any).mono ?_
  rintro e w12 ⟨rfl, hb⟩
  replace R_a := hide (Rd.then_ R_a.out hb)
  replace R_ad := hide (Rd.then_ R_ad.out hb)
  replace R_d := hide (Rd.then_ R_d.out hb)
  replace R_v := hide (Rd.then_ R_v.out hb)
  replace R_vd := hide (Rd.then_ R_vd.out hb)
  replace R_s := hide (Rd.then_ R_s.out hb)
  replace R_sd := hide (Rd.then_ R_sd.out hb)
  replace R_ab := hide (Rd.then_ R_ab.out hb)
  replace R_abd := hide (Rd.then_ R_abd.out hb)
  replace R_u1 := hide (Rd.then_ R_u1.out hb)
  replace R_u1d := hide (Rd.then_ R_u1d.out hb)
  replace R_b1 := hide (Rd.then_ R_b1.out hb)
  replace R_b1d := hide (Rd.then_ R_b1d.out hb)
  replace R_b2 := hide (Rd.then_ R_b2.out hb)
  replace R_b2d := hide (Rd.then_ R_b2d.out hb)
  have U20 : Below V9.heap.size V9 w12 := Below.then_ U19 hb
  replace B := hide (Below.then_ B.out hb)
  clear hb
  go_wp2
  go_ret
  exact ⟨rfl, B.out⟩

set_option maxHeartbeats 4000000 in
theorem near_7 {w : World} {Bd : Nat} {A_a : Option Addr} {n_a c_a : Nat} {x_a : List Nat} {s_a : Bool} {A_ad : Option Addr} {n_ad c_ad : Nat} {x_ad : List Nat} {p : Nat} (h_a : Rd w Bd A_a n_a c_a x_a) (g_a : n_a ≤ 10000000) (h_ad : Rd w Bd A_ad n_ad c_ad x_ad) (g_ad : n_ad ≤ 10000000) (hB : Bd ≤ w.heap.size) (h9 : p ≤ 9) :
    Calls Tryz.prog 4 #[.agg #[.bool s_a, .slice A_a n_a c_a, .slice A_ad n_ad c_ad], .int .i64 (p : Int), .int .i64 7] w (RetB w (.bool true)) := by
  have h1 : (1 : Int) ≤ 7 := by omega
  replace h1 := hide h1
  have h7 : (7 : Int) ≤ 7 := by omega
  replace h7 := hide h7
  obtain ⟨T, e_T⟩ : ∃ new, 10 ^ p = new := ⟨_, rfl⟩
  replace e_T := hide e_T
  have hT : T ≠ 0 := by rw [← e_T.out]; exact ten_ne p
  have lT : T < pw 1 := by rw [← e_T.out]; exact Nat.lt_of_le_of_lt (Nat.pow_le_pow_right (by omega) h9) (by decide)
  obtain ⟨q, e_q⟩ : ∃ new, qv s_a (val x_a) (val x_ad) = new := ⟨_, rfl⟩
  replace e_q := hide e_q
  have s_q := sz_rd h_a h_ad e_q.out g_a g_ad
  obtain ⟨x, e_x⟩ : ∃ new, q * (T : Rat) = new := ⟨_, rfl⟩
  replace e_x := hide e_x
  have s_x : (dig (zmag x.num)).length ≤ 10000001 + 1 ∧ (dig x.den).length ≤ 10000001 + 1 := sz_mul e_x.out s_q (sz_int (z := (T : Int)) lT (by omega))
  obtain ⟨z, e_z⟩ : ∃ new, rnd 7 x = new := ⟨_, rfl⟩
  replace e_z := hide e_z
  have l_z := rnd_len e_z.out s_x
  obtain ⟨v, e_v⟩ : ∃ new, mkRat z T = new := ⟨_, rfl⟩
  replace e_v := hide e_v
  have s_v : (dig (zmag v.num)).length ≤ 10000003 ∧ (dig v.den).length ≤ 10000003 := by rw [← e_v.out]; exact sz_mk l_z (pw_le (by omega) lT) (by omega)
  obtain ⟨s, e_s⟩ : ∃ new, v - q = new := ⟨_, rfl⟩
  replace e_s := hide e_s
  have s_s := sz_sub e_s.out s_v s_q
  obtain ⟨ab, e_ab⟩ : ∃ new, qabs s = new := ⟨_, rfl⟩
  replace e_ab := hide e_ab
  have s_ab := sz_abs e_ab.out s_s
  obtain ⟨u1, e_u1⟩ : ∃ new, mkRat 1 T / mkRat ((1 : Nat) : Int) 1 = new := ⟨_, rfl⟩
  replace e_u1 := hide e_u1
  have s_u1 : (dig (zmag u1.num)).length ≤ 2 ∧ (dig u1.den).length ≤ 2 := sz_div e_u1.out (sz_mk (i := 1) (by decide) lT (by omega)) (sz_mk (i := 1) (by decide) (by decide) (by omega))
  have fa_u1 : mkRat 1 (10 ^ p) / mkRat ((1 : Nat) : Int) 1 = u1 := by rw [e_T.out]; exact e_u1.out
  replace fa_u1 := hide fa_u1
  have bb_u1 : (dig (zmag u1.num)).length ≤ 1000000000 ∧ (dig u1.den).length ≤ 1000000000 := by omega
  replace bb_u1 := hide bb_u1
  obtain ⟨k1, e_k1⟩ : ∃ new, sgn (ab - u1).num = new := ⟨_, rfl⟩
  replace e_k1 := hide e_k1
  have hk1 : decide (0 ≤ k1) = false := decide_eq_false (by rw [← e_k1.out, ← e_ab.out, ← e_s.out, ← e_u1.out]; have := sgn_lt (near_lt hT e_x.out e_z.out e_v.out); omega)
  obtain ⟨b1, e_b1⟩ : ∃ new, qabs v = new := ⟨_, rfl⟩
  replace e_b1 := hide e_b1
  obtain ⟨b2, e_b2⟩ : ∃ new, qabs q = new := ⟨_, rfl⟩
  replace e_b2 := hide e_b2
  have s_b1 := sz_abs e_b1.out s_v
  have s_b2 := sz_abs e_b2.out s_q
  obtain ⟨k2, e_k2⟩ : ∃ new, sgn (b1 - b2).num = new := ⟨_, rfl⟩
  replace e_k2 := hide e_k2
  obtain ⟨k3, e_k3⟩ : ∃ new, sgn (v - q).num = new := ⟨_, rfl⟩
  replace e_k3 := hide e_k3
  have hk3 : decide (0 ≤ k3) = true := decide_eq_true (by rw [← e_k3.out]; exact sgn_ge (near_ceil hT e_x.out e_z.out e_v.out))
  have fa_k3 : sgn (qv (zneg v.num) (val (dig (zmag v.num))) (val (dig v.den)) - qv s_a (val x_a) (val x_ad)).num = k3 := by rw [qv_eta, e_q.out]; exact e_k3.out
  replace fa_k3 := hide fa_k3
  have fa_x : qv s_a (val x_a) (val x_ad) * ((10 ^ p : Nat) : Rat) = x := by rw [e_T.out, e_q.out]; exact e_x.out
  replace fa_x := hide fa_x
  have fa_v : mkRat (iv (zneg z) (val (dig (zmag z)))) (10 ^ p) = v := by rw [ivz, e_T.out]; exact e_v.out
  replace fa_v := hide fa_v
  have fa_s : qv (zneg v.num) (val (dig (zmag v.num))) (val (dig v.den)) - qv s_a (val x_a) (val x_ad) = s := by rw [qv_eta, e_q.out]; exact e_s.out
  replace fa_s := hide fa_s
  have fa_ab : qabs (qv (zneg s.num) (val (dig (zmag s.num))) (val (dig s.den))) = ab := by rw [qv_eta]; exact e_ab.out
  replace fa_ab := hide fa_ab
  have fa_k1 : sgn (qv (zneg ab.num) (val (dig (zmag ab.num))) (val (dig ab.den)) - qv (zneg u1.num) (val (dig (zmag u1.num))) (val (dig u1.den))).num = k1 := by rw [qv_eta, qv_eta]; exact e_k1.out
  replace fa_k1 := hide fa_k1
  have fa_b1 : qabs (qv (zneg v.num) (val (dig (zmag v.num))) (val (dig v.den))) = b1 := by rw [qv_eta]; exact e_b1.out
  replace fa_b1 := hide fa_b1
  have fa_b2 : qabs (qv s_a (val x_a) (val x_ad)) = b2 := by rw [e_q.out]; exact e_b2.out
  replace fa_b2 := hide fa_b2
  have fa_k2 : sgn (qv (zneg b1.num) (val (dig (zmag b1.num))) (val (dig b1.den)) - qv (zneg b2.num) (val (dig (zmag b2.num))) (val (dig b2.den))).num = k2 := by rw [qv_eta, qv_eta]; exact e_k2.out
  replace fa_k2 := hide fa_k2
  have bb_v : (dig (zmag v.num)).length ≤ 1000000000 ∧ (dig v.den).length ≤ 1000000000 := by omega
  replace bb_v := hide bb_v
  have bb_s : (dig (zmag s.num)).length ≤ 1000000000 ∧ (dig s.den).length ≤ 1000000000 := by omega
  replace bb_s := hide bb_s
  have bb_ab : (dig (zmag ab.num)).length ≤ 1000000000 ∧ (dig ab.den).length ≤ 1000000000 := by omega
  replace bb_ab := hide bb_ab
  have bb_b1 : (dig (zmag b1.num)).length ≤ 1000000000 ∧ (dig b1.den).length ≤ 1000000000 := by omega
  replace bb_b1 := hide bb_b1
  have bb_b2 : (dig (zmag b2.num)).length ≤ 1000000000 ∧ (dig b2.den).length ≤ 1000000000 := by omega
  replace bb_b2 := hide bb_b2
  have bb_z : (dig (zmag z)).length ≤ 10000000000 := by have := zl l_z; omega
  replace bb_z := hide bb_z
  have g1 : n_a ≤ 1000000000 ∧ n_ad ≤ 1000000000 := by omega
  replace g1 := hide g1
  have f0 : (0 : Int) ≤ (p : Int) := by omega
  replace f0 := hide f0
  have f9 : (p : Int) ≤ 9 := by omega
  replace f9 := hide f9
  clear hT lT s_q s_x l_z s_v s_s s_ab s_u1 s_b1 s_b2
  replace h9 := hide h9
  obtain ⟨W, hW⟩ : ∃ W, W = (w.alloc (.cells #[.bool s_a, .slice A_a n_a c_a, .slice A_ad n_ad c_ad] 27)) := ⟨_, rfl⟩
  have b_a : Box3 W (w.heap.size) (.bool s_a) (.slice A_a n_a c_a) (.slice A_ad n_ad c_ad) := by rw [hW]; exact (Box3.new w _ _ _ rfl)
  have hwW : Below w.heap.size w W := by rw [hW]; exact ((Below.refl _ _).alloc (Nat.le_refl _) _)
  have R_a := hide (Rd.upto h_a hwW hB)
  clear h_a
  have R_ad := hide (Rd.upto h_ad hwW hB)
  clear h_ad
  have B := hide hwW
  clear hwW
  clear hB
  have U0 : Below W.heap.size W W := Below.refl _ _
  have c_a0 := b_a.at0 b_a.lt_size (Nat.le_refl _)
  have c_a1 := b_a.at1 b_a.lt_size (Nat.le_refl _)
  have c_a2 := b_a.at2 b_a.lt_size (Nat.le_refl _)
  replace b_a := hide b_a
  go_enter Tryz.func4, Tryz.ntmps4
  go_wp2_with fail
  rw [← hW]
  clear hW
  refine (pround_any R_a.out g1.out.1 R_ad.out g1.out.2 (Nat.le_refl _) h9.out h1.out h7.out fa_x.out e_z.out).mono ?_
  rintro e w1 ⟨A_d, c_d, rfl, R_d, hb⟩
  replace R_a := hide (Rd.then_ R_a.out hb)
  replace R_ad := hide (Rd.then_ R_ad.out hb)
  have U1 : Below W.heap.size W w1 := Below.then_ U0 hb
  replace B := hide (Below.then_ B.out hb)
  replace R_d := hide R_d
  clear hb
  have hbx : Below w1.heap.size w1 (w1.alloc (.cells #[.bool (zneg z), .slice A_d (dig (zmag z)).length c_d, .int .i64 (p : Int)] 29)) := ((Below.refl _ _).alloc (Nat.le_refl _) _)
  have Ux := Below.then_ U1 hbx
  go_wp2_with fail
  obtain ⟨V1, hV⟩ : ∃ V, V = (w1.alloc (.cells #[.bool (zneg z), .slice A_d (dig (zmag z)).length c_d, .int .i64 (p : Int)] 29)) := ⟨_, rfl⟩
  obtain ⟨g_d, hg_d⟩ : ∃ g, g = w1.heap.size := ⟨_, rfl⟩
  rw [← hV]
  rw [← hV] at hbx Ux
  rw [← hg_d]
  have b_d : BoxD V1 g_d (.bool (zneg z)) (.slice A_d (dig (zmag z)).length c_d) (.int .i64 (p : Int)) := by rw [hV]; exact (BoxD.new _ _ _ _ hg_d)
  clear hV
  have ne_a_d : w.heap.size ≠ g_d := by have := (b_a.out.lt b_a.out.lt_size (Nat.le_refl _)) _ U1; omega
  replace ne_a_d := hide ne_a_d
  have ge_d : w.heap.size ≤ g_d := by have := B.out.size; omega
  replace ge_d := hide ge_d
  clear hg_d
  replace R_a := hide (Rd.then_ R_a.out hbx)
  replace R_ad := hide (Rd.then_ R_ad.out hbx)
  replace R_d := hide (Rd.then_ R_d.out hbx)
  have U2 : Below W.heap.size W V1 := Below.then_ U1 hbx
  replace B := hide (Below.then_ B.out hbx)
  clear hbx
  replace b_a := hide (Box3.keep b_a.out U2)
  clear c_a0 c_a1 c_a2
  replace b_d := hide b_d
  have U3 : Below V1.heap.size V1 V1 := Below.refl _ _
  have c_a0 := b_a.out.at0 b_a.out.lt_size (Nat.le_refl _)
  have c_a1 := b_a.out.at1 b_a.out.lt_size (Nat.le_refl _)
  have c_a2 := b_a.out.at2 b_a.out.lt_size (Nat.le_refl _)
  have c_d0 := b_d.out.at0 b_d.out.lt_size (Nat.le_refl _)
  have c_d1 := b_d.out.at1 b_d.out.lt_size (Nat.le_refl _)
  have c_d2 := b_d.out.at2 b_d.out.lt_size (Nat.le_refl _)
  refine (pvalue_ok R_d.out bb_z.out (Nat.le_refl _) rfl h9.out fa_v.out).mono ?_
  rintro e w2 ⟨A_v, c_v, A_vd, c_vd, rfl, R_v, R_vd, hb⟩
  replace R_a := hide (Rd.then_ R_a.out hb)
  replace R_ad := hide (Rd.then_ R_ad.out hb)
  replace R_d := hide (Rd.then_ R_d.out hb)
  have U4 : Below V1.heap.size V1 w2 := Below.then_ U3 hb
  replace B := hide (Below.then_ B.out hb)
  replace R_v := hide R_v
  replace R_vd := hide R_vd
  clear hb
  have hbx : Below w2.heap.size w2 (w2.alloc (.cells #[.bool (zneg v.num), .slice A_v (dig (zmag v.num)).length c_v, .slice A_vd (dig v.den).length c_vd] 27)) := ((Below.refl _ _).alloc (Nat.le_refl _) _)
  have Ux := Below.then_ U4 hbx
  go_wp2_with fail
  obtain ⟨V4, hV⟩ : ∃ V, V = (w2.alloc (.cells #[.bool (zneg v.num), .slice A_v (dig (zmag v.num)).length c_v, .slice A_vd (dig v.den).length c_vd] 27)) := ⟨_, rfl⟩
  obtain ⟨g_v, hg_v⟩ : ∃ g, g = w2.heap.size := ⟨_, rfl⟩
  rw [← hV]
  rw [← hV] at hbx Ux
  rw [← hg_v]
  have b_v : Box3 V4 g_v (.bool (zneg v.num)) (.slice A_v (dig (zmag v.num)).length c_v) (.slice A_vd (dig v.den).length c_vd) := by rw [hV]; exact (Box3.new _ _ _ _ hg_v)
  clear hV
  have ne_a_v : w.heap.size ≠ g_v := by have := (b_a.out.lt b_a.out.lt_size (Nat.le_refl _)) _ U4; omega
  replace ne_a_v := hide ne_a_v
  have ne_d_v : g_d ≠ g_v := by have := (b_d.out.lt b_d.out.lt_size (Nat.le_refl _)) _ U4; omega
  replace ne_d_v := hide ne_d_v
  have ge_v : w.heap.size ≤ g_v := by have := B.out.size; omega
  replace ge_v := hide ge_v
  clear hg_v
  replace R_a := hide (Rd.then_ R_a.out hbx)
  replace R_ad := hide (Rd.then_ R_ad.out hbx)
  replace R_d := hide (Rd.then_ R_d.out hbx)
  replace R_v := hide (Rd.then_ R_v.out hbx)
  replace R_vd := hide (Rd.then_ R_vd.out hbx)
  have U5 : Below V1.heap.size V1 V4 := Below.then_ U4 hbx
  replace B := hide (Below.then_ B.out hbx)
  clear hbx
  replace b_a := hide (Box3.keep b_a.out U5)
  clear c_a0 c_a1 c_a2
  replace b_d := hide (BoxD.keep b_d.out U5)
  clear c_d0 c_d1 c_d2
  replace b_v := hide b_v
  have U6 : Below V4.heap.size V4 V4 := Below.refl _ _
  have c_a0 := b_a.out.at0 b_a.out.lt_size (Nat.le_refl _)
  have c_a1 := b_a.out.at1 b_a.out.lt_size (Nat.le_refl _)
  have c_a2 := b_a.out.at2 b_a.out.lt_size (Nat.le_refl _)
  have c_d0 := b_d.out.at0 b_d.out.lt_size (Nat.le_refl _)
  have c_d1 := b_d.out.at1 b_d.out.lt_size (Nat.le_refl _)
  have c_d2 := b_d.out.at2 b_d.out.lt_size (Nat.le_refl _)
  have c_v0 := b_v.out.at0 b_v.out.lt_size (Nat.le_refl _)
  have c_v1 := b_v.out.at1 b_v.out.lt_size (Nat.le_refl _)
  have c_v2 := b_v.out.at2 b_v.out.lt_size (Nat.le_refl _)
  refine (valid_yes f0.out f9.out h1.out h7.out).mono ?_
  rintro e w3 ⟨rfl, hb⟩
  replace R_a := hide (Rd.then_ R_a.out hb)
  replace R_ad := hide (Rd.then_ R_ad.out hb)
  replace R_d := hide (Rd.then_ R_d.out hb)
  replace R_v := hide (Rd.then_ R_v.out hb)
  replace R_vd := hide (Rd.then_ R_vd.out hb)
  have U7 : Below V4.heap.size V4 w3 := Below.then_ U6 hb
  replace B := hide (Below.then_ B.out hb)
  clear hb
  go_wp2_with fail
  refine (psub_any R_v.out bb_v.out.1 R_vd.out bb_v.out.2 R_a.out g1.out.1 R_ad.out g1.out.2 (Nat.le_refl _) fa_s.out).mono ?_
  rintro e w4 ⟨A_s, c_s, A_sd, c_sd, rfl, R_s, R_sd, hb⟩
  replace R_a := hide (Rd.then_ R_a.out hb)
  replace R_ad := hide (Rd.then_ R_ad.out hb)
  replace R_d := hide (Rd.then_ R_d.out hb)
  replace R_v := hide (Rd.then_ R_v.out hb)
  replace R_vd := hide (Rd.then_ R_vd.out hb)
  have U8 : Below V4.heap.size V4 w4 := Below.then_ U7 hb
  replace B := hide (Below.then_ B.out hb)
  replace R_s := hide R_s
  replace R_sd := hide R_sd
  clear hb
  go_wp2_with fail
  refine (pabs_any R_s.out (Nat.le_trans bb_s.out.1 (by omega)) R_sd.out (Nat.le_trans bb_s.out.2 (by omega)) (Nat.le_refl _) fa_ab.out).mono ?_
  rintro e w5 ⟨A_ab, c_ab, A_abd, c_abd, rfl, R_ab, R_abd, hb⟩
  replace R_a := hide (Rd.then_ R_a.out hb)
  replace R_ad := hide (Rd.then_ R_ad.out hb)
  replace R_d := hide (Rd.then_ R_d.out hb)
  replace R_v := hide (Rd.then_ R_v.out hb)
  replace R_vd := hide (Rd.then_ R_vd.out hb)
  replace R_s := hide (Rd.then_ R_s.out hb)
  replace R_sd := hide (Rd.then_ R_sd.out hb)
  have U9 : Below V4.heap.size V4 w5 := Below.then_ U8 hb
  replace B := hide (Below.then_ B.out hb)
  replace R_ab := hide R_ab
  replace R_abd := hide R_abd
  clear hb
  have hbx : Below w5.heap.size w5 (w5.alloc (.cells #[.bool (zneg ab.num), .slice A_ab (dig (zmag ab.num)).length c_ab, .slice A_abd (dig ab.den).length c_abd] 27)) := ((Below.refl _ _).alloc (Nat.le_refl _) _)
  have Ux := Below.then_ U9 hbx
  go_wp2_with fail
  obtain ⟨V9, hV⟩ : ∃ V, V = (w5.alloc (.cells #[.bool (zneg ab.num), .slice A_ab (dig (zmag ab.num)).length c_ab, .slice A_abd (dig ab.den).length c_abd] 27)) := ⟨_, rfl⟩
  obtain ⟨g_ab, hg_ab⟩ : ∃ g, g = w5.heap.size := ⟨_, rfl⟩
  rw [← hV]
  rw [← hV] at hbx Ux
  rw [← hg_ab]
  have b_ab : Box3 V9 g_ab (.bool (zneg ab.num)) (.slice A_ab (dig (zmag ab.num)).length c_ab) (.slice A_abd (dig ab.den).length c_abd) := by rw [hV]; exact (Box3.new _ _ _ _ hg_ab)
  clear hV
  have ne_a_ab : w.heap.size ≠ g_ab := by have := (b_a.out.lt b_a.out.lt_size (Nat.le_refl _)) _ U9; omega
  replace ne_a_ab := hide ne_a_ab
  have ne_d_ab : g_d ≠ g_ab := by have := (b_d.out.lt b_d.out.lt_size (Nat.le_refl _)) _ U9; omega
  replace ne_d_ab := hide ne_d_ab
  have ne_v_ab : g_v ≠ g_ab := by have := (b_v.out.lt b_v.out.lt_size (Nat.le_refl _)) _ U9; omega
  replace ne_v_ab := hide ne_v_ab
  have ge_ab : w.heap.size ≤ g_ab := by have := B.out.size; omega
  replace ge_ab := hide ge_ab
  clear hg_ab
  replace R_a := hide (Rd.then_ R_a.out hbx)
  replace R_ad := hide (Rd.then_ R_ad.out hbx)
  replace R_d := hide (Rd.then_ R_d.out hbx)
  replace R_v := hide (Rd.then_ R_v.out hbx)
  replace R_vd := hide (Rd.then_ R_vd.out hbx)
  replace R_s := hide (Rd.then_ R_s.out hbx)
  replace R_sd := hide (Rd.then_ R_sd.out hbx)
  replace R_ab := hide (Rd.then_ R_ab.out hbx)
  replace R_abd := hide (Rd.then_ R_abd.out hbx)
  have U10 : Below V4.heap.size V4 V9 := Below.then_ U9 hbx
  replace B := hide (Below.then_ B.out hbx)
  clear hbx
  replace b_a := hide (Box3.keep b_a.out U10)
  clear c_a0 c_a1 c_a2
  replace b_d := hide (BoxD.keep b_d.out U10)
  clear c_d0 c_d1 c_d2
  replace b_v := hide (Box3.keep b_v.out U10)
  clear c_v0 c_v1 c_v2
  replace b_ab := hide b_ab
  have U11 : Below V9.heap.size V9 V9 := Below.refl _ _
  have c_a0 := b_a.out.at0 b_a.out.lt_size (Nat.le_refl _)
  have c_a1 := b_a.out.at1 b_a.out.lt_size (Nat.le_refl _)
  have c_a2 := b_a.out.at2 b_a.out.lt_size (Nat.le_refl _)
  have c_d0 := b_d.out.at0 b_d.out.lt_size (Nat.le_refl _)
  have c_d1 := b_d.out.at1 b_d.out.lt_size (Nat.le_refl _)
  have c_d2 := b_d.out.at2 b_d.out.lt_size (Nat.le_refl _)
  have c_v0 := b_v.out.at0 b_v.out.lt_size (Nat.le_refl _)
  have c_v1 := b_v.out.at1 b_v.out.lt_size (Nat.le_refl _)
  have c_v2 := b_v.out.at2 b_v.out.lt_size (Nat.le_refl _)
  have c_ab0 := b_ab.out.at0 b_ab.out.lt_size (Nat.le_refl _)
  have c_ab1 := b_ab.out.at1 b_ab.out.lt_size (Nat.le_refl _)
  have c_ab2 := b_ab.out.at2 b_ab.out.lt_size (Nat.le_refl _)
  have hd := Below.drw_ V9
  replace R_a := hide (Rd.then_ R_a.out hd)
  replace R_ad := hide (Rd.then_ R_ad.out hd)
  replace R_d := hide (Rd.then_ R_d.out hd)
  replace R_v := hide (Rd.then_ R_v.out hd)
  replace R_vd := hide (Rd.then_ R_vd.out hd)
  replace R_s := hide (Rd.then_ R_s.out hd)
  replace R_sd := hide (Rd.then_ R_sd.out hd)
  replace R_ab := hide (Rd.then_ R_ab.out hd)
  replace R_abd := hide (Rd.then_ R_abd.out hd)
  have U12 : Below V9.heap.size V9 (V9.drew) := Below.then_ U11 hd
  replace B := hide (Below.then_ B.out hd)
  clear hd
  have tok1 : True := trivial
  go_region_held3 (fun w' => Below V9.heap.size V9 w') (assumption)
    (first
      | (go_at_call 21; (have _t := tok1; (with_reducible refine (unit1_any h9.out fa_u1.out).mono ?_); rintro e w6 ⟨A_u1, c_u1, A_u1d, c_u1d, rfl, R_u1, R_u1d, hb⟩; replace R_a := hide (Rd.then_ R_a.out hb); replace R_ad := hide (Rd.then_ R_ad.out hb); replace R_d := hide (Rd.then_ R_d.out hb); replace R_v := hide (Rd.then_ R_v.out hb); replace R_vd := hide (Rd.then_ R_vd.out hb); replace R_s := hide (Rd.then_ R_s.out hb); replace R_sd := hide (Rd.then_ R_sd.out hb); replace R_ab := hide (Rd.then_ R_ab.out hb); replace R_abd := hide (Rd.then_ R_abd.out hb); have U13 : Below V9.heap.size V9 w6 := Below.then_ U12 hb; replace B := hide (Below.then_ B.out hb); replace R_u1 := hide R_u1; replace R_u1d := hide R_u1d; clear hb; have tok2 : True := trivial; clear _t tok1))
      | (go_at_call 20; (have _t := tok2; (with_reducible refine (pcmp_any R_ab.out bb_ab.out.1 R_abd.out bb_ab.out.2 R_u1.out bb_u1.out.1 R_u1d.out bb_u1.out.2 (Nat.le_refl _) fa_k1.out).mono ?_); rintro e w7 ⟨rfl, hb⟩; replace R_a := hide (Rd.then_ R_a.out hb); replace R_ad := hide (Rd.then_ R_ad.out hb); replace R_d := hide (Rd.then_ R_d.out hb); replace R_v := hide (Rd.then_ R_v.out hb); replace R_vd := hide (Rd.then_ R_vd.out hb); replace R_s := hide (Rd.then_ R_s.out hb); replace R_sd := hide (Rd.then_ R_sd.out hb); replace R_ab := hide (Rd.then_ R_ab.out hb); replace R_abd := hide (Rd.then_ R_abd.out hb); replace R_u1 := hide (Rd.then_ R_u1.out hb); replace R_u1d := hide (Rd.then_ R_u1d.out hb); have U14 : Below V9.heap.size V9 w7 := Below.then_ U13 hb; replace B := hide (Below.then_ B.out hb); clear hb; have tok3 : True := trivial; clear _t tok2)))
  clear tok3
  go_wp2_with fail
  have hd := Below.drw_ w7
  replace R_a := hide (Rd.then_ R_a.out hd)
  replace R_ad := hide (Rd.then_ R_ad.out hd)
  replace R_d := hide (Rd.then_ R_d.out hd)
  replace R_v := hide (Rd.then_ R_v.out hd)
  replace R_vd := hide (Rd.then_ R_vd.out hd)
  replace R_s := hide (Rd.then_ R_s.out hd)
  replace R_sd := hide (Rd.then_ R_sd.out hd)
  replace R_ab := hide (Rd.then_ R_ab.out hd)
  replace R_abd := hide (Rd.then_ R_abd.out hd)
  replace R_u1 := hide (Rd.then_ R_u1.out hd)
  replace R_u1d := hide (Rd.then_ R_u1d.out hd)
  have U15 : Below V9.heap.size V9 (w7.drew) := Below.then_ U14 hd
  replace B := hide (Below.then_ B.out hd)
  clear hd
  have tok4 : True := trivial
  go_region_held3 (fun w' => Below V9.heap.size V9 w') (assumption)
    (first
      | (go_at_call 18; (have _t := tok4; (with_reducible refine (pabs_any R_v.out (Nat.le_trans bb_v.out.1 (by omega)) R_vd.out (Nat.le_trans bb_v.out.2 (by omega)) (Nat.le_refl _) fa_b1.out).mono ?_); rintro e w8 ⟨A_b1, c_b1, A_b1d, c_b1d, rfl, R_b1, R_b1d, hb⟩; replace R_a := hide (Rd.then_ R_a.out hb); replace R_ad := hide (Rd.then_ R_ad.out hb); replace R_d := hide (Rd.then_ R_d.out hb); replace R_v := hide (Rd.then_ R_v.out hb); replace R_vd := hide (Rd.then_ R_vd.out hb); replace R_s := hide (Rd.then_ R_s.out hb); replace R_sd := hide (Rd.then_ R_sd.out hb); replace R_ab := hide (Rd.then_ R_ab.out hb); replace R_abd := hide (Rd.then_ R_abd.out hb); replace R_u1 := hide (Rd.then_ R_u1.out hb); replace R_u1d := hide (Rd.then_ R_u1d.out hb); have U16 : Below V9.heap.size V9 w8 := Below.then_ U15 hb; replace B := hide (Below.then_ B.out hb); replace R_b1 := hide R_b1; replace R_b1d := hide R_b1d; clear hb; have tok5 : True := trivial; clear _t tok4))
      | (go_at_call 18; (have _t := tok5; (with_reducible refine (pabs_any R_a.out (Nat.le_trans g1.out.1 (by omega)) R_ad.out (Nat.le_trans g1.out.2 (by omega)) (Nat.le_refl _) fa_b2.out).mono ?_); rintro e w9 ⟨A_b2, c_b2, A_b2d, c_b2d, rfl, R_b2, R_b2d, hb⟩; replace R_a := hide (Rd.then_ R_a.out hb); replace R_ad := hide (Rd.then_ R_ad.out hb); replace R_d := hide (Rd.then_ R_d.out hb); replace R_v := hide (Rd.then_ R_v.out hb); replace R_vd := hide (Rd.then_ R_vd.out hb); replace R_s := hide (Rd.then_ R_s.out hb); replace R_sd := hide (Rd.then_ R_sd.out hb); replace R_ab := hide (Rd.then_ R_ab.out hb); replace R_abd := hide (Rd.then_ R_abd.out hb); replace R_u1 := hide (Rd.then_ R_u1.out hb); replace R_u1d := hide (Rd.then_ R_u1d.out hb); replace R_b1 := hide (Rd.then_ R_b1.out hb); replace R_b1d := hide (Rd.then_ R_b1d.out hb); have U17 : Below V9.heap.size V9 w9 := Below.then_ U16 hb; replace B := hide (Below.then_ B.out hb); replace R_b2 := hide R_b2; replace R_b2d := hide R_b2d; clear hb; have tok6 : True := trivial; clear _t tok5))
      | (go_at_call 20; (have _t := tok6; (with_reducible refine (pcmp_any R_b1.out bb_b1.out.1 R_b1d.out bb_b1.out.2 R_b2.out bb_b2.out.1 R_b2d.out bb_b2.out.2 (Nat.le_refl _) fa_k2.out).mono ?_); rintro e w10 ⟨rfl, hb⟩; replace R_a := hide (Rd.then_ R_a.out hb); replace R_ad := hide (Rd.then_ R_ad.out hb); replace R_d := hide (Rd.then_ R_d.out hb); replace R_v := hide (Rd.then_ R_v.out hb); replace R_vd := hide (Rd.then_ R_vd.out hb); replace R_s := hide (Rd.then_ R_s.out hb); replace R_sd := hide (Rd.then_ R_sd.out hb); replace R_ab := hide (Rd.then_ R_ab.out hb); replace R_abd := hide (Rd.then_ R_abd.out hb); replace R_u1 := hide (Rd.then_ R_u1.out hb); replace R_u1d := hide (Rd.then_ R_u1d.out hb); replace R_b1 := hide (Rd.then_ R_b1.out hb); replace R_b1d := hide (Rd.then_ R_b1d.out hb); replace R_b2 := hide (Rd.then_ R_b2.out hb); replace R_b2d := hide (Rd.then_ R_b2d.out hb); have U18 : Below V9.heap.size V9 w10 := Below.then_ U17 hb; replace B := hide (Below.then_ B.out hb); clear hb; have tok7 : True := trivial; clear _t tok6)))
  clear tok7
  go_wp2_with fail
  refine (pcmp_any R_v.out bb_v.out.1 R_vd.out bb_v.out.2 R_a.out g1.out.1 R_ad.out g1.out.2 (Nat.le_refl _) fa_k3.out).mono ?_
  rintro e w11 ⟨rfl, hb⟩
  replace R_a := hide (Rd.then_ R_a.out hb)
  replace R_ad := hide (Rd.then_ R_ad.out hb)
  replace R_d := hide (Rd.then_ R_d.out hb)
  replace R_v := hide (Rd.then_ R_v.out hb)
  replace R_vd := hide (Rd.then_ R_vd.out hb)
  replace R_s := hide (Rd.then_ R_s.out hb)
  replace R_sd := hide (Rd.then_ R_sd.out hb)
  replace R_ab := hide (Rd.then_ R_ab.out hb)
  replace R_abd := hide (Rd.then_ R_abd.out hb)
  replace R_u1 := hide (Rd.then_ R_u1.out hb)
  replace R_u1d := hide (Rd.then_ R_u1d.out hb)
  replace R_b1 := hide (Rd.then_ R_b1.out hb)
  replace R_b1d := hide (Rd.then_ R_b1d.out hb)
  replace R_b2 := hide (Rd.then_ R_b2.out hb)
  replace R_b2d := hide (Rd.then_ R_b2d.out hb)
  have U19 : Below V9.heap.size V9 w11 := Below.then_ U18 hb
  replace B := hide (Below.then_ B.out hb)
  clear hb
  go_wp2_with fail
  refine (awake_any).mono ?_
  rintro e w12 ⟨rfl, hb⟩
  replace R_a := hide (Rd.then_ R_a.out hb)
  replace R_ad := hide (Rd.then_ R_ad.out hb)
  replace R_d := hide (Rd.then_ R_d.out hb)
  replace R_v := hide (Rd.then_ R_v.out hb)
  replace R_vd := hide (Rd.then_ R_vd.out hb)
  replace R_s := hide (Rd.then_ R_s.out hb)
  replace R_sd := hide (Rd.then_ R_sd.out hb)
  replace R_ab := hide (Rd.then_ R_ab.out hb)
  replace R_abd := hide (Rd.then_ R_abd.out hb)
  replace R_u1 := hide (Rd.then_ R_u1.out hb)
  replace R_u1d := hide (Rd.then_ R_u1d.out hb)
  replace R_b1 := hide (Rd.then_ R_b1.out hb)
  replace R_b1d := hide (Rd.then_ R_b1d.out hb)
  replace R_b2 := hide (Rd.then_ R_b2.out hb)
  replace R_b2d := hide (Rd.then_ R_b2d.out hb)
  have U20 : Below V9.heap.size V9 w12 := Below.then_ U19 hb
  replace B := hide (Below.then_ B.out hb)
  clear hb
  go_wp2
  go_ret
  exact ⟨rfl, B.out⟩

set_option maxHeartbeats 4000000 in
theorem near_5 {w : World} {Bd : Nat} {A_a : Option Addr} {n_a c_a : Nat} {x_a : List Nat} {s_a : Bool} {A_ad : Option Addr} {n_ad c_ad : Nat} {x_ad : List Nat} {p : Nat} (h_a : Rd w Bd A_a n_a c_a x_a) (g_a : n_a ≤ 10000000) (h_ad : Rd w Bd A_ad n_ad c_ad x_ad) (g_ad : n_ad ≤ 10000000) (hB : Bd ≤ w.heap.size) (h9 : p ≤ 9) :
    Calls Tryz.prog 4 #[.agg #[.bool s_a, .slice A_a n_a c_a, .slice A_ad n_ad c_ad], .int .i64 (p : Int), .int .i64 5] w (RetB w (.bool true)) := by
  have h1 : (1 : Int) ≤ 5 := by omega
  replace h1 := hide h1
  have h7 : (5 : Int) ≤ 7 := by omega
  replace h7 := hide h7
  obtain ⟨T, e_T⟩ : ∃ new, 10 ^ p = new := ⟨_, rfl⟩
  replace e_T := hide e_T
  have hT : T ≠ 0 := by rw [← e_T.out]; exact ten_ne p
  have lT : T < pw 1 := by rw [← e_T.out]; exact Nat.lt_of_le_of_lt (Nat.pow_le_pow_right (by omega) h9) (by decide)
  obtain ⟨q, e_q⟩ : ∃ new, qv s_a (val x_a) (val x_ad) = new := ⟨_, rfl⟩
  replace e_q := hide e_q
  have s_q := sz_rd h_a h_ad e_q.out g_a g_ad
  obtain ⟨x, e_x⟩ : ∃ new, q * (T : Rat) = new := ⟨_, rfl⟩
  replace e_x := hide e_x
  have s_x : (dig (zmag x.num)).length ≤ 10000001 + 1 ∧ (dig x.den).length ≤ 10000001 + 1 := sz_mul e_x.out s_q (sz_int (z := (T : Int)) lT (by omega))
  obtain ⟨z, e_z⟩ : ∃ new, rnd 5 x = new := ⟨_, rfl⟩
  replace e_z := hide e_z
  have l_z := rnd_len e_z.out s_x
  obtain ⟨v, e_v⟩ : ∃ new, mkRat z T = new := ⟨_, rfl⟩
  replace e_v := hide e_v
  have s_v : (dig (zmag v.num)).length ≤ 10000003 ∧ (dig v.den).length ≤ 10000003 := by rw [← e_v.out]; exact sz_mk l_z (pw_le (by omega) lT) (by omega)
  obtain ⟨s, e_s⟩ : ∃ new, v - q = new := ⟨_, rfl⟩
  replace e_s := hide e_s
  have s_s := sz_sub e_s.out s_v s_q
  obtain ⟨ab, e_ab⟩ : ∃ new, qabs s = new := ⟨_, rfl⟩
  replace e_ab := hide e_ab
  have s_ab := sz_abs e_ab.out s_s
  obtain ⟨u1, e_u1⟩ : ∃ new, mkRat 1 T / mkRat ((1 : Nat) : Int) 1 = new := ⟨_, rfl⟩
  replace e_u1 := hide e_u1
  have s_u1 : (dig (zmag u1.num)).length ≤ 2 ∧ (dig u1.den).length ≤ 2 := sz_div e_u1.out (sz_mk (i := 1) (by decide) lT (by omega)) (sz_mk (i := 1) (by decide) (by decide) (by omega))
  have fa_u1 : mkRat 1 (10 ^ p) / mkRat ((1 : Nat) : Int) 1 = u1 := by rw [e_T.out]; exact e_u1.out
  replace fa_u1 := hide fa_u1
  have bb_u1 : (dig (zmag u1.num)).length ≤ 1000000000 ∧ (dig u1.den).length ≤ 1000000000 := by omega
  replace bb_u1 := hide bb_u1
  obtain ⟨k1, e_k1⟩ : ∃ new, sgn (ab - u1).num = new := ⟨_, rfl⟩
  replace e_k1 := hide e_k1
  have hk1 : decide (0 ≤ k1) = false := decide_eq_false (by rw [← e_k1.out, ← e_ab.out, ← e_s.out, ← e_u1.out]; have := sgn_lt (near_lt hT e_x.out e_z.out e_v.out); omega)
  obtain ⟨b1, e_b1⟩ : ∃ new, qabs v = new := ⟨_, rfl⟩
  replace e_b1 := hide e_b1
  obtain ⟨b2, e_b2⟩ : ∃ new, qabs q = new := ⟨_, rfl⟩
  replace e_b2 := hide e_b2
  have s_b1 := sz_abs e_b1.out s_v
  have s_b2 := sz_abs e_b2.out s_q
  obtain ⟨k2, e_k2⟩ : ∃ new, sgn (b1 - b2).num = new := ⟨_, rfl⟩
  replace e_k2 := hide e_k2
  have hk2 : decide (k2 ≤ 0) = true := decide_eq_true (by rw [← e_k2.out, ← e_b1.out, ← e_b2.out]; exact sgn_le (near_toward hT e_x.out e_z.out e_v.out))
  have fa_x : qv s_a (val x_a) (val x_ad) * ((10 ^ p : Nat) : Rat) = x := by rw [e_T.out, e_q.out]; exact e_x.out
  replace fa_x := hide fa_x
  have fa_v : mkRat (iv (zneg z) (val (dig (zmag z)))) (10 ^ p) = v := by rw [ivz, e_T.out]; exact e_v.out
  replace fa_v := hide fa_v
  have fa_s : qv (zneg v.num) (val (dig (zmag v.num))) (val (dig v.den)) - qv s_a (val x_a) (val x_ad) = s := by rw [qv_eta, e_q.out]; exact e_s.out
  replace fa_s := hide fa_s
  have fa_ab : qabs (qv (zneg s.num) (val (dig (zmag s.num))) (val (dig s.den))) = ab := by rw [qv_eta]; exact e_ab.out
  replace fa_ab := hide fa_ab
  have fa_k1 : sgn (qv (zneg ab.num) (val (dig (zmag ab.num))) (val (dig ab.den)) - qv (zneg u1.num) (val (dig (zmag u1.num))) (val (dig u1.den))).num = k1 := by rw [qv_eta, qv_eta]; exact e_k1.out
  replace fa_k1 := hide fa_k1
  have fa_b1 : qabs (qv (zneg v.num) (val (dig (zmag v.num))) (val (dig v.den))) = b1 := by rw [qv_eta]; exact e_b1.out
  replace fa_b1 := hide fa_b1
  have fa_b2 : qabs (qv s_a (val x_a) (val x_ad)) = b2 := by rw [e_q.out]; exact e_b2.out
  replace fa_b2 := hide fa_b2
  have fa_k2 : sgn (qv (zneg b1.num) (val (dig (zmag b1.num))) (val (dig b1.den)) - qv (zneg b2.num) (val (dig (zmag b2.num))) (val (dig b2.den))).num = k2 := by rw [qv_eta, qv_eta]; exact e_k2.out
  replace fa_k2 := hide fa_k2
  have bb_v : (dig (zmag v.num)).length ≤ 1000000000 ∧ (dig v.den).length ≤ 1000000000 := by omega
  replace bb_v := hide bb_v
  have bb_s : (dig (zmag s.num)).length ≤ 1000000000 ∧ (dig s.den).length ≤ 1000000000 := by omega
  replace bb_s := hide bb_s
  have bb_ab : (dig (zmag ab.num)).length ≤ 1000000000 ∧ (dig ab.den).length ≤ 1000000000 := by omega
  replace bb_ab := hide bb_ab
  have bb_b1 : (dig (zmag b1.num)).length ≤ 1000000000 ∧ (dig b1.den).length ≤ 1000000000 := by omega
  replace bb_b1 := hide bb_b1
  have bb_b2 : (dig (zmag b2.num)).length ≤ 1000000000 ∧ (dig b2.den).length ≤ 1000000000 := by omega
  replace bb_b2 := hide bb_b2
  have bb_z : (dig (zmag z)).length ≤ 10000000000 := by have := zl l_z; omega
  replace bb_z := hide bb_z
  have g1 : n_a ≤ 1000000000 ∧ n_ad ≤ 1000000000 := by omega
  replace g1 := hide g1
  have f0 : (0 : Int) ≤ (p : Int) := by omega
  replace f0 := hide f0
  have f9 : (p : Int) ≤ 9 := by omega
  replace f9 := hide f9
  clear hT lT s_q s_x l_z s_v s_s s_ab s_u1 s_b1 s_b2
  replace h9 := hide h9
  obtain ⟨W, hW⟩ : ∃ W, W = (w.alloc (.cells #[.bool s_a, .slice A_a n_a c_a, .slice A_ad n_ad c_ad] 27)) := ⟨_, rfl⟩
  have b_a : Box3 W (w.heap.size) (.bool s_a) (.slice A_a n_a c_a) (.slice A_ad n_ad c_ad) := by rw [hW]; exact (Box3.new w _ _ _ rfl)
  have hwW : Below w.heap.size w W := by rw [hW]; exact ((Below.refl _ _).alloc (Nat.le_refl _) _)
  have R_a := hide (Rd.upto h_a hwW hB)
  clear h_a
  have R_ad := hide (Rd.upto h_ad hwW hB)
  clear h_ad
  have B := hide hwW
  clear hwW
  clear hB
  have U0 : Below W.heap.size W W := Below.refl _ _
  have c_a0 := b_a.at0 b_a.lt_size (Nat.le_refl _)
  have c_a1 := b_a.at1 b_a.lt_size (Nat.le_refl _)
  have c_a2 := b_a.at2 b_a.lt_size (Nat.le_refl _)
  replace b_a := hide b_a
  go_enter Tryz.func4, Tryz.ntmps4
  go_wp2_with fail
  rw [← hW]
  clear hW
  refine (pround_any R_a.out g1.out.1 R_ad.out g1.out.2 (Nat.le_refl _) h9.out h1.out h7.out fa_x.out e_z.out).mono ?_
  rintro e w1 ⟨A_d, c_d, rfl, R_d, hb⟩
  replace R_a := hide (Rd.then_ R_a.out hb)
  replace R_ad := hide (Rd.then_ R_ad.out hb)
  have U1 : Below W.heap.size W w1 := Below.then_ U0 hb
  replace B := hide (Below.then_ B.out hb)
  replace R_d := hide R_d
  clear hb
  have hbx : Below w1.heap.size w1 (w1.alloc (.cells #[.bool (zneg z), .slice A_d (dig (zmag z)).length c_d, .int .i64 (p : Int)] 29)) := ((Below.refl _ _).alloc (Nat.le_refl _) _)
  have Ux := Below.then_ U1 hbx
  go_wp2_with fail
  obtain ⟨V1, hV⟩ : ∃ V, V = (w1.alloc (.cells #[.bool (zneg z), .slice A_d (dig (zmag z)).length c_d, .int .i64 (p : Int)] 29)) := ⟨_, rfl⟩
  obtain ⟨g_d, hg_d⟩ : ∃ g, g = w1.heap.size := ⟨_, rfl⟩
  rw [← hV]
  rw [← hV] at hbx Ux
  rw [← hg_d]
  have b_d : BoxD V1 g_d (.bool (zneg z)) (.slice A_d (dig (zmag z)).length c_d) (.int .i64 (p : Int)) := by rw [hV]; exact (BoxD.new _ _ _ _ hg_d)
  clear hV
  have ne_a_d : w.heap.size ≠ g_d := by have := (b_a.out.lt b_a.out.lt_size (Nat.le_refl _)) _ U1; omega
  replace ne_a_d := hide ne_a_d
  have ge_d : w.heap.size ≤ g_d := by have := B.out.size; omega
  replace ge_d := hide ge_d
  clear hg_d
  replace R_a := hide (Rd.then_ R_a.out hbx)
  replace R_ad := hide (Rd.then_ R_ad.out hbx)
  replace R_d := hide (Rd.then_ R_d.out hbx)
  have U2 : Below W.heap.size W V1 := Below.then_ U1 hbx
  replace B := hide (Below.then_ B.out hbx)
  clear hbx
  replace b_a := hide (Box3.keep b_a.out U2)
  clear c_a0 c_a1 c_a2
  replace b_d := hide b_d
  have U3 : Below V1.heap.size V1 V1 := Below.refl _ _
  have c_a0 := b_a.out.at0 b_a.out.lt_size (Nat.le_refl _)
  have c_a1 := b_a.out.at1 b_a.out.lt_size (Nat.le_refl _)
  have c_a2 := b_a.out.at2 b_a.out.lt_size (Nat.le_refl _)
  have c_d0 := b_d.out.at0 b_d.out.lt_size (Nat.le_refl _)
  have c_d1 := b_d.out.at1 b_d.out.lt_size (Nat.le_refl _)
  have c_d2 := b_d.out.at2 b_d.out.lt_size (Nat.le_refl _)
  refine (pvalue_ok R_d.out bb_z.out (Nat.le_refl _) rfl h9.out fa_v.out).mono ?_
  rintro e w2 ⟨A_v, c_v, A_vd, c_vd, rfl, R_v, R_vd, hb⟩
  replace R_a := hide (Rd.then_ R_a.out hb)
  replace R_ad := hide (Rd.then_ R_ad.out hb)
  replace R_d := hide (Rd.then_ R_d.out hb)
  have U4 : Below V1.heap.size V1 w2 := Below.then_ U3 hb
  replace B := hide (Below.then_ B.out hb)
  replace R_v := hide R_v
  replace R_vd := hide R_vd
  clear hb
  have hbx : Below w2.heap.size w2 (w2.alloc (.cells #[.bool (zneg v.num), .slice A_v (dig (zmag v.num)).length c_v, .slice A_vd (dig v.den).length c_vd] 27)) := ((Below.refl _ _).alloc (Nat.le_refl _) _)
  have Ux := Below.then_ U4 hbx
  go_wp2_with fail
  obtain ⟨V4, hV⟩ : ∃ V, V = (w2.alloc (.cells #[.bool (zneg v.num), .slice A_v (dig (zmag v.num)).length c_v, .slice A_vd (dig v.den).length c_vd] 27)) := ⟨_, rfl⟩
  obtain ⟨g_v, hg_v⟩ : ∃ g, g = w2.heap.size := ⟨_, rfl⟩
  rw [← hV]
  rw [← hV] at hbx Ux
  rw [← hg_v]
  have b_v : Box3 V4 g_v (.bool (zneg v.num)) (.slice A_v (dig (zmag v.num)).length c_v) (.slice A_vd (dig v.den).length c_vd) := by rw [hV]; exact (Box3.new _ _ _ _ hg_v)
  clear hV
  have ne_a_v : w.heap.size ≠ g_v := by have := (b_a.out.lt b_a.out.lt_size (Nat.le_refl _)) _ U4; omega
  replace ne_a_v := hide ne_a_v
  have ne_d_v : g_d ≠ g_v := by have := (b_d.out.lt b_d.out.lt_size (Nat.le_refl _)) _ U4; omega
  replace ne_d_v := hide ne_d_v
  have ge_v : w.heap.size ≤ g_v := by have := B.out.size; omega
  replace ge_v := hide ge_v
  clear hg_v
  replace R_a := hide (Rd.then_ R_a.out hbx)
  replace R_ad := hide (Rd.then_ R_ad.out hbx)
  replace R_d := hide (Rd.then_ R_d.out hbx)
  replace R_v := hide (Rd.then_ R_v.out hbx)
  replace R_vd := hide (Rd.then_ R_vd.out hbx)
  have U5 : Below V1.heap.size V1 V4 := Below.then_ U4 hbx
  replace B := hide (Below.then_ B.out hbx)
  clear hbx
  replace b_a := hide (Box3.keep b_a.out U5)
  clear c_a0 c_a1 c_a2
  replace b_d := hide (BoxD.keep b_d.out U5)
  clear c_d0 c_d1 c_d2
  replace b_v := hide b_v
  have U6 : Below V4.heap.size V4 V4 := Below.refl _ _
  have c_a0 := b_a.out.at0 b_a.out.lt_size (Nat.le_refl _)
  have c_a1 := b_a.out.at1 b_a.out.lt_size (Nat.le_refl _)
  have c_a2 := b_a.out.at2 b_a.out.lt_size (Nat.le_refl _)
  have c_d0 := b_d.out.at0 b_d.out.lt_size (Nat.le_refl _)
  have c_d1 := b_d.out.at1 b_d.out.lt_size (Nat.le_refl _)
  have c_d2 := b_d.out.at2 b_d.out.lt_size (Nat.le_refl _)
  have c_v0 := b_v.out.at0 b_v.out.lt_size (Nat.le_refl _)
  have c_v1 := b_v.out.at1 b_v.out.lt_size (Nat.le_refl _)
  have c_v2 := b_v.out.at2 b_v.out.lt_size (Nat.le_refl _)
  refine (valid_yes f0.out f9.out h1.out h7.out).mono ?_
  rintro e w3 ⟨rfl, hb⟩
  replace R_a := hide (Rd.then_ R_a.out hb)
  replace R_ad := hide (Rd.then_ R_ad.out hb)
  replace R_d := hide (Rd.then_ R_d.out hb)
  replace R_v := hide (Rd.then_ R_v.out hb)
  replace R_vd := hide (Rd.then_ R_vd.out hb)
  have U7 : Below V4.heap.size V4 w3 := Below.then_ U6 hb
  replace B := hide (Below.then_ B.out hb)
  clear hb
  go_wp2_with fail
  refine (psub_any R_v.out bb_v.out.1 R_vd.out bb_v.out.2 R_a.out g1.out.1 R_ad.out g1.out.2 (Nat.le_refl _) fa_s.out).mono ?_
  rintro e w4 ⟨A_s, c_s, A_sd, c_sd, rfl, R_s, R_sd, hb⟩
  replace R_a := hide (Rd.then_ R_a.out hb)
  replace R_ad := hide (Rd.then_ R_ad.out hb)
  replace R_d := hide (Rd.then_ R_d.out hb)
  replace R_v := hide (Rd.then_ R_v.out hb)
  replace R_vd := hide (Rd.then_ R_vd.out hb)
  have U8 : Below V4.heap.size V4 w4 := Below.then_ U7 hb
  replace B := hide (Below.then_ B.out hb)
  replace R_s := hide R_s
  replace R_sd := hide R_sd
  clear hb
  go_wp2_with fail
  refine (pabs_any R_s.out (Nat.le_trans bb_s.out.1 (by omega)) R_sd.out (Nat.le_trans bb_s.out.2 (by omega)) (Nat.le_refl _) fa_ab.out).mono ?_
  rintro e w5 ⟨A_ab, c_ab, A_abd, c_abd, rfl, R_ab, R_abd, hb⟩
  replace R_a := hide (Rd.then_ R_a.out hb)
  replace R_ad := hide (Rd.then_ R_ad.out hb)
  replace R_d := hide (Rd.then_ R_d.out hb)
  replace R_v := hide (Rd.then_ R_v.out hb)
  replace R_vd := hide (Rd.then_ R_vd.out hb)
  replace R_s := hide (Rd.then_ R_s.out hb)
  replace R_sd := hide (Rd.then_ R_sd.out hb)
  have U9 : Below V4.heap.size V4 w5 := Below.then_ U8 hb
  replace B := hide (Below.then_ B.out hb)
  replace R_ab := hide R_ab
  replace R_abd := hide R_abd
  clear hb
  have hbx : Below w5.heap.size w5 (w5.alloc (.cells #[.bool (zneg ab.num), .slice A_ab (dig (zmag ab.num)).length c_ab, .slice A_abd (dig ab.den).length c_abd] 27)) := ((Below.refl _ _).alloc (Nat.le_refl _) _)
  have Ux := Below.then_ U9 hbx
  go_wp2_with fail
  obtain ⟨V9, hV⟩ : ∃ V, V = (w5.alloc (.cells #[.bool (zneg ab.num), .slice A_ab (dig (zmag ab.num)).length c_ab, .slice A_abd (dig ab.den).length c_abd] 27)) := ⟨_, rfl⟩
  obtain ⟨g_ab, hg_ab⟩ : ∃ g, g = w5.heap.size := ⟨_, rfl⟩
  rw [← hV]
  rw [← hV] at hbx Ux
  rw [← hg_ab]
  have b_ab : Box3 V9 g_ab (.bool (zneg ab.num)) (.slice A_ab (dig (zmag ab.num)).length c_ab) (.slice A_abd (dig ab.den).length c_abd) := by rw [hV]; exact (Box3.new _ _ _ _ hg_ab)
  clear hV
  have ne_a_ab : w.heap.size ≠ g_ab := by have := (b_a.out.lt b_a.out.lt_size (Nat.le_refl _)) _ U9; omega
  replace ne_a_ab := hide ne_a_ab
  have ne_d_ab : g_d ≠ g_ab := by have := (b_d.out.lt b_d.out.lt_size (Nat.le_refl _)) _ U9; omega
  replace ne_d_ab := hide ne_d_ab
  have ne_v_ab : g_v ≠ g_ab := by have := (b_v.out.lt b_v.out.lt_size (Nat.le_refl _)) _ U9; omega
  replace ne_v_ab := hide ne_v_ab
  have ge_ab : w.heap.size ≤ g_ab := by have := B.out.size; omega
  replace ge_ab := hide ge_ab
  clear hg_ab
  replace R_a := hide (Rd.then_ R_a.out hbx)
  replace R_ad := hide (Rd.then_ R_ad.out hbx)
  replace R_d := hide (Rd.then_ R_d.out hbx)
  replace R_v := hide (Rd.then_ R_v.out hbx)
  replace R_vd := hide (Rd.then_ R_vd.out hbx)
  replace R_s := hide (Rd.then_ R_s.out hbx)
  replace R_sd := hide (Rd.then_ R_sd.out hbx)
  replace R_ab := hide (Rd.then_ R_ab.out hbx)
  replace R_abd := hide (Rd.then_ R_abd.out hbx)
  have U10 : Below V4.heap.size V4 V9 := Below.then_ U9 hbx
  replace B := hide (Below.then_ B.out hbx)
  clear hbx
  replace b_a := hide (Box3.keep b_a.out U10)
  clear c_a0 c_a1 c_a2
  replace b_d := hide (BoxD.keep b_d.out U10)
  clear c_d0 c_d1 c_d2
  replace b_v := hide (Box3.keep b_v.out U10)
  clear c_v0 c_v1 c_v2
  replace b_ab := hide b_ab
  have U11 : Below V9.heap.size V9 V9 := Below.refl _ _
  have c_a0 := b_a.out.at0 b_a.out.lt_size (Nat.le_refl _)
  have c_a1 := b_a.out.at1 b_a.out.lt_size (Nat.le_refl _)
  have c_a2 := b_a.out.at2 b_a.out.lt_size (Nat.le_refl _)
  have c_d0 := b_d.out.at0 b_d.out.lt_size (Nat.le_refl _)
  have c_d1 := b_d.out.at1 b_d.out.lt_size (Nat.le_refl _)
  have c_d2 := b_d.out.at2 b_d.out.lt_size (Nat.le_refl _)
  have c_v0 := b_v.out.at0 b_v.out.lt_size (Nat.le_refl _)
  have c_v1 := b_v.out.at1 b_v.out.lt_size (Nat.le_refl _)
  have c_v2 := b_v.out.at2 b_v.out.lt_size (Nat.le_refl _)
  have c_ab0 := b_ab.out.at0 b_ab.out.lt_size (Nat.le_refl _)
  have c_ab1 := b_ab.out.at1 b_ab.out.lt_size (Nat.le_refl _)
  have c_ab2 := b_ab.out.at2 b_ab.out.lt_size (Nat.le_refl _)
  have hd := Below.drw_ V9
  replace R_a := hide (Rd.then_ R_a.out hd)
  replace R_ad := hide (Rd.then_ R_ad.out hd)
  replace R_d := hide (Rd.then_ R_d.out hd)
  replace R_v := hide (Rd.then_ R_v.out hd)
  replace R_vd := hide (Rd.then_ R_vd.out hd)
  replace R_s := hide (Rd.then_ R_s.out hd)
  replace R_sd := hide (Rd.then_ R_sd.out hd)
  replace R_ab := hide (Rd.then_ R_ab.out hd)
  replace R_abd := hide (Rd.then_ R_abd.out hd)
  have U12 : Below V9.heap.size V9 (V9.drew) := Below.then_ U11 hd
  replace B := hide (Below.then_ B.out hd)
  clear hd
  have tok1 : True := trivial
  go_region_held3 (fun w' => Below V9.heap.size V9 w') (assumption)
    (first
      | (go_at_call 21; (have _t := tok1; (with_reducible refine (unit1_any h9.out fa_u1.out).mono ?_); rintro e w6 ⟨A_u1, c_u1, A_u1d, c_u1d, rfl, R_u1, R_u1d, hb⟩; replace R_a := hide (Rd.then_ R_a.out hb); replace R_ad := hide (Rd.then_ R_ad.out hb); replace R_d := hide (Rd.then_ R_d.out hb); replace R_v := hide (Rd.then_ R_v.out hb); replace R_vd := hide (Rd.then_ R_vd.out hb); replace R_s := hide (Rd.then_ R_s.out hb); replace R_sd := hide (Rd.then_ R_sd.out hb); replace R_ab := hide (Rd.then_ R_ab.out hb); replace R_abd := hide (Rd.then_ R_abd.out hb); have U13 : Below V9.heap.size V9 w6 := Below.then_ U12 hb; replace B := hide (Below.then_ B.out hb); replace R_u1 := hide R_u1; replace R_u1d := hide R_u1d; clear hb; have tok2 : True := trivial; clear _t tok1))
      | (go_at_call 20; (have _t := tok2; (with_reducible refine (pcmp_any R_ab.out bb_ab.out.1 R_abd.out bb_ab.out.2 R_u1.out bb_u1.out.1 R_u1d.out bb_u1.out.2 (Nat.le_refl _) fa_k1.out).mono ?_); rintro e w7 ⟨rfl, hb⟩; replace R_a := hide (Rd.then_ R_a.out hb); replace R_ad := hide (Rd.then_ R_ad.out hb); replace R_d := hide (Rd.then_ R_d.out hb); replace R_v := hide (Rd.then_ R_v.out hb); replace R_vd := hide (Rd.then_ R_vd.out hb); replace R_s := hide (Rd.then_ R_s.out hb); replace R_sd := hide (Rd.then_ R_sd.out hb); replace R_ab := hide (Rd.then_ R_ab.out hb); replace R_abd := hide (Rd.then_ R_abd.out hb); replace R_u1 := hide (Rd.then_ R_u1.out hb); replace R_u1d := hide (Rd.then_ R_u1d.out hb); have U14 : Below V9.heap.size V9 w7 := Below.then_ U13 hb; replace B := hide (Below.then_ B.out hb); clear hb; have tok3 : True := trivial; clear _t tok2)))
  clear tok3
  go_wp2_with fail
  have hd := Below.drw_ w7
  replace R_a := hide (Rd.then_ R_a.out hd)
  replace R_ad := hide (Rd.then_ R_ad.out hd)
  replace R_d := hide (Rd.then_ R_d.out hd)
  replace R_v := hide (Rd.then_ R_v.out hd)
  replace R_vd := hide (Rd.then_ R_vd.out hd)
  replace R_s := hide (Rd.then_ R_s.out hd)
  replace R_sd := hide (Rd.then_ R_sd.out hd)
  replace R_ab := hide (Rd.then_ R_ab.out hd)
  replace R_abd := hide (Rd.then_ R_abd.out hd)
  replace R_u1 := hide (Rd.then_ R_u1.out hd)
  replace R_u1d := hide (Rd.then_ R_u1d.out hd)
  have U15 : Below V9.heap.size V9 (w7.drew) := Below.then_ U14 hd
  replace B := hide (Below.then_ B.out hd)
  clear hd
  have tok4 : True := trivial
  go_region_held3 (fun w' => Below V9.heap.size V9 w') (assumption)
    (first
      | (go_at_call 18; (have _t := tok4; (with_reducible refine (pabs_any R_v.out (Nat.le_trans bb_v.out.1 (by omega)) R_vd.out (Nat.le_trans bb_v.out.2 (by omega)) (Nat.le_refl _) fa_b1.out).mono ?_); rintro e w8 ⟨A_b1, c_b1, A_b1d, c_b1d, rfl, R_b1, R_b1d, hb⟩; replace R_a := hide (Rd.then_ R_a.out hb); replace R_ad := hide (Rd.then_ R_ad.out hb); replace R_d := hide (Rd.then_ R_d.out hb); replace R_v := hide (Rd.then_ R_v.out hb); replace R_vd := hide (Rd.then_ R_vd.out hb); replace R_s := hide (Rd.then_ R_s.out hb); replace R_sd := hide (Rd.then_ R_sd.out hb); replace R_ab := hide (Rd.then_ R_ab.out hb); replace R_abd := hide (Rd.then_ R_abd.out hb); replace R_u1 := hide (Rd.then_ R_u1.out hb); replace R_u1d := hide (Rd.then_ R_u1d.out hb); have U16 : Below V9.heap.size V9 w8 := Below.then_ U15 hb; replace B := hide (Below.then_ B.out hb); replace R_b1 := hide R_b1; replace R_b1d := hide R_b1d; clear hb; have tok5 : True := trivial; clear _t tok4))
      | (go_at_call 18; (have _t := tok5; (with_reducible refine (pabs_any R_a.out (Nat.le_trans g1.out.1 (by omega)) R_ad.out (Nat.le_trans g1.out.2 (by omega)) (Nat.le_refl _) fa_b2.out).mono ?_); rintro e w9 ⟨A_b2, c_b2, A_b2d, c_b2d, rfl, R_b2, R_b2d, hb⟩; replace R_a := hide (Rd.then_ R_a.out hb); replace R_ad := hide (Rd.then_ R_ad.out hb); replace R_d := hide (Rd.then_ R_d.out hb); replace R_v := hide (Rd.then_ R_v.out hb); replace R_vd := hide (Rd.then_ R_vd.out hb); replace R_s := hide (Rd.then_ R_s.out hb); replace R_sd := hide (Rd.then_ R_sd.out hb); replace R_ab := hide (Rd.then_ R_ab.out hb); replace R_abd := hide (Rd.then_ R_abd.out hb); replace R_u1 := hide (Rd.then_ R_u1.out hb); replace R_u1d := hide (Rd.then_ R_u1d.out hb); replace R_b1 := hide (Rd.then_ R_b1.out hb); replace R_b1d := hide (Rd.then_ R_b1d.out hb); have U17 : Below V9.heap.size V9 w9 := Below.then_ U16 hb; replace B := hide (Below.then_ B.out hb); replace R_b2 := hide R_b2; replace R_b2d := hide R_b2d; clear hb; have tok6 : True := trivial; clear _t tok5))
      | (go_at_call 20; (have _t := tok6; (with_reducible refine (pcmp_any R_b1.out bb_b1.out.1 R_b1d.out bb_b1.out.2 R_b2.out bb_b2.out.1 R_b2d.out bb_b2.out.2 (Nat.le_refl _) fa_k2.out).mono ?_); rintro e w10 ⟨rfl, hb⟩; replace R_a := hide (Rd.then_ R_a.out hb); replace R_ad := hide (Rd.then_ R_ad.out hb); replace R_d := hide (Rd.then_ R_d.out hb); replace R_v := hide (Rd.then_ R_v.out hb); replace R_vd := hide (Rd.then_ R_vd.out hb); replace R_s := hide (Rd.then_ R_s.out hb); replace R_sd := hide (Rd.then_ R_sd.out hb); replace R_ab := hide (Rd.then_ R_ab.out hb); replace R_abd := hide (Rd.then_ R_abd.out hb); replace R_u1 := hide (Rd.then_ R_u1.out hb); replace R_u1d := hide (Rd.then_ R_u1d.out hb); replace R_b1 := hide (Rd.then_ R_b1.out hb); replace R_b1d := hide (Rd.then_ R_b1d.out hb); replace R_b2 := hide (Rd.then_ R_b2.out hb); replace R_b2d := hide (Rd.then_ R_b2d.out hb); have U18 : Below V9.heap.size V9 w10 := Below.then_ U17 hb; replace B := hide (Below.then_ B.out hb); clear hb; have tok7 : True := trivial; clear _t tok6)))
  clear tok7
  go_wp2_with fail
  refine (awake_any).mono ?_
  rintro e w11 ⟨rfl, hb⟩
  replace R_a := hide (Rd.then_ R_a.out hb)
  replace R_ad := hide (Rd.then_ R_ad.out hb)
  replace R_d := hide (Rd.then_ R_d.out hb)
  replace R_v := hide (Rd.then_ R_v.out hb)
  replace R_vd := hide (Rd.then_ R_vd.out hb)
  replace R_s := hide (Rd.then_ R_s.out hb)
  replace R_sd := hide (Rd.then_ R_sd.out hb)
  replace R_ab := hide (Rd.then_ R_ab.out hb)
  replace R_abd := hide (Rd.then_ R_abd.out hb)
  replace R_u1 := hide (Rd.then_ R_u1.out hb)
  replace R_u1d := hide (Rd.then_ R_u1d.out hb)
  replace R_b1 := hide (Rd.then_ R_b1.out hb)
  replace R_b1d := hide (Rd.then_ R_b1d.out hb)
  replace R_b2 := hide (Rd.then_ R_b2.out hb)
  replace R_b2d := hide (Rd.then_ R_b2d.out hb)
  have U19 : Below V9.heap.size V9 w11 := Below.then_ U18 hb
  replace B := hide (Below.then_ B.out hb)
  clear hb
  go_wp2
  go_ret
  exact ⟨rfl, B.out⟩

set_option maxHeartbeats 4000000 in
theorem near_4 {w : World} {Bd : Nat} {A_a : Option Addr} {n_a c_a : Nat} {x_a : List Nat} {s_a : Bool} {A_ad : Option Addr} {n_ad c_ad : Nat} {x_ad : List Nat} {p : Nat} (h_a : Rd w Bd A_a n_a c_a x_a) (g_a : n_a ≤ 10000000) (h_ad : Rd w Bd A_ad n_ad c_ad x_ad) (g_ad : n_ad ≤ 10000000) (hB : Bd ≤ w.heap.size) (h9 : p ≤ 9) :
    Calls Tryz.prog 4 #[.agg #[.bool s_a, .slice A_a n_a c_a, .slice A_ad n_ad c_ad], .int .i64 (p : Int), .int .i64 4] w (RetB w (.bool true)) := by
  have h1 : (1 : Int) ≤ 4 := by omega
  replace h1 := hide h1
  have h7 : (4 : Int) ≤ 7 := by omega
  replace h7 := hide h7
  obtain ⟨T, e_T⟩ : ∃ new, 10 ^ p = new := ⟨_, rfl⟩
  replace e_T := hide e_T
  have hT : T ≠ 0 := by rw [← e_T.out]; exact ten_ne p
  have lT : T < pw 1 := by rw [← e_T.out]; exact Nat.lt_of_le_of_lt (Nat.pow_le_pow_right (by omega) h9) (by decide)
  obtain ⟨q, e_q⟩ : ∃ new, qv s_a (val x_a) (val x_ad) = new := ⟨_, rfl⟩
  replace e_q := hide e_q
  have s_q := sz_rd h_a h_ad e_q.out g_a g_ad
  obtain ⟨x, e_x⟩ : ∃ new, q * (T : Rat) = new := ⟨_, rfl⟩
  replace e_x := hide e_x
  have s_x : (dig (zmag x.num)).length ≤ 10000001 + 1 ∧ (dig x.den).length ≤ 10000001 + 1 := sz_mul e_x.out s_q (sz_int (z := (T : Int)) lT (by omega))
  obtain ⟨z, e_z⟩ : ∃ new, rnd 4 x = new := ⟨_, rfl⟩
  replace e_z := hide e_z
  have l_z := rnd_len e_z.out s_x
  obtain ⟨v, e_v⟩ : ∃ new, mkRat z T = new := ⟨_, rfl⟩
  replace e_v := hide e_v
  have s_v : (dig (zmag v.num)).length ≤ 10000003 ∧ (dig v.den).length ≤ 10000003 := by rw [← e_v.out]; exact sz_mk l_z (pw_le (by omega) lT) (by omega)
  obtain ⟨s, e_s⟩ : ∃ new, v - q = new := ⟨_, rfl⟩
  replace e_s := hide e_s
  have s_s := sz_sub e_s.out s_v s_q
  obtain ⟨ab, e_ab⟩ : ∃ new, qabs s = new := ⟨_, rfl⟩
  replace e_ab := hide e_ab
  have s_ab := sz_abs e_ab.out s_s
  obtain ⟨u1, e_u1⟩ : ∃ new, mkRat 1 T / mkRat ((1 : Nat) : Int) 1 = new := ⟨_, rfl⟩
  replace e_u1 := hide e_u1
  have s_u1 : (dig (zmag u1.num)).length ≤ 2 ∧ (dig u1.den).length ≤ 2 := sz_div e_u1.out (sz_mk (i := 1) (by decide) lT (by omega)) (sz_mk (i := 1) (by decide) (by decide) (by omega))
  have fa_u1 : mkRat 1 (10 ^ p) / mkRat ((1 : Nat) : Int) 1 = u1 := by rw [e_T.out]; exact e_u1.out
  replace fa_u1 := hide fa_u1
  have bb_u1 : (dig (zmag u1.num)).length ≤ 1000000000 ∧ (dig u1.den).length ≤ 1000000000 := by omega
  replace bb_u1 := hide bb_u1
  obtain ⟨k1, e_k1⟩ : ∃ new, sgn (ab - u1).num = new := ⟨_, rfl⟩
  replace e_k1 := hide e_k1
  have hk1 : decide (0 ≤ k1) = false := decide_eq_false (by rw [← e_k1.out, ← e_ab.out, ← e_s.out, ← e_u1.out]; have := sgn_lt (near_lt hT e_x.out e_z.out e_v.out); omega)
  obtain ⟨b1, e_b1⟩ : ∃ new, qabs v = new := ⟨_, rfl⟩
  replace e_b1 := hide e_b1
  obtain ⟨b2, e_b2⟩ : ∃ new, qabs q = new := ⟨_, rfl⟩
  replace e_b2 := hide e_b2
  have s_b1 := sz_abs e_b1.out s_v
  have s_b2 := sz_abs e_b2.out s_q
  obtain ⟨k2, e_k2⟩ : ∃ new, sgn (b1 - b2).num = new := ⟨_, rfl⟩
  replace e_k2 := hide e_k2
  have hk2 : decide (0 ≤ k2) = true := decide_eq_true (by rw [← e_k2.out, ← e_b1.out, ← e_b2.out]; exact sgn_ge (near_away hT e_x.out e_z.out e_v.out))
  have fa_x : qv s_a (val x_a) (val x_ad) * ((10 ^ p : Nat) : Rat) = x := by rw [e_T.out, e_q.out]; exact e_x.out
  replace fa_x := hide fa_x
  have fa_v : mkRat (iv (zneg z) (val (dig (zmag z)))) (10 ^ p) = v := by rw [ivz, e_T.out]; exact e_v.out
  replace fa_v := hide fa_v
  have fa_s : qv (zneg v.num) (val (dig (zmag v.num))) (val (dig v.den)) - qv s_a (val x_a) (val x_ad) = s := by rw [qv_eta, e_q.out]; exact e_s.out
  replace fa_s := hide fa_s
  have fa_ab : qabs (qv (zneg s.num) (val (dig (zmag s.num))) (val (dig s.den))) = ab := by rw [qv_eta]; exact e_ab.out
  replace fa_ab := hide fa_ab
  have fa_k1 : sgn (qv (zneg ab.num) (val (dig (zmag ab.num))) (val (dig ab.den)) - qv (zneg u1.num) (val (dig (zmag u1.num))) (val (dig u1.den))).num = k1 := by rw [qv_eta, qv_eta]; exact e_k1.out
  replace fa_k1 := hide fa_k1
  have fa_b1 : qabs (qv (zneg v.num) (val (dig (zmag v.num))) (val (dig v.den))) = b1 := by rw [qv_eta]; exact e_b1.out
  replace fa_b1 := hide fa_b1
  have fa_b2 : qabs (qv s_a (val x_a) (val x_ad)) = b2 := by rw [e_q.out]; exact e_b2.out
  replace fa_b2 := hide fa_b2
  have fa_k2 : sgn (qv (zneg b1.num) (val (dig (zmag b1.num))) (val (dig b1.den)) - qv (zneg b2.num) (val (dig (zmag b2.num))) (val (dig b2.den))).num = k2 := by rw [qv_eta, qv_eta]; exact e_k2.out
  replace fa_k2 := hide fa_k2
  have bb_v : (dig (zmag v.num)).length ≤ 1000000000 ∧ (dig v.den).length ≤ 1000000000 := by omega
  replace bb_v := hide bb_v
  have bb_s : (dig (zmag s.num)).length ≤ 1000000000 ∧ (dig s.den).length ≤ 1000000000 := by omega
  replace bb_s := hide bb_s
  have bb_ab : (dig (zmag ab.num)).length ≤ 1000000000 ∧ (dig ab.den).length ≤ 1000000000 := by omega
  replace bb_ab := hide bb_ab
  have bb_b1 : (dig (zmag b1.num)).length ≤ 1000000000 ∧ (dig b1.den).length ≤ 1000000000 := by omega
  replace bb_b1 := hide bb_b1
  have bb_b2 : (dig (zmag b2.num)).length ≤ 1000000000 ∧ (dig b2.den).length ≤ 1000000000 := by omega
  replace bb_b2 := hide bb_b2
  have bb_z : (dig (zmag z)).length ≤ 10000000000 := by have := zl l_z; omega
  replace bb_z := hide bb_z
  have g1 : n_a ≤ 1000000000 ∧ n_ad ≤ 1000000000 := by omega
  replace g1 := hide g1
  have f0 : (0 : Int) ≤ (p : Int) := by omega
  replace f0 := hide f0
  have f9 : (p : Int) ≤ 9 := by omega
  replace f9 := hide f9
  clear hT lT s_q s_x l_z s_v s_s s_ab s_u1 s_b1 s_b2
  replace h9 := hide h9
  obtain ⟨W, hW⟩ : ∃ W, W = (w.alloc (.cells #[.bool s_a, .slice A_a n_a c_a, .slice A_ad n_ad c_ad] 27)) := ⟨_, rfl⟩
  have b_a : Box3 W (w.heap.size) (.bool s_a) (.slice A_a n_a c_a) (.slice A_ad n_ad c_ad) := by rw [hW]; exact (Box3.new w _ _ _ rfl)
  have hwW : Below w.heap.size w W := by rw [hW]; exact ((Below.refl _ _).alloc (Nat.le_refl _) _)
  have R_a := hide (Rd.upto h_a hwW hB)
  clear h_a
  have R_ad := hide (Rd.upto h_ad hwW hB)
  clear h_ad
  have B := hide hwW
  clear hwW
  clear hB
  have U0 : Below W.heap.size W W := Below.refl _ _
  have c_a0 := b_a.at0 b_a.lt_size (Nat.le_refl _)
  have c_a1 := b_a.at1 b_a.lt_size (Nat.le_refl _)
  have c_a2 := b_a.at2 b_a.lt_size (Nat.le_refl _)
  replace b_a := hide b_a
  go_enter Tryz.func4, Tryz.ntmps4
  go_wp2_with fail
  rw [← hW]
  clear hW
  refine (pround_any R_a.out g1.out.1 R_ad.out g1.out.2 (Nat.le_refl _) h9.out h1.out h7.out fa_x.out e_z.out).mono ?_
  rintro e w1 ⟨A_d, c_d, rfl, R_d, hb⟩
  replace R_a := hide (Rd.then_ R_a.out hb)
  replace R_ad := hide (Rd.then_ R_ad.out hb)
  have U1 : Below W.heap.size W w1 := Below.then_ U0 hb
  replace B := hide (Below.then_ B.out hb)
  replace R_d := hide R_d
  clear hb
  have hbx : Below w1.heap.size w1 (w1.alloc (.cells #[.bool (zneg z), .slice A_d (dig (zmag z)).length c_d, .int .i64 (p : Int)] 29)) := ((Below.refl _ _).alloc (Nat.le_refl _) _)
  have Ux := Below.then_ U1 hbx
  go_wp2_with fail
  obtain ⟨V1, hV⟩ : ∃ V, V = (w1.alloc (.cells #[.bool (zneg z), .slice A_d (dig (zmag z)).length c_d, .int .i64 (p : Int)] 29)) := ⟨_, rfl⟩
  obtain ⟨g_d, hg_d⟩ : ∃ g, g = w1.heap.size := ⟨_, rfl⟩
  rw [← hV]
  rw [← hV] at hbx Ux
  rw [← hg_d]
  have b_d : BoxD V1 g_d (.bool (zneg z)) (.slice A_d (dig (zmag z)).length c_d) (.int .i64 (p : Int)) := by rw [hV]; exact (BoxD.new _ _ _ _ hg_d)
  clear hV
  have ne_a_d : w.heap.size ≠ g_d := by have := (b_a.out.lt b_a.out.lt_size (Nat.le_refl _)) _ U1; omega
  replace ne_a_d := hide ne_a_d
  have ge_d : w.heap.size ≤ g_d := by have := B.out.size; omega
  replace ge_d := hide ge_d
  clear hg_d
  replace R_a := hide (Rd.then_ R_a.out hbx)
  replace R_ad := hide (Rd.then_ R_ad.out hbx)
  replace R_d := hide (Rd.then_ R_d.out hbx)
  have U2 : Below W.heap.size W V1 := Below.then_ U1 hbx
  replace B := hide (Below.then_ B.out hbx)
  clear hbx
  replace b_a := hide (Box3.keep b_a.out U2)
  clear c_a0 c_a1 c_a2
  replace b_d := hide b_d
  have U3 : Below V1.heap.size V1 V1 := Below.refl _ _
  have c_a0 := b_a.out.at0 b_a.out.lt_size (Nat.le_refl _)
  have c_a1 := b_a.out.at1 b_a.out.lt_size (Nat.le_refl _)
  have c_a2 := b_a.out.at2 b_a.out.lt_size (Nat.le_refl _)
  have c_d0 := b_d.out.at0 b_d.out.lt_size (Nat.le_refl _)
  have c_d1 := b_d.out.at1 b_d.out.lt_size (Nat.le_refl _)
  have c_d2 := b_d.out.at2 b_d.out.lt_size (Nat.le_refl _)
  refine (pvalue_ok R_d.out bb_z.out (Nat.le_refl _) rfl h9.out fa_v.out).mono ?_
  rintro e w2 ⟨A_v, c_v, A_vd, c_vd, rfl, R_v, R_vd, hb⟩
  replace R_a := hide (Rd.then_ R_a.out hb)
  replace R_ad := hide (Rd.then_ R_ad.out hb)
  replace R_d := hide (Rd.then_ R_d.out hb)
  have U4 : Below V1.heap.size V1 w2 := Below.then_ U3 hb
  replace B := hide (Below.then_ B.out hb)
  replace R_v := hide R_v
  replace R_vd := hide R_vd
  clear hb
  have hbx : Below w2.heap.size w2 (w2.alloc (.cells #[.bool (zneg v.num), .slice A_v (dig (zmag v.num)).length c_v, .slice A_vd (dig v.den).length c_vd] 27)) := ((Below.refl _ _).alloc (Nat.le_refl _) _)
  have Ux := Below.then_ U4 hbx
  go_wp2_with fail
  obtain ⟨V4, hV⟩ : ∃ V, V = (w2.alloc (.cells #[.bool (zneg v.num), .slice A_v (dig (zmag v.num)).length c_v, .slice A_vd (dig v.den).length c_vd] 27)) := ⟨_, rfl⟩
  obtain ⟨g_v, hg_v⟩ : ∃ g, g = w2.heap.size := ⟨_, rfl⟩
  rw [← hV]
  rw [← hV] at hbx Ux
  rw [← hg_v]
  have b_v : Box3 V4 g_v (.bool (zneg v.num)) (.slice A_v (dig (zmag v.num)).length c_v) (.slice A_vd (dig v.den).length c_vd) := by rw [hV]; exact (Box3.new _ _ _ _ hg_v)
  clear hV
  have ne_a_v : w.heap.size ≠ g_v := by have := (b_a.out.lt b_a.out.lt_size (Nat.le_refl _)) _ U4; omega
  replace ne_a_v := hide ne_a_v
  have ne_d_v : g_d ≠ g_v := by have := (b_d.out.lt b_d.out.lt_size (Nat.le_refl _)) _ U4; omega
  replace ne_d_v := hide ne_d_v
  have ge_v : w.heap.size ≤ g_v := by have := B.out.size; omega
  replace ge_v := hide ge_v
  clear hg_v
  replace R_a := hide (Rd.then_ R_a.out hbx)
  replace R_ad := hide (Rd.then_ R_ad.out hbx)
  replace R_d := hide (Rd.then_ R_d.out hbx)
  replace R_v := hide (Rd.then_ R_v.out hbx)
  replace R_vd := hide (Rd.then_ R_vd.out hbx)
  have U5 : Below V1.heap.size V1 V4 := Below.then_ U4 hbx
  replace B := hide (Below.then_ B.out hbx)
  clear hbx
  replace b_a := hide (Box3.keep b_a.out U5)
  clear c_a0 c_a1 c_a2
  replace b_d := hide (BoxD.keep b_d.out U5)
  clear c_d0 c_d1 c_d2
  replace b_v := hide b_v
  have U6 : Below V4.heap.size V4 V4 := Below.refl _ _
  have c_a0 := b_a.out.at0 b_a.out.lt_size (Nat.le_refl _)
  have c_a1 := b_a.out.at1 b_a.out.lt_size (Nat.le_refl _)
  have c_a2 := b_a.out.at2 b_a.out.lt_size (Nat.le_refl _)
  have c_d0 := b_d.out.at0 b_d.out.lt_size (Nat.le_refl _)
  have c_d1 := b_d.out.at1 b_d.out.lt_size (Nat.le_refl _)
  have c_d2 := b_d.out.at2 b_d.out.lt_size (Nat.le_refl _)
  have c_v0 := b_v.out.at0 b_v.out.lt_size (Nat.le_refl _)
  have c_v1 := b_v.out.at1 b_v.out.lt_size (Nat.le_refl _)
  have c_v2 := b_v.out.at2 b_v.out.lt_size (Nat.le_refl _)
  refine (valid_yes f0.out f9.out h1.out h7.out).mono ?_
  rintro e w3 ⟨rfl, hb⟩
  replace R_a := hide (Rd.then_ R_a.out hb)
  replace R_ad := hide (Rd.then_ R_ad.out hb)
  replace R_d := hide (Rd.then_ R_d.out hb)
  replace R_v := hide (Rd.then_ R_v.out hb)
  replace R_vd := hide (Rd.then_ R_vd.out hb)
  have U7 : Below V4.heap.size V4 w3 := Below.then_ U6 hb
  replace B := hide (Below.then_ B.out hb)
  clear hb
  go_wp2_with fail
  refine (psub_any R_v.out bb_v.out.1 R_vd.out bb_v.out.2 R_a.out g1.out.1 R_ad.out g1.out.2 (Nat.le_refl _) fa_s.out).mono ?_
  rintro e w4 ⟨A_s, c_s, A_sd, c_sd, rfl, R_s, R_sd, hb⟩
  replace R_a := hide (Rd.then_ R_a.out hb)
  replace R_ad := hide (Rd.then_ R_ad.out hb)
  replace R_d := hide (Rd.then_ R_d.out hb)
  replace R_v := hide (Rd.then_ R_v.out hb)
  replace R_vd := hide (Rd.then_ R_vd.out hb)
  have U8 : Below V4.heap.size V4 w4 := Below.then_ U7 hb
  replace B := hide (Below.then_ B.out hb)
  replace R_s := hide R_s
  replace R_sd := hide R_sd
  clear hb
  go_wp2_with fail
  refine (pabs_any R_s.out (Nat.le_trans bb_s.out.1 (by omega)) R_sd.out (Nat.le_trans bb_s.out.2 (by omega)) (Nat.le_refl _) fa_ab.out).mono ?_
  rintro e w5 ⟨A_ab, c_ab, A_abd, c_abd, rfl, R_ab, R_abd, hb⟩
  replace R_a := hide (Rd.then_ R_a.out hb)
  replace R_ad := hide (Rd.then_ R_ad.out hb)
  replace R_d := hide (Rd.then_ R_d.out hb)
  replace R_v := hide (Rd.then_ R_v.out hb)
  replace R_vd := hide (Rd.then_ R_vd.out hb)
  replace R_s := hide (Rd.then_ R_s.out hb)
  replace R_sd := hide (Rd.then_ R_sd.out hb)
  have U9 : Below V4.heap.size V4 w5 := Below.then_ U8 hb
  replace B := hide (Below.then_ B.out hb)
  replace R_ab := hide R_ab
  replace R_abd := hide R_abd
  clear hb
  have hbx : Below w5.heap.size w5 (w5.alloc (.cells #[.bool (zneg ab.num), .slice A_ab (dig (zmag ab.num)).length c_ab, .slice A_abd (dig ab.den).length c_abd] 27)) := ((Below.refl _ _).alloc (Nat.le_refl _) _)
  have Ux := Below.then_ U9 hbx
  go_wp2_with fail
  obtain ⟨V9, hV⟩ : ∃ V, V = (w5.alloc (.cells #[.bool (zneg ab.num), .slice A_ab (dig (zmag ab.num)).length c_ab, .slice A_abd (dig ab.den).length c_abd] 27)) := ⟨_, rfl⟩
  obtain ⟨g_ab, hg_ab⟩ : ∃ g, g = w5.heap.size := ⟨_, rfl⟩
  rw [← hV]
  rw [← hV] at hbx Ux
  rw [← hg_ab]
  have b_ab : Box3 V9 g_ab (.bool (zneg ab.num)) (.slice A_ab (dig (zmag ab.num)).length c_ab) (.slice A_abd (dig ab.den).length c_abd) := by rw [hV]; exact (Box3.new _ _ _ _ hg_ab)
  clear hV
  have ne_a_ab : w.heap.size ≠ g_ab := by have := (b_a.out.lt b_a.out.lt_size (Nat.le_refl _)) _ U9; omega
  replace ne_a_ab := hide ne_a_ab
  have ne_d_ab : g_d ≠ g_ab := by have := (b_d.out.lt b_d.out.lt_size (Nat.le_refl _)) _ U9; omega
  replace ne_d_ab := hide ne_d_ab
  have ne_v_ab : g_v ≠ g_ab := by have := (b_v.out.lt b_v.out.lt_size (Nat.le_refl _)) _ U9; omega
  replace ne_v_ab := hide ne_v_ab
  have ge_ab : w.heap.size ≤ g_ab := by have := B.out.size; omega
  replace ge_ab := hide ge_ab
  clear hg_ab
  replace R_a := hide (Rd.then_ R_a.out hbx)
  replace R_ad := hide (Rd.then_ R_ad.out hbx)
  replace R_d := hide (Rd.then_ R_d.out hbx)
  replace R_v := hide (Rd.then_ R_v.out hbx)
  replace R_vd := hide (Rd.then_ R_vd.out hbx)
  replace R_s := hide (Rd.then_ R_s.out hbx)
  replace R_sd := hide (Rd.then_ R_sd.out hbx)
  replace R_ab := hide (Rd.then_ R_ab.out hbx)
  replace R_abd := hide (Rd.then_ R_abd.out hbx)
  have U10 : Below V4.heap.size V4 V9 := Below.then_ U9 hbx
  replace B := hide (Below.then_ B.out hbx)
  clear hbx
  replace b_a := hide (Box3.keep b_a.out U10)
  clear c_a0 c_a1 c_a2
  replace b_d := hide (BoxD.keep b_d.out U10)
  clear c_d0 c_d1 c_d2
  replace b_v := hide (Box3.keep b_v.out U10)
  clear c_v0 c_v1 c_v2
  replace b_ab := hide b_ab
  have U11 : Below V9.heap.size V9 V9 := Below.refl _ _
  have c_a0 := b_a.out.at0 b_a.out.lt_size (Nat.le_refl _)
  have c_a1 := b_a.out.at1 b_a.out.lt_size (Nat.le_refl _)
  have c_a2 := b_a.out.at2 b_a.out.lt_size (Nat.le_refl _)
  have c_d0 := b_d.out.at0 b_d.out.lt_size (Nat.le_refl _)
  have c_d1 := b_d.out.at1 b_d.out.lt_size (Nat.le_refl _)
  have c_d2 := b_d.out.at2 b_d.out.lt_size (Nat.le_refl _)
  have c_v0 := b_v.out.at0 b_v.out.lt_size (Nat.le_refl _)
  have c_v1 := b_v.out.at1 b_v.out.lt_size (Nat.le_refl _)
  have c_v2 := b_v.out.at2 b_v.out.lt_size (Nat.le_refl _)
  have c_ab0 := b_ab.out.at0 b_ab.out.lt_size (Nat.le_refl _)
  have c_ab1 := b_ab.out.at1 b_ab.out.lt_size (Nat.le_refl _)
  have c_ab2 := b_ab.out.at2 b_ab.out.lt_size (Nat.le_refl _)
  have hd := Below.drw_ V9
  replace R_a := hide (Rd.then_ R_a.out hd)
  replace R_ad := hide (Rd.then_ R_ad.out hd)
  replace R_d := hide (Rd.then_ R_d.out hd)
  replace R_v := hide (Rd.then_ R_v.out hd)
  replace R_vd := hide (Rd.then_ R_vd.out hd)
  replace R_s := hide (Rd.then_ R_s.out hd)
  replace R_sd := hide (Rd.then_ R_sd.out hd)
  replace R_ab := hide (Rd.then_ R_ab.out hd)
  replace R_abd := hide (Rd.then_ R_abd.out hd)
  have U12 : Below V9.heap.size V9 (V9.drew) := Below.then_ U11 hd
  replace B := hide (Below.then_ B.out hd)
  clear hd
  have tok1 : True := trivial
  go_region_held3 (fun w' => Below V9.heap.size V9 w') (assumption)
    (first
      | (go_at_call 21; (have _t := tok1; (with_reducible refine (unit1_any h9.out fa_u1.out).mono ?_); rintro e w6 ⟨A_u1, c_u1, A_u1d, c_u1d, rfl, R_u1, R_u1d, hb⟩; replace R_a := hide (Rd.then_ R_a.out hb); replace R_ad := hide (Rd.then_ R_ad.out hb); replace R_d := hide (Rd.then_ R_d.out hb); replace R_v := hide (Rd.then_ R_v.out hb); replace R_vd := hide (Rd.then_ R_vd.out hb); replace R_s := hide (Rd.then_ R_s.out hb); replace R_sd := hide (Rd.then_ R_sd.out hb); replace R_ab := hide (Rd.then_ R_ab.out hb); replace R_abd := hide (Rd.then_ R_abd.out hb); have U13 : Below V9.heap.size V9 w6 := Below.then_ U12 hb; replace B := hide (Below.then_ B.out hb); replace R_u1 := hide R_u1; replace R_u1d := hide R_u1d; clear hb; have tok2 : True := trivial; clear _t tok1))
      | (go_at_call 20; (have _t := tok2; (with_reducible refine (pcmp_any R_ab.out bb_ab.out.1 R_abd.out bb_ab.out.2 R_u1.out bb_u1.out.1 R_u1d.out bb_u1.out.2 (Nat.le_refl _) fa_k1.out).mono ?_); rintro e w7 ⟨rfl, hb⟩; replace R_a := hide (Rd.then_ R_a.out hb); replace R_ad := hide (Rd.then_ R_ad.out hb); replace R_d := hide (Rd.then_ R_d.out hb); replace R_v := hide (Rd.then_ R_v.out hb); replace R_vd := hide (Rd.then_ R_vd.out hb); replace R_s := hide (Rd.then_ R_s.out hb); replace R_sd := hide (Rd.then_ R_sd.out hb); replace R_ab := hide (Rd.then_ R_ab.out hb); replace R_abd := hide (Rd.then_ R_abd.out hb); replace R_u1 := hide (Rd.then_ R_u1.out hb); replace R_u1d := hide (Rd.then_ R_u1d.out hb); have U14 : Below V9.heap.size V9 w7 := Below.then_ U13 hb; replace B := hide (Below.then_ B.out hb); clear hb; have tok3 : True := trivial; clear _t tok2)))
  clear tok3
  go_wp2_with fail
  have hd := Below.drw_ w7
  replace R_a := hide (Rd.then_ R_a.out hd)
  replace R_ad := hide (Rd.then_ R_ad.out hd)
  replace R_d := hide (Rd.then_ R_d.out hd)
  replace R_v := hide (Rd.then_ R_v.out hd)
  replace R_vd := hide (Rd.then_ R_vd.out hd)
  replace R_s := hide (Rd.then_ R_s.out hd)
  replace R_sd := hide (Rd.then_ R_sd.out hd)
  replace R_ab := hide (Rd.then_ R_ab.out hd)
  replace R_abd := hide (Rd.then_ R_abd.out hd)
  replace R_u1 := hide (Rd.then_ R_u1.out hd)
  replace R_u1d := hide (Rd.then_ R_u1d.out hd)
  have U15 : Below V9.heap.size V9 (w7.drew) := Below.then_ U14 hd
  replace B := hide (Below.then_ B.out hd)
  clear hd
  have tok4 : True := trivial
  go_region_held3 (fun w' => Below V9.heap.size V9 w') (assumption)
    (first
      | (go_at_call 18; (have _t := tok4; (with_reducible refine (pabs_any R_v.out (Nat.le_trans bb_v.out.1 (by omega)) R_vd.out (Nat.le_trans bb_v.out.2 (by omega)) (Nat.le_refl _) fa_b1.out).mono ?_); rintro e w8 ⟨A_b1, c_b1, A_b1d, c_b1d, rfl, R_b1, R_b1d, hb⟩; replace R_a := hide (Rd.then_ R_a.out hb); replace R_ad := hide (Rd.then_ R_ad.out hb); replace R_d := hide (Rd.then_ R_d.out hb); replace R_v := hide (Rd.then_ R_v.out hb); replace R_vd := hide (Rd.then_ R_vd.out hb); replace R_s := hide (Rd.then_ R_s.out hb); replace R_sd := hide (Rd.then_ R_sd.out hb); replace R_ab := hide (Rd.then_ R_ab.out hb); replace R_abd := hide (Rd.then_ R_abd.out hb); replace R_u1 := hide (Rd.then_ R_u1.out hb); replace R_u1d := hide (Rd.then_ R_u1d.out hb); have U16 : Below V9.heap.size V9 w8 := Below.then_ U15 hb; replace B := hide (Below.then_ B.out hb); replace R_b1 := hide R_b1; replace R_b1d := hide R_b1d; clear hb; have tok5 : True := trivial; clear _t tok4))
      | (go_at_call 18; (have _t := tok5; (with_reducible refine (pabs_any R_a.out (Nat.le_trans g1.out.1 (by omega)) R_ad.out (Nat.le_trans g1.out.2 (by omega)) (Nat.le_refl _) fa_b2.out).mono ?_); rintro e w9 ⟨A_b2, c_b2, A_b2d, c_b2d, rfl, R_b2, R_b2d, hb⟩; replace R_a := hide (Rd.then_ R_a.out hb); replace R_ad := hide (Rd.then_ R_ad.out hb); replace R_d := hide (Rd.then_ R_d.out hb); replace R_v := hide (Rd.then_ R_v.out hb); replace R_vd := hide (Rd.then_ R_vd.out hb); replace R_s := hide (Rd.then_ R_s.out hb); replace R_sd := hide (Rd.then_ R_sd.out hb); replace R_ab := hide (Rd.then_ R_ab.out hb); replace R_abd := hide (Rd.then_ R_abd.out hb); replace R_u1 := hide (Rd.then_ R_u1.out hb); replace R_u1d := hide (Rd.then_ R_u1d.out hb); replace R_b1 := hide (Rd.then_ R_b1.out hb); replace R_b1d := hide (Rd.then_ R_b1d.out hb); have U17 : Below V9.heap.size V9 w9 := Below.then_ U16 hb; replace B := hide (Below.then_ B.out hb); replace R_b2 := hide R_b2; replace R_b2d := hide R_b2d; clear hb; have tok6 : True := trivial; clear _t tok5))
      | (go_at_call 20; (have _t := tok6; (with_reducible refine (pcmp_any R_b1.out bb_b1.out.1 R_b1d.out bb_b1.out.2 R_b2.out bb_b2.out.1 R_b2d.out bb_b2.out.2 (Nat.le_refl _) fa_k2.out).mono ?_); rintro e w10 ⟨rfl, hb⟩; replace R_a := hide (Rd.then_ R_a.out hb); replace R_ad := hide (Rd.then_ R_ad.out hb); replace R_d := hide (Rd.then_ R_d.out hb); replace R_v := hide (Rd.then_ R_v.out hb); replace R_vd := hide (Rd.then_ R_vd.out hb); replace R_s := hide (Rd.then_ R_s.out hb); replace R_sd := hide (Rd.then_ R_sd.out hb); replace R_ab := hide (Rd.then_ R_ab.out hb); replace R_abd := hide (Rd.then_ R_abd.out hb); replace R_u1 := hide (Rd.then_ R_u1.out hb); replace R_u1d := hide (Rd.then_ R_u1d.out hb); replace R_b1 := hide (Rd.then_ R_b1.out hb); replace R_b1d := hide (Rd.then_ R_b1d.out hb); replace R_b2 := hide (Rd.then_ R_b2.out hb); replace R_b2d := hide (Rd.then_ R_b2d.out hb); have U18 : Below V9.heap.size V9 w10 := Below.then_ U17 hb; replace B := hide (Below.then_ B.out hb); clear hb; have tok7 : True := trivial; clear _t tok6)))
  clear tok7
  go_wp2_with fail
  refine (awake_any).mono ?_
  rintro e w11 ⟨rfl, hb⟩
  replace R_a := hide (Rd.then_ R_a.out hb)
  replace R_ad := hide (Rd.then_ R_ad.out hb)
  replace R_d := hide (Rd.then_ R_d.out hb)
  replace R_v := hide (Rd.then_ R_v.out hb)
  replace R_vd := hide (Rd.then_ R_vd.out hb)
  replace R_s := hide (Rd.then_ R_s.out hb)
  replace R_sd := hide (Rd.then_ R_sd.out hb)
  replace R_ab := hide (Rd.then_ R_ab.out hb)
  replace R_abd := hide (Rd.then_ R_abd.out hb)
  replace R_u1 := hide (Rd.then_ R_u1.out hb)
  replace R_u1d := hide (Rd.then_ R_u1d.out hb)
  replace R_b1 := hide (Rd.then_ R_b1.out hb)
  replace R_b1d := hide (Rd.then_ R_b1d.out hb)
  replace R_b2 := hide (Rd.then_ R_b2.out hb)
  replace R_b2d := hide (Rd.then_ R_b2d.out hb)
  have U19 : Below V9.heap.size V9 w11 := Below.then_ U18 hb
  replace B := hide (Below.then_ B.out hb)
  clear hb
  go_wp2
  go_ret
  exact ⟨rfl, B.out⟩

set_option maxHeartbeats 4000000 in
theorem near_o {w : World} {Bd : Nat} {A_a : Option Addr} {n_a c_a : Nat} {x_a : List Nat} {s_a : Bool} {A_ad : Option Addr} {n_ad c_ad : Nat} {x_ad : List Nat} {p : Nat} {m : Int} (h_a : Rd w Bd A_a n_a c_a x_a) (g_a : n_a ≤ 10000000) (h_ad : Rd w Bd A_ad n_ad c_ad x_ad) (g_ad : n_ad ≤ 10000000) (hB : Bd ≤ w.heap.size) (h9 : p ≤ 9) (hm : m = 1 ∨ m = 2 ∨ m = 3) :
    Calls Tryz.prog 4 #[.agg #[.bool s_a, .slice A_a n_a c_a, .slice A_ad n_ad c_ad], .int .i64 (p : Int), .int .i64 m] w (RetB w (.bool true)) := by
  have hm6 : (m == 6) = false := by rcases hm with rfl | rfl | rfl <;> rfl
  have hm7 : (m == 7) = false := by rcases hm with rfl | rfl | rfl <;> rfl
  have hm5 : (m == 5) = false := by rcases hm with rfl | rfl | rfl <;> rfl
  have hm4 : (m == 4) = false := by rcases hm with rfl | rfl | rfl <;> rfl
  have h1 : 1 ≤ m := by omega
  replace h1 := hide h1
  have h7 : m ≤ 7 := by omega
  replace h7 := hide h7
  obtain ⟨T, e_T⟩ : ∃ new, 10 ^ p = new := ⟨_, rfl⟩
  replace e_T := hide e_T
  have hT : T ≠ 0 := by rw [← e_T.out]; exact ten_ne p
  have lT : T < pw 1 := by rw [← e_T.out]; exact Nat.lt_of_le_of_lt (Nat.pow_le_pow_right (by omega) h9) (by decide)
  obtain ⟨q, e_q⟩ : ∃ new, qv s_a (val x_a) (val x_ad) = new := ⟨_, rfl⟩
  replace e_q := hide e_q
  have s_q := sz_rd h_a h_ad e_q.out g_a g_ad
  obtain ⟨x, e_x⟩ : ∃ new, q * (T : Rat) = new := ⟨_, rfl⟩
  replace e_x := hide e_x
  have s_x : (dig (zmag x.num)).length ≤ 10000001 + 1 ∧ (dig x.den).length ≤ 10000001 + 1 := sz_mul e_x.out s_q (sz_int (z := (T : Int)) lT (by omega))
  obtain ⟨z, e_z⟩ : ∃ new, rnd m x = new := ⟨_, rfl⟩
  replace e_z := hide e_z
  have l_z := rnd_len e_z.out s_x
  obtain ⟨v, e_v⟩ : ∃ new, mkRat z T = new := ⟨_, rfl⟩
  replace e_v := hide e_v
  have s_v : (dig (zmag v.num)).length ≤ 10000003 ∧ (dig v.den).length ≤ 10000003 := by rw [← e_v.out]; exact sz_mk l_z (pw_le (by omega) lT) (by omega)
  obtain ⟨s, e_s⟩ : ∃ new, v - q = new := ⟨_, rfl⟩
  replace e_s := hide e_s
  have s_s := sz_sub e_s.out s_v s_q
  obtain ⟨ab, e_ab⟩ : ∃ new, qabs s = new := ⟨_, rfl⟩
  replace e_ab := hide e_ab
  have s_ab := sz_abs e_ab.out s_s
  obtain ⟨u1, e_u1⟩ : ∃ new, mkRat 1 T / mkRat ((1 : Nat) : Int) 1 = new := ⟨_, rfl⟩
  replace e_u1 := hide e_u1
  have s_u1 : (dig (zmag u1.num)).length ≤ 2 ∧ (dig u1.den).length ≤ 2 := sz_div e_u1.out (sz_mk (i := 1) (by decide) lT (by omega)) (sz_mk (i := 1) (by decide) (by decide) (by omega))
  have fa_u1 : mkRat 1 (10 ^ p) / mkRat ((1 : Nat) : Int) 1 = u1 := by rw [e_T.out]; exact e_u1.out
  replace fa_u1 := hide fa_u1
  have bb_u1 : (dig (zmag u1.num)).length ≤ 1000000000 ∧ (dig u1.den).length ≤ 1000000000 := by omega
  replace bb_u1 := hide bb_u1
  obtain ⟨k1, e_k1⟩ : ∃ new, sgn (ab - u1).num = new := ⟨_, rfl⟩
  replace e_k1 := hide e_k1
  have hk1 : decide (0 ≤ k1) = false := decide_eq_false (by rw [← e_k1.out, ← e_ab.out, ← e_s.out, ← e_u1.out]; have := sgn_lt (near_lt hT e_x.out e_z.out e_v.out); omega)
  obtain ⟨b1, e_b1⟩ : ∃ new, qabs v = new := ⟨_, rfl⟩
  replace e_b1 := hide e_b1
  obtain ⟨b2, e_b2⟩ : ∃ new, qabs q = new := ⟨_, rfl⟩
  replace e_b2 := hide e_b2
  have s_b1 := sz_abs e_b1.out s_v
  have s_b2 := sz_abs e_b2.out s_q
  obtain ⟨k2, e_k2⟩ : ∃ new, sgn (b1 - b2).num = new := ⟨_, rfl⟩
  replace e_k2 := hide e_k2
  obtain ⟨u2, e_u2⟩ : ∃ new, mkRat 1 T / mkRat ((2 : Nat) : Int) 1 = new := ⟨_, rfl⟩
  replace e_u2 := hide e_u2
  have s_u2 : (dig (zmag u2.num)).length ≤ 2 ∧ (dig u2.den).length ≤ 2 := sz_div e_u2.out (sz_mk (i := 1) (by decide) lT (by omega)) (sz_mk (i := 1) (by decide) (by decide) (by omega))
  have fa_u2 : mkRat 1 (10 ^ p) / mkRat ((2 : Nat) : Int) 1 = u2 := by rw [e_T.out]; exact e_u2.out
  replace fa_u2 := hide fa_u2
  have bb_u2 : (dig (zmag u2.num)).length ≤ 1000000000 ∧ (dig u2.den).length ≤ 1000000000 := by omega
  replace bb_u2 := hide bb_u2
  obtain ⟨k4, e_k4⟩ : ∃ new, sgn (ab - u2).num = new := ⟨_, rfl⟩
  replace e_k4 := hide e_k4
  have hk4 : decide (k4 ≤ 0) = true := decide_eq_true (by rw [← e_k4.out, ← e_ab.out, ← e_s.out, ← e_u2.out]; exact sgn_le (near_half hm hT e_x.out e_z.out e_v.out))
  have fa_k4 : sgn (qv (zneg ab.num) (val (dig (zmag ab.num))) (val (dig ab.den)) - qv (zneg u2.num) (val (dig (zmag u2.num))) (val (dig u2.den))).num = k4 := by rw [qv_eta, qv_eta]; exact e_k4.out
  replace fa_k4 := hide fa_k4
  have fa_x : qv s_a (val x_a) (val x_ad) * ((10 ^ p : Nat) : Rat) = x := by rw [e_T.out, e_q.out]; exact e_x.out
  replace fa_x := hide fa_x
  have fa_v : mkRat (iv (zneg z) (val (dig (zmag z)))) (10 ^ p) = v := by rw [ivz, e_T.out]; exact e_v.out
  replace fa_v := hide fa_v
  have fa_s : qv (zneg v.num) (val (dig (zmag v.num))) (val (dig v.den)) - qv s_a (val x_a) (val x_ad) = s := by rw [qv_eta, e_q.out]; exact e_s.out
  replace fa_s := hide fa_s
  have fa_ab : qabs (qv (zneg s.num) (val (dig (zmag s.num))) (val (dig s.den))) = ab := by rw [qv_eta]; exact e_ab.out
  replace fa_ab := hide fa_ab
  have fa_k1 : sgn (qv (zneg ab.num) (val (dig (zmag ab.num))) (val (dig ab.den)) - qv (zneg u1.num) (val (dig (zmag u1.num))) (val (dig u1.den))).num = k1 := by rw [qv_eta, qv_eta]; exact e_k1.out
  replace fa_k1 := hide fa_k1
  have fa_b1 : qabs (qv (zneg v.num) (val (dig (zmag v.num))) (val (dig v.den))) = b1 := by rw [qv_eta]; exact e_b1.out
  replace fa_b1 := hide fa_b1
  have fa_b2 : qabs (qv s_a (val x_a) (val x_ad)) = b2 := by rw [e_q.out]; exact e_b2.out
  replace fa_b2 := hide fa_b2
  have fa_k2 : sgn (qv (zneg b1.num) (val (dig (zmag b1.num))) (val (dig b1.den)) - qv (zneg b2.num) (val (dig (zmag b2.num))) (val (dig b2.den))).num = k2 := by rw [qv_eta, qv_eta]; exact e_k2.out
  replace fa_k2 := hide fa_k2
  have bb_v : (dig (zmag v.num)).length ≤ 1000000000 ∧ (dig v.den).length ≤ 1000000000 := by omega
  replace bb_v := hide bb_v
  have bb_s : (dig (zmag s.num)).length ≤ 1000000000 ∧ (dig s.den).length ≤ 1000000000 := by omega
  replace bb_s := hide bb_s
  have bb_ab : (dig (zmag ab.num)).length ≤ 1000000000 ∧ (dig ab.den).length ≤ 1000000000 := by omega
  replace bb_ab := hide bb_ab
  have bb_b1 : (dig (zmag b1.num)).length ≤ 1000000000 ∧ (dig b1.den).length ≤ 1000000000 := by omega
  replace bb_b1 := hide bb_b1
  have bb_b2 : (dig (zmag b2.num)).length ≤ 1000000000 ∧ (dig b2.den).length ≤ 1000000000 := by omega
  replace bb_b2 := hide bb_b2
  have bb_z : (dig (zmag z)).length ≤ 10000000000 := by have := zl l_z; omega
  replace bb_z := hide bb_z
  have g1 : n_a ≤ 1000000000 ∧ n_ad ≤ 1000000000 := by omega
  replace g1 := hide g1
  have f0 : (0 : Int) ≤ (p : Int) := by omega
  replace f0 := hide f0
  have f9 : (p : Int) ≤ 9 := by omega
  replace f9 := hide f9
  clear hT lT s_q s_x l_z s_v s_s s_ab s_u1 s_b1 s_b2 s_u2 hm
  replace h9 := hide h9
  obtain ⟨W, hW⟩ : ∃ W, W = (w.alloc (.cells #[.bool s_a, .slice A_a n_a c_a, .slice A_ad n_ad c_ad] 27)) := ⟨_, rfl⟩
  have b_a : Box3 W (w.heap.size) (.bool s_a) (.slice A_a n_a c_a) (.slice A_ad n_ad c_ad) := by rw [hW]; exact (Box3.new w _ _ _ rfl)
  have hwW : Below w.heap.size w W := by rw [hW]; exact ((Below.refl _ _).alloc (Nat.le_refl _) _)
  have R_a := hide (Rd.upto h_a hwW hB)
  clear h_a
  have R_ad := hide (Rd.upto h_ad hwW hB)
  clear h_ad
  have B := hide hwW
  clear hwW
  clear hB
  have U0 : Below W.heap.size W W := Below.refl _ _
  have c_a0 := b_a.at0 b_a.lt_size (Nat.le_refl _)
  have c_a1 := b_a.at1 b_a.lt_size (Nat.le_refl _)
  have c_a2 := b_a.at2 b_a.lt_size (Nat.le_refl _)
  replace b_a := hide b_a
  go_enter Tryz.func4, Tryz.ntmps4
  go_wp2_with fail
  rw [← hW]
  clear hW
  refine (pround_any R_a.out g1.out.1 R_ad.out g1.out.2 (Nat.le_refl _) h9.out h1.out h7.out fa_x.out e_z.out).mono ?_
  rintro e w1 ⟨A_d, c_d, rfl, R_d, hb⟩
  replace R_a := hide (Rd.then_ R_a.out hb)
  replace R_ad := hide (Rd.then_ R_ad.out hb)
  have U1 : Below W.heap.size W w1 := Below.then_ U0 hb
  replace B := hide (Below.then_ B.out hb)
  replace R_d := hide R_d
  clear hb
  have hbx : Below w1.heap.size w1 (w1.alloc (.cells #[.bool (zneg z), .slice A_d (dig (zmag z)).length c_d, .int .i64 (p : Int)] 29)) := ((Below.refl _ _).alloc (Nat.le_refl _) _)
  have Ux := Below.then_ U1 hbx
  go_wp2_with fail
  obtain ⟨V1, hV⟩ : ∃ V, V = (w1.alloc (.cells #[.bool (zneg z), .slice A_d (dig (zmag z)).length c_d, .int .i64 (p : Int)] 29)) := ⟨_, rfl⟩
  obtain ⟨g_d, hg_d⟩ : ∃ g, g = w1.heap.size := ⟨_, rfl⟩
  rw [← hV]
  rw [← hV] at hbx Ux
  rw [← hg_d]
  have b_d : BoxD V1 g_d (.bool (zneg z)) (.slice A_d (dig (zmag z)).length c_d) (.int .i64 (p : Int)) := by rw [hV]; exact (BoxD.new _ _ _ _ hg_d)
  clear hV
  have ne_a_d : w.heap.size ≠ g_d := by have := (b_a.out.lt b_a.out.lt_size (Nat.le_refl _)) _ U1; omega
  replace ne_a_d := hide ne_a_d
  have ge_d : w.heap.size ≤ g_d := by have := B.out.size; omega
  replace ge_d := hide ge_d
  clear hg_d
  replace R_a := hide (Rd.then_ R_a.out hbx)
  replace R_ad := hide (Rd.then_ R_ad.out hbx)
  replace R_d := hide (Rd.then_ R_d.out hbx)
  have U2 : Below W.heap.size W V1 := Below.then_ U1 hbx
  replace B := hide (Below.then_ B.out hbx)
  clear hbx
  replace b_a := hide (Box3.keep b_a.out U2)
  clear c_a0 c_a1 c_a2
  replace b_d := hide b_d
  have U3 : Below V1.heap.size V1 V1 := Below.refl _ _
  have c_a0 := b_a.out.at0 b_a.out.lt_size (Nat.le_refl _)
  have c_a1 := b_a.out.at1 b_a.out.lt_size (Nat.le_refl _)
  have c_a2 := b_a.out.at2 b_a.out.lt_size (Nat.le_refl _)
  have c_d0 := b_d.out.at0 b_d.out.lt_size (Nat.le_refl _)
  have c_d1 := b_d.out.at1 b_d.out.lt_size (Nat.le_refl _)
  have c_d2 := b_d.out.at2 b_d.out.lt_size (Nat.le_refl _)
  refine (pvalue_ok R_d.out bb_z.out (Nat.le_refl _) rfl h9.out fa_v.out).mono ?_
  rintro e w2 ⟨A_v, c_v, A_vd, c_vd, rfl, R_v, R_vd, hb⟩
  replace R_a := hide (Rd.then_ R_a.out hb)
  replace R_ad := hide (Rd.then_ R_ad.out hb)
  replace R_d := hide (Rd.then_ R_d.out hb)
  have U4 : Below V1.heap.size V1 w2 := Below.then_ U3 hb
  replace B := hide (Below.then_ B.out hb)
  replace R_v := hide R_v
  replace R_vd := hide R_vd
  clear hb
  have hbx : Below w2.heap.size w2 (w2.alloc (.cells #[.bool (zneg v.num), .slice A_v (dig (zmag v.num)).length c_v, .slice A_vd (dig v.den).length c_vd] 27)) := ((Below.refl _ _).alloc (Nat.le_refl _) _)
  have Ux := Below.then_ U4 hbx
  go_wp2_with fail
  obtain ⟨V4, hV⟩ : ∃ V, V = (w2.alloc (.cells #[.bool (zneg v.num), .slice A_v (dig (zmag v.num)).length c_v, .slice A_vd (dig v.den).length c_vd] 27)) := ⟨_, rfl⟩
  obtain ⟨g_v, hg_v⟩ : ∃ g, g = w2.heap.size := ⟨_, rfl⟩
  rw [← hV]
  rw [← hV] at hbx Ux
  rw [← hg_v]
  have b_v : Box3 V4 g_v (.bool (zneg v.num)) (.slice A_v (dig (zmag v.num)).length c_v) (.slice A_vd (dig v.den).length c_vd) := by rw [hV]; exact (Box3.new _ _ _ _ hg_v)
  clear hV
  have ne_a_v : w.heap.size ≠ g_v := by have := (b_a.out.lt b_a.out.lt_size (Nat.le_refl _)) _ U4; omega
  replace ne_a_v := hide ne_a_v
  have ne_d_v : g_d ≠ g_v := by have := (b_d.out.lt b_d.out.lt_size (Nat.le_refl _)) _ U4; omega
  replace ne_d_v := hide ne_d_v
  have ge_v : w.heap.size ≤ g_v := by have := B.out.size; omega
  replace ge_v := hide ge_v
  clear hg_v
  replace R_a := hide (Rd.then_ R_a.out hbx)
  replace R_ad := hide (Rd.then_ R_ad.out hbx)
  replace R_d := hide (Rd.then_ R_d.out hbx)
  replace R_v := hide (Rd.then_ R_v.out hbx)
  replace R_vd := hide (Rd.then_ R_vd.out hbx)
  have U5 : Below V1.heap.size V1 V4 := Below.then_ U4 hbx
  replace B := hide (Below.then_ B.out hbx)
  clear hbx
  replace b_a := hide (Box3.keep b_a.out U5)
  clear c_a0 c_a1 c_a2
  replace b_d := hide (BoxD.keep b_d.out U5)
  clear c_d0 c_d1 c_d2
  replace b_v := hide b_v
  have U6 : Below V4.heap.size V4 V4 := Below.refl _ _
  have c_a0 := b_a.out.at0 b_a.out.lt_size (Nat.le_refl _)
  have c_a1 := b_a.out.at1 b_a.out.lt_size (Nat.le_refl _)
  have c_a2 := b_a.out.at2 b_a.out.lt_size (Nat.le_refl _)
  have c_d0 := b_d.out.at0 b_d.out.lt_size (Nat.le_refl _)
  have c_d1 := b_d.out.at1 b_d.out.lt_size (Nat.le_refl _)
  have c_d2 := b_d.out.at2 b_d.out.lt_size (Nat.le_refl _)
  have c_v0 := b_v.out.at0 b_v.out.lt_size (Nat.le_refl _)
  have c_v1 := b_v.out.at1 b_v.out.lt_size (Nat.le_refl _)
  have c_v2 := b_v.out.at2 b_v.out.lt_size (Nat.le_refl _)
  refine (valid_yes f0.out f9.out h1.out h7.out).mono ?_
  rintro e w3 ⟨rfl, hb⟩
  replace R_a := hide (Rd.then_ R_a.out hb)
  replace R_ad := hide (Rd.then_ R_ad.out hb)
  replace R_d := hide (Rd.then_ R_d.out hb)
  replace R_v := hide (Rd.then_ R_v.out hb)
  replace R_vd := hide (Rd.then_ R_vd.out hb)
  have U7 : Below V4.heap.size V4 w3 := Below.then_ U6 hb
  replace B := hide (Below.then_ B.out hb)
  clear hb
  go_wp2_with fail
  refine (psub_any R_v.out bb_v.out.1 R_vd.out bb_v.out.2 R_a.out g1.out.1 R_ad.out g1.out.2 (Nat.le_refl _) fa_s.out).mono ?_
  rintro e w4 ⟨A_s, c_s, A_sd, c_sd, rfl, R_s, R_sd, hb⟩
  replace R_a := hide (Rd.then_ R_a.out hb)
  replace R_ad := hide (Rd.then_ R_ad.out hb)
  replace R_d := hide (Rd.then_ R_d.out hb)
  replace R_v := hide (Rd.then_ R_v.out hb)
  replace R_vd := hide (Rd.then_ R_vd.out hb)
  have U8 : Below V4.heap.size V4 w4 := Below.then_ U7 hb
  replace B := hide (Below.then_ B.out hb)
  replace R_s := hide R_s
  replace R_sd := hide R_sd
  clear hb
  go_wp2_with fail
  refine (pabs_any R_s.out (Nat.le_trans bb_s.out.1 (by omega)) R_sd.out (Nat.le_trans bb_s.out.2 (by omega)) (Nat.le_refl _) fa_ab.out).mono ?_
  rintro e w5 ⟨A_ab, c_ab, A_abd, c_abd, rfl, R_ab, R_abd, hb⟩
  replace R_a := hide (Rd.then_ R_a.out hb)
  replace R_ad := hide (Rd.then_ R_ad.out hb)
  replace R_d := hide (Rd.then_ R_d.out hb)
  replace R_v := hide (Rd.then_ R_v.out hb)
  replace R_vd := hide (Rd.then_ R_vd.out hb)
  replace R_s := hide (Rd.then_ R_s.out hb)
  replace R_sd := hide (Rd.then_ R_sd.out hb)
  have U9 : Below V4.heap.size V4 w5 := Below.then_ U8 hb
  replace B := hide (Below.then_ B.out hb)
  replace R_ab := hide R_ab
  replace R_abd := hide R_abd
  clear hb
  have hbx : Below w5.heap.size w5 (w5.alloc (.cells #[.bool (zneg ab.num), .slice A_ab (dig (zmag ab.num)).length c_ab, .slice A_abd (dig ab.den).length c_abd] 27)) := ((Below.refl _ _).alloc (Nat.le_refl _) _)
  have Ux := Below.then_ U9 hbx
  go_wp2_with fail
  obtain ⟨V9, hV⟩ : ∃ V, V = (w5.alloc (.cells #[.bool (zneg ab.num), .slice A_ab (dig (zmag ab.num)).length c_ab, .slice A_abd (dig ab.den).length c_abd] 27)) := ⟨_, rfl⟩
  obtain ⟨g_ab, hg_ab⟩ : ∃ g, g = w5.heap.size := ⟨_, rfl⟩
  rw [← hV]
  rw [← hV] at hbx Ux
  rw [← hg_ab]
  have b_ab : Box3 V9 g_ab (.bool (zneg ab.num)) (.slice A_ab (dig (zmag ab.num)).length c_ab) (.slice A_abd (dig ab.den).length c_abd) := by rw [hV]; exact (Box3.new _ _ _ _ hg_ab)
  clear hV
  have ne_a_ab : w.heap.size ≠ g_ab := by have := (b_a.out.lt b_a.out.lt_size (Nat.le_refl _)) _ U9; omega
  replace ne_a_ab := hide ne_a_ab
  have ne_d_ab : g_d ≠ g_ab := by have := (b_d.out.lt b_d.out.lt_size (Nat.le_refl _)) _ U9; omega
  replace ne_d_ab := hide ne_d_ab
  have ne_v_ab : g_v ≠ g_ab := by have := (b_v.out.lt b_v.out.lt_size (Nat.le_refl _)) _ U9; omega
  replace ne_v_ab := hide ne_v_ab
  have ge_ab : w.heap.size ≤ g_ab := by have := B.out.size; omega
  replace ge_ab := hide ge_ab
  clear hg_ab
  replace R_a := hide (Rd.then_ R_a.out hbx)
  replace R_ad := hide (Rd.then_ R_ad.out hbx)
  replace R_d := hide (Rd.then_ R_d.out hbx)
  replace R_v := hide (Rd.then_ R_v.out hbx)
  replace R_vd := hide (Rd.then_ R_vd.out hbx)
  replace R_s := hide (Rd.then_ R_s.out hbx)
  replace R_sd := hide (Rd.then_ R_sd.out hbx)
  replace R_ab := hide (Rd.then_ R_ab.out hbx)
  replace R_abd := hide (Rd.then_ R_abd.out hbx)
  have U10 : Below V4.heap.size V4 V9 := Below.then_ U9 hbx
  replace B := hide (Below.then_ B.out hbx)
  clear hbx
  replace b_a := hide (Box3.keep b_a.out U10)
  clear c_a0 c_a1 c_a2
  replace b_d := hide (BoxD.keep b_d.out U10)
  clear c_d0 c_d1 c_d2
  replace b_v := hide (Box3.keep b_v.out U10)
  clear c_v0 c_v1 c_v2
  replace b_ab := hide b_ab
  have U11 : Below V9.heap.size V9 V9 := Below.refl _ _
  have c_a0 := b_a.out.at0 b_a.out.lt_size (Nat.le_refl _)
  have c_a1 := b_a.out.at1 b_a.out.lt_size (Nat.le_refl _)
  have c_a2 := b_a.out.at2 b_a.out.lt_size (Nat.le_refl _)
  have c_d0 := b_d.out.at0 b_d.out.lt_size (Nat.le_refl _)
  have c_d1 := b_d.out.at1 b_d.out.lt_size (Nat.le_refl _)
  have c_d2 := b_d.out.at2 b_d.out.lt_size (Nat.le_refl _)
  have c_v0 := b_v.out.at0 b_v.out.lt_size (Nat.le_refl _)
  have c_v1 := b_v.out.at1 b_v.out.lt_size (Nat.le_refl _)
  have c_v2 := b_v.out.at2 b_v.out.lt_size (Nat.le_refl _)
  have c_ab0 := b_ab.out.at0 b_ab.out.lt_size (Nat.le_refl _)
  have c_ab1 := b_ab.out.at1 b_ab.out.lt_size (Nat.le_refl _)
  have c_ab2 := b_ab.out.at2 b_ab.out.lt_size (Nat.le_refl _)
  have hd := Below.drw_ V9
  replace R_a := hide (Rd.then_ R_a.out hd)
  replace R_ad := hide (Rd.then_ R_ad.out hd)
  replace R_d := hide (Rd.then_ R_d.out hd)
  replace R_v := hide (Rd.then_ R_v.out hd)
  replace R_vd := hide (Rd.then_ R_vd.out hd)
  replace R_s := hide (Rd.then_ R_s.out hd)
  replace R_sd := hide (Rd.then_ R_sd.out hd)
  replace R_ab := hide (Rd.then_ R_ab.out hd)
  replace R_abd := hide (Rd.then_ R_abd.out hd)
  have U12 : Below V9.heap.size V9 (V9.drew) := Below.then_ U11 hd
  replace B := hide (Below.then_ B.out hd)
  clear hd
  have tok1 : True := trivial
  go_region_held3 (fun w' => Below V9.heap.size V9 w') (assumption)
    (first
      | (go_at_call 21; (have _t := tok1; (with_reducible refine (unit1_any h9.out fa_u1.out).mono ?_); rintro e w6 ⟨A_u1, c_u1, A_u1d, c_u1d, rfl, R_u1, R_u1d, hb⟩; replace R_a := hide (Rd.then_ R_a.out hb); replace R_ad := hide (Rd.then_ R_ad.out hb); replace R_d := hide (Rd.then_ R_d.out hb); replace R_v := hide (Rd.then_ R_v.out hb); replace R_vd := hide (Rd.then_ R_vd.out hb); replace R_s := hide (Rd.then_ R_s.out hb); replace R_sd := hide (Rd.then_ R_sd.out hb); replace R_ab := hide (Rd.then_ R_ab.out hb); replace R_abd := hide (Rd.then_ R_abd.out hb); have U13 : Below V9.heap.size V9 w6 := Below.then_ U12 hb; replace B := hide (Below.then_ B.out hb); replace R_u1 := hide R_u1; replace R_u1d := hide R_u1d; clear hb; have tok2 : True := trivial; clear _t tok1))
      | (go_at_call 20; (have _t := tok2; (with_reducible refine (pcmp_any R_ab.out bb_ab.out.1 R_abd.out bb_ab.out.2 R_u1.out bb_u1.out.1 R_u1d.out bb_u1.out.2 (Nat.le_refl _) fa_k1.out).mono ?_); rintro e w7 ⟨rfl, hb⟩; replace R_a := hide (Rd.then_ R_a.out hb); replace R_ad := hide (Rd.then_ R_ad.out hb); replace R_d := hide (Rd.then_ R_d.out hb); replace R_v := hide (Rd.then_ R_v.out hb); replace R_vd := hide (Rd.then_ R_vd.out hb); replace R_s := hide (Rd.then_ R_s.out hb); replace R_sd := hide (Rd.then_ R_sd.out hb); replace R_ab := hide (Rd.then_ R_ab.out hb); replace R_abd := hide (Rd.then_ R_abd.out hb); replace R_u1 := hide (Rd.then_ R_u1.out hb); replace R_u1d := hide (Rd.then_ R_u1d.out hb); have U14 : Below V9.heap.size V9 w7 := Below.then_ U13 hb; replace B := hide (Below.then_ B.out hb); clear hb; have tok3 : True := trivial; clear _t tok2)))
  clear tok3
  go_wp2_with fail
  have hd := Below.drw_ w7
  replace R_a := hide (Rd.then_ R_a.out hd)
  replace R_ad := hide (Rd.then_ R_ad.out hd)
  replace R_d := hide (Rd.then_ R_d.out hd)
  replace R_v := hide (Rd.then_ R_v.out hd)
  replace R_vd := hide (Rd.then_ R_vd.out hd)
  replace R_s := hide (Rd.then_ R_s.out hd)
  replace R_sd := hide (Rd.then_ R_sd.out hd)
  replace R_ab := hide (Rd.then_ R_ab.out hd)
  replace R_abd := hide (Rd.then_ R_abd.out hd)
  replace R_u1 := hide (Rd.then_ R_u1.out hd)
  replace R_u1d := hide (Rd.then_ R_u1d.out hd)
  have U15 : Below V9.heap.size V9 (w7.drew) := Below.then_ U14 hd
  replace B := hide (Below.then_ B.out hd)
  clear hd
  have tok4 : True := trivial
  go_region_held3 (fun w' => Below V9.heap.size V9 w') (assumption)
    (first
      | (go_at_call 18; (have _t := tok4; (with_reducible refine (pabs_any R_v.out (Nat.le_trans bb_v.out.1 (by omega)) R_vd.out (Nat.le_trans bb_v.out.2 (by omega)) (Nat.le_refl _) fa_b1.out).mono ?_); rintro e w8 ⟨A_b1, c_b1, A_b1d, c_b1d, rfl, R_b1, R_b1d, hb⟩; replace R_a := hide (Rd.then_ R_a.out hb); replace R_ad := hide (Rd.then_ R_ad.out hb); replace R_d := hide (Rd.then_ R_d.out hb); replace R_v := hide (Rd.then_ R_v.out hb); replace R_vd := hide (Rd.then_ R_vd.out hb); replace R_s := hide (Rd.then_ R_s.out hb); replace R_sd := hide (Rd.then_ R_sd.out hb); replace R_ab := hide (Rd.then_ R_ab.out hb); replace R_abd := hide (Rd.then_ R_abd.out hb); replace R_u1 := hide (Rd.then_ R_u1.out hb); replace R_u1d := hide (Rd.then_ R_u1d.out hb); have U16 : Below V9.heap.size V9 w8 := Below.then_ U15 hb; replace B := hide (Below.then_ B.out hb); replace R_b1 := hide R_b1; replace R_b1d := hide R_b1d; clear hb; have tok5 : True := trivial; clear _t tok4))
      | (go_at_call 18; (have _t := tok5; (with_reducible refine (pabs_any R_a.out (Nat.le_trans g1.out.1 (by omega)) R_ad.out (Nat.le_trans g1.out.2 (by omega)) (Nat.le_refl _) fa_b2.out).mono ?_); rintro e w9 ⟨A_b2, c_b2, A_b2d, c_b2d, rfl, R_b2, R_b2d, hb⟩; replace R_a := hide (Rd.then_ R_a.out hb); replace R_ad := hide (Rd.then_ R_ad.out hb); replace R_d := hide (Rd.then_ R_d.out hb); replace R_v := hide (Rd.then_ R_v.out hb); replace R_vd := hide (Rd.then_ R_vd.out hb); replace R_s := hide (Rd.then_ R_s.out hb); replace R_sd := hide (Rd.then_ R_sd.out hb); replace R_ab := hide (Rd.then_ R_ab.out hb); replace R_abd := hide (Rd.then_ R_abd.out hb); replace R_u1 := hide (Rd.then_ R_u1.out hb); replace R_u1d := hide (Rd.then_ R_u1d.out hb); replace R_b1 := hide (Rd.then_ R_b1.out hb); replace R_b1d := hide (Rd.then_ R_b1d.out hb); have U17 : Below V9.heap.size V9 w9 := Below.then_ U16 hb; replace B := hide (Below.then_ B.out hb); replace R_b2 := hide R_b2; replace R_b2d := hide R_b2d; clear hb; have tok6 : True := trivial; clear _t tok5))
      | (go_at_call 20; (have _t := tok6; (with_reducible refine (pcmp_any R_b1.out bb_b1.out.1 R_b1d.out bb_b1.out.2 R_b2.out bb_b2.out.1 R_b2d.out bb_b2.out.2 (Nat.le_refl _) fa_k2.out).mono ?_); rintro e w10 ⟨rfl, hb⟩; replace R_a := hide (Rd.then_ R_a.out hb); replace R_ad := hide (Rd.then_ R_ad.out hb); replace R_d := hide (Rd.then_ R_d.out hb); replace R_v := hide (Rd.then_ R_v.out hb); replace R_vd := hide (Rd.then_ R_vd.out hb); replace R_s := hide (Rd.then_ R_s.out hb); replace R_sd := hide (Rd.then_ R_sd.out hb); replace R_ab := hide (Rd.then_ R_ab.out hb); replace R_abd := hide (Rd.then_ R_abd.out hb); replace R_u1 := hide (Rd.then_ R_u1.out hb); replace R_u1d := hide (Rd.then_ R_u1d.out hb); replace R_b1 := hide (Rd.then_ R_b1.out hb); replace R_b1d := hide (Rd.then_ R_b1d.out hb); replace R_b2 := hide (Rd.then_ R_b2.out hb); replace R_b2d := hide (Rd.then_ R_b2d.out hb); have U18 : Below V9.heap.size V9 w10 := Below.then_ U17 hb; replace B := hide (Below.then_ B.out hb); clear hb; have tok7 : True := trivial; clear _t tok6)))
  clear tok7
  go_wp2_with fail
  have hd := Below.drw_ w10
  replace R_a := hide (Rd.then_ R_a.out hd)
  replace R_ad := hide (Rd.then_ R_ad.out hd)
  replace R_d := hide (Rd.then_ R_d.out hd)
  replace R_v := hide (Rd.then_ R_v.out hd)
  replace R_vd := hide (Rd.then_ R_vd.out hd)
  replace R_s := hide (Rd.then_ R_s.out hd)
  replace R_sd := hide (Rd.then_ R_sd.out hd)
  replace R_ab := hide (Rd.then_ R_ab.out hd)
  replace R_abd := hide (Rd.then_ R_abd.out hd)
  replace R_u1 := hide (Rd.then_ R_u1.out hd)
  replace R_u1d := hide (Rd.then_ R_u1d.out hd)
  replace R_b1 := hide (Rd.then_ R_b1.out hd)
  replace R_b1d := hide (Rd.then_ R_b1d.out hd)
  replace R_b2 := hide (Rd.then_ R_b2.out hd)
  replace R_b2d := hide (Rd.then_ R_b2d.out hd)
  have U19 : Below V9.heap.size V9 (w10.drew) := Below.then_ U18 hd
  replace B := hide (Below.then_ B.out hd)
  clear hd
  have tok8 : True := trivial
  go_region_held3 (fun w' => Below V9.heap.size V9 w') (assumption)
    (first
      | (go_at_call 21; (have _t := tok8; (with_reducible refine (unit2_any h9.out fa_u2.out).mono ?_); rintro e w11 ⟨A_u2, c_u2, A_u2d, c_u2d, rfl, R_u2, R_u2d, hb⟩; replace R_a := hide (Rd.then_ R_a.out hb); replace R_ad := hide (Rd.then_ R_ad.out hb); replace R_d := hide (Rd.then_ R_d.out hb); replace R_v := hide (Rd.then_ R_v.out hb); replace R_vd := hide (Rd.then_ R_vd.out hb); replace R_s := hide (Rd.then_ R_s.out hb); replace R_sd := hide (Rd.then_ R_sd.out hb); replace R_ab := hide (Rd.then_ R_ab.out hb); replace R_abd := hide (Rd.then_ R_abd.out hb); replace R_u1 := hide (Rd.then_ R_u1.out hb); replace R_u1d := hide (Rd.then_ R_u1d.out hb); replace R_b1 := hide (Rd.then_ R_b1.out hb); replace R_b1d := hide (Rd.then_ R_b1d.out hb); replace R_b2 := hide (Rd.then_ R_b2.out hb); replace R_b2d := hide (Rd.then_ R_b2d.out hb); have U20 : Below V9.heap.size V9 w11 := Below.then_ U19 hb; replace B := hide (Below.then_ B.out hb); replace R_u2 := hide R_u2; replace R_u2d := hide R_u2d; clear hb; have tok9 : True := trivial; clear _t tok8))
      | (go_at_call 20; (have _t := tok9; (with_reducible refine (pcmp_any R_ab.out bb_ab.out.1 R_abd.out bb_ab.out.2 R_u2.out bb_u2.out.1 R_u2d.out bb_u2.out.2 (Nat.le_refl _) fa_k4.out).mono ?_); rintro e w12 ⟨rfl, hb⟩; replace R_a := hide (Rd.then_ R_a.out hb); replace R_ad := hide (Rd.then_ R_ad.out hb); replace R_d := hide (Rd.then_ R_d.out hb); replace R_v := hide (Rd.then_ R_v.out hb); replace R_vd := hide (Rd.then_ R_vd.out hb); replace R_s := hide (Rd.then_ R_s.out hb); replace R_sd := hide (Rd.then_ R_sd.out hb); replace R_ab := hide (Rd.then_ R_ab.out hb); replace R_abd := hide (Rd.then_ R_abd.out hb); replace R_u1 := hide (Rd.then_ R_u1.out hb); replace R_u1d := hide (Rd.then_ R_u1d.out hb); replace R_b1 := hide (Rd.then_ R_b1.out hb); replace R_b1d := hide (Rd.then_ R_b1d.out hb); replace R_b2 := hide (Rd.then_ R_b2.out hb); replace R_b2d := hide (Rd.then_ R_b2d.out hb); replace R_u2 := hide (Rd.then_ R_u2.out hb); replace R_u2d := hide (Rd.then_ R_u2d.out hb); have U21 : Below V9.heap.size V9 w12 := Below.then_ U20 hb; replace B := hide (Below.then_ B.out hb); clear hb; have tok10 : True := trivial; clear _t tok9))
      | (go_at_call 15; (have _t := tok10; (with_reducible refine (awake_any).mono ?_); rintro e w13 ⟨rfl, hb⟩; replace R_a := hide (Rd.then_ R_a.out hb); replace R_ad := hide (Rd.then_ R_ad.out hb); replace R_d := hide (Rd.then_ R_d.out hb); replace R_v := hide (Rd.then_ R_v.out hb); replace R_vd := hide (Rd.then_ R_vd.out hb); replace R_s := hide (Rd.then_ R_s.out hb); replace R_sd := hide (Rd.then_ R_sd.out hb); replace R_ab := hide (Rd.then_ R_ab.out hb); replace R_abd := hide (Rd.then_ R_abd.out hb); replace R_u1 := hide (Rd.then_ R_u1.out hb); replace R_u1d := hide (Rd.then_ R_u1d.out hb); replace R_b1 := hide (Rd.then_ R_b1.out hb); replace R_b1d := hide (Rd.then_ R_b1d.out hb); replace R_b2 := hide (Rd.then_ R_b2.out hb); replace R_b2d := hide (Rd.then_ R_b2d.out hb); replace R_u2 := hide (Rd.then_ R_u2.out hb); replace R_u2d := hide (Rd.then_ R_u2d.out hb); have U22 : Below V9.heap.size V9 w13 := Below.then_ U21 hb; replace B := hide (Below.then_ B.out hb); clear hb; have tok11 : True := trivial; clear _t tok10)))
  clear tok11
  go_wp2
  go_ret
  exact ⟨rfl, B.out⟩

theorem near_all {w : World} {A_a : Option Addr} {n_a c_a : Nat} {x_a : List Nat} {s_a : Bool} {A_ad : Option Addr} {n_ad c_ad : Nat} {x_ad : List Nat} (h_a : Rd w w.heap.size A_a n_a c_a x_a) (g_a : n_a ≤ 10000000) (h_ad : Rd w w.heap.size A_ad n_ad c_ad x_ad) (g_ad : n_ad ≤ 10000000) {p m : Int} :
    Calls Tryz.prog 4 #[.agg #[.bool s_a, .slice A_a n_a c_a, .slice A_ad n_ad c_ad], .int .i64 p, .int .i64 m] w (RetB w (.bool true)) := by
  by_cases h : okd p m
  · obtain ⟨n, rfl⟩ : ∃ n : Nat, p = (n : Int) := ⟨p.toNat, by have := h.1; omega⟩
    have h9 : n ≤ 9 := by have := h.2.1; omega
    have hm : m = 1 ∨ m = 2 ∨ m = 3 ∨ m = 4 ∨ m = 5 ∨ m = 6 ∨ m = 7 := by have := h.2.2; omega
    rcases hm with hm | hm | hm | rfl | rfl | rfl | rfl
    · exact near_o h_a g_a h_ad g_ad (Nat.le_refl _) h9 (by omega)
    · exact near_o h_a g_a h_ad g_ad (Nat.le_refl _) h9 (by omega)
    · exact near_o h_a g_a h_ad g_ad (Nat.le_refl _) h9 (by omega)
    · exact near_4 h_a g_a h_ad g_ad (Nat.le_refl _) h9
    · exact near_5 h_a g_a h_ad g_ad (Nat.le_refl _) h9
    · exact near_6 h_a g_a h_ad g_ad (Nat.le_refl _) h9
    · exact near_7 h_a g_a h_ad g_ad (Nat.le_refl _) h9
  · exact near_bad h_a g_a h_ad g_ad (Nat.le_refl _) h

end Go.Proofs.YtdlmfembnmomjaaGreatDoor

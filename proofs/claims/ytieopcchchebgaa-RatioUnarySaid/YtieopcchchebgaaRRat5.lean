/-
  Div of the reference.
-/
import Derived.Test.YtieopcchchebgaaRRat4
namespace Go.Proofs.Ytieopcchchebgaa
open Go.RowKit


set_option maxHeartbeats 4000000 in
theorem rdiv3_0 {w : World} {Bd : Nat} {A_a : Option Addr} {n_a c_a : Nat} {x_a : List Nat} {s_a : Bool} {A_ad : Option Addr} {n_ad c_ad : Nat} {x_ad : List Nat} {A_b : Option Addr} {n_b c_b : Nat} {x_b : List Nat} {s_b : Bool} {A_bd : Option Addr} {n_bd c_bd : Nat} {x_bd : List Nat} (h_a : Rd w Bd A_a n_a c_a x_a) (_g_a : n_a ≤ 1000000000) (h_ad : Rd w Bd A_ad n_ad c_ad x_ad) (_g_ad : n_ad ≤ 1000000000) (h_b : Rd w Bd A_b n_b c_b x_b) (g_b : n_b ≤ 1000000000) (h_bd : Rd w Bd A_bd n_bd c_bd x_bd) (g_bd : n_bd ≤ 1000000000) (hB : Bd ≤ w.heap.size) {q : Rat} (h0 : qv s_b (val x_b) (val x_bd) = 0) (hq : (0 : Rat) = q) :
    Calls Try.prog 40 #[.agg #[.bool s_a, .slice A_a n_a c_a, .slice A_ad n_ad c_ad], .agg #[.bool s_b, .slice A_b n_b c_b, .slice A_bd n_bd c_bd]] w (RetRatB w q false) := by
  have e_z : tp s_b (val x_b) (val x_bd) = 0 := by have := (mk_eq_zero (a := tp s_b (val x_b) (val x_bd)) (lw_ne (val x_bd))).1; rw [qv_tp] at this; exact this h0
  replace e_z := hide e_z
  have e_k : sgn (iv (zneg 0) (val (dig (zmag 0)))) = 0 := by rw [ivz, sgn_zero]
  replace e_k := hide e_k
  clear h0
  replace hq := hide hq
  obtain ⟨W, hW⟩ : ∃ W, W = (((w.alloc (.cells #[.bool s_a, .slice A_a n_a c_a, .slice A_ad n_ad c_ad] 27)).alloc (.cells #[.bool s_b, .slice A_b n_b c_b, .slice A_bd n_bd c_bd] 27)).alloc (.cells #[.bool false, .slice none 0 0, .slice none 0 0] 27)) := ⟨_, rfl⟩
  have b_a : Box3 W (w.heap.size) (.bool s_a) (.slice A_a n_a c_a) (.slice A_ad n_ad c_ad) := by rw [hW]; exact (((Box3.new w _ _ _ rfl).al _).al _)
  have b_b : Box3 W (w.heap.size + 1) (.bool s_b) (.slice A_b n_b c_b) (.slice A_bd n_bd c_bd) := by rw [hW]; exact ((Box3.new _ _ _ _ (by simp)).al _)
  have b_r0 : Box3 W (w.heap.size + 1 + 1) (.bool false) (.slice none 0 0) (.slice none 0 0) := by rw [hW]; exact (Box3.new _ _ _ _ (by simp))
  have hwW : Below w.heap.size w W := by rw [hW]; exact ((((Below.refl _ _).alloc (Nat.le_refl _) _).alloc (by simp) _).alloc (by simp; omega) _)
  have R_a := hide (Rd.upto h_a hwW hB)
  clear h_a
  have R_ad := hide (Rd.upto h_ad hwW hB)
  clear h_ad
  have R_b := hide (Rd.upto h_b hwW hB)
  clear h_b
  have R_bd := hide (Rd.upto h_bd hwW hB)
  clear h_bd
  have B := hide hwW
  clear hwW
  clear hB
  have U0 : Below W.heap.size W W := Below.refl _ _
  have c_a0 := b_a.at0 b_a.lt_size (Nat.le_refl _)
  have c_a1 := b_a.at1 b_a.lt_size (Nat.le_refl _)
  have c_a2 := b_a.at2 b_a.lt_size (Nat.le_refl _)
  replace b_a := hide b_a
  have c_b0 := b_b.at0 b_b.lt_size (Nat.le_refl _)
  have c_b1 := b_b.at1 b_b.lt_size (Nat.le_refl _)
  have c_b2 := b_b.at2 b_b.lt_size (Nat.le_refl _)
  replace b_b := hide b_b
  have c_r00 := b_r0.at0 b_r0.lt_size (Nat.le_refl _)
  have c_r01 := b_r0.at1 b_r0.lt_size (Nat.le_refl _)
  have c_r02 := b_r0.at2 b_r0.lt_size (Nat.le_refl _)
  have f_r00 := b_r0.free0 b_r0.lt_size (Nat.le_refl _)
  have f_r01 := b_r0.free1 b_r0.lt_size (Nat.le_refl _)
  have f_r02 := b_r0.free2 b_r0.lt_size (Nat.le_refl _)
  have l_r0 := b_r0.lt b_r0.lt_size (Nat.le_refl _)
  replace b_r0 := hide b_r0
  go_enter Try.func40, Try.ntmps40
  go_wp2_with fail
  rw [← hW]
  clear hW
  refine (top_any R_b.out (by omega) R_bd.out (by omega) (Nat.le_refl _) e_z.out).mono ?_
  rintro e w1 ⟨A_x, c_x, rfl, R_x, hb⟩
  replace R_a := hide (Rd.then_ R_a.out hb)
  replace R_ad := hide (Rd.then_ R_ad.out hb)
  replace R_b := hide (Rd.then_ R_b.out hb)
  replace R_bd := hide (Rd.then_ R_bd.out hb)
  have U1 : Below W.heap.size W w1 := Below.then_ U0 hb
  replace B := hide (Below.then_ B.out hb)
  replace R_x := hide R_x
  clear hb
  have hbx : Below w1.heap.size w1 (w1.alloc (.cells #[.bool (zneg 0), .slice A_x (dig (zmag 0)).length c_x] 25)) := ((Below.refl _ _).alloc (Nat.le_refl _) _)
  have Ux := Below.then_ U1 hbx
  go_wp2_with fail
  obtain ⟨V1, hV⟩ : ∃ V, V = (w1.alloc (.cells #[.bool (zneg 0), .slice A_x (dig (zmag 0)).length c_x] 25)) := ⟨_, rfl⟩
  obtain ⟨g_x, hg_x⟩ : ∃ g, g = w1.heap.size := ⟨_, rfl⟩
  rw [← hV]
  rw [← hV] at hbx Ux
  rw [← hg_x]
  have b_x : Box V1 g_x (.bool (zneg 0)) (.slice A_x (dig (zmag 0)).length c_x) := by rw [hV]; exact (Box.new _ _ _ hg_x)
  clear hV
  have ne_x_r0 : g_x ≠ w.heap.size + 1 + 1 := by have := l_r0 _ U1; omega
  replace ne_x_r0 := hide ne_x_r0
  have ne_a_x : w.heap.size ≠ g_x := by have := (b_a.out.lt b_a.out.lt_size (Nat.le_refl _)) _ U1; omega
  replace ne_a_x := hide ne_a_x
  have ne_b_x : w.heap.size + 1 ≠ g_x := by have := (b_b.out.lt b_b.out.lt_size (Nat.le_refl _)) _ U1; omega
  replace ne_b_x := hide ne_b_x
  have ne_r0_x := hide (Ne.symm ne_x_r0.out)
  have ge_x : w.heap.size ≤ g_x := by have := B.out.size; omega
  replace ge_x := hide ge_x
  clear hg_x
  replace R_a := hide (Rd.then_ R_a.out hbx)
  replace R_ad := hide (Rd.then_ R_ad.out hbx)
  replace R_b := hide (Rd.then_ R_b.out hbx)
  replace R_bd := hide (Rd.then_ R_bd.out hbx)
  replace R_x := hide (Rd.then_ R_x.out hbx)
  have U2 : Below W.heap.size W V1 := Below.then_ U1 hbx
  replace B := hide (Below.then_ B.out hbx)
  clear hbx
  replace b_a := hide (Box3.keep b_a.out U2)
  clear c_a0 c_a1 c_a2
  replace b_b := hide (Box3.keep b_b.out U2)
  clear c_b0 c_b1 c_b2
  replace b_r0 := hide (Box3.keep b_r0.out U2)
  clear c_r00 c_r01 c_r02 f_r00 f_r01 f_r02 l_r0
  replace b_x := hide b_x
  have U3 : Below V1.heap.size V1 V1 := Below.refl _ _
  have c_a0 := b_a.out.at0 b_a.out.lt_size (Nat.le_refl _)
  have c_a1 := b_a.out.at1 b_a.out.lt_size (Nat.le_refl _)
  have c_a2 := b_a.out.at2 b_a.out.lt_size (Nat.le_refl _)
  have c_b0 := b_b.out.at0 b_b.out.lt_size (Nat.le_refl _)
  have c_b1 := b_b.out.at1 b_b.out.lt_size (Nat.le_refl _)
  have c_b2 := b_b.out.at2 b_b.out.lt_size (Nat.le_refl _)
  have c_r00 := b_r0.out.at0 b_r0.out.lt_size (Nat.le_refl _)
  have c_r01 := b_r0.out.at1 b_r0.out.lt_size (Nat.le_refl _)
  have c_r02 := b_r0.out.at2 b_r0.out.lt_size (Nat.le_refl _)
  have f_r00 := b_r0.out.free0 b_r0.out.lt_size (Nat.le_refl _)
  have f_r01 := b_r0.out.free1 b_r0.out.lt_size (Nat.le_refl _)
  have f_r02 := b_r0.out.free2 b_r0.out.lt_size (Nat.le_refl _)
  have l_r0 := b_r0.out.lt b_r0.out.lt_size (Nat.le_refl _)
  have c_x0 := b_x.out.at0 b_x.out.lt_size (Nat.le_refl _)
  have c_x1 := b_x.out.at1 b_x.out.lt_size (Nat.le_refl _)
  refine (risign_any _ _ _ _ _ _ _ R_x.out (Nat.le_refl _)).mono ?_
  rw [e_k.out]
  rintro e w2 ⟨rfl, hb⟩
  replace R_a := hide (Rd.then_ R_a.out hb)
  replace R_ad := hide (Rd.then_ R_ad.out hb)
  replace R_b := hide (Rd.then_ R_b.out hb)
  replace R_bd := hide (Rd.then_ R_bd.out hb)
  replace R_x := hide (Rd.then_ R_x.out hb)
  have U4 : Below V1.heap.size V1 w2 := Below.then_ U3 hb
  replace B := hide (Below.then_ B.out hb)
  clear hb
  go_wp2_with fail
  refine (rzero_any hq.out).mono ?_
  rintro e w3 ⟨A_q, c_q, A_qd, c_qd, rfl, R_q, R_qd, hb⟩
  replace R_a := hide (Rd.then_ R_a.out hb)
  replace R_ad := hide (Rd.then_ R_ad.out hb)
  replace R_b := hide (Rd.then_ R_b.out hb)
  replace R_bd := hide (Rd.then_ R_bd.out hb)
  replace R_x := hide (Rd.then_ R_x.out hb)
  have U5 : Below V1.heap.size V1 w3 := Below.then_ U4 hb
  replace B := hide (Below.then_ B.out hb)
  replace R_q := hide R_q
  replace R_qd := hide R_qd
  clear hb
  go_wp2
  exact bodyPost_ret (v := .tuple #[.agg #[.bool (zneg q.num), .slice A_q (dig (zmag q.num)).length c_q, .slice A_qd (dig q.den).length c_qd], .bool false]) (by simp [results, Try.results40, go_sem, c_r00 _ U5, c_r01 _ U5, c_r02 _ U5]) rfl (RetRatB.box B.out (by omega) (c_r00 _ U5) (c_r01 _ U5) (c_r02 _ U5) R_q.out R_qd.out)

set_option maxHeartbeats 4000000 in
theorem rdiv3_1 {w : World} {Bd : Nat} {A_a : Option Addr} {n_a c_a : Nat} {x_a : List Nat} {s_a : Bool} {A_ad : Option Addr} {n_ad c_ad : Nat} {x_ad : List Nat} {A_b : Option Addr} {n_b c_b : Nat} {x_b : List Nat} {s_b : Bool} {A_bd : Option Addr} {n_bd c_bd : Nat} {x_bd : List Nat} (h_a : Rd w Bd A_a n_a c_a x_a) (g_a : n_a ≤ 1000000000) (h_ad : Rd w Bd A_ad n_ad c_ad x_ad) (g_ad : n_ad ≤ 1000000000) (h_b : Rd w Bd A_b n_b c_b x_b) (g_b : n_b ≤ 1000000000) (h_bd : Rd w Bd A_bd n_bd c_bd x_bd) (g_bd : n_bd ≤ 1000000000) (hB : Bd ≤ w.heap.size) {q : Rat} (h0 : qv s_b (val x_b) (val x_bd) ≠ 0) (hq : qv s_a (val x_a) (val x_ad) / qv s_b (val x_b) (val x_bd) = q) :
    Calls Try.prog 40 #[.agg #[.bool s_a, .slice A_a n_a c_a, .slice A_ad n_ad c_ad], .agg #[.bool s_b, .slice A_b n_b c_b, .slice A_bd n_bd c_bd]] w (RetRatB w q true) := by
  obtain ⟨x, e_x⟩ : ∃ v, tp s_b (val x_b) (val x_bd) = v := ⟨_, rfl⟩
  replace e_x := hide e_x
  obtain ⟨d, e_d⟩ : ∃ v, lw (val x_bd) = v := ⟨_, rfl⟩
  replace e_d := hide e_d
  have l_x : zmag x < pw n_b := by rw [← e_x.out]; exact tp_lt h_b.lt
  replace l_x := hide l_x
  have l_d : d < pw (n_bd + 1) := by rw [← e_d.out]; exact lw_lt h_bd.lt
  replace l_d := hide l_d
  have q_b : mkRat x d = qv s_b (val x_b) (val x_bd) := by rw [← e_x.out, ← e_d.out, qv_tp]
  replace q_b := hide q_b
  have n_d : d ≠ 0 := by rw [← e_d.out]; exact lw_ne _
  replace n_d := hide n_d
  have hx0 : x ≠ 0 := fun h => h0 (by rw [← q_b.out, h, Rat.zero_mkRat])
  obtain ⟨k, e_k⟩ : ∃ v, sgn (iv (zneg x) (val (dig (zmag x)))) = v := ⟨_, rfl⟩
  replace e_k := hide e_k
  have hk : (k == 0) = false := by rw [← e_k.out, ivz]; have := sgn_zero_iff x; simp; omega
  obtain ⟨i, e_i⟩ : ∃ v, iv (zneg x) (val (dig d)) = v := ⟨_, rfl⟩
  replace e_i := hide e_i
  have li : (dig (zmag i)).length ≤ 2000000000 := by rw [← e_i.out, val_dig]; have := zl (zl_iv (s := zneg x) l_d.out); omega
  replace li := hide li
  have lx : (dig (zmag x)).length ≤ 2000000000 := by have := zl l_x.out; omega
  replace lx := hide lx
  have gg : n_a ≤ 2000000000 ∧ n_ad ≤ 2000000000 := by omega
  replace gg := hide gg
  have e_q : qv s_a (val x_a) (val x_ad) * qv (zneg i) (val (dig (zmag i))) (val (dig (zmag x))) = q := by rw [qvz, ← hq, ← q_b.out, ← e_i.out, val_dig]; exact mul_inverse _ hx0 n_d.out
  replace e_q := hide e_q
  clear hq h0 hx0
  obtain ⟨W, hW⟩ : ∃ W, W = (((w.alloc (.cells #[.bool s_a, .slice A_a n_a c_a, .slice A_ad n_ad c_ad] 27)).alloc (.cells #[.bool s_b, .slice A_b n_b c_b, .slice A_bd n_bd c_bd] 27)).alloc (.cells #[.bool false, .slice none 0 0, .slice none 0 0] 27)) := ⟨_, rfl⟩
  have b_a : Box3 W (w.heap.size) (.bool s_a) (.slice A_a n_a c_a) (.slice A_ad n_ad c_ad) := by rw [hW]; exact (((Box3.new w _ _ _ rfl).al _).al _)
  have b_b : Box3 W (w.heap.size + 1) (.bool s_b) (.slice A_b n_b c_b) (.slice A_bd n_bd c_bd) := by rw [hW]; exact ((Box3.new _ _ _ _ (by simp)).al _)
  have b_r0 : Box3 W (w.heap.size + 1 + 1) (.bool false) (.slice none 0 0) (.slice none 0 0) := by rw [hW]; exact (Box3.new _ _ _ _ (by simp))
  have hwW : Below w.heap.size w W := by rw [hW]; exact ((((Below.refl _ _).alloc (Nat.le_refl _) _).alloc (by simp) _).alloc (by simp; omega) _)
  have R_a := hide (Rd.upto h_a hwW hB)
  clear h_a
  have R_ad := hide (Rd.upto h_ad hwW hB)
  clear h_ad
  have R_b := hide (Rd.upto h_b hwW hB)
  clear h_b
  have R_bd := hide (Rd.upto h_bd hwW hB)
  clear h_bd
  have B := hide hwW
  clear hwW
  clear hB
  have U0 : Below W.heap.size W W := Below.refl _ _
  have c_a0 := b_a.at0 b_a.lt_size (Nat.le_refl _)
  have c_a1 := b_a.at1 b_a.lt_size (Nat.le_refl _)
  have c_a2 := b_a.at2 b_a.lt_size (Nat.le_refl _)
  replace b_a := hide b_a
  have c_b0 := b_b.at0 b_b.lt_size (Nat.le_refl _)
  have c_b1 := b_b.at1 b_b.lt_size (Nat.le_refl _)
  have c_b2 := b_b.at2 b_b.lt_size (Nat.le_refl _)
  replace b_b := hide b_b
  have c_r00 := b_r0.at0 b_r0.lt_size (Nat.le_refl _)
  have c_r01 := b_r0.at1 b_r0.lt_size (Nat.le_refl _)
  have c_r02 := b_r0.at2 b_r0.lt_size (Nat.le_refl _)
  have f_r00 := b_r0.free0 b_r0.lt_size (Nat.le_refl _)
  have f_r01 := b_r0.free1 b_r0.lt_size (Nat.le_refl _)
  have f_r02 := b_r0.free2 b_r0.lt_size (Nat.le_refl _)
  have l_r0 := b_r0.lt b_r0.lt_size (Nat.le_refl _)
  replace b_r0 := hide b_r0
  go_enter Try.func40, Try.ntmps40
  go_wp2_with fail
  rw [← hW]
  clear hW
  refine (top_any R_b.out (by omega) R_bd.out (by omega) (Nat.le_refl _) e_x.out).mono ?_
  rintro e w1 ⟨A_x, c_x, rfl, R_x, hb⟩
  replace R_a := hide (Rd.then_ R_a.out hb)
  replace R_ad := hide (Rd.then_ R_ad.out hb)
  replace R_b := hide (Rd.then_ R_b.out hb)
  replace R_bd := hide (Rd.then_ R_bd.out hb)
  have U1 : Below W.heap.size W w1 := Below.then_ U0 hb
  replace B := hide (Below.then_ B.out hb)
  replace R_x := hide R_x
  clear hb
  have hbx : Below w1.heap.size w1 (w1.alloc (.cells #[.bool (zneg x), .slice A_x (dig (zmag x)).length c_x] 25)) := ((Below.refl _ _).alloc (Nat.le_refl _) _)
  have Ux := Below.then_ U1 hbx
  go_wp2_with fail
  obtain ⟨V1, hV⟩ : ∃ V, V = (w1.alloc (.cells #[.bool (zneg x), .slice A_x (dig (zmag x)).length c_x] 25)) := ⟨_, rfl⟩
  obtain ⟨g_x, hg_x⟩ : ∃ g, g = w1.heap.size := ⟨_, rfl⟩
  rw [← hV]
  rw [← hV] at hbx Ux
  rw [← hg_x]
  have b_x : Box V1 g_x (.bool (zneg x)) (.slice A_x (dig (zmag x)).length c_x) := by rw [hV]; exact (Box.new _ _ _ hg_x)
  clear hV
  have ne_x_r0 : g_x ≠ w.heap.size + 1 + 1 := by have := l_r0 _ U1; omega
  replace ne_x_r0 := hide ne_x_r0
  have ne_a_x : w.heap.size ≠ g_x := by have := (b_a.out.lt b_a.out.lt_size (Nat.le_refl _)) _ U1; omega
  replace ne_a_x := hide ne_a_x
  have ne_b_x : w.heap.size + 1 ≠ g_x := by have := (b_b.out.lt b_b.out.lt_size (Nat.le_refl _)) _ U1; omega
  replace ne_b_x := hide ne_b_x
  have ne_r0_x := hide (Ne.symm ne_x_r0.out)
  have ge_x : w.heap.size ≤ g_x := by have := B.out.size; omega
  replace ge_x := hide ge_x
  clear hg_x
  replace R_a := hide (Rd.then_ R_a.out hbx)
  replace R_ad := hide (Rd.then_ R_ad.out hbx)
  replace R_b := hide (Rd.then_ R_b.out hbx)
  replace R_bd := hide (Rd.then_ R_bd.out hbx)
  replace R_x := hide (Rd.then_ R_x.out hbx)
  have U2 : Below W.heap.size W V1 := Below.then_ U1 hbx
  replace B := hide (Below.then_ B.out hbx)
  clear hbx
  replace b_a := hide (Box3.keep b_a.out U2)
  clear c_a0 c_a1 c_a2
  replace b_b := hide (Box3.keep b_b.out U2)
  clear c_b0 c_b1 c_b2
  replace b_r0 := hide (Box3.keep b_r0.out U2)
  clear c_r00 c_r01 c_r02 f_r00 f_r01 f_r02 l_r0
  replace b_x := hide b_x
  have U3 : Below V1.heap.size V1 V1 := Below.refl _ _
  have c_a0 := b_a.out.at0 b_a.out.lt_size (Nat.le_refl _)
  have c_a1 := b_a.out.at1 b_a.out.lt_size (Nat.le_refl _)
  have c_a2 := b_a.out.at2 b_a.out.lt_size (Nat.le_refl _)
  have c_b0 := b_b.out.at0 b_b.out.lt_size (Nat.le_refl _)
  have c_b1 := b_b.out.at1 b_b.out.lt_size (Nat.le_refl _)
  have c_b2 := b_b.out.at2 b_b.out.lt_size (Nat.le_refl _)
  have c_r00 := b_r0.out.at0 b_r0.out.lt_size (Nat.le_refl _)
  have c_r01 := b_r0.out.at1 b_r0.out.lt_size (Nat.le_refl _)
  have c_r02 := b_r0.out.at2 b_r0.out.lt_size (Nat.le_refl _)
  have f_r00 := b_r0.out.free0 b_r0.out.lt_size (Nat.le_refl _)
  have f_r01 := b_r0.out.free1 b_r0.out.lt_size (Nat.le_refl _)
  have f_r02 := b_r0.out.free2 b_r0.out.lt_size (Nat.le_refl _)
  have l_r0 := b_r0.out.lt b_r0.out.lt_size (Nat.le_refl _)
  have c_x0 := b_x.out.at0 b_x.out.lt_size (Nat.le_refl _)
  have c_x1 := b_x.out.at1 b_x.out.lt_size (Nat.le_refl _)
  refine (risign_any _ _ _ _ _ _ _ R_x.out (Nat.le_refl _)).mono ?_
  rw [e_k.out]
  rintro e w2 ⟨rfl, hb⟩
  replace R_a := hide (Rd.then_ R_a.out hb)
  replace R_ad := hide (Rd.then_ R_ad.out hb)
  replace R_b := hide (Rd.then_ R_b.out hb)
  replace R_bd := hide (Rd.then_ R_bd.out hb)
  replace R_x := hide (Rd.then_ R_x.out hb)
  have U4 : Below V1.heap.size V1 w2 := Below.then_ U3 hb
  replace B := hide (Below.then_ B.out hb)
  clear hb
  go_wp2_with fail
  replace b_a := hide (Box3.keep b_a.out U4)
  clear c_a0 c_a1 c_a2
  replace b_b := hide (Box3.keep b_b.out U4)
  clear c_b0 c_b1 c_b2
  replace b_r0 := hide (Box3.keep b_r0.out U4)
  clear c_r00 c_r01 c_r02 f_r00 f_r01 f_r02 l_r0
  replace b_x := hide (Box.keep b_x.out U4)
  clear c_x0 c_x1
  have U5 : Below w2.heap.size w2 w2 := Below.refl _ _
  have c_a0 := b_a.out.at0 b_a.out.lt_size (Nat.le_refl _)
  have c_a1 := b_a.out.at1 b_a.out.lt_size (Nat.le_refl _)
  have c_a2 := b_a.out.at2 b_a.out.lt_size (Nat.le_refl _)
  have c_b0 := b_b.out.at0 b_b.out.lt_size (Nat.le_refl _)
  have c_b1 := b_b.out.at1 b_b.out.lt_size (Nat.le_refl _)
  have c_b2 := b_b.out.at2 b_b.out.lt_size (Nat.le_refl _)
  have c_r00 := b_r0.out.at0 b_r0.out.lt_size (Nat.le_refl _)
  have c_r01 := b_r0.out.at1 b_r0.out.lt_size (Nat.le_refl _)
  have c_r02 := b_r0.out.at2 b_r0.out.lt_size (Nat.le_refl _)
  have f_r00 := b_r0.out.free0 b_r0.out.lt_size (Nat.le_refl _)
  have f_r01 := b_r0.out.free1 b_r0.out.lt_size (Nat.le_refl _)
  have f_r02 := b_r0.out.free2 b_r0.out.lt_size (Nat.le_refl _)
  have l_r0 := b_r0.out.lt b_r0.out.lt_size (Nat.le_refl _)
  have c_x0 := b_x.out.at0 b_x.out.lt_size (Nat.le_refl _)
  have c_x1 := b_x.out.at1 b_x.out.lt_size (Nat.le_refl _)
  have R_xm := R_x
  refine Code.wp_mono (Q := fun e a' w' => e = .normal ∧ ∃ (g : Nat) (A : Option Addr) (c : Nat) (v14 v15 v16 v17 v18 v19 v20 v21 : Value), a' = ⟨#[.agg #[.bool s_a, .slice A_a n_a c_a, .slice A_ad n_ad c_ad], .agg #[.bool s_b, .slice A_b n_b c_b, .slice A_bd n_bd c_bd], (.pointer (some ⟨w.heap.size, 0, none⟩)), (.pointer (some ⟨w.heap.size + 1, 0, none⟩)), (.pointer (some ⟨w.heap.size + 1 + 1, 0, none⟩)), .bool false, (.pointer (some ⟨g_x, 0, none⟩)), (.pointer (some ⟨g, 0, none⟩)), .agg #[.bool s_b, .slice A_b n_b c_b, .slice A_bd n_bd c_bd], .agg #[.bool (zneg x), .slice A_x (dig (zmag x)).length c_x], .agg #[.bool (zneg x), .slice A_x (dig (zmag x)).length c_x], (.int .i64 k), (.bool false), undef, v14, v15, v16, v17, v18, v19, v20, v21, undef, undef, undef], []⟩ ∧ Landed3 w2 w' g i A c A_x (dig (zmag x)).length c_x) ?_ ?_
  rotate_left
  · skip
    have hd := Below.drw_ w2
    replace R_a := hide (Rd.then_ R_a.out hd)
    replace R_ad := hide (Rd.then_ R_ad.out hd)
    replace R_b := hide (Rd.then_ R_b.out hd)
    replace R_bd := hide (Rd.then_ R_bd.out hd)
    replace R_x := hide (Rd.then_ R_x.out hd)
    replace R_xm := hide (Rd.then_ R_xm.out hd)
    have U6 : Below w2.heap.size w2 (w2.drew) := Below.then_ U5 hd
    replace B := hide (Below.then_ B.out hd)
    clear hd
    have tok1 : True := trivial
    go_region_held3 (fun w' => Below w2.heap.size w2 w') (first | assumption | (with_reducible exact Below.al_ (by assumption) _) | (with_reducible exact Below.al_drew (by assumption) _) | (with_reducible exact (landed3_new U8 R_i.out).below) | (with_reducible exact (landed3_set U8 R_i.out X8.out).below) | (with_reducible exact (landed3_late U8 R_i.out).below) | fail)
      (first
        | (go_at_call 62; (have _t := tok1; (with_reducible refine (rlow_any (by first | exact R_b.out | exact Rd.al_ R_b.out | exact Rd.al_drew R_b.out) (by omega) (by first | exact R_bd.out | exact Rd.al_ R_bd.out | exact Rd.al_drew R_bd.out) (by omega) (Nat.le_refl _) e_d.out).mono ?_); rintro e w3 ⟨A_d, c_d, rfl, R_d, hb⟩; have hb1 : Below (w2.drew).heap.size (w2.drew) w3 := (by first | exact hb | exact Below.al_then hb | exact Below.al_then_drew hb); (first | (have X7 := hide (XBox3.made_drew U6 hb)) | (have X7 := hide (XBox3.made U6 hb)) | (have X7 := hide (XBox3.keep X0.out hb1)) | skip); replace R_a := hide (Rd.then_ R_a.out hb1); replace R_ad := hide (Rd.then_ R_ad.out hb1); replace R_b := hide (Rd.then_ R_b.out hb1); replace R_bd := hide (Rd.then_ R_bd.out hb1); replace R_x := hide (Rd.then_ R_x.out hb1); replace R_xm := hide (Rd.then_ R_xm.out hb1); have U7 : Below w2.heap.size w2 w3 := Below.then_ U6 hb1; replace B := hide (Below.then_ B.out hb1); clear hb1; replace R_d := hide R_d; clear hb; have tok2 : True := trivial; clear _t tok1))
        | (go_at_call 61; (have _t := tok2; (with_reducible refine (rimake_any _ _ _ _ _ _ _ (by first | exact R_d.out | exact Rd.al_ R_d.out | exact Rd.al_drew R_d.out) (Nat.le_refl _)).mono ?_); rw [e_i.out]; rintro e w4 ⟨A_i, c_i, rfl, R_i, hb⟩; have hb1 : Below w3.heap.size w3 w4 := (by first | exact hb | exact Below.al_then hb | exact Below.al_then_drew hb); (first | (have X8 := hide (XBox3.made_drew U7 hb)) | (have X8 := hide (XBox3.made U7 hb)) | (have X8 := hide (XBox3.keep X7.out hb1)) | skip); replace R_a := hide (Rd.then_ R_a.out hb1); replace R_ad := hide (Rd.then_ R_ad.out hb1); replace R_b := hide (Rd.then_ R_b.out hb1); replace R_bd := hide (Rd.then_ R_bd.out hb1); replace R_x := hide (Rd.then_ R_x.out hb1); replace R_xm := hide (Rd.then_ R_xm.out hb1); replace R_d := hide (Rd.then_ R_d.out hb1); have U8 : Below w2.heap.size w2 w4 := Below.then_ U7 hb1; replace B := hide (Below.then_ B.out hb1); clear hb1; replace R_i := hide R_i; clear hb; have tok3 : True := trivial; clear _t tok2; (first | (have xf := XBox3.facts X8.out; obtain ⟨x0, x1, x2, x3, x4⟩ := xf) | skip))))
    all_goals (refine ⟨rfl, _, A_i, c_i, _, _, _, _, _, _, _, _, rfl, ?_⟩; first | exact landed3_new U8 R_i.out | exact landed3_set U8 R_i.out X8.out | exact landed3_late U8 R_i.out)
  rintro e a' w5 ⟨rfl, g_i, A_i, c_i, v14, v15, v16, v17, v18, v19, v20, v21, rfl, hbx, b_i, R_i, hg_i⟩
  replace R_i := hide R_i
  have ne_i_r0 : g_i ≠ w.heap.size + 1 + 1 := by have := l_r0 _ U5; omega
  replace ne_i_r0 := hide ne_i_r0
  have ne_a_i : w.heap.size ≠ g_i := by have := (b_a.out.lt b_a.out.lt_size (Nat.le_refl _)) _ U5; omega
  replace ne_a_i := hide ne_a_i
  have ne_b_i : w.heap.size + 1 ≠ g_i := by have := (b_b.out.lt b_b.out.lt_size (Nat.le_refl _)) _ U5; omega
  replace ne_b_i := hide ne_b_i
  have ne_r0_i := hide (Ne.symm ne_i_r0.out)
  have ne_x_i : g_x ≠ g_i := by have := (b_x.out.lt b_x.out.lt_size (Nat.le_refl _)) _ U5; omega
  replace ne_x_i := hide ne_x_i
  have ge_i : w.heap.size ≤ g_i := by have := B.out.size; omega
  replace ge_i := hide ge_i
  clear hg_i
  replace R_a := hide (Rd.then_ R_a.out hbx)
  replace R_ad := hide (Rd.then_ R_ad.out hbx)
  replace R_b := hide (Rd.then_ R_b.out hbx)
  replace R_bd := hide (Rd.then_ R_bd.out hbx)
  replace R_x := hide (Rd.then_ R_x.out hbx)
  replace R_xm := hide (Rd.then_ R_xm.out hbx)
  have U6 : Below w2.heap.size w2 w5 := Below.then_ U5 hbx
  replace B := hide (Below.then_ B.out hbx)
  clear hbx
  have R_id := R_xm
  replace b_a := hide (Box3.keep b_a.out U6)
  clear c_a0 c_a1 c_a2
  replace b_b := hide (Box3.keep b_b.out U6)
  clear c_b0 c_b1 c_b2
  replace b_r0 := hide (Box3.keep b_r0.out U6)
  clear c_r00 c_r01 c_r02 f_r00 f_r01 f_r02 l_r0
  replace b_x := hide (Box.keep b_x.out U6)
  clear c_x0 c_x1
  replace b_i := hide b_i
  have U7 : Below w5.heap.size w5 w5 := Below.refl _ _
  have c_a0 := b_a.out.at0 b_a.out.lt_size (Nat.le_refl _)
  have c_a1 := b_a.out.at1 b_a.out.lt_size (Nat.le_refl _)
  have c_a2 := b_a.out.at2 b_a.out.lt_size (Nat.le_refl _)
  have c_b0 := b_b.out.at0 b_b.out.lt_size (Nat.le_refl _)
  have c_b1 := b_b.out.at1 b_b.out.lt_size (Nat.le_refl _)
  have c_b2 := b_b.out.at2 b_b.out.lt_size (Nat.le_refl _)
  have c_r00 := b_r0.out.at0 b_r0.out.lt_size (Nat.le_refl _)
  have c_r01 := b_r0.out.at1 b_r0.out.lt_size (Nat.le_refl _)
  have c_r02 := b_r0.out.at2 b_r0.out.lt_size (Nat.le_refl _)
  have f_r00 := b_r0.out.free0 b_r0.out.lt_size (Nat.le_refl _)
  have f_r01 := b_r0.out.free1 b_r0.out.lt_size (Nat.le_refl _)
  have f_r02 := b_r0.out.free2 b_r0.out.lt_size (Nat.le_refl _)
  have l_r0 := b_r0.out.lt b_r0.out.lt_size (Nat.le_refl _)
  have c_x0 := b_x.out.at0 b_x.out.lt_size (Nat.le_refl _)
  have c_x1 := b_x.out.at1 b_x.out.lt_size (Nat.le_refl _)
  have c_i0 := b_i.out.at0 b_i.out.lt_size (Nat.le_refl _)
  have c_i1 := b_i.out.at1 b_i.out.lt_size (Nat.le_refl _)
  have c_i2 := b_i.out.at2 b_i.out.lt_size (Nat.le_refl _)
  go_wp2_with fail
  refine (rmul3_any R_a.out gg.out.1 R_ad.out gg.out.2 R_i.out li.out R_id.out lx.out (Nat.le_refl _) e_q.out).mono ?_
  rintro e w6 ⟨A_q, c_q, A_qd, c_qd, rfl, R_q, R_qd, hb⟩
  replace R_a := hide (Rd.then_ R_a.out hb)
  replace R_ad := hide (Rd.then_ R_ad.out hb)
  replace R_b := hide (Rd.then_ R_b.out hb)
  replace R_bd := hide (Rd.then_ R_bd.out hb)
  replace R_x := hide (Rd.then_ R_x.out hb)
  replace R_xm := hide (Rd.then_ R_xm.out hb)
  replace R_i := hide (Rd.then_ R_i.out hb)
  replace R_id := hide (Rd.then_ R_id.out hb)
  have U8 : Below w5.heap.size w5 w6 := Below.then_ U7 hb
  replace B := hide (Below.then_ B.out hb)
  replace R_q := hide R_q
  replace R_qd := hide R_qd
  clear hb
  go_wp2
  exact bodyPost_ret (v := .tuple #[.agg #[.bool (zneg q.num), .slice A_q (dig (zmag q.num)).length c_q, .slice A_qd (dig q.den).length c_qd], .bool true]) (by simp [results, Try.results40, go_sem, c_r00 _ U8, c_r01 _ U8, c_r02 _ U8]) rfl (RetRatB.box B.out (by omega) (c_r00 _ U8) (c_r01 _ U8) (c_r02 _ U8) R_q.out R_qd.out)

theorem rdiv3_any {w : World} {Bd : Nat} {A_a : Option Addr} {n_a c_a : Nat} {x_a : List Nat} {s_a : Bool} {A_ad : Option Addr} {n_ad c_ad : Nat} {x_ad : List Nat} {A_b : Option Addr} {n_b c_b : Nat} {x_b : List Nat} {s_b : Bool} {A_bd : Option Addr} {n_bd c_bd : Nat} {x_bd : List Nat} (h_a : Rd w Bd A_a n_a c_a x_a) (g_a : n_a ≤ 1000000000) (h_ad : Rd w Bd A_ad n_ad c_ad x_ad) (g_ad : n_ad ≤ 1000000000) (h_b : Rd w Bd A_b n_b c_b x_b) (g_b : n_b ≤ 1000000000) (h_bd : Rd w Bd A_bd n_bd c_bd x_bd) (g_bd : n_bd ≤ 1000000000) (hB : Bd ≤ w.heap.size) {q : Rat} {ok : Bool} (hq : qv s_a (val x_a) (val x_ad) / qv s_b (val x_b) (val x_bd) = q) (hok : decide (qv s_b (val x_b) (val x_bd) ≠ 0) = ok) :
    Calls Try.prog 40 #[.agg #[.bool s_a, .slice A_a n_a c_a, .slice A_ad n_ad c_ad], .agg #[.bool s_b, .slice A_b n_b c_b, .slice A_bd n_bd c_bd]] w (RetRatB w q ok) := by
  by_cases h0 : qv s_b (val x_b) (val x_bd) = 0
  · rw [decide_eq_false (fun h => h h0)] at hok
    subst hok
    exact rdiv3_0 h_a g_a h_ad g_ad h_b g_b h_bd g_bd hB h0 (by rw [← hq, h0, Rat.div_def, Rat.inv_zero, Rat.mul_zero])
  · rw [decide_eq_true h0] at hok
    subst hok
    exact rdiv3_1 h_a g_a h_ad g_ad h_b g_b h_bd g_bd hB h0 hq

end Go.Proofs.Ytieopcchchebgaa

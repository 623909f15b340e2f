/-
  RatioMakes.
-/
import Derived.Test.YtieopcchchebgaaLaw3
namespace Go.Proofs.Ytieopcchchebgaa
open Go.RowKit


set_option maxHeartbeats 4000000 in
theorem makes_walk {w : World} {Bd : Nat} {x y : Int} {A_n : Option Addr} {n_n c_n : Nat} {x_n : List Nat} {s_n : Bool} {A_d : Option Addr} {n_d c_d : Nat} {x_d : List Nat} {s_d : Bool} (h_n : Rd w Bd A_n n_n c_n x_n) (g_n : n_n ≤ 40) (h_d : Rd w Bd A_d n_d c_d x_d) (g_d : n_d ≤ 40) (hB : Bd ≤ w.heap.size) (hx0 : -9223372036854775808 ≤ x) (hx1 : x ≤ 9223372036854775807) (hy0 : -9223372036854775808 ≤ y) (hy1 : y ≤ 9223372036854775807) :
    Calls Try.prog 3 #[.int .i64 x, .int .i64 y, .agg #[.bool s_n, .slice A_n n_n c_n], .agg #[.bool s_d, .slice A_d n_d c_d]] w (RetB w (.bool true)) := by
  obtain ⟨q, e_q⟩ : ∃ v, Rat.divInt x y = v := ⟨_, rfl⟩
  replace e_q := hide e_q
  obtain ⟨ok, e_ok⟩ : ∃ ok, decide (y ≠ 0) = ok := ⟨_, rfl⟩
  replace e_ok := hide e_ok
  obtain ⟨p, e_p⟩ : ∃ v, Rat.divInt (iv s_n (val x_n)) (iv s_d (val x_d)) = v := ⟨_, rfl⟩
  replace e_p := hide e_p
  obtain ⟨ok2, e_ok2⟩ : ∃ ok, decide (iv s_d (val x_d) ≠ 0) = ok := ⟨_, rfl⟩
  replace e_ok2 := hide e_ok2
  have h4n : decide ((40 : Int) < (n_n : Int)) = false := by simp; omega
  have bb_n : n_n ≤ 10000000000 := by omega
  replace bb_n := hide bb_n
  have h4d : decide ((40 : Int) < (n_d : Int)) = false := by simp; omega
  have bb_d : n_d ≤ 10000000000 := by omega
  replace bb_d := hide bb_d
  replace hx0 := hide hx0
  replace hx1 := hide hx1
  replace hy0 := hide hy0
  replace hy1 := hide hy1
  obtain ⟨W, hW⟩ : ∃ W, W = ((w.alloc (.cells #[.bool s_n, .slice A_n n_n c_n] 25)).alloc (.cells #[.bool s_d, .slice A_d n_d c_d] 25)) := ⟨_, rfl⟩
  have b_n : Box W (w.heap.size) (.bool s_n) (.slice A_n n_n c_n) := by rw [hW]; exact ((Box.new w _ _ rfl).al _)
  have b_d : Box W (w.heap.size + 1) (.bool s_d) (.slice A_d n_d c_d) := by rw [hW]; exact (Box.new _ _ _ (by simp))
  have hwW : Below w.heap.size w W := by rw [hW]; exact (((Below.refl _ _).alloc (Nat.le_refl _) _).alloc (by simp) _)
  have R_n := hide (Rd.upto h_n hwW hB)
  clear h_n
  have R_d := hide (Rd.upto h_d hwW hB)
  clear h_d
  have B := hide hwW
  clear hwW
  clear hB
  have U0 : Below W.heap.size W W := Below.refl _ _
  have c_n0 := b_n.at0 b_n.lt_size (Nat.le_refl _)
  have c_n1 := b_n.at1 b_n.lt_size (Nat.le_refl _)
  replace b_n := hide b_n
  have c_d0 := b_d.at0 b_d.lt_size (Nat.le_refl _)
  have c_d1 := b_d.at1 b_d.lt_size (Nat.le_refl _)
  replace b_d := hide b_d
  go_enter Try.func3, Try.ntmps3
  go_wp2_with fail
  rw [← hW]
  clear hW
  refine (pof_any hx0.out hx1.out hy0.out hy1.out e_q.out e_ok.out).mono ?_
  rintro e w1 ⟨A_q1, c_q1, A_q1d, c_q1d, rfl, R_q1, R_q1d, hb⟩
  replace R_n := hide (Rd.then_ R_n.out hb)
  replace R_d := hide (Rd.then_ R_d.out hb)
  have U1 : Below W.heap.size W w1 := Below.then_ U0 hb
  replace B := hide (Below.then_ B.out hb)
  replace R_q1 := hide R_q1
  replace R_q1d := hide R_q1d
  clear hb
  have hbx : Below w1.heap.size w1 (w1.alloc (.cells #[.bool (zneg q.num), .slice A_q1 (dig (zmag q.num)).length c_q1, .slice A_q1d (dig q.den).length c_q1d] 27)) := ((Below.refl _ _).alloc (Nat.le_refl _) _)
  have Ux := Below.then_ U1 hbx
  go_wp2_with fail
  obtain ⟨V1, hV⟩ : ∃ V, V = (w1.alloc (.cells #[.bool (zneg q.num), .slice A_q1 (dig (zmag q.num)).length c_q1, .slice A_q1d (dig q.den).length c_q1d] 27)) := ⟨_, rfl⟩
  obtain ⟨g_q1, hg_q1⟩ : ∃ g, g = w1.heap.size := ⟨_, rfl⟩
  rw [← hV]
  rw [← hV] at hbx Ux
  rw [← hg_q1]
  have b_q1 : Box3 V1 g_q1 (.bool (zneg q.num)) (.slice A_q1 (dig (zmag q.num)).length c_q1) (.slice A_q1d (dig q.den).length c_q1d) := by rw [hV]; exact (Box3.new _ _ _ _ hg_q1)
  clear hV
  have ne_n_q1 : w.heap.size ≠ g_q1 := by have := (b_n.out.lt b_n.out.lt_size (Nat.le_refl _)) _ U1; omega
  replace ne_n_q1 := hide ne_n_q1
  have ne_d_q1 : w.heap.size + 1 ≠ g_q1 := by have := (b_d.out.lt b_d.out.lt_size (Nat.le_refl _)) _ U1; omega
  replace ne_d_q1 := hide ne_d_q1
  have ge_q1 : w.heap.size ≤ g_q1 := by have := B.out.size; omega
  replace ge_q1 := hide ge_q1
  clear hg_q1
  replace R_n := hide (Rd.then_ R_n.out hbx)
  replace R_d := hide (Rd.then_ R_d.out hbx)
  replace R_q1 := hide (Rd.then_ R_q1.out hbx)
  replace R_q1d := hide (Rd.then_ R_q1d.out hbx)
  have U2 : Below W.heap.size W V1 := Below.then_ U1 hbx
  replace B := hide (Below.then_ B.out hbx)
  clear hbx
  replace b_n := hide (Box.keep b_n.out U2)
  clear c_n0 c_n1
  replace b_d := hide (Box.keep b_d.out U2)
  clear c_d0 c_d1
  replace b_q1 := hide b_q1
  have U3 : Below V1.heap.size V1 V1 := Below.refl _ _
  have c_n0 := b_n.out.at0 b_n.out.lt_size (Nat.le_refl _)
  have c_n1 := b_n.out.at1 b_n.out.lt_size (Nat.le_refl _)
  have c_d0 := b_d.out.at0 b_d.out.lt_size (Nat.le_refl _)
  have c_d1 := b_d.out.at1 b_d.out.lt_size (Nat.le_refl _)
  have c_q10 := b_q1.out.at0 b_q1.out.lt_size (Nat.le_refl _)
  have c_q11 := b_q1.out.at1 b_q1.out.lt_size (Nat.le_refl _)
  have c_q12 := b_q1.out.at2 b_q1.out.lt_size (Nat.le_refl _)
  have f_q10 := b_q1.out.free0 b_q1.out.lt_size (Nat.le_refl _)
  have f_q11 := b_q1.out.free1 b_q1.out.lt_size (Nat.le_refl _)
  have f_q12 := b_q1.out.free2 b_q1.out.lt_size (Nat.le_refl _)
  have l_q1 := b_q1.out.lt b_q1.out.lt_size (Nat.le_refl _)
  refine (rof3_any hx0.out hx1.out hy0.out hy1.out e_q.out e_ok.out).mono ?_
  rintro e w2 ⟨A_q2, c_q2, A_q2d, c_q2d, rfl, R_q2, R_q2d, hb⟩
  replace R_n := hide (Rd.then_ R_n.out hb)
  replace R_d := hide (Rd.then_ R_d.out hb)
  replace R_q1 := hide (Rd.then_ R_q1.out hb)
  replace R_q1d := hide (Rd.then_ R_q1d.out hb)
  have U4 : Below V1.heap.size V1 w2 := Below.then_ U3 hb
  replace B := hide (Below.then_ B.out hb)
  replace R_q2 := hide R_q2
  replace R_q2d := hide R_q2d
  clear hb
  have hbx : Below w2.heap.size w2 (w2.alloc (.cells #[.bool (zneg q.num), .slice A_q2 (dig (zmag q.num)).length c_q2, .slice A_q2d (dig q.den).length c_q2d] 27)) := ((Below.refl _ _).alloc (Nat.le_refl _) _)
  have Ux := Below.then_ U4 hbx
  go_wp2_with fail
  obtain ⟨V4, hV⟩ : ∃ V, V = (w2.alloc (.cells #[.bool (zneg q.num), .slice A_q2 (dig (zmag q.num)).length c_q2, .slice A_q2d (dig q.den).length c_q2d] 27)) := ⟨_, rfl⟩
  obtain ⟨g_q2, hg_q2⟩ : ∃ g, g = w2.heap.size := ⟨_, rfl⟩
  rw [← hV]
  rw [← hV] at hbx Ux
  rw [← hg_q2]
  have b_q2 : Box3 V4 g_q2 (.bool (zneg q.num)) (.slice A_q2 (dig (zmag q.num)).length c_q2) (.slice A_q2d (dig q.den).length c_q2d) := by rw [hV]; exact (Box3.new _ _ _ _ hg_q2)
  clear hV
  have ne_n_q2 : w.heap.size ≠ g_q2 := by have := (b_n.out.lt b_n.out.lt_size (Nat.le_refl _)) _ U4; omega
  replace ne_n_q2 := hide ne_n_q2
  have ne_d_q2 : w.heap.size + 1 ≠ g_q2 := by have := (b_d.out.lt b_d.out.lt_size (Nat.le_refl _)) _ U4; omega
  replace ne_d_q2 := hide ne_d_q2
  have ne_q1_q2 : g_q1 ≠ g_q2 := by have := (b_q1.out.lt b_q1.out.lt_size (Nat.le_refl _)) _ U4; omega
  replace ne_q1_q2 := hide ne_q1_q2
  have ne_q2_q1 := hide (Ne.symm ne_q1_q2.out)
  have ge_q2 : w.heap.size ≤ g_q2 := by have := B.out.size; omega
  replace ge_q2 := hide ge_q2
  clear hg_q2
  replace R_n := hide (Rd.then_ R_n.out hbx)
  replace R_d := hide (Rd.then_ R_d.out hbx)
  replace R_q1 := hide (Rd.then_ R_q1.out hbx)
  replace R_q1d := hide (Rd.then_ R_q1d.out hbx)
  replace R_q2 := hide (Rd.then_ R_q2.out hbx)
  replace R_q2d := hide (Rd.then_ R_q2d.out hbx)
  have U5 : Below V1.heap.size V1 V4 := Below.then_ U4 hbx
  replace B := hide (Below.then_ B.out hbx)
  clear hbx
  replace b_n := hide (Box.keep b_n.out U5)
  clear c_n0 c_n1
  replace b_d := hide (Box.keep b_d.out U5)
  clear c_d0 c_d1
  replace b_q1 := hide (Box3.keep b_q1.out U5)
  clear c_q10 c_q11 c_q12 f_q10 f_q11 f_q12 l_q1
  replace b_q2 := hide b_q2
  have U6 : Below V4.heap.size V4 V4 := Below.refl _ _
  have c_n0 := b_n.out.at0 b_n.out.lt_size (Nat.le_refl _)
  have c_n1 := b_n.out.at1 b_n.out.lt_size (Nat.le_refl _)
  have c_d0 := b_d.out.at0 b_d.out.lt_size (Nat.le_refl _)
  have c_d1 := b_d.out.at1 b_d.out.lt_size (Nat.le_refl _)
  have c_q10 := b_q1.out.at0 b_q1.out.lt_size (Nat.le_refl _)
  have c_q11 := b_q1.out.at1 b_q1.out.lt_size (Nat.le_refl _)
  have c_q12 := b_q1.out.at2 b_q1.out.lt_size (Nat.le_refl _)
  have f_q10 := b_q1.out.free0 b_q1.out.lt_size (Nat.le_refl _)
  have f_q11 := b_q1.out.free1 b_q1.out.lt_size (Nat.le_refl _)
  have f_q12 := b_q1.out.free2 b_q1.out.lt_size (Nat.le_refl _)
  have l_q1 := b_q1.out.lt b_q1.out.lt_size (Nat.le_refl _)
  have c_q20 := b_q2.out.at0 b_q2.out.lt_size (Nat.le_refl _)
  have c_q21 := b_q2.out.at1 b_q2.out.lt_size (Nat.le_refl _)
  have c_q22 := b_q2.out.at2 b_q2.out.lt_size (Nat.le_refl _)
  have f_q20 := b_q2.out.free0 b_q2.out.lt_size (Nat.le_refl _)
  have f_q21 := b_q2.out.free1 b_q2.out.lt_size (Nat.le_refl _)
  have f_q22 := b_q2.out.free2 b_q2.out.lt_size (Nat.le_refl _)
  have l_q2 := b_q2.out.lt b_q2.out.lt_size (Nat.le_refl _)
  refine (same_t R_q1.out R_q1d.out R_q2.out R_q2d.out (Nat.le_refl _) rfl).mono ?_
  rintro e w3 ⟨rfl, hb⟩
  replace R_n := hide (Rd.then_ R_n.out hb)
  replace R_d := hide (Rd.then_ R_d.out hb)
  replace R_q1 := hide (Rd.then_ R_q1.out hb)
  replace R_q1d := hide (Rd.then_ R_q1d.out hb)
  replace R_q2 := hide (Rd.then_ R_q2.out hb)
  replace R_q2d := hide (Rd.then_ R_q2d.out hb)
  have U7 : Below V4.heap.size V4 w3 := Below.then_ U6 hb
  replace B := hide (Below.then_ B.out hb)
  clear hb
  go_wp2_with fail
  refine (pmake_any R_n.out bb_n.out R_d.out bb_d.out (Nat.le_refl _) e_p.out e_ok2.out).mono ?_
  rintro e w4 ⟨A_p1, c_p1, A_p1d, c_p1d, rfl, R_p1, R_p1d, hb⟩
  replace R_n := hide (Rd.then_ R_n.out hb)
  replace R_d := hide (Rd.then_ R_d.out hb)
  replace R_q1 := hide (Rd.then_ R_q1.out hb)
  replace R_q1d := hide (Rd.then_ R_q1d.out hb)
  replace R_q2 := hide (Rd.then_ R_q2.out hb)
  replace R_q2d := hide (Rd.then_ R_q2d.out hb)
  have U8 : Below V4.heap.size V4 w4 := Below.then_ U7 hb
  replace B := hide (Below.then_ B.out hb)
  replace R_p1 := hide R_p1
  replace R_p1d := hide R_p1d
  clear hb
  have nn_n := ne_n_q1.out
  have nn_d := ne_d_q1.out
  have nn_q2 := ne_q2_q1.out
  go_wp2_with fail
  clear nn_n
  clear nn_d
  clear nn_q2
  obtain ⟨V9, hV⟩ : ∃ V, V = (((w4.setCell ⟨g_q1, 0, none⟩ (.bool (zneg p.num))).setCell ⟨g_q1, 1, none⟩ (.slice A_p1 (dig (zmag p.num)).length c_p1)).setCell ⟨g_q1, 2, none⟩ (.slice A_p1d (dig p.den).length c_p1d)) := ⟨_, rfl⟩
  rw [← hV]
  have b_n' : Box V9 (w.heap.size) (.bool s_n) (.slice A_n n_n c_n) := by rw [hV]; exact (Box.other (Box.other (Box.other (Box.keep b_n.out U8) ne_n_q1.out _) ne_n_q1.out _) ne_n_q1.out _)
  have b_d' : Box V9 (w.heap.size + 1) (.bool s_d) (.slice A_d n_d c_d) := by rw [hV]; exact (Box.other (Box.other (Box.other (Box.keep b_d.out U8) ne_d_q1.out _) ne_d_q1.out _) ne_d_q1.out _)
  have b_q1' : Box3 V9 g_q1 (.bool (zneg p.num)) (.slice A_p1 (dig (zmag p.num)).length c_p1) (.slice A_p1d (dig p.den).length c_p1d) := by rw [hV]; exact Box3.set (Box3.keep b_q1.out U8) _ _ _ 
  have b_q2' : Box3 V9 (g_q2) (.bool (zneg q.num)) (.slice A_q2 (dig (zmag q.num)).length c_q2) (.slice A_q2d (dig q.den).length c_q2d) := by rw [hV]; exact (Box3.other (Box3.other (Box3.other (Box3.keep b_q2.out U8) ne_q2_q1.out _) ne_q2_q1.out _) ne_q2_q1.out _)
  replace R_n : Hid (Rd V9 V9.heap.size A_n n_n c_n x_n) := hide (by rw [hV]; simpa using far3 (c_q10 _ U8) (c_q11 _ U8) (c_q12 _ U8) _ _ _ R_n.out)
  replace R_d : Hid (Rd V9 V9.heap.size A_d n_d c_d x_d) := hide (by rw [hV]; simpa using far3 (c_q10 _ U8) (c_q11 _ U8) (c_q12 _ U8) _ _ _ R_d.out)
  replace R_q1 : Hid (Rd V9 V9.heap.size A_q1 (dig (zmag q.num)).length c_q1 (dig (zmag q.num))) := hide (by rw [hV]; simpa using far3 (c_q10 _ U8) (c_q11 _ U8) (c_q12 _ U8) _ _ _ R_q1.out)
  replace R_q1d : Hid (Rd V9 V9.heap.size A_q1d (dig q.den).length c_q1d (dig q.den)) := hide (by rw [hV]; simpa using far3 (c_q10 _ U8) (c_q11 _ U8) (c_q12 _ U8) _ _ _ R_q1d.out)
  replace R_q2 : Hid (Rd V9 V9.heap.size A_q2 (dig (zmag q.num)).length c_q2 (dig (zmag q.num))) := hide (by rw [hV]; simpa using far3 (c_q10 _ U8) (c_q11 _ U8) (c_q12 _ U8) _ _ _ R_q2.out)
  replace R_q2d : Hid (Rd V9 V9.heap.size A_q2d (dig q.den).length c_q2d (dig q.den)) := hide (by rw [hV]; simpa using far3 (c_q10 _ U8) (c_q11 _ U8) (c_q12 _ U8) _ _ _ R_q2d.out)
  replace R_p1 : Hid (Rd V9 V9.heap.size A_p1 (dig (zmag p.num)).length c_p1 (dig (zmag p.num))) := hide (by rw [hV]; simpa using far3 (c_q10 _ U8) (c_q11 _ U8) (c_q12 _ U8) _ _ _ R_p1.out)
  replace R_p1d : Hid (Rd V9 V9.heap.size A_p1d (dig p.den).length c_p1d (dig p.den)) := hide (by rw [hV]; simpa using far3 (c_q10 _ U8) (c_q11 _ U8) (c_q12 _ U8) _ _ _ R_p1d.out)
  replace B : Hid (Below w.heap.size w V9) := hide (by rw [hV]; exact (((B.out.setCell ge_q1.out _).setCell ge_q1.out _).setCell ge_q1.out _))
  clear hV
  clear c_n0 c_n1
  replace b_n := hide b_n'
  clear b_n'
  clear c_d0 c_d1
  replace b_d := hide b_d'
  clear b_d'
  clear c_q10 c_q11 c_q12 f_q10 f_q11 f_q12 l_q1
  replace b_q1 := hide b_q1'
  clear b_q1'
  clear c_q20 c_q21 c_q22 f_q20 f_q21 f_q22 l_q2
  replace b_q2 := hide b_q2'
  clear b_q2'
  have U10 : Below V9.heap.size V9 V9 := Below.refl _ _
  have c_n0 := b_n.out.at0 b_n.out.lt_size (Nat.le_refl _)
  have c_n1 := b_n.out.at1 b_n.out.lt_size (Nat.le_refl _)
  have c_d0 := b_d.out.at0 b_d.out.lt_size (Nat.le_refl _)
  have c_d1 := b_d.out.at1 b_d.out.lt_size (Nat.le_refl _)
  have c_q10 := b_q1.out.at0 b_q1.out.lt_size (Nat.le_refl _)
  have c_q11 := b_q1.out.at1 b_q1.out.lt_size (Nat.le_refl _)
  have c_q12 := b_q1.out.at2 b_q1.out.lt_size (Nat.le_refl _)
  have f_q10 := b_q1.out.free0 b_q1.out.lt_size (Nat.le_refl _)
  have f_q11 := b_q1.out.free1 b_q1.out.lt_size (Nat.le_refl _)
  have f_q12 := b_q1.out.free2 b_q1.out.lt_size (Nat.le_refl _)
  have l_q1 := b_q1.out.lt b_q1.out.lt_size (Nat.le_refl _)
  have c_q20 := b_q2.out.at0 b_q2.out.lt_size (Nat.le_refl _)
  have c_q21 := b_q2.out.at1 b_q2.out.lt_size (Nat.le_refl _)
  have c_q22 := b_q2.out.at2 b_q2.out.lt_size (Nat.le_refl _)
  have f_q20 := b_q2.out.free0 b_q2.out.lt_size (Nat.le_refl _)
  have f_q21 := b_q2.out.free1 b_q2.out.lt_size (Nat.le_refl _)
  have f_q22 := b_q2.out.free2 b_q2.out.lt_size (Nat.le_refl _)
  have l_q2 := b_q2.out.lt b_q2.out.lt_size (Nat.le_refl _)
  refine (rmake_any R_n.out bb_n.out R_d.out bb_d.out (Nat.le_refl _) e_p.out e_ok2.out).mono ?_
  rintro e w5 ⟨A_p2, c_p2, A_p2d, c_p2d, rfl, R_p2, R_p2d, hb⟩
  replace R_n := hide (Rd.then_ R_n.out hb)
  replace R_d := hide (Rd.then_ R_d.out hb)
  replace R_q1 := hide (Rd.then_ R_q1.out hb)
  replace R_q1d := hide (Rd.then_ R_q1d.out hb)
  replace R_q2 := hide (Rd.then_ R_q2.out hb)
  replace R_q2d := hide (Rd.then_ R_q2d.out hb)
  replace R_p1 := hide (Rd.then_ R_p1.out hb)
  replace R_p1d := hide (Rd.then_ R_p1d.out hb)
  have U11 : Below V9.heap.size V9 w5 := Below.then_ U10 hb
  replace B := hide (Below.then_ B.out hb)
  replace R_p2 := hide R_p2
  replace R_p2d := hide R_p2d
  clear hb
  have nn_n := ne_n_q2.out
  have nn_d := ne_d_q2.out
  have nn_q1 := ne_q1_q2.out
  go_wp2_with fail
  clear nn_n
  clear nn_d
  clear nn_q1
  obtain ⟨V12, hV⟩ : ∃ V, V = (((w5.setCell ⟨g_q2, 0, none⟩ (.bool (zneg p.num))).setCell ⟨g_q2, 1, none⟩ (.slice A_p2 (dig (zmag p.num)).length c_p2)).setCell ⟨g_q2, 2, none⟩ (.slice A_p2d (dig p.den).length c_p2d)) := ⟨_, rfl⟩
  rw [← hV]
  have b_n' : Box V12 (w.heap.size) (.bool s_n) (.slice A_n n_n c_n) := by rw [hV]; exact (Box.other (Box.other (Box.other (Box.keep b_n.out U11) ne_n_q2.out _) ne_n_q2.out _) ne_n_q2.out _)
  have b_d' : Box V12 (w.heap.size + 1) (.bool s_d) (.slice A_d n_d c_d) := by rw [hV]; exact (Box.other (Box.other (Box.other (Box.keep b_d.out U11) ne_d_q2.out _) ne_d_q2.out _) ne_d_q2.out _)
  have b_q1' : Box3 V12 (g_q1) (.bool (zneg p.num)) (.slice A_p1 (dig (zmag p.num)).length c_p1) (.slice A_p1d (dig p.den).length c_p1d) := by rw [hV]; exact (Box3.other (Box3.other (Box3.other (Box3.keep b_q1.out U11) ne_q1_q2.out _) ne_q1_q2.out _) ne_q1_q2.out _)
  have b_q2' : Box3 V12 g_q2 (.bool (zneg p.num)) (.slice A_p2 (dig (zmag p.num)).length c_p2) (.slice A_p2d (dig p.den).length c_p2d) := by rw [hV]; exact Box3.set (Box3.keep b_q2.out U11) _ _ _ 
  replace R_n : Hid (Rd V12 V12.heap.size A_n n_n c_n x_n) := hide (by rw [hV]; simpa using far3 (c_q20 _ U11) (c_q21 _ U11) (c_q22 _ U11) _ _ _ R_n.out)
  replace R_d : Hid (Rd V12 V12.heap.size A_d n_d c_d x_d) := hide (by rw [hV]; simpa using far3 (c_q20 _ U11) (c_q21 _ U11) (c_q22 _ U11) _ _ _ R_d.out)
  replace R_q1 : Hid (Rd V12 V12.heap.size A_q1 (dig (zmag q.num)).length c_q1 (dig (zmag q.num))) := hide (by rw [hV]; simpa using far3 (c_q20 _ U11) (c_q21 _ U11) (c_q22 _ U11) _ _ _ R_q1.out)
  replace R_q1d : Hid (Rd V12 V12.heap.size A_q1d (dig q.den).length c_q1d (dig q.den)) := hide (by rw [hV]; simpa using far3 (c_q20 _ U11) (c_q21 _ U11) (c_q22 _ U11) _ _ _ R_q1d.out)
  replace R_q2 : Hid (Rd V12 V12.heap.size A_q2 (dig (zmag q.num)).length c_q2 (dig (zmag q.num))) := hide (by rw [hV]; simpa using far3 (c_q20 _ U11) (c_q21 _ U11) (c_q22 _ U11) _ _ _ R_q2.out)
  replace R_q2d : Hid (Rd V12 V12.heap.size A_q2d (dig q.den).length c_q2d (dig q.den)) := hide (by rw [hV]; simpa using far3 (c_q20 _ U11) (c_q21 _ U11) (c_q22 _ U11) _ _ _ R_q2d.out)
  replace R_p1 : Hid (Rd V12 V12.heap.size A_p1 (dig (zmag p.num)).length c_p1 (dig (zmag p.num))) := hide (by rw [hV]; simpa using far3 (c_q20 _ U11) (c_q21 _ U11) (c_q22 _ U11) _ _ _ R_p1.out)
  replace R_p1d : Hid (Rd V12 V12.heap.size A_p1d (dig p.den).length c_p1d (dig p.den)) := hide (by rw [hV]; simpa using far3 (c_q20 _ U11) (c_q21 _ U11) (c_q22 _ U11) _ _ _ R_p1d.out)
  replace R_p2 : Hid (Rd V12 V12.heap.size A_p2 (dig (zmag p.num)).length c_p2 (dig (zmag p.num))) := hide (by rw [hV]; simpa using far3 (c_q20 _ U11) (c_q21 _ U11) (c_q22 _ U11) _ _ _ R_p2.out)
  replace R_p2d : Hid (Rd V12 V12.heap.size A_p2d (dig p.den).length c_p2d (dig p.den)) := hide (by rw [hV]; simpa using far3 (c_q20 _ U11) (c_q21 _ U11) (c_q22 _ U11) _ _ _ R_p2d.out)
  replace B : Hid (Below w.heap.size w V12) := hide (by rw [hV]; exact (((B.out.setCell ge_q2.out _).setCell ge_q2.out _).setCell ge_q2.out _))
  clear hV
  clear c_n0 c_n1
  replace b_n := hide b_n'
  clear b_n'
  clear c_d0 c_d1
  replace b_d := hide b_d'
  clear b_d'
  clear c_q10 c_q11 c_q12 f_q10 f_q11 f_q12 l_q1
  replace b_q1 := hide b_q1'
  clear b_q1'
  clear c_q20 c_q21 c_q22 f_q20 f_q21 f_q22 l_q2
  replace b_q2 := hide b_q2'
  clear b_q2'
  have U13 : Below V12.heap.size V12 V12 := Below.refl _ _
  have c_n0 := b_n.out.at0 b_n.out.lt_size (Nat.le_refl _)
  have c_n1 := b_n.out.at1 b_n.out.lt_size (Nat.le_refl _)
  have c_d0 := b_d.out.at0 b_d.out.lt_size (Nat.le_refl _)
  have c_d1 := b_d.out.at1 b_d.out.lt_size (Nat.le_refl _)
  have c_q10 := b_q1.out.at0 b_q1.out.lt_size (Nat.le_refl _)
  have c_q11 := b_q1.out.at1 b_q1.out.lt_size (Nat.le_refl _)
  have c_q12 := b_q1.out.at2 b_q1.out.lt_size (Nat.le_refl _)
  have f_q10 := b_q1.out.free0 b_q1.out.lt_size (Nat.le_refl _)
  have f_q11 := b_q1.out.free1 b_q1.out.lt_size (Nat.le_refl _)
  have f_q12 := b_q1.out.free2 b_q1.out.lt_size (Nat.le_refl _)
  have l_q1 := b_q1.out.lt b_q1.out.lt_size (Nat.le_refl _)
  have c_q20 := b_q2.out.at0 b_q2.out.lt_size (Nat.le_refl _)
  have c_q21 := b_q2.out.at1 b_q2.out.lt_size (Nat.le_refl _)
  have c_q22 := b_q2.out.at2 b_q2.out.lt_size (Nat.le_refl _)
  have f_q20 := b_q2.out.free0 b_q2.out.lt_size (Nat.le_refl _)
  have f_q21 := b_q2.out.free1 b_q2.out.lt_size (Nat.le_refl _)
  have f_q22 := b_q2.out.free2 b_q2.out.lt_size (Nat.le_refl _)
  have l_q2 := b_q2.out.lt b_q2.out.lt_size (Nat.le_refl _)
  refine (same_t R_p1.out R_p1d.out R_p2.out R_p2d.out (Nat.le_refl _) rfl).mono ?_
  rintro e w6 ⟨rfl, hb⟩
  replace R_n := hide (Rd.then_ R_n.out hb)
  replace R_d := hide (Rd.then_ R_d.out hb)
  replace R_q1 := hide (Rd.then_ R_q1.out hb)
  replace R_q1d := hide (Rd.then_ R_q1d.out hb)
  replace R_q2 := hide (Rd.then_ R_q2.out hb)
  replace R_q2d := hide (Rd.then_ R_q2d.out hb)
  replace R_p1 := hide (Rd.then_ R_p1.out hb)
  replace R_p1d := hide (Rd.then_ R_p1d.out hb)
  replace R_p2 := hide (Rd.then_ R_p2.out hb)
  replace R_p2d := hide (Rd.then_ R_p2d.out hb)
  have U14 : Below V12.heap.size V12 w6 := Below.then_ U13 hb
  replace B := hide (Below.then_ B.out hb)
  clear hb
  go_wp2
  go_ret
  exact ⟨rfl, B.out⟩

set_option maxHeartbeats 4000000 in
theorem makes_big0 {w : World} {x y : Int} {A_n : Option Addr} {n_n c_n : Nat} {s_n : Bool} {A_d : Option Addr} {n_d c_d : Nat} {s_d : Bool}  (g1 : ¬ n_n ≤ 40) :
    Calls Try.prog 3 #[.int .i64 x, .int .i64 y, .agg #[.bool s_n, .slice A_n n_n c_n], .agg #[.bool s_d, .slice A_d n_d c_d]] w (RetB w (.bool true)) := by
  have h1 : decide ((40 : Int) < (n_n : Int)) = true := by simp; omega
  obtain ⟨W, hW⟩ : ∃ W, W = ((w.alloc (.cells #[.bool s_n, .slice A_n n_n c_n] 25)).alloc (.cells #[.bool s_d, .slice A_d n_d c_d] 25)) := ⟨_, rfl⟩
  have b_n : Box W (w.heap.size) (.bool s_n) (.slice A_n n_n c_n) := by rw [hW]; exact ((Box.new w _ _ rfl).al _)
  have b_d : Box W (w.heap.size + 1) (.bool s_d) (.slice A_d n_d c_d) := by rw [hW]; exact (Box.new _ _ _ (by simp))
  have hwW : Below w.heap.size w W := by rw [hW]; exact (((Below.refl _ _).alloc (Nat.le_refl _) _).alloc (by simp) _)
  have B := hide hwW
  clear hwW
  have U0 : Below W.heap.size W W := Below.refl _ _
  have c_n0 := b_n.at0 b_n.lt_size (Nat.le_refl _)
  have c_n1 := b_n.at1 b_n.lt_size (Nat.le_refl _)
  replace b_n := hide b_n
  have c_d0 := b_d.at0 b_d.lt_size (Nat.le_refl _)
  have c_d1 := b_d.at1 b_d.lt_size (Nat.le_refl _)
  replace b_d := hide b_d
  go_enter Try.func3, Try.ntmps3
  go_wp2_with fail
  rw [← hW]
  clear hW
  go_wp2
  go_ret
  exact ⟨rfl, B.out⟩

set_option maxHeartbeats 4000000 in
theorem makes_big1 {w : World} {x y : Int} {A_n : Option Addr} {n_n c_n : Nat} {s_n : Bool} {A_d : Option Addr} {n_d c_d : Nat} {s_d : Bool}  (g1 : n_n ≤ 40) (g2 : ¬ n_d ≤ 40) :
    Calls Try.prog 3 #[.int .i64 x, .int .i64 y, .agg #[.bool s_n, .slice A_n n_n c_n], .agg #[.bool s_d, .slice A_d n_d c_d]] w (RetB w (.bool true)) := by
  have h1 : decide ((40 : Int) < (n_n : Int)) = false := by simp; omega
  have h2 : decide ((40 : Int) < (n_d : Int)) = true := by simp; omega
  obtain ⟨W, hW⟩ : ∃ W, W = ((w.alloc (.cells #[.bool s_n, .slice A_n n_n c_n] 25)).alloc (.cells #[.bool s_d, .slice A_d n_d c_d] 25)) := ⟨_, rfl⟩
  have b_n : Box W (w.heap.size) (.bool s_n) (.slice A_n n_n c_n) := by rw [hW]; exact ((Box.new w _ _ rfl).al _)
  have b_d : Box W (w.heap.size + 1) (.bool s_d) (.slice A_d n_d c_d) := by rw [hW]; exact (Box.new _ _ _ (by simp))
  have hwW : Below w.heap.size w W := by rw [hW]; exact (((Below.refl _ _).alloc (Nat.le_refl _) _).alloc (by simp) _)
  have B := hide hwW
  clear hwW
  have U0 : Below W.heap.size W W := Below.refl _ _
  have c_n0 := b_n.at0 b_n.lt_size (Nat.le_refl _)
  have c_n1 := b_n.at1 b_n.lt_size (Nat.le_refl _)
  replace b_n := hide b_n
  have c_d0 := b_d.at0 b_d.lt_size (Nat.le_refl _)
  have c_d1 := b_d.at1 b_d.lt_size (Nat.le_refl _)
  replace b_d := hide b_d
  go_enter Try.func3, Try.ntmps3
  go_wp2_with fail
  rw [← hW]
  clear hW
  go_wp2
  go_ret
  exact ⟨rfl, B.out⟩

theorem makes_all {w : World} {x y : Int} {A_n : Option Addr} {n_n c_n : Nat} {x_n : List Nat} {s_n : Bool} {A_d : Option Addr} {n_d c_d : Nat} {x_d : List Nat} {s_d : Bool} (h_n : Rd w w.heap.size A_n n_n c_n x_n) (h_d : Rd w w.heap.size A_d n_d c_d x_d) (hx0 : -9223372036854775808 ≤ x) (hx1 : x ≤ 9223372036854775807) (hy0 : -9223372036854775808 ≤ y) (hy1 : y ≤ 9223372036854775807) :
    Calls Try.prog 3 #[.int .i64 x, .int .i64 y, .agg #[.bool s_n, .slice A_n n_n c_n], .agg #[.bool s_d, .slice A_d n_d c_d]] w (RetB w (.bool true)) := by
  by_cases g1 : n_n ≤ 40
  · by_cases g2 : n_d ≤ 40
    · exact makes_walk h_n g1 h_d g2 (Nat.le_refl _) hx0 hx1 hy0 hy1
    · exact makes_big1 g1 g2
  · exact makes_big0 g1

end Go.Proofs.Ytieopcchchebgaa

/-
  DecimalMonotone.
-/
import Derived.Test.YtdlmfembnmomjaaGreatDoorLaw4
namespace Go.Proofs.YtdlmfembnmomjaaGreatDoor
open Go.RowKit


set_option maxHeartbeats 4000000 in
theorem mono_bad {w : World} {Bd : Nat} {A_a : Option Addr} {n_a c_a : Nat} {x_a : List Nat} {s_a : Bool} {A_ad : Option Addr} {n_ad c_ad : Nat} {x_ad : List Nat} {A_b : Option Addr} {n_b c_b : Nat} {x_b : List Nat} {s_b : Bool} {A_bd : Option Addr} {n_bd c_bd : Nat} {x_bd : List Nat} {p m : Int} (h_a : Rd w Bd A_a n_a c_a x_a) (_g_a : n_a ≤ 10000000) (h_ad : Rd w Bd A_ad n_ad c_ad x_ad) (_g_ad : n_ad ≤ 10000000) (h_b : Rd w Bd A_b n_b c_b x_b) (_g_b : n_b ≤ 10000000) (h_bd : Rd w Bd A_bd n_bd c_bd x_bd) (_g_bd : n_bd ≤ 10000000) (hB : Bd ≤ w.heap.size) (h : ¬ okd p m) :
    Calls Tryz.prog 8 #[.agg #[.bool s_a, .slice A_a n_a c_a, .slice A_ad n_ad c_ad], .agg #[.bool s_b, .slice A_b n_b c_b, .slice A_bd n_bd c_bd], .int .i64 p, .int .i64 m] w (RetB w (.bool true)) := by
  replace h := hide h
  obtain ⟨W, hW⟩ : ∃ W, W = ((w.alloc (.cells #[.bool s_a, .slice A_a n_a c_a, .slice A_ad n_ad c_ad] 27)).alloc (.cells #[.bool s_b, .slice A_b n_b c_b, .slice A_bd n_bd c_bd] 27)) := ⟨_, rfl⟩
  have b_a : Box3 W (w.heap.size) (.bool s_a) (.slice A_a n_a c_a) (.slice A_ad n_ad c_ad) := by rw [hW]; exact ((Box3.new w _ _ _ rfl).al _)
  have b_b : Box3 W (w.heap.size + 1) (.bool s_b) (.slice A_b n_b c_b) (.slice A_bd n_bd c_bd) := by rw [hW]; exact (Box3.new _ _ _ _ (by simp))
  have hwW : Below w.heap.size w W := by rw [hW]; exact (((Below.refl _ _).alloc (Nat.le_refl _) _).alloc (by simp) _)
  have R_a := hide (Rd.upto h_a hwW hB)
  clear h_a
  have R_ad := hide (Rd.upto h_ad hwW hB)
  clear h_ad
  have R_b := hide (Rd.upto h_b hwW hB)
  clear h_b
  have R_bd := hide (Rd.upto h_bd hwW hB)
  clear h_bd
  have B := hide hwW
  clear hwW
  clear hB
  have U0 : Below W.heap.size W W := Below.refl _ _
  have c_a0 := b_a.at0 b_a.lt_size (Nat.le_refl _)
  have c_a1 := b_a.at1 b_a.lt_size (Nat.le_refl _)
  have c_a2 := b_a.at2 b_a.lt_size (Nat.le_refl _)
  replace b_a := hide b_a
  have c_b0 := b_b.at0 b_b.lt_size (Nat.le_refl _)
  have c_b1 := b_b.at1 b_b.lt_size (Nat.le_refl _)
  have c_b2 := b_b.at2 b_b.lt_size (Nat.le_refl _)
  replace b_b := hide b_b
  go_enter Tryz.func8, Tryz.ntmps8
  go_wp2_with fail
  rw [← hW]
  clear hW
  refine (valid_no h.out).mono ?_
  rintro e w1 ⟨rfl, hb⟩
  replace R_a := hide (Rd.then_ R_a.out hb)
  replace R_ad := hide (Rd.then_ R_ad.out hb)
  replace R_b := hide (Rd.then_ R_b.out hb)
  replace R_bd := hide (Rd.then_ R_bd.out hb)
  have U1 : Below W.heap.size W w1 := Below.then_ U0 hb
  replace B := hide (Below.then_ B.out hb)
  clear hb
  go_wp2_with fail
  refine (awake_any).mono ?_
  rintro e w2 ⟨rfl, hb⟩
  replace R_a := hide (Rd.then_ R_a.out hb)
  replace R_ad := hide (Rd.then_ R_ad.out hb)
  replace R_b := hide (Rd.then_ R_b.out hb)
  replace R_bd := hide (Rd.then_ R_bd.out hb)
  have U2 : Below W.heap.size W w2 := Below.then_ U1 hb
  replace B := hide (Below.then_ B.out hb)
  clear hb
  go_wp2
  go_ret
  exact ⟨rfl, B.out⟩

set_option maxHeartbeats 4000000 in
theorem mono_l {w : World} {Bd : Nat} {A_a : Option Addr} {n_a c_a : Nat} {x_a : List Nat} {s_a : Bool} {A_ad : Option Addr} {n_ad c_ad : Nat} {x_ad : List Nat} {A_b : Option Addr} {n_b c_b : Nat} {x_b : List Nat} {s_b : Bool} {A_bd : Option Addr} {n_bd c_bd : Nat} {x_bd : List Nat} {p m : Int} (h_a : Rd w Bd A_a n_a c_a x_a) (g_a : n_a ≤ 10000000) (h_ad : Rd w Bd A_ad n_ad c_ad x_ad) (g_ad : n_ad ≤ 10000000) (h_b : Rd w Bd A_b n_b c_b x_b) (g_b : n_b ≤ 10000000) (h_bd : Rd w Bd A_bd n_bd c_bd x_bd) (g_bd : n_bd ≤ 10000000) (hB : Bd ≤ w.heap.size) (h : okd p m) (hk : sgn (qv s_a (val x_a) (val x_ad) - qv s_b (val x_b) (val x_bd)).num = -1) :
    Calls Tryz.prog 8 #[.agg #[.bool s_a, .slice A_a n_a c_a, .slice A_ad n_ad c_ad], .agg #[.bool s_b, .slice A_b n_b c_b, .slice A_bd n_bd c_bd], .int .i64 p, .int .i64 m] w (RetB w (.bool true)) := by
  obtain ⟨y, e_y⟩ : ∃ new, rz p m (qv s_a (val x_a) (val x_ad)) = new := ⟨_, rfl⟩
  replace e_y := hide e_y
  obtain ⟨z, e_z⟩ : ∃ new, rz p m (qv s_b (val x_b) (val x_bd)) = new := ⟨_, rfl⟩
  replace e_z := hide e_z
  have e_P : rp p m = p := if_pos h
  replace e_P := hide e_P
  have e_e : re p m = 0 := if_pos h
  replace e_e := hide e_e
  obtain ⟨o, e_o⟩ : ∃ new, sgn (iv (zneg y) (val (dig (zmag y))) - iv (zneg z) (val (dig (zmag z)))) = new := ⟨_, rfl⟩
  replace e_o := hide e_o
  have ho : o ≤ 0 := by rw [← e_o.out, ivz, ivz, ← e_y.out, ← e_z.out]; exact rz_ord_l h hk
  have ho' : decide (0 < o) = false := decide_eq_false (by omega)
  clear ho
  have g1 : n_a ≤ 1000000000 ∧ n_ad ≤ 1000000000 ∧ n_b ≤ 1000000000 ∧ n_bd ≤ 1000000000 := by omega
  replace g1 := hide g1
  replace hk := hide hk
  have h0 := hide h.1
  have h9 := hide h.2.1
  have h1 := hide h.2.2.1
  have h7 := hide h.2.2.2
  clear h
  obtain ⟨W, hW⟩ : ∃ W, W = ((w.alloc (.cells #[.bool s_a, .slice A_a n_a c_a, .slice A_ad n_ad c_ad] 27)).alloc (.cells #[.bool s_b, .slice A_b n_b c_b, .slice A_bd n_bd c_bd] 27)) := ⟨_, rfl⟩
  have b_a : Box3 W (w.heap.size) (.bool s_a) (.slice A_a n_a c_a) (.slice A_ad n_ad c_ad) := by rw [hW]; exact ((Box3.new w _ _ _ rfl).al _)
  have b_b : Box3 W (w.heap.size + 1) (.bool s_b) (.slice A_b n_b c_b) (.slice A_bd n_bd c_bd) := by rw [hW]; exact (Box3.new _ _ _ _ (by simp))
  have hwW : Below w.heap.size w W := by rw [hW]; exact (((Below.refl _ _).alloc (Nat.le_refl _) _).alloc (by simp) _)
  have R_a := hide (Rd.upto h_a hwW hB)
  clear h_a
  have R_ad := hide (Rd.upto h_ad hwW hB)
  clear h_ad
  have R_b := hide (Rd.upto h_b hwW hB)
  clear h_b
  have R_bd := hide (Rd.upto h_bd hwW hB)
  clear h_bd
  have B := hide hwW
  clear hwW
  clear hB
  have U0 : Below W.heap.size W W := Below.refl _ _
  have c_a0 := b_a.at0 b_a.lt_size (Nat.le_refl _)
  have c_a1 := b_a.at1 b_a.lt_size (Nat.le_refl _)
  have c_a2 := b_a.at2 b_a.lt_size (Nat.le_refl _)
  replace b_a := hide b_a
  have c_b0 := b_b.at0 b_b.lt_size (Nat.le_refl _)
  have c_b1 := b_b.at1 b_b.lt_size (Nat.le_refl _)
  have c_b2 := b_b.at2 b_b.lt_size (Nat.le_refl _)
  replace b_b := hide b_b
  go_enter Tryz.func8, Tryz.ntmps8
  go_wp2_with fail
  rw [← hW]
  clear hW
  refine (valid_yes h0.out h9.out h1.out h7.out).mono ?_
  rintro e w1 ⟨rfl, hb⟩
  replace R_a := hide (Rd.then_ R_a.out hb)
  replace R_ad := hide (Rd.then_ R_ad.out hb)
  replace R_b := hide (Rd.then_ R_b.out hb)
  replace R_bd := hide (Rd.then_ R_bd.out hb)
  have U1 : Below W.heap.size W w1 := Below.then_ U0 hb
  replace B := hide (Below.then_ B.out hb)
  clear hb
  go_wp2_with fail
  refine (pround_gen R_a.out g1.out.1 R_ad.out g1.out.2.1 (Nat.le_refl _) e_y.out e_P.out e_e.out).mono ?_
  rintro e w2 ⟨A_d, c_d, rfl, R_d, hb⟩
  replace R_a := hide (Rd.then_ R_a.out hb)
  replace R_ad := hide (Rd.then_ R_ad.out hb)
  replace R_b := hide (Rd.then_ R_b.out hb)
  replace R_bd := hide (Rd.then_ R_bd.out hb)
  have U2 : Below W.heap.size W w2 := Below.then_ U1 hb
  replace B := hide (Below.then_ B.out hb)
  replace R_d := hide R_d
  clear hb
  have hbx : Below w2.heap.size w2 (w2.alloc (.cells #[.bool (zneg y), .slice A_d (dig (zmag y)).length c_d, .int .i64 p] 29)) := ((Below.refl _ _).alloc (Nat.le_refl _) _)
  have Ux := Below.then_ U2 hbx
  go_wp2_with fail
  obtain ⟨V2, hV⟩ : ∃ V, V = (w2.alloc (.cells #[.bool (zneg y), .slice A_d (dig (zmag y)).length c_d, .int .i64 p] 29)) := ⟨_, rfl⟩
  obtain ⟨g_d, hg_d⟩ : ∃ g, g = w2.heap.size := ⟨_, rfl⟩
  rw [← hV]
  rw [← hV] at hbx Ux
  rw [← hg_d]
  have b_d : BoxD V2 g_d (.bool (zneg y)) (.slice A_d (dig (zmag y)).length c_d) (.int .i64 p) := by rw [hV]; exact (BoxD.new _ _ _ _ hg_d)
  clear hV
  have ne_a_d : w.heap.size ≠ g_d := by have := (b_a.out.lt b_a.out.lt_size (Nat.le_refl _)) _ U2; omega
  replace ne_a_d := hide ne_a_d
  have ne_b_d : w.heap.size + 1 ≠ g_d := by have := (b_b.out.lt b_b.out.lt_size (Nat.le_refl _)) _ U2; omega
  replace ne_b_d := hide ne_b_d
  have ge_d : w.heap.size ≤ g_d := by have := B.out.size; omega
  replace ge_d := hide ge_d
  clear hg_d
  replace R_a := hide (Rd.then_ R_a.out hbx)
  replace R_ad := hide (Rd.then_ R_ad.out hbx)
  replace R_b := hide (Rd.then_ R_b.out hbx)
  replace R_bd := hide (Rd.then_ R_bd.out hbx)
  replace R_d := hide (Rd.then_ R_d.out hbx)
  have U3 : Below W.heap.size W V2 := Below.then_ U2 hbx
  replace B := hide (Below.then_ B.out hbx)
  clear hbx
  replace b_a := hide (Box3.keep b_a.out U3)
  clear c_a0 c_a1 c_a2
  replace b_b := hide (Box3.keep b_b.out U3)
  clear c_b0 c_b1 c_b2
  replace b_d := hide b_d
  have U4 : Below V2.heap.size V2 V2 := Below.refl _ _
  have c_a0 := b_a.out.at0 b_a.out.lt_size (Nat.le_refl _)
  have c_a1 := b_a.out.at1 b_a.out.lt_size (Nat.le_refl _)
  have c_a2 := b_a.out.at2 b_a.out.lt_size (Nat.le_refl _)
  have c_b0 := b_b.out.at0 b_b.out.lt_size (Nat.le_refl _)
  have c_b1 := b_b.out.at1 b_b.out.lt_size (Nat.le_refl _)
  have c_b2 := b_b.out.at2 b_b.out.lt_size (Nat.le_refl _)
  have c_d0 := b_d.out.at0 b_d.out.lt_size (Nat.le_refl _)
  have c_d1 := b_d.out.at1 b_d.out.lt_size (Nat.le_refl _)
  have c_d2 := b_d.out.at2 b_d.out.lt_size (Nat.le_refl _)
  refine (pround_gen R_b.out g1.out.2.2.1 R_bd.out g1.out.2.2.2 (Nat.le_refl _) e_z.out e_P.out e_e.out).mono ?_
  rintro e w3 ⟨A_c, c_c, rfl, R_c, hb⟩
  replace R_a := hide (Rd.then_ R_a.out hb)
  replace R_ad := hide (Rd.then_ R_ad.out hb)
  replace R_b := hide (Rd.then_ R_b.out hb)
  replace R_bd := hide (Rd.then_ R_bd.out hb)
  replace R_d := hide (Rd.then_ R_d.out hb)
  have U5 : Below V2.heap.size V2 w3 := Below.then_ U4 hb
  replace B := hide (Below.then_ B.out hb)
  replace R_c := hide R_c
  clear hb
  have hbx : Below w3.heap.size w3 (w3.alloc (.cells #[.bool (zneg z), .slice A_c (dig (zmag z)).length c_c, .int .i64 p] 29)) := ((Below.refl _ _).alloc (Nat.le_refl _) _)
  have Ux := Below.then_ U5 hbx
  go_wp2_with fail
  obtain ⟨V5, hV⟩ : ∃ V, V = (w3.alloc (.cells #[.bool (zneg z), .slice A_c (dig (zmag z)).length c_c, .int .i64 p] 29)) := ⟨_, rfl⟩
  obtain ⟨g_c, hg_c⟩ : ∃ g, g = w3.heap.size := ⟨_, rfl⟩
  rw [← hV]
  rw [← hV] at hbx Ux
  rw [← hg_c]
  have b_c : BoxD V5 g_c (.bool (zneg z)) (.slice A_c (dig (zmag z)).length c_c) (.int .i64 p) := by rw [hV]; exact (BoxD.new _ _ _ _ hg_c)
  clear hV
  have ne_a_c : w.heap.size ≠ g_c := by have := (b_a.out.lt b_a.out.lt_size (Nat.le_refl _)) _ U5; omega
  replace ne_a_c := hide ne_a_c
  have ne_b_c : w.heap.size + 1 ≠ g_c := by have := (b_b.out.lt b_b.out.lt_size (Nat.le_refl _)) _ U5; omega
  replace ne_b_c := hide ne_b_c
  have ne_d_c : g_d ≠ g_c := by have := (b_d.out.lt b_d.out.lt_size (Nat.le_refl _)) _ U5; omega
  replace ne_d_c := hide ne_d_c
  have ge_c : w.heap.size ≤ g_c := by have := B.out.size; omega
  replace ge_c := hide ge_c
  clear hg_c
  replace R_a := hide (Rd.then_ R_a.out hbx)
  replace R_ad := hide (Rd.then_ R_ad.out hbx)
  replace R_b := hide (Rd.then_ R_b.out hbx)
  replace R_bd := hide (Rd.then_ R_bd.out hbx)
  replace R_d := hide (Rd.then_ R_d.out hbx)
  replace R_c := hide (Rd.then_ R_c.out hbx)
  have U6 : Below V2.heap.size V2 V5 := Below.then_ U5 hbx
  replace B := hide (Below.then_ B.out hbx)
  clear hbx
  replace b_a := hide (Box3.keep b_a.out U6)
  clear c_a0 c_a1 c_a2
  replace b_b := hide (Box3.keep b_b.out U6)
  clear c_b0 c_b1 c_b2
  replace b_d := hide (BoxD.keep b_d.out U6)
  clear c_d0 c_d1 c_d2
  replace b_c := hide b_c
  have U7 : Below V5.heap.size V5 V5 := Below.refl _ _
  have c_a0 := b_a.out.at0 b_a.out.lt_size (Nat.le_refl _)
  have c_a1 := b_a.out.at1 b_a.out.lt_size (Nat.le_refl _)
  have c_a2 := b_a.out.at2 b_a.out.lt_size (Nat.le_refl _)
  have c_b0 := b_b.out.at0 b_b.out.lt_size (Nat.le_refl _)
  have c_b1 := b_b.out.at1 b_b.out.lt_size (Nat.le_refl _)
  have c_b2 := b_b.out.at2 b_b.out.lt_size (Nat.le_refl _)
  have c_d0 := b_d.out.at0 b_d.out.lt_size (Nat.le_refl _)
  have c_d1 := b_d.out.at1 b_d.out.lt_size (Nat.le_refl _)
  have c_d2 := b_d.out.at2 b_d.out.lt_size (Nat.le_refl _)
  have c_c0 := b_c.out.at0 b_c.out.lt_size (Nat.le_refl _)
  have c_c1 := b_c.out.at1 b_c.out.lt_size (Nat.le_refl _)
  have c_c2 := b_c.out.at2 b_c.out.lt_size (Nat.le_refl _)
  refine (icmp_any _ _ _ _ _ _ _ _ _ _ _ _ R_d.out R_c.out (Nat.le_refl _)).mono ?_
  rw [e_o.out]
  rintro e w4 ⟨rfl, hb⟩
  replace R_a := hide (Rd.then_ R_a.out hb)
  replace R_ad := hide (Rd.then_ R_ad.out hb)
  replace R_b := hide (Rd.then_ R_b.out hb)
  replace R_bd := hide (Rd.then_ R_bd.out hb)
  replace R_d := hide (Rd.then_ R_d.out hb)
  replace R_c := hide (Rd.then_ R_c.out hb)
  have U8 : Below V5.heap.size V5 w4 := Below.then_ U7 hb
  replace B := hide (Below.then_ B.out hb)
  clear hb
  go_wp2_with fail
  refine (pcmp_any R_a.out g1.out.1 R_ad.out g1.out.2.1 R_b.out g1.out.2.2.1 R_bd.out g1.out.2.2.2 (Nat.le_refl _) hk.out).mono ?_
  rintro e w5 ⟨rfl, hb⟩
  replace R_a := hide (Rd.then_ R_a.out hb)
  replace R_ad := hide (Rd.then_ R_ad.out hb)
  replace R_b := hide (Rd.then_ R_b.out hb)
  replace R_bd := hide (Rd.then_ R_bd.out hb)
  replace R_d := hide (Rd.then_ R_d.out hb)
  replace R_c := hide (Rd.then_ R_c.out hb)
  have U9 : Below V5.heap.size V5 w5 := Below.then_ U8 hb
  replace B := hide (Below.then_ B.out hb)
  clear hb
  go_wp2_with fail
  refine (pcmp_any R_a.out g1.out.1 R_ad.out g1.out.2.1 R_b.out g1.out.2.2.1 R_bd.out g1.out.2.2.2 (Nat.le_refl _) hk.out).mono ?_
  rintro e w6 ⟨rfl, hb⟩
  replace R_a := hide (Rd.then_ R_a.out hb)
  replace R_ad := hide (Rd.then_ R_ad.out hb)
  replace R_b := hide (Rd.then_ R_b.out hb)
  replace R_bd := hide (Rd.then_ R_bd.out hb)
  replace R_d := hide (Rd.then_ R_d.out hb)
  replace R_c := hide (Rd.then_ R_c.out hb)
  have U10 : Below V5.heap.size V5 w6 := Below.then_ U9 hb
  replace B := hide (Below.then_ B.out hb)
  clear hb
  go_wp2_with fail
  refine (awake_any).mono ?_
  rintro e w7 ⟨rfl, hb⟩
  replace R_a := hide (Rd.then_ R_a.out hb)
  replace R_ad := hide (Rd.then_ R_ad.out hb)
  replace R_b := hide (Rd.then_ R_b.out hb)
  replace R_bd := hide (Rd.then_ R_bd.out hb)
  replace R_d := hide (Rd.then_ R_d.out hb)
  replace R_c := hide (Rd.then_ R_c.out hb)
  have U11 : Below V5.heap.size V5 w7 := Below.then_ U10 hb
  replace B := hide (Below.then_ B.out hb)
  clear hb
  go_wp2
  go_ret
  exact ⟨rfl, B.out⟩

set_option maxHeartbeats 4000000 in
theorem mono_e {w : World} {Bd : Nat} {A_a : Option Addr} {n_a c_a : Nat} {x_a : List Nat} {s_a : Bool} {A_ad : Option Addr} {n_ad c_ad : Nat} {x_ad : List Nat} {A_b : Option Addr} {n_b c_b : Nat} {x_b : List Nat} {s_b : Bool} {A_bd : Option Addr} {n_bd c_bd : Nat} {x_bd : List Nat} {p m : Int} (h_a : Rd w Bd A_a n_a c_a x_a) (g_a : n_a ≤ 10000000) (h_ad : Rd w Bd A_ad n_ad c_ad x_ad) (g_ad : n_ad ≤ 10000000) (h_b : Rd w Bd A_b n_b c_b x_b) (g_b : n_b ≤ 10000000) (h_bd : Rd w Bd A_bd n_bd c_bd x_bd) (g_bd : n_bd ≤ 10000000) (hB : Bd ≤ w.heap.size) (h : okd p m) (hk : sgn (qv s_a (val x_a) (val x_ad) - qv s_b (val x_b) (val x_bd)).num = 0) :
    Calls Tryz.prog 8 #[.agg #[.bool s_a, .slice A_a n_a c_a, .slice A_ad n_ad c_ad], .agg #[.bool s_b, .slice A_b n_b c_b, .slice A_bd n_bd c_bd], .int .i64 p, .int .i64 m] w (RetB w (.bool true)) := by
  obtain ⟨y, e_y⟩ : ∃ new, rz p m (qv s_a (val x_a) (val x_ad)) = new := ⟨_, rfl⟩
  replace e_y := hide e_y
  obtain ⟨z, e_z⟩ : ∃ new, rz p m (qv s_b (val x_b) (val x_bd)) = new := ⟨_, rfl⟩
  replace e_z := hide e_z
  have e_P : rp p m = p := if_pos h
  replace e_P := hide e_P
  have e_e : re p m = 0 := if_pos h
  replace e_e := hide e_e
  obtain ⟨o, e_o⟩ : ∃ new, sgn (iv (zneg y) (val (dig (zmag y))) - iv (zneg z) (val (dig (zmag z)))) = new := ⟨_, rfl⟩
  replace e_o := hide e_o
  have ho : o = 0 := by rw [← e_o.out, ivz, ivz, ← e_y.out, ← e_z.out]; exact rz_ord_e h hk
  subst ho
  have g1 : n_a ≤ 1000000000 ∧ n_ad ≤ 1000000000 ∧ n_b ≤ 1000000000 ∧ n_bd ≤ 1000000000 := by omega
  replace g1 := hide g1
  replace hk := hide hk
  have h0 := hide h.1
  have h9 := hide h.2.1
  have h1 := hide h.2.2.1
  have h7 := hide h.2.2.2
  clear h
  obtain ⟨W, hW⟩ : ∃ W, W = ((w.alloc (.cells #[.bool s_a, .slice A_a n_a c_a, .slice A_ad n_ad c_ad] 27)).alloc (.cells #[.bool s_b, .slice A_b n_b c_b, .slice A_bd n_bd c_bd] 27)) := ⟨_, rfl⟩
  have b_a : Box3 W (w.heap.size) (.bool s_a) (.slice A_a n_a c_a) (.slice A_ad n_ad c_ad) := by rw [hW]; exact ((Box3.new w _ _ _ rfl).al _)
  have b_b : Box3 W (w.heap.size + 1) (.bool s_b) (.slice A_b n_b c_b) (.slice A_bd n_bd c_bd) := by rw [hW]; exact (Box3.new _ _ _ _ (by simp))
  have hwW : Below w.heap.size w W := by rw [hW]; exact (((Below.refl _ _).alloc (Nat.le_refl _) _).alloc (by simp) _)
  have R_a := hide (Rd.upto h_a hwW hB)
  clear h_a
  have R_ad := hide (Rd.upto h_ad hwW hB)
  clear h_ad
  have R_b := hide (Rd.upto h_b hwW hB)
  clear h_b
  have R_bd := hide (Rd.upto h_bd hwW hB)
  clear h_bd
  have B := hide hwW
  clear hwW
  clear hB
  have U0 : Below W.heap.size W W := Below.refl _ _
  have c_a0 := b_a.at0 b_a.lt_size (Nat.le_refl _)
  have c_a1 := b_a.at1 b_a.lt_size (Nat.le_refl _)
  have c_a2 := b_a.at2 b_a.lt_size (Nat.le_refl _)
  replace b_a := hide b_a
  have c_b0 := b_b.at0 b_b.lt_size (Nat.le_refl _)
  have c_b1 := b_b.at1 b_b.lt_size (Nat.le_refl _)
  have c_b2 := b_b.at2 b_b.lt_size (Nat.le_refl _)
  replace b_b := hide b_b
  go_enter Tryz.func8, Tryz.ntmps8
  go_wp2_with fail
  rw [← hW]
  clear hW
  refine (valid_yes h0.out h9.out h1.out h7.out).mono ?_
  rintro e w1 ⟨rfl, hb⟩
  replace R_a := hide (Rd.then_ R_a.out hb)
  replace R_ad := hide (Rd.then_ R_ad.out hb)
  replace R_b := hide (Rd.then_ R_b.out hb)
  replace R_bd := hide (Rd.then_ R_bd.out hb)
  have U1 : Below W.heap.size W w1 := Below.then_ U0 hb
  replace B := hide (Below.then_ B.out hb)
  clear hb
  go_wp2_with fail
  refine (pround_gen R_a.out g1.out.1 R_ad.out g1.out.2.1 (Nat.le_refl _) e_y.out e_P.out e_e.out).mono ?_
  rintro e w2 ⟨A_d, c_d, rfl, R_d, hb⟩
  replace R_a := hide (Rd.then_ R_a.out hb)
  replace R_ad := hide (Rd.then_ R_ad.out hb)
  replace R_b := hide (Rd.then_ R_b.out hb)
  replace R_bd := hide (Rd.then_ R_bd.out hb)
  have U2 : Below W.heap.size W w2 := Below.then_ U1 hb
  replace B := hide (Below.then_ B.out hb)
  replace R_d := hide R_d
  clear hb
  have hbx : Below w2.heap.size w2 (w2.alloc (.cells #[.bool (zneg y), .slice A_d (dig (zmag y)).length c_d, .int .i64 p] 29)) := ((Below.refl _ _).alloc (Nat.le_refl _) _)
  have Ux := Below.then_ U2 hbx
  go_wp2_with fail
  obtain ⟨V2, hV⟩ : ∃ V, V = (w2.alloc (.cells #[.bool (zneg y), .slice A_d (dig (zmag y)).length c_d, .int .i64 p] 29)) := ⟨_, rfl⟩
  obtain ⟨g_d, hg_d⟩ : ∃ g, g = w2.heap.size := ⟨_, rfl⟩
  rw [← hV]
  rw [← hV] at hbx Ux
  rw [← hg_d]
  have b_d : BoxD V2 g_d (.bool (zneg y)) (.slice A_d (dig (zmag y)).length c_d) (.int .i64 p) := by rw [hV]; exact (BoxD.new _ _ _ _ hg_d)
  clear hV
  have ne_a_d : w.heap.size ≠ g_d := by have := (b_a.out.lt b_a.out.lt_size (Nat.le_refl _)) _ U2; omega
  replace ne_a_d := hide ne_a_d
  have ne_b_d : w.heap.size + 1 ≠ g_d := by have := (b_b.out.lt b_b.out.lt_size (Nat.le_refl _)) _ U2; omega
  replace ne_b_d := hide ne_b_d
  have ge_d : w.heap.size ≤ g_d := by have := B.out.size; omega
  replace ge_d := hide ge_d
  clear hg_d
  replace R_a := hide (Rd.then_ R_a.out hbx)
  replace R_ad := hide (Rd.then_ R_ad.out hbx)
  replace R_b := hide (Rd.then_ R_b.out hbx)
  replace R_bd := hide (Rd.then_ R_bd.out hbx)
  replace R_d := hide (Rd.then_ R_d.out hbx)
  have U3 : Below W.heap.size W V2 := Below.then_ U2 hbx
  replace B := hide (Below.then_ B.out hbx)
  clear hbx
  replace b_a := hide (Box3.keep b_a.out U3)
  clear c_a0 c_a1 c_a2
  replace b_b := hide (Box3.keep b_b.out U3)
  clear c_b0 c_b1 c_b2
  replace b_d := hide b_d
  have U4 : Below V2.heap.size V2 V2 := Below.refl _ _
  have c_a0 := b_a.out.at0 b_a.out.lt_size (Nat.le_refl _)
  have c_a1 := b_a.out.at1 b_a.out.lt_size (Nat.le_refl _)
  have c_a2 := b_a.out.at2 b_a.out.lt_size (Nat.le_refl _)
  have c_b0 := b_b.out.at0 b_b.out.lt_size (Nat.le_refl _)
  have c_b1 := b_b.out.at1 b_b.out.lt_size (Nat.le_refl _)
  have c_b2 := b_b.out.at2 b_b.out.lt_size (Nat.le_refl _)
  have c_d0 := b_d.out.at0 b_d.out.lt_size (Nat.le_refl _)
  have c_d1 := b_d.out.at1 b_d.out.lt_size (Nat.le_refl _)
  have c_d2 := b_d.out.at2 b_d.out.lt_size (Nat.le_refl _)
  refine (pround_gen R_b.out g1.out.2.2.1 R_bd.out g1.out.2.2.2 (Nat.le_refl _) e_z.out e_P.out e_e.out).mono ?_
  rintro e w3 ⟨A_c, c_c, rfl, R_c, hb⟩
  replace R_a := hide (Rd.then_ R_a.out hb)
  replace R_ad := hide (Rd.then_ R_ad.out hb)
  replace R_b := hide (Rd.then_ R_b.out hb)
  replace R_bd := hide (Rd.then_ R_bd.out hb)
  replace R_d := hide (Rd.then_ R_d.out hb)
  have U5 : Below V2.heap.size V2 w3 := Below.then_ U4 hb
  replace B := hide (Below.then_ B.out hb)
  replace R_c := hide R_c
  clear hb
  have hbx : Below w3.heap.size w3 (w3.alloc (.cells #[.bool (zneg z), .slice A_c (dig (zmag z)).length c_c, .int .i64 p] 29)) := ((Below.refl _ _).alloc (Nat.le_refl _) _)
  have Ux := Below.then_ U5 hbx
  go_wp2_with fail
  obtain ⟨V5, hV⟩ : ∃ V, V = (w3.alloc (.cells #[.bool (zneg z), .slice A_c (dig (zmag z)).length c_c, .int .i64 p] 29)) := ⟨_, rfl⟩
  obtain ⟨g_c, hg_c⟩ : ∃ g, g = w3.heap.size := ⟨_, rfl⟩
  rw [← hV]
  rw [← hV] at hbx Ux
  rw [← hg_c]
  have b_c : BoxD V5 g_c (.bool (zneg z)) (.slice A_c (dig (zmag z)).length c_c) (.int .i64 p) := by rw [hV]; exact (BoxD.new _ _ _ _ hg_c)
  clear hV
  have ne_a_c : w.heap.size ≠ g_c := by have := (b_a.out.lt b_a.out.lt_size (Nat.le_refl _)) _ U5; omega
  replace ne_a_c := hide ne_a_c
  have ne_b_c : w.heap.size + 1 ≠ g_c := by have := (b_b.out.lt b_b.out.lt_size (Nat.le_refl _)) _ U5; omega
  replace ne_b_c := hide ne_b_c
  have ne_d_c : g_d ≠ g_c := by have := (b_d.out.lt b_d.out.lt_size (Nat.le_refl _)) _ U5; omega
  replace ne_d_c := hide ne_d_c
  have ge_c : w.heap.size ≤ g_c := by have := B.out.size; omega
  replace ge_c := hide ge_c
  clear hg_c
  replace R_a := hide (Rd.then_ R_a.out hbx)
  replace R_ad := hide (Rd.then_ R_ad.out hbx)
  replace R_b := hide (Rd.then_ R_b.out hbx)
  replace R_bd := hide (Rd.then_ R_bd.out hbx)
  replace R_d := hide (Rd.then_ R_d.out hbx)
  replace R_c := hide (Rd.then_ R_c.out hbx)
  have U6 : Below V2.heap.size V2 V5 := Below.then_ U5 hbx
  replace B := hide (Below.then_ B.out hbx)
  clear hbx
  replace b_a := hide (Box3.keep b_a.out U6)
  clear c_a0 c_a1 c_a2
  replace b_b := hide (Box3.keep b_b.out U6)
  clear c_b0 c_b1 c_b2
  replace b_d := hide (BoxD.keep b_d.out U6)
  clear c_d0 c_d1 c_d2
  replace b_c := hide b_c
  have U7 : Below V5.heap.size V5 V5 := Below.refl _ _
  have c_a0 := b_a.out.at0 b_a.out.lt_size (Nat.le_refl _)
  have c_a1 := b_a.out.at1 b_a.out.lt_size (Nat.le_refl _)
  have c_a2 := b_a.out.at2 b_a.out.lt_size (Nat.le_refl _)
  have c_b0 := b_b.out.at0 b_b.out.lt_size (Nat.le_refl _)
  have c_b1 := b_b.out.at1 b_b.out.lt_size (Nat.le_refl _)
  have c_b2 := b_b.out.at2 b_b.out.lt_size (Nat.le_refl _)
  have c_d0 := b_d.out.at0 b_d.out.lt_size (Nat.le_refl _)
  have c_d1 := b_d.out.at1 b_d.out.lt_size (Nat.le_refl _)
  have c_d2 := b_d.out.at2 b_d.out.lt_size (Nat.le_refl _)
  have c_c0 := b_c.out.at0 b_c.out.lt_size (Nat.le_refl _)
  have c_c1 := b_c.out.at1 b_c.out.lt_size (Nat.le_refl _)
  have c_c2 := b_c.out.at2 b_c.out.lt_size (Nat.le_refl _)
  refine (icmp_any _ _ _ _ _ _ _ _ _ _ _ _ R_d.out R_c.out (Nat.le_refl _)).mono ?_
  rw [e_o.out]
  rintro e w4 ⟨rfl, hb⟩
  replace R_a := hide (Rd.then_ R_a.out hb)
  replace R_ad := hide (Rd.then_ R_ad.out hb)
  replace R_b := hide (Rd.then_ R_b.out hb)
  replace R_bd := hide (Rd.then_ R_bd.out hb)
  replace R_d := hide (Rd.then_ R_d.out hb)
  replace R_c := hide (Rd.then_ R_c.out hb)
  have U8 : Below V5.heap.size V5 w4 := Below.then_ U7 hb
  replace B := hide (Below.then_ B.out hb)
  clear hb
  go_wp2_with fail
  refine (pcmp_any R_a.out g1.out.1 R_ad.out g1.out.2.1 R_b.out g1.out.2.2.1 R_bd.out g1.out.2.2.2 (Nat.le_refl _) hk.out).mono ?_
  rintro e w5 ⟨rfl, hb⟩
  replace R_a := hide (Rd.then_ R_a.out hb)
  replace R_ad := hide (Rd.then_ R_ad.out hb)
  replace R_b := hide (Rd.then_ R_b.out hb)
  replace R_bd := hide (Rd.then_ R_bd.out hb)
  replace R_d := hide (Rd.then_ R_d.out hb)
  replace R_c := hide (Rd.then_ R_c.out hb)
  have U9 : Below V5.heap.size V5 w5 := Below.then_ U8 hb
  replace B := hide (Below.then_ B.out hb)
  clear hb
  go_wp2_with fail
  refine (pcmp_any R_a.out g1.out.1 R_ad.out g1.out.2.1 R_b.out g1.out.2.2.1 R_bd.out g1.out.2.2.2 (Nat.le_refl _) hk.out).mono ?_
  rintro e w6 ⟨rfl, hb⟩
  replace R_a := hide (Rd.then_ R_a.out hb)
  replace R_ad := hide (Rd.then_ R_ad.out hb)
  replace R_b := hide (Rd.then_ R_b.out hb)
  replace R_bd := hide (Rd.then_ R_bd.out hb)
  replace R_d := hide (Rd.then_ R_d.out hb)
  replace R_c := hide (Rd.then_ R_c.out hb)
  have U10 : Below V5.heap.size V5 w6 := Below.then_ U9 hb
  replace B := hide (Below.then_ B.out hb)
  clear hb
  go_wp2_with fail
  refine (awake_any).mono ?_
  rintro e w7 ⟨rfl, hb⟩
  replace R_a := hide (Rd.then_ R_a.out hb)
  replace R_ad := hide (Rd.then_ R_ad.out hb)
  replace R_b := hide (Rd.then_ R_b.out hb)
  replace R_bd := hide (Rd.then_ R_bd.out hb)
  replace R_d := hide (Rd.then_ R_d.out hb)
  replace R_c := hide (Rd.then_ R_c.out hb)
  have U11 : Below V5.heap.size V5 w7 := Below.then_ U10 hb
  replace B := hide (Below.then_ B.out hb)
  clear hb
  go_wp2
  go_ret
  exact ⟨rfl, B.out⟩

set_option maxHeartbeats 4000000 in
theorem mono_g {w : World} {Bd : Nat} {A_a : Option Addr} {n_a c_a : Nat} {x_a : List Nat} {s_a : Bool} {A_ad : Option Addr} {n_ad c_ad : Nat} {x_ad : List Nat} {A_b : Option Addr} {n_b c_b : Nat} {x_b : List Nat} {s_b : Bool} {A_bd : Option Addr} {n_bd c_bd : Nat} {x_bd : List Nat} {p m : Int} (h_a : Rd w Bd A_a n_a c_a x_a) (g_a : n_a ≤ 10000000) (h_ad : Rd w Bd A_ad n_ad c_ad x_ad) (g_ad : n_ad ≤ 10000000) (h_b : Rd w Bd A_b n_b c_b x_b) (g_b : n_b ≤ 10000000) (h_bd : Rd w Bd A_bd n_bd c_bd x_bd) (g_bd : n_bd ≤ 10000000) (hB : Bd ≤ w.heap.size) (h : okd p m) (hk : sgn (qv s_a (val x_a) (val x_ad) - qv s_b (val x_b) (val x_bd)).num = 1) :
    Calls Tryz.prog 8 #[.agg #[.bool s_a, .slice A_a n_a c_a, .slice A_ad n_ad c_ad], .agg #[.bool s_b, .slice A_b n_b c_b, .slice A_bd n_bd c_bd], .int .i64 p, .int .i64 m] w (RetB w (.bool true)) := by
  obtain ⟨y, e_y⟩ : ∃ new, rz p m (qv s_a (val x_a) (val x_ad)) = new := ⟨_, rfl⟩
  replace e_y := hide e_y
  obtain ⟨z, e_z⟩ : ∃ new, rz p m (qv s_b (val x_b) (val x_bd)) = new := ⟨_, rfl⟩
  replace e_z := hide e_z
  have e_P : rp p m = p := if_pos h
  replace e_P := hide e_P
  have e_e : re p m = 0 := if_pos h
  replace e_e := hide e_e
  obtain ⟨o, e_o⟩ : ∃ new, sgn (iv (zneg y) (val (dig (zmag y))) - iv (zneg z) (val (dig (zmag z)))) = new := ⟨_, rfl⟩
  replace e_o := hide e_o
  have ho : 0 ≤ o := by rw [← e_o.out, ivz, ivz, ← e_y.out, ← e_z.out]; exact rz_ord_g h hk
  have ho' : decide (o < 0) = false := decide_eq_false (by omega)
  clear ho
  have g1 : n_a ≤ 1000000000 ∧ n_ad ≤ 1000000000 ∧ n_b ≤ 1000000000 ∧ n_bd ≤ 1000000000 := by omega
  replace g1 := hide g1
  replace hk := hide hk
  have h0 := hide h.1
  have h9 := hide h.2.1
  have h1 := hide h.2.2.1
  have h7 := hide h.2.2.2
  clear h
  obtain ⟨W, hW⟩ : ∃ W, W = ((w.alloc (.cells #[.bool s_a, .slice A_a n_a c_a, .slice A_ad n_ad c_ad] 27)).alloc (.cells #[.bool s_b, .slice A_b n_b c_b, .slice A_bd n_bd c_bd] 27)) := ⟨_, rfl⟩
  have b_a : Box3 W (w.heap.size) (.bool s_a) (.slice A_a n_a c_a) (.slice A_ad n_ad c_ad) := by rw [hW]; exact ((Box3.new w _ _ _ rfl).al _)
  have b_b : Box3 W (w.heap.size + 1) (.bool s_b) (.slice A_b n_b c_b) (.slice A_bd n_bd c_bd) := by rw [hW]; exact (Box3.new _ _ _ _ (by simp))
  have hwW : Below w.heap.size w W := by rw [hW]; exact (((Below.refl _ _).alloc (Nat.le_refl _) _).alloc (by simp) _)
  have R_a := hide (Rd.upto h_a hwW hB)
  clear h_a
  have R_ad := hide (Rd.upto h_ad hwW hB)
  clear h_ad
  have R_b := hide (Rd.upto h_b hwW hB)
  clear h_b
  have R_bd := hide (Rd.upto h_bd hwW hB)
  clear h_bd
  have B := hide hwW
  clear hwW
  clear hB
  have U0 : Below W.heap.size W W := Below.refl _ _
  have c_a0 := b_a.at0 b_a.lt_size (Nat.le_refl _)
  have c_a1 := b_a.at1 b_a.lt_size (Nat.le_refl _)
  have c_a2 := b_a.at2 b_a.lt_size (Nat.le_refl _)
  replace b_a := hide b_a
  have c_b0 := b_b.at0 b_b.lt_size (Nat.le_refl _)
  have c_b1 := b_b.at1 b_b.lt_size (Nat.le_refl _)
  have c_b2 := b_b.at2 b_b.lt_size (Nat.le_refl _)
  replace b_b := hide b_b
  go_enter Tryz.func8, Tryz.ntmps8
  go_wp2_with fail
  rw [← hW]
  clear hW
  refine (valid_yes h0.out h9.out h1.out h7.out).mono ?_
  rintro e w1 ⟨rfl, hb⟩
  replace R_a := hide (Rd.then_ R_a.out hb)
  replace R_ad := hide (Rd.then_ R_ad.out hb)
  replace R_b := hide (Rd.then_ R_b.out hb)
  replace R_bd := hide (Rd.then_ R_bd.out hb)
  have U1 : Below W.heap.size W w1 := Below.then_ U0 hb
  replace B := hide (Below.then_ B.out hb)
  clear hb
  go_wp2_with fail
  refine (pround_gen R_a.out g1.out.1 R_ad.out g1.out.2.1 (Nat.le_refl _) e_y.out e_P.out e_e.out).mono ?_
  rintro e w2 ⟨A_d, c_d, rfl, R_d, hb⟩
  replace R_a := hide (Rd.then_ R_a.out hb)
  replace R_ad := hide (Rd.then_ R_ad.out hb)
  replace R_b := hide (Rd.then_ R_b.out hb)
  replace R_bd := hide (Rd.then_ R_bd.out hb)
  have U2 : Below W.heap.size W w2 := Below.then_ U1 hb
  replace B := hide (Below.then_ B.out hb)
  replace R_d := hide R_d
  clear hb
  have hbx : Below w2.heap.size w2 (w2.alloc (.cells #[.bool (zneg y), .slice A_d (dig (zmag y)).length c_d, .int .i64 p] 29)) := ((Below.refl _ _).alloc (Nat.le_refl _) _)
  have Ux := Below.then_ U2 hbx
  go_wp2_with fail
  obtain ⟨V2, hV⟩ : ∃ V, V = (w2.alloc (.cells #[.bool (zneg y), .slice A_d (dig (zmag y)).length c_d, .int .i64 p] 29)) := ⟨_, rfl⟩
  obtain ⟨g_d, hg_d⟩ : ∃ g, g = w2.heap.size := ⟨_, rfl⟩
  rw [← hV]
  rw [← hV] at hbx Ux
  rw [← hg_d]
  have b_d : BoxD V2 g_d (.bool (zneg y)) (.slice A_d (dig (zmag y)).length c_d) (.int .i64 p) := by rw [hV]; exact (BoxD.new _ _ _ _ hg_d)
  clear hV
  have ne_a_d : w.heap.size ≠ g_d := by have := (b_a.out.lt b_a.out.lt_size (Nat.le_refl _)) _ U2; omega
  replace ne_a_d := hide ne_a_d
  have ne_b_d : w.heap.size + 1 ≠ g_d := by have := (b_b.out.lt b_b.out.lt_size (Nat.le_refl _)) _ U2; omega
  replace ne_b_d := hide ne_b_d
  have ge_d : w.heap.size ≤ g_d := by have := B.out.size; omega
  replace ge_d := hide ge_d
  clear hg_d
  replace R_a := hide (Rd.then_ R_a.out hbx)
  replace R_ad := hide (Rd.then_ R_ad.out hbx)
  replace R_b := hide (Rd.then_ R_b.out hbx)
  replace R_bd := hide (Rd.then_ R_bd.out hbx)
  replace R_d := hide (Rd.then_ R_d.out hbx)
  have U3 : Below W.heap.size W V2 := Below.then_ U2 hbx
  replace B := hide (Below.then_ B.out hbx)
  clear hbx
  replace b_a := hide (Box3.keep b_a.out U3)
  clear c_a0 c_a1 c_a2
  replace b_b := hide (Box3.keep b_b.out U3)
  clear c_b0 c_b1 c_b2
  replace b_d := hide b_d
  have U4 : Below V2.heap.size V2 V2 := Below.refl _ _
  have c_a0 := b_a.out.at0 b_a.out.lt_size (Nat.le_refl _)
  have c_a1 := b_a.out.at1 b_a.out.lt_size (Nat.le_refl _)
  have c_a2 := b_a.out.at2 b_a.out.lt_size (Nat.le_refl _)
  have c_b0 := b_b.out.at0 b_b.out.lt_size (Nat.le_refl _)
  have c_b1 := b_b.out.at1 b_b.out.lt_size (Nat.le_refl _)
  have c_b2 := b_b.out.at2 b_b.out.lt_size (Nat.le_refl _)
  have c_d0 := b_d.out.at0 b_d.out.lt_size (Nat.le_refl _)
  have c_d1 := b_d.out.at1 b_d.out.lt_size (Nat.le_refl _)
  have c_d2 := b_d.out.at2 b_d.out.lt_size (Nat.le_refl _)
  refine (pround_gen R_b.out g1.out.2.2.1 R_bd.out g1.out.2.2.2 (Nat.le_refl _) e_z.out e_P.out e_e.out).mono ?_
  rintro e w3 ⟨A_c, c_c, rfl, R_c, hb⟩
  replace R_a := hide (Rd.then_ R_a.out hb)
  replace R_ad := hide (Rd.then_ R_ad.out hb)
  replace R_b := hide (Rd.then_ R_b.out hb)
  replace R_bd := hide (Rd.then_ R_bd.out hb)
  replace R_d := hide (Rd.then_ R_d.out hb)
  have U5 : Below V2.heap.size V2 w3 := Below.then_ U4 hb
  replace B := hide (Below.then_ B.out hb)
  replace R_c := hide R_c
  clear hb
  have hbx : Below w3.heap.size w3 (w3.alloc (.cells #[.bool (zneg z), .slice A_c (dig (zmag z)).length c_c, .int .i64 p] 29)) := ((Below.refl _ _).alloc (Nat.le_refl _) _)
  have Ux := Below.then_ U5 hbx
  go_wp2_with fail
  obtain ⟨V5, hV⟩ : ∃ V, V = (w3.alloc (.cells #[.bool (zneg z), .slice A_c (dig (zmag z)).length c_c, .int .i64 p] 29)) := ⟨_, rfl⟩
  obtain ⟨g_c, hg_c⟩ : ∃ g, g = w3.heap.size := ⟨_, rfl⟩
  rw [← hV]
  rw [← hV] at hbx Ux
  rw [← hg_c]
  have b_c : BoxD V5 g_c (.bool (zneg z)) (.slice A_c (dig (zmag z)).length c_c) (.int .i64 p) := by rw [hV]; exact (BoxD.new _ _ _ _ hg_c)
  clear hV
  have ne_a_c : w.heap.size ≠ g_c := by have := (b_a.out.lt b_a.out.lt_size (Nat.le_refl _)) _ U5; omega
  replace ne_a_c := hide ne_a_c
  have ne_b_c : w.heap.size + 1 ≠ g_c := by have := (b_b.out.lt b_b.out.lt_size (Nat.le_refl _)) _ U5; omega
  replace ne_b_c := hide ne_b_c
  have ne_d_c : g_d ≠ g_c := by have := (b_d.out.lt b_d.out.lt_size (Nat.le_refl _)) _ U5; omega
  replace ne_d_c := hide ne_d_c
  have ge_c : w.heap.size ≤ g_c := by have := B.out.size; omega
  replace ge_c := hide ge_c
  clear hg_c
  replace R_a := hide (Rd.then_ R_a.out hbx)
  replace R_ad := hide (Rd.then_ R_ad.out hbx)
  replace R_b := hide (Rd.then_ R_b.out hbx)
  replace R_bd := hide (Rd.then_ R_bd.out hbx)
  replace R_d := hide (Rd.then_ R_d.out hbx)
  replace R_c := hide (Rd.then_ R_c.out hbx)
  have U6 : Below V2.heap.size V2 V5 := Below.then_ U5 hbx
  replace B := hide (Below.then_ B.out hbx)
  clear hbx
  replace b_a := hide (Box3.keep b_a.out U6)
  clear c_a0 c_a1 c_a2
  replace b_b := hide (Box3.keep b_b.out U6)
  clear c_b0 c_b1 c_b2
  replace b_d := hide (BoxD.keep b_d.out U6)
  clear c_d0 c_d1 c_d2
  replace b_c := hide b_c
  have U7 : Below V5.heap.size V5 V5 := Below.refl _ _
  have c_a0 := b_a.out.at0 b_a.out.lt_size (Nat.le_refl _)
  have c_a1 := b_a.out.at1 b_a.out.lt_size (Nat.le_refl _)
  have c_a2 := b_a.out.at2 b_a.out.lt_size (Nat.le_refl _)
  have c_b0 := b_b.out.at0 b_b.out.lt_size (Nat.le_refl _)
  have c_b1 := b_b.out.at1 b_b.out.lt_size (Nat.le_refl _)
  have c_b2 := b_b.out.at2 b_b.out.lt_size (Nat.le_refl _)
  have c_d0 := b_d.out.at0 b_d.out.lt_size (Nat.le_refl _)
  have c_d1 := b_d.out.at1 b_d.out.lt_size (Nat.le_refl _)
  have c_d2 := b_d.out.at2 b_d.out.lt_size (Nat.le_refl _)
  have c_c0 := b_c.out.at0 b_c.out.lt_size (Nat.le_refl _)
  have c_c1 := b_c.out.at1 b_c.out.lt_size (Nat.le_refl _)
  have c_c2 := b_c.out.at2 b_c.out.lt_size (Nat.le_refl _)
  refine (icmp_any _ _ _ _ _ _ _ _ _ _ _ _ R_d.out R_c.out (Nat.le_refl _)).mono ?_
  rw [e_o.out]
  rintro e w4 ⟨rfl, hb⟩
  replace R_a := hide (Rd.then_ R_a.out hb)
  replace R_ad := hide (Rd.then_ R_ad.out hb)
  replace R_b := hide (Rd.then_ R_b.out hb)
  replace R_bd := hide (Rd.then_ R_bd.out hb)
  replace R_d := hide (Rd.then_ R_d.out hb)
  replace R_c := hide (Rd.then_ R_c.out hb)
  have U8 : Below V5.heap.size V5 w4 := Below.then_ U7 hb
  replace B := hide (Below.then_ B.out hb)
  clear hb
  go_wp2_with fail
  refine (pcmp_any R_a.out g1.out.1 R_ad.out g1.out.2.1 R_b.out g1.out.2.2.1 R_bd.out g1.out.2.2.2 (Nat.le_refl _) hk.out).mono ?_
  rintro e w5 ⟨rfl, hb⟩
  replace R_a := hide (Rd.then_ R_a.out hb)
  replace R_ad := hide (Rd.then_ R_ad.out hb)
  replace R_b := hide (Rd.then_ R_b.out hb)
  replace R_bd := hide (Rd.then_ R_bd.out hb)
  replace R_d := hide (Rd.then_ R_d.out hb)
  replace R_c := hide (Rd.then_ R_c.out hb)
  have U9 : Below V5.heap.size V5 w5 := Below.then_ U8 hb
  replace B := hide (Below.then_ B.out hb)
  clear hb
  go_wp2_with fail
  refine (pcmp_any R_a.out g1.out.1 R_ad.out g1.out.2.1 R_b.out g1.out.2.2.1 R_bd.out g1.out.2.2.2 (Nat.le_refl _) hk.out).mono ?_
  rintro e w6 ⟨rfl, hb⟩
  replace R_a := hide (Rd.then_ R_a.out hb)
  replace R_ad := hide (Rd.then_ R_ad.out hb)
  replace R_b := hide (Rd.then_ R_b.out hb)
  replace R_bd := hide (Rd.then_ R_bd.out hb)
  replace R_d := hide (Rd.then_ R_d.out hb)
  replace R_c := hide (Rd.then_ R_c.out hb)
  have U10 : Below V5.heap.size V5 w6 := Below.then_ U9 hb
  replace B := hide (Below.then_ B.out hb)
  clear hb
  go_wp2_with fail
  refine (awake_any).mono ?_
  rintro e w7 ⟨rfl, hb⟩
  replace R_a := hide (Rd.then_ R_a.out hb)
  replace R_ad := hide (Rd.then_ R_ad.out hb)
  replace R_b := hide (Rd.then_ R_b.out hb)
  replace R_bd := hide (Rd.then_ R_bd.out hb)
  replace R_d := hide (Rd.then_ R_d.out hb)
  replace R_c := hide (Rd.then_ R_c.out hb)
  have U11 : Below V5.heap.size V5 w7 := Below.then_ U10 hb
  replace B := hide (Below.then_ B.out hb)
  clear hb
  go_wp2
  go_ret
  exact ⟨rfl, B.out⟩

theorem mono_all {w : World} {A_a : Option Addr} {n_a c_a : Nat} {x_a : List Nat} {s_a : Bool} {A_ad : Option Addr} {n_ad c_ad : Nat} {x_ad : List Nat} {A_b : Option Addr} {n_b c_b : Nat} {x_b : List Nat} {s_b : Bool} {A_bd : Option Addr} {n_bd c_bd : Nat} {x_bd : List Nat} (h_a : Rd w w.heap.size A_a n_a c_a x_a) (g_a : n_a ≤ 10000000) (h_ad : Rd w w.heap.size A_ad n_ad c_ad x_ad) (g_ad : n_ad ≤ 10000000) (h_b : Rd w w.heap.size A_b n_b c_b x_b) (g_b : n_b ≤ 10000000) (h_bd : Rd w w.heap.size A_bd n_bd c_bd x_bd) (g_bd : n_bd ≤ 10000000) {p m : Int} :
    Calls Tryz.prog 8 #[.agg #[.bool s_a, .slice A_a n_a c_a, .slice A_ad n_ad c_ad], .agg #[.bool s_b, .slice A_b n_b c_b, .slice A_bd n_bd c_bd], .int .i64 p, .int .i64 m] w (RetB w (.bool true)) := by
  by_cases h : okd p m
  · rcases sgn_bnd (qv s_a (val x_a) (val x_ad) - qv s_b (val x_b) (val x_bd)).num with hk | hk | hk
    · exact mono_l h_a g_a h_ad g_ad h_b g_b h_bd g_bd (Nat.le_refl _) h hk
    · exact mono_e h_a g_a h_ad g_ad h_b g_b h_bd g_bd (Nat.le_refl _) h hk
    · exact mono_g h_a g_a h_ad g_ad h_b g_b h_bd g_bd (Nat.le_refl _) h hk
  · exact mono_bad h_a g_a h_ad g_ad h_b g_b h_bd g_bd (Nat.le_refl _) h

end Go.Proofs.YtdlmfembnmomjaaGreatDoor

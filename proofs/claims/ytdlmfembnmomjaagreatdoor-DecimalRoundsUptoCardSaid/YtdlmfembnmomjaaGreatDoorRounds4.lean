/-
  DecimalRounds.
-/
import Derived.Test.YtdlmfembnmomjaaGreatDoorLaw4
import Derived.Test.YtdlmfembnmomjaaGreatDoorRDec
import Derived.Test.YtdlmfembnmomjaaGreatDoorSame4
namespace Go.Proofs.YtdlmfembnmomjaaGreatDoor
open Go.RowKit


theorem rround_gen {w : World} {Bd : Nat} {A_a : Option Addr} {n_a c_a : Nat} {x_a : List Nat} {s_a : Bool} {A_ad : Option Addr} {n_ad c_ad : Nat} {x_ad : List Nat} (h_a : Rd w Bd A_a n_a c_a x_a) (g_a : n_a ≤ 100000000) (h_ad : Rd w Bd A_ad n_ad c_ad x_ad) (g_ad : n_ad ≤ 100000000) (hB : Bd ≤ w.heap.size) {p m z P e : Int} (hz : rz p m (qv s_a (val x_a) (val x_ad)) = z) (hP : rp p m = P) (he : re p m = e) :
    Calls Tryz.prog 10 #[.agg #[.bool s_a, .slice A_a n_a c_a, .slice A_ad n_ad c_ad], .int .i64 p, .int .i64 m] w (RetDec w z P e) := by
  unfold rz at hz; unfold rp at hP; unfold re at he
  by_cases h : okd p m
  · rw [if_pos h] at hz hP he
    subst hP he
    obtain ⟨n, rfl⟩ : ∃ n : Nat, p = (n : Int) := ⟨p.toNat, by have := h.1; omega⟩
    exact rround_any h_a g_a h_ad g_ad hB (by have := h.2.1; omega) h.2.2.1 h.2.2.2 rfl hz
  · rw [if_neg h] at hz hP he
    subst hz hP
    exact rround_bad h_a g_a h_ad g_ad hB h he

set_option maxHeartbeats 4000000 in
theorem rounds_walk {w : World} {Bd : Nat} {A_a : Option Addr} {n_a c_a : Nat} {x_a : List Nat} {s_a : Bool} {A_ad : Option Addr} {n_ad c_ad : Nat} {x_ad : List Nat} {p m : Int} (h_a : Rd w Bd A_a n_a c_a x_a) (g_a : n_a ≤ 10000000) (h_ad : Rd w Bd A_ad n_ad c_ad x_ad) (g_ad : n_ad ≤ 10000000) (hB : Bd ≤ w.heap.size)  :
    Calls Tryz.prog 3 #[.agg #[.bool s_a, .slice A_a n_a c_a, .slice A_ad n_ad c_ad], .int .i64 p, .int .i64 m] w (RetB w (.bool true)) := by
  obtain ⟨z, e_z⟩ : ∃ new, rz p m (qv s_a (val x_a) (val x_ad)) = new := ⟨_, rfl⟩
  replace e_z := hide e_z
  obtain ⟨P, e_P⟩ : ∃ new, rp p m = new := ⟨_, rfl⟩
  replace e_P := hide e_P
  obtain ⟨e, e_e⟩ : ∃ new, re p m = new := ⟨_, rfl⟩
  replace e_e := hide e_e
  obtain ⟨y, e_y⟩ : ∃ v, (if 1 ≤ m ∧ m ≤ 7 then rnd m (qv s_a (val x_a) (val x_ad)) else 0) = v := ⟨_, rfl⟩
  replace e_y := hide e_y
  obtain ⟨f, e_f⟩ : ∃ v : Int, (if 1 ≤ m ∧ m ≤ 7 then 0 else 1) = v := ⟨_, rfl⟩
  replace e_f := hide e_f
  have ga : n_a ≤ 100000000 ∧ n_ad ≤ 100000000 := by omega
  replace ga := hide ga
  have gb : n_a ≤ 1000000000 ∧ n_ad ≤ 1000000000 := by omega
  replace gb := hide gb
  have hee : (e != e) = false := by simp
  have hff : (f == f) = true := by simp
  obtain ⟨W, hW⟩ : ∃ W, W = (w.alloc (.cells #[.bool s_a, .slice A_a n_a c_a, .slice A_ad n_ad c_ad] 27)) := ⟨_, rfl⟩
  have b_a : Box3 W (w.heap.size) (.bool s_a) (.slice A_a n_a c_a) (.slice A_ad n_ad c_ad) := by rw [hW]; exact (Box3.new w _ _ _ rfl)
  have hwW : Below w.heap.size w W := by rw [hW]; exact ((Below.refl _ _).alloc (Nat.le_refl _) _)
  have R_a := hide (Rd.upto h_a hwW hB)
  clear h_a
  have R_ad := hide (Rd.upto h_ad hwW hB)
  clear h_ad
  have B := hide hwW
  clear hwW
  clear hB
  have U0 : Below W.heap.size W W := Below.refl _ _
  have c_a0 := b_a.at0 b_a.lt_size (Nat.le_refl _)
  have c_a1 := b_a.at1 b_a.lt_size (Nat.le_refl _)
  have c_a2 := b_a.at2 b_a.lt_size (Nat.le_refl _)
  replace b_a := hide b_a
  go_enter Tryz.func3, Tryz.ntmps3
  go_wp2_with fail
  rw [← hW]
  clear hW
  refine (pround_gen R_a.out gb.out.1 R_ad.out gb.out.2 (Nat.le_refl _) e_z.out e_P.out e_e.out).mono ?_
  rintro e w1 ⟨A_d, c_d, rfl, R_d, hb⟩
  replace R_a := hide (Rd.then_ R_a.out hb)
  replace R_ad := hide (Rd.then_ R_ad.out hb)
  have U1 : Below W.heap.size W w1 := Below.then_ U0 hb
  replace B := hide (Below.then_ B.out hb)
  replace R_d := hide R_d
  clear hb
  have hbx : Below w1.heap.size w1 (w1.alloc (.cells #[.bool (zneg z), .slice A_d (dig (zmag z)).length c_d, .int .i64 P] 29)) := ((Below.refl _ _).alloc (Nat.le_refl _) _)
  have Ux := Below.then_ U1 hbx
  go_wp2_with fail
  obtain ⟨V1, hV⟩ : ∃ V, V = (w1.alloc (.cells #[.bool (zneg z), .slice A_d (dig (zmag z)).length c_d, .int .i64 P] 29)) := ⟨_, rfl⟩
  obtain ⟨g_d, hg_d⟩ : ∃ g, g = w1.heap.size := ⟨_, rfl⟩
  rw [← hV]
  rw [← hV] at hbx Ux
  rw [← hg_d]
  have b_d : BoxD V1 g_d (.bool (zneg z)) (.slice A_d (dig (zmag z)).length c_d) (.int .i64 P) := by rw [hV]; exact (BoxD.new _ _ _ _ hg_d)
  clear hV
  have ne_a_d : w.heap.size ≠ g_d := by have := (b_a.out.lt b_a.out.lt_size (Nat.le_refl _)) _ U1; omega
  replace ne_a_d := hide ne_a_d
  have ge_d : w.heap.size ≤ g_d := by have := B.out.size; omega
  replace ge_d := hide ge_d
  clear hg_d
  replace R_a := hide (Rd.then_ R_a.out hbx)
  replace R_ad := hide (Rd.then_ R_ad.out hbx)
  replace R_d := hide (Rd.then_ R_d.out hbx)
  have U2 : Below W.heap.size W V1 := Below.then_ U1 hbx
  replace B := hide (Below.then_ B.out hbx)
  clear hbx
  replace b_a := hide (Box3.keep b_a.out U2)
  clear c_a0 c_a1 c_a2
  replace b_d := hide b_d
  have U3 : Below V1.heap.size V1 V1 := Below.refl _ _
  have c_a0 := b_a.out.at0 b_a.out.lt_size (Nat.le_refl _)
  have c_a1 := b_a.out.at1 b_a.out.lt_size (Nat.le_refl _)
  have c_a2 := b_a.out.at2 b_a.out.lt_size (Nat.le_refl _)
  have c_d0 := b_d.out.at0 b_d.out.lt_size (Nat.le_refl _)
  have c_d1 := b_d.out.at1 b_d.out.lt_size (Nat.le_refl _)
  have c_d2 := b_d.out.at2 b_d.out.lt_size (Nat.le_refl _)
  refine (rround_gen R_a.out ga.out.1 R_ad.out ga.out.2 (Nat.le_refl _) e_z.out e_P.out e_e.out).mono ?_
  rintro e w2 ⟨A_w, c_w, rfl, R_w, hb⟩
  replace R_a := hide (Rd.then_ R_a.out hb)
  replace R_ad := hide (Rd.then_ R_ad.out hb)
  replace R_d := hide (Rd.then_ R_d.out hb)
  have U4 : Below V1.heap.size V1 w2 := Below.then_ U3 hb
  replace B := hide (Below.then_ B.out hb)
  replace R_w := hide R_w
  clear hb
  have hbx : Below w2.heap.size w2 (w2.alloc (.cells #[.bool (zneg z), .slice A_w (dig (zmag z)).length c_w, .int .i64 P] 29)) := ((Below.refl _ _).alloc (Nat.le_refl _) _)
  have Ux := Below.then_ U4 hbx
  go_wp2_with fail
  obtain ⟨V4, hV⟩ : ∃ V, V = (w2.alloc (.cells #[.bool (zneg z), .slice A_w (dig (zmag z)).length c_w, .int .i64 P] 29)) := ⟨_, rfl⟩
  obtain ⟨g_w, hg_w⟩ : ∃ g, g = w2.heap.size := ⟨_, rfl⟩
  rw [← hV]
  rw [← hV] at hbx Ux
  rw [← hg_w]
  have b_w : BoxD V4 g_w (.bool (zneg z)) (.slice A_w (dig (zmag z)).length c_w) (.int .i64 P) := by rw [hV]; exact (BoxD.new _ _ _ _ hg_w)
  clear hV
  have ne_a_w : w.heap.size ≠ g_w := by have := (b_a.out.lt b_a.out.lt_size (Nat.le_refl _)) _ U4; omega
  replace ne_a_w := hide ne_a_w
  have ne_d_w : g_d ≠ g_w := by have := (b_d.out.lt b_d.out.lt_size (Nat.le_refl _)) _ U4; omega
  replace ne_d_w := hide ne_d_w
  have ge_w : w.heap.size ≤ g_w := by have := B.out.size; omega
  replace ge_w := hide ge_w
  clear hg_w
  replace R_a := hide (Rd.then_ R_a.out hbx)
  replace R_ad := hide (Rd.then_ R_ad.out hbx)
  replace R_d := hide (Rd.then_ R_d.out hbx)
  replace R_w := hide (Rd.then_ R_w.out hbx)
  have U5 : Below V1.heap.size V1 V4 := Below.then_ U4 hbx
  replace B := hide (Below.then_ B.out hbx)
  clear hbx
  replace b_a := hide (Box3.keep b_a.out U5)
  clear c_a0 c_a1 c_a2
  replace b_d := hide (BoxD.keep b_d.out U5)
  clear c_d0 c_d1 c_d2
  replace b_w := hide b_w
  have U6 : Below V4.heap.size V4 V4 := Below.refl _ _
  have c_a0 := b_a.out.at0 b_a.out.lt_size (Nat.le_refl _)
  have c_a1 := b_a.out.at1 b_a.out.lt_size (Nat.le_refl _)
  have c_a2 := b_a.out.at2 b_a.out.lt_size (Nat.le_refl _)
  have c_d0 := b_d.out.at0 b_d.out.lt_size (Nat.le_refl _)
  have c_d1 := b_d.out.at1 b_d.out.lt_size (Nat.le_refl _)
  have c_d2 := b_d.out.at2 b_d.out.lt_size (Nat.le_refl _)
  have c_w0 := b_w.out.at0 b_w.out.lt_size (Nat.le_refl _)
  have c_w1 := b_w.out.at1 b_w.out.lt_size (Nat.le_refl _)
  have c_w2 := b_w.out.at2 b_w.out.lt_size (Nat.le_refl _)
  refine (samedec_any R_d.out R_w.out (Nat.le_refl _)).mono ?_
  rintro e w3 ⟨rfl, hb⟩
  replace R_a := hide (Rd.then_ R_a.out hb)
  replace R_ad := hide (Rd.then_ R_ad.out hb)
  replace R_d := hide (Rd.then_ R_d.out hb)
  replace R_w := hide (Rd.then_ R_w.out hb)
  have U7 : Below V4.heap.size V4 w3 := Below.then_ U6 hb
  replace B := hide (Below.then_ B.out hb)
  clear hb
  go_wp2_with fail
  refine (pinteger_any R_a.out gb.out.1 R_ad.out gb.out.2 (Nat.le_refl _) e_y.out e_f.out).mono ?_
  rintro e w4 ⟨A_n, c_n, rfl, R_n, hb⟩
  replace R_a := hide (Rd.then_ R_a.out hb)
  replace R_ad := hide (Rd.then_ R_ad.out hb)
  replace R_d := hide (Rd.then_ R_d.out hb)
  replace R_w := hide (Rd.then_ R_w.out hb)
  have U8 : Below V4.heap.size V4 w4 := Below.then_ U7 hb
  replace B := hide (Below.then_ B.out hb)
  replace R_n := hide R_n
  clear hb
  have hbx : Below w4.heap.size w4 (w4.alloc (.cells #[.bool (zneg y), .slice A_n (dig (zmag y)).length c_n] 25)) := ((Below.refl _ _).alloc (Nat.le_refl _) _)
  have Ux := Below.then_ U8 hbx
  go_wp2_with fail
  obtain ⟨V8, hV⟩ : ∃ V, V = (w4.alloc (.cells #[.bool (zneg y), .slice A_n (dig (zmag y)).length c_n] 25)) := ⟨_, rfl⟩
  obtain ⟨g_n, hg_n⟩ : ∃ g, g = w4.heap.size := ⟨_, rfl⟩
  rw [← hV]
  rw [← hV] at hbx Ux
  rw [← hg_n]
  have b_n : Box V8 g_n (.bool (zneg y)) (.slice A_n (dig (zmag y)).length c_n) := by rw [hV]; exact (Box.new _ _ _ hg_n)
  clear hV
  have ne_a_n : w.heap.size ≠ g_n := by have := (b_a.out.lt b_a.out.lt_size (Nat.le_refl _)) _ U8; omega
  replace ne_a_n := hide ne_a_n
  have ne_d_n : g_d ≠ g_n := by have := (b_d.out.lt b_d.out.lt_size (Nat.le_refl _)) _ U8; omega
  replace ne_d_n := hide ne_d_n
  have ne_w_n : g_w ≠ g_n := by have := (b_w.out.lt b_w.out.lt_size (Nat.le_refl _)) _ U8; omega
  replace ne_w_n := hide ne_w_n
  have ge_n : w.heap.size ≤ g_n := by have := B.out.size; omega
  replace ge_n := hide ge_n
  clear hg_n
  replace R_a := hide (Rd.then_ R_a.out hbx)
  replace R_ad := hide (Rd.then_ R_ad.out hbx)
  replace R_d := hide (Rd.then_ R_d.out hbx)
  replace R_w := hide (Rd.then_ R_w.out hbx)
  replace R_n := hide (Rd.then_ R_n.out hbx)
  have U9 : Below V4.heap.size V4 V8 := Below.then_ U8 hbx
  replace B := hide (Below.then_ B.out hbx)
  clear hbx
  replace b_a := hide (Box3.keep b_a.out U9)
  clear c_a0 c_a1 c_a2
  replace b_d := hide (BoxD.keep b_d.out U9)
  clear c_d0 c_d1 c_d2
  replace b_w := hide (BoxD.keep b_w.out U9)
  clear c_w0 c_w1 c_w2
  replace b_n := hide b_n
  have U10 : Below V8.heap.size V8 V8 := Below.refl _ _
  have c_a0 := b_a.out.at0 b_a.out.lt_size (Nat.le_refl _)
  have c_a1 := b_a.out.at1 b_a.out.lt_size (Nat.le_refl _)
  have c_a2 := b_a.out.at2 b_a.out.lt_size (Nat.le_refl _)
  have c_d0 := b_d.out.at0 b_d.out.lt_size (Nat.le_refl _)
  have c_d1 := b_d.out.at1 b_d.out.lt_size (Nat.le_refl _)
  have c_d2 := b_d.out.at2 b_d.out.lt_size (Nat.le_refl _)
  have c_w0 := b_w.out.at0 b_w.out.lt_size (Nat.le_refl _)
  have c_w1 := b_w.out.at1 b_w.out.lt_size (Nat.le_refl _)
  have c_w2 := b_w.out.at2 b_w.out.lt_size (Nat.le_refl _)
  have c_n0 := b_n.out.at0 b_n.out.lt_size (Nat.le_refl _)
  have c_n1 := b_n.out.at1 b_n.out.lt_size (Nat.le_refl _)
  refine (rinteger_any R_a.out ga.out.1 R_ad.out ga.out.2 (Nat.le_refl _) e_y.out e_f.out).mono ?_
  rintro e w5 ⟨A_k, c_k, rfl, R_k, hb⟩
  replace R_a := hide (Rd.then_ R_a.out hb)
  replace R_ad := hide (Rd.then_ R_ad.out hb)
  replace R_d := hide (Rd.then_ R_d.out hb)
  replace R_w := hide (Rd.then_ R_w.out hb)
  replace R_n := hide (Rd.then_ R_n.out hb)
  have U11 : Below V8.heap.size V8 w5 := Below.then_ U10 hb
  replace B := hide (Below.then_ B.out hb)
  replace R_k := hide R_k
  clear hb
  have hbx : Below w5.heap.size w5 (w5.alloc (.cells #[.bool (zneg y), .slice A_k (dig (zmag y)).length c_k] 25)) := ((Below.refl _ _).alloc (Nat.le_refl _) _)
  have Ux := Below.then_ U11 hbx
  go_wp2_with fail
  obtain ⟨V11, hV⟩ : ∃ V, V = (w5.alloc (.cells #[.bool (zneg y), .slice A_k (dig (zmag y)).length c_k] 25)) := ⟨_, rfl⟩
  obtain ⟨g_k, hg_k⟩ : ∃ g, g = w5.heap.size := ⟨_, rfl⟩
  rw [← hV]
  rw [← hV] at hbx Ux
  rw [← hg_k]
  have b_k : Box V11 g_k (.bool (zneg y)) (.slice A_k (dig (zmag y)).length c_k) := by rw [hV]; exact (Box.new _ _ _ hg_k)
  clear hV
  have ne_a_k : w.heap.size ≠ g_k := by have := (b_a.out.lt b_a.out.lt_size (Nat.le_refl _)) _ U11; omega
  replace ne_a_k := hide ne_a_k
  have ne_d_k : g_d ≠ g_k := by have := (b_d.out.lt b_d.out.lt_size (Nat.le_refl _)) _ U11; omega
  replace ne_d_k := hide ne_d_k
  have ne_w_k : g_w ≠ g_k := by have := (b_w.out.lt b_w.out.lt_size (Nat.le_refl _)) _ U11; omega
  replace ne_w_k := hide ne_w_k
  have ne_n_k : g_n ≠ g_k := by have := (b_n.out.lt b_n.out.lt_size (Nat.le_refl _)) _ U11; omega
  replace ne_n_k := hide ne_n_k
  have ge_k : w.heap.size ≤ g_k := by have := B.out.size; omega
  replace ge_k := hide ge_k
  clear hg_k
  replace R_a := hide (Rd.then_ R_a.out hbx)
  replace R_ad := hide (Rd.then_ R_ad.out hbx)
  replace R_d := hide (Rd.then_ R_d.out hbx)
  replace R_w := hide (Rd.then_ R_w.out hbx)
  replace R_n := hide (Rd.then_ R_n.out hbx)
  replace R_k := hide (Rd.then_ R_k.out hbx)
  have U12 : Below V8.heap.size V8 V11 := Below.then_ U11 hbx
  replace B := hide (Below.then_ B.out hbx)
  clear hbx
  replace b_a := hide (Box3.keep b_a.out U12)
  clear c_a0 c_a1 c_a2
  replace b_d := hide (BoxD.keep b_d.out U12)
  clear c_d0 c_d1 c_d2
  replace b_w := hide (BoxD.keep b_w.out U12)
  clear c_w0 c_w1 c_w2
  replace b_n := hide (Box.keep b_n.out U12)
  clear c_n0 c_n1
  replace b_k := hide b_k
  have U13 : Below V11.heap.size V11 V11 := Below.refl _ _
  have c_a0 := b_a.out.at0 b_a.out.lt_size (Nat.le_refl _)
  have c_a1 := b_a.out.at1 b_a.out.lt_size (Nat.le_refl _)
  have c_a2 := b_a.out.at2 b_a.out.lt_size (Nat.le_refl _)
  have c_d0 := b_d.out.at0 b_d.out.lt_size (Nat.le_refl _)
  have c_d1 := b_d.out.at1 b_d.out.lt_size (Nat.le_refl _)
  have c_d2 := b_d.out.at2 b_d.out.lt_size (Nat.le_refl _)
  have c_w0 := b_w.out.at0 b_w.out.lt_size (Nat.le_refl _)
  have c_w1 := b_w.out.at1 b_w.out.lt_size (Nat.le_refl _)
  have c_w2 := b_w.out.at2 b_w.out.lt_size (Nat.le_refl _)
  have c_n0 := b_n.out.at0 b_n.out.lt_size (Nat.le_refl _)
  have c_n1 := b_n.out.at1 b_n.out.lt_size (Nat.le_refl _)
  have c_k0 := b_k.out.at0 b_k.out.lt_size (Nat.le_refl _)
  have c_k1 := b_k.out.at1 b_k.out.lt_size (Nat.le_refl _)
  refine (sameint_any R_n.out R_k.out (Nat.le_refl _)).mono ?_
  rintro e w6 ⟨rfl, hb⟩
  replace R_a := hide (Rd.then_ R_a.out hb)
  replace R_ad := hide (Rd.then_ R_ad.out hb)
  replace R_d := hide (Rd.then_ R_d.out hb)
  replace R_w := hide (Rd.then_ R_w.out hb)
  replace R_n := hide (Rd.then_ R_n.out hb)
  replace R_k := hide (Rd.then_ R_k.out hb)
  have U14 : Below V11.heap.size V11 w6 := Below.then_ U13 hb
  replace B := hide (Below.then_ B.out hb)
  clear hb
  go_wp2_with fail
  refine (awake_any).mono ?_
  rintro e w7 ⟨rfl, hb⟩
  replace R_a := hide (Rd.then_ R_a.out hb)
  replace R_ad := hide (Rd.then_ R_ad.out hb)
  replace R_d := hide (Rd.then_ R_d.out hb)
  replace R_w := hide (Rd.then_ R_w.out hb)
  replace R_n := hide (Rd.then_ R_n.out hb)
  replace R_k := hide (Rd.then_ R_k.out hb)
  have U15 : Below V11.heap.size V11 w7 := Below.then_ U14 hb
  replace B := hide (Below.then_ B.out hb)
  clear hb
  go_wp2
  go_ret
  exact ⟨rfl, B.out⟩

end Go.Proofs.YtdlmfembnmomjaaGreatDoor

/-
  DecimalNotation.
-/
import Derived.Test.YtdlmfembnmomjaaGreatDoorLaw4
namespace Go.Proofs.YtdlmfembnmomjaaGreatDoor
open Go.RowKit


set_option maxHeartbeats 4000000 in
theorem note_ok_lo {w : World} {Bd : Nat} {A_d : Option Addr} {n_d c_d : Nat} {x_d : List Nat} {s_d : Bool} {p_d : Int} {s : ByteArray} (h_d : Rd w Bd A_d n_d c_d x_d) (g_d : n_d ≤ 10000000) (hB : Bd ≤ w.heap.size) {z1 p1 k1 : Int} (hP : ∀ w, Calls Tryz.prog 22 #[.string s] w (RetDec w z1 p1 k1)) {n1 : Nat} (hk1 : k1 = 0) (hp1 : p1 = (n1 : Int)) (hn1 : n1 ≤ 9) (l1 : (dig (zmag z1)).length ≤ 402) (e1 : dstr z1 n1 = s) (hp : p_d < 0) :
    Calls Tryz.prog 5 #[.agg #[.bool s_d, .slice A_d n_d c_d, .int .i64 p_d], .string s] w (RetB w (.bool true)) := by
  replace hP := hide hP
  subst hk1 hp1
  replace hn1 := hide hn1
  replace e1 := hide e1
  have l2 : (dig (zmag z1)).length ≤ 1000000000 := by omega
  replace l2 := hide l2
  clear l1
  have ez1 : iv (zneg z1) (val (dig (zmag z1))) = z1 := ivz z1
  replace ez1 := hide ez1
  have hpb : ¬ (0 ≤ p_d ∧ p_d ≤ 9) := by omega
  replace hpb := hide hpb
  have hlo : decide (p_d < 0) = true := decide_eq_true hp
  clear hp
  have gd : n_d ≤ 1000000000 := by omega
  replace gd := hide gd
  obtain ⟨W, hW⟩ : ∃ W, W = (w.alloc (.cells #[.bool s_d, .slice A_d n_d c_d, .int .i64 p_d] 29)) := ⟨_, rfl⟩
  have b_d : BoxD W (w.heap.size) (.bool s_d) (.slice A_d n_d c_d) (.int .i64 p_d) := by rw [hW]; exact (BoxD.new w _ _ _ rfl)
  have hwW : Below w.heap.size w W := by rw [hW]; exact ((Below.refl _ _).alloc (Nat.le_refl _) _)
  have R_d := hide (Rd.upto h_d hwW hB)
  clear h_d
  have B := hide hwW
  clear hwW
  clear hB
  have U0 : Below W.heap.size W W := Below.refl _ _
  have c_d0 := b_d.at0 b_d.lt_size (Nat.le_refl _)
  have c_d1 := b_d.at1 b_d.lt_size (Nat.le_refl _)
  have c_d2 := b_d.at2 b_d.lt_size (Nat.le_refl _)
  replace b_d := hide b_d
  go_enter Tryz.func5, Tryz.ntmps5
  go_wp2_with fail
  rw [← hW]
  clear hW
  refine (hP.out _).mono ?_
  rintro e w1 ⟨A_c, c_c, rfl, R_c, hb⟩
  replace R_d := hide (Rd.then_ R_d.out hb)
  have U1 : Below W.heap.size W w1 := Below.then_ U0 hb
  replace B := hide (Below.then_ B.out hb)
  replace R_c := hide R_c
  clear hb
  have hbx : Below w1.heap.size w1 (w1.alloc (.cells #[.bool (zneg z1), .slice A_c (dig (zmag z1)).length c_c, .int .i64 (n1 : Int)] 29)) := ((Below.refl _ _).alloc (Nat.le_refl _) _)
  have Ux := Below.then_ U1 hbx
  go_wp2_with fail
  obtain ⟨V1, hV⟩ : ∃ V, V = (w1.alloc (.cells #[.bool (zneg z1), .slice A_c (dig (zmag z1)).length c_c, .int .i64 (n1 : Int)] 29)) := ⟨_, rfl⟩
  obtain ⟨g_c, hg_c⟩ : ∃ g, g = w1.heap.size := ⟨_, rfl⟩
  rw [← hV]
  rw [← hV] at hbx Ux
  rw [← hg_c]
  have b_c : BoxD V1 g_c (.bool (zneg z1)) (.slice A_c (dig (zmag z1)).length c_c) (.int .i64 (n1 : Int)) := by rw [hV]; exact (BoxD.new _ _ _ _ hg_c)
  clear hV
  have ne_d_c : w.heap.size ≠ g_c := by have := (b_d.out.lt b_d.out.lt_size (Nat.le_refl _)) _ U1; omega
  replace ne_d_c := hide ne_d_c
  have ge_c : w.heap.size ≤ g_c := by have := B.out.size; omega
  replace ge_c := hide ge_c
  clear hg_c
  replace R_d := hide (Rd.then_ R_d.out hbx)
  replace R_c := hide (Rd.then_ R_c.out hbx)
  have U2 : Below W.heap.size W V1 := Below.then_ U1 hbx
  replace B := hide (Below.then_ B.out hbx)
  clear hbx
  replace b_d := hide (BoxD.keep b_d.out U2)
  clear c_d0 c_d1 c_d2
  replace b_c := hide b_c
  have U3 : Below V1.heap.size V1 V1 := Below.refl _ _
  have c_d0 := b_d.out.at0 b_d.out.lt_size (Nat.le_refl _)
  have c_d1 := b_d.out.at1 b_d.out.lt_size (Nat.le_refl _)
  have c_d2 := b_d.out.at2 b_d.out.lt_size (Nat.le_refl _)
  have c_c0 := b_c.out.at0 b_c.out.lt_size (Nat.le_refl _)
  have c_c1 := b_c.out.at1 b_c.out.lt_size (Nat.le_refl _)
  have c_c2 := b_c.out.at2 b_c.out.lt_size (Nat.le_refl _)
  have f_c0 := b_c.out.free0 b_c.out.lt_size (Nat.le_refl _)
  have f_c1 := b_c.out.free1 b_c.out.lt_size (Nat.le_refl _)
  have f_c2 := b_c.out.free2 b_c.out.lt_size (Nat.le_refl _)
  have l_c := b_c.out.lt b_c.out.lt_size (Nat.le_refl _)
  refine (dprint_any R_c.out l2.out (Nat.le_refl _) hn1.out ez1.out).mono ?_
  rw [e1.out]
  rintro e w2 ⟨rfl, hb⟩
  replace R_d := hide (Rd.then_ R_d.out hb)
  replace R_c := hide (Rd.then_ R_c.out hb)
  have U4 : Below V1.heap.size V1 w2 := Below.then_ U3 hb
  replace B := hide (Below.then_ B.out hb)
  clear hb
  go_wp2_with fail
  refine (dprint_bad R_d.out gd.out (Nat.le_refl _) hpb.out).mono ?_
  rintro e w3 ⟨rfl, hb⟩
  replace R_d := hide (Rd.then_ R_d.out hb)
  replace R_c := hide (Rd.then_ R_c.out hb)
  have U5 : Below V1.heap.size V1 w3 := Below.then_ U4 hb
  replace B := hide (Below.then_ B.out hb)
  clear hb
  go_wp2_with fail
  refine (awake_any).mono ?_
  rintro e w4 ⟨rfl, hb⟩
  replace R_d := hide (Rd.then_ R_d.out hb)
  replace R_c := hide (Rd.then_ R_c.out hb)
  have U6 : Below V1.heap.size V1 w4 := Below.then_ U5 hb
  replace B := hide (Below.then_ B.out hb)
  clear hb
  go_wp2
  go_ret
  exact ⟨rfl, B.out⟩

set_option maxHeartbeats 4000000 in
theorem note_ok_hi {w : World} {Bd : Nat} {A_d : Option Addr} {n_d c_d : Nat} {x_d : List Nat} {s_d : Bool} {p_d : Int} {s : ByteArray} (h_d : Rd w Bd A_d n_d c_d x_d) (g_d : n_d ≤ 10000000) (hB : Bd ≤ w.heap.size) {z1 p1 k1 : Int} (hP : ∀ w, Calls Tryz.prog 22 #[.string s] w (RetDec w z1 p1 k1)) {n1 : Nat} (hk1 : k1 = 0) (hp1 : p1 = (n1 : Int)) (hn1 : n1 ≤ 9) (l1 : (dig (zmag z1)).length ≤ 402) (e1 : dstr z1 n1 = s) (hp : 9 < p_d) :
    Calls Tryz.prog 5 #[.agg #[.bool s_d, .slice A_d n_d c_d, .int .i64 p_d], .string s] w (RetB w (.bool true)) := by
  replace hP := hide hP
  subst hk1 hp1
  replace hn1 := hide hn1
  replace e1 := hide e1
  have l2 : (dig (zmag z1)).length ≤ 1000000000 := by omega
  replace l2 := hide l2
  clear l1
  have ez1 : iv (zneg z1) (val (dig (zmag z1))) = z1 := ivz z1
  replace ez1 := hide ez1
  have hpb : ¬ (0 ≤ p_d ∧ p_d ≤ 9) := by omega
  replace hpb := hide hpb
  have hlo : decide (p_d < 0) = false := decide_eq_false (by omega)
  have hhi : decide ((9 : Int) < p_d) = true := decide_eq_true hp
  clear hp
  have gd : n_d ≤ 1000000000 := by omega
  replace gd := hide gd
  obtain ⟨W, hW⟩ : ∃ W, W = (w.alloc (.cells #[.bool s_d, .slice A_d n_d c_d, .int .i64 p_d] 29)) := ⟨_, rfl⟩
  have b_d : BoxD W (w.heap.size) (.bool s_d) (.slice A_d n_d c_d) (.int .i64 p_d) := by rw [hW]; exact (BoxD.new w _ _ _ rfl)
  have hwW : Below w.heap.size w W := by rw [hW]; exact ((Below.refl _ _).alloc (Nat.le_refl _) _)
  have R_d := hide (Rd.upto h_d hwW hB)
  clear h_d
  have B := hide hwW
  clear hwW
  clear hB
  have U0 : Below W.heap.size W W := Below.refl _ _
  have c_d0 := b_d.at0 b_d.lt_size (Nat.le_refl _)
  have c_d1 := b_d.at1 b_d.lt_size (Nat.le_refl _)
  have c_d2 := b_d.at2 b_d.lt_size (Nat.le_refl _)
  replace b_d := hide b_d
  go_enter Tryz.func5, Tryz.ntmps5
  go_wp2_with fail
  rw [← hW]
  clear hW
  refine (hP.out _).mono ?_
  rintro e w1 ⟨A_c, c_c, rfl, R_c, hb⟩
  replace R_d := hide (Rd.then_ R_d.out hb)
  have U1 : Below W.heap.size W w1 := Below.then_ U0 hb
  replace B := hide (Below.then_ B.out hb)
  replace R_c := hide R_c
  clear hb
  have hbx : Below w1.heap.size w1 (w1.alloc (.cells #[.bool (zneg z1), .slice A_c (dig (zmag z1)).length c_c, .int .i64 (n1 : Int)] 29)) := ((Below.refl _ _).alloc (Nat.le_refl _) _)
  have Ux := Below.then_ U1 hbx
  go_wp2_with fail
  obtain ⟨V1, hV⟩ : ∃ V, V = (w1.alloc (.cells #[.bool (zneg z1), .slice A_c (dig (zmag z1)).length c_c, .int .i64 (n1 : Int)] 29)) := ⟨_, rfl⟩
  obtain ⟨g_c, hg_c⟩ : ∃ g, g = w1.heap.size := ⟨_, rfl⟩
  rw [← hV]
  rw [← hV] at hbx Ux
  rw [← hg_c]
  have b_c : BoxD V1 g_c (.bool (zneg z1)) (.slice A_c (dig (zmag z1)).length c_c) (.int .i64 (n1 : Int)) := by rw [hV]; exact (BoxD.new _ _ _ _ hg_c)
  clear hV
  have ne_d_c : w.heap.size ≠ g_c := by have := (b_d.out.lt b_d.out.lt_size (Nat.le_refl _)) _ U1; omega
  replace ne_d_c := hide ne_d_c
  have ge_c : w.heap.size ≤ g_c := by have := B.out.size; omega
  replace ge_c := hide ge_c
  clear hg_c
  replace R_d := hide (Rd.then_ R_d.out hbx)
  replace R_c := hide (Rd.then_ R_c.out hbx)
  have U2 : Below W.heap.size W V1 := Below.then_ U1 hbx
  replace B := hide (Below.then_ B.out hbx)
  clear hbx
  replace b_d := hide (BoxD.keep b_d.out U2)
  clear c_d0 c_d1 c_d2
  replace b_c := hide b_c
  have U3 : Below V1.heap.size V1 V1 := Below.refl _ _
  have c_d0 := b_d.out.at0 b_d.out.lt_size (Nat.le_refl _)
  have c_d1 := b_d.out.at1 b_d.out.lt_size (Nat.le_refl _)
  have c_d2 := b_d.out.at2 b_d.out.lt_size (Nat.le_refl _)
  have c_c0 := b_c.out.at0 b_c.out.lt_size (Nat.le_refl _)
  have c_c1 := b_c.out.at1 b_c.out.lt_size (Nat.le_refl _)
  have c_c2 := b_c.out.at2 b_c.out.lt_size (Nat.le_refl _)
  have f_c0 := b_c.out.free0 b_c.out.lt_size (Nat.le_refl _)
  have f_c1 := b_c.out.free1 b_c.out.lt_size (Nat.le_refl _)
  have f_c2 := b_c.out.free2 b_c.out.lt_size (Nat.le_refl _)
  have l_c := b_c.out.lt b_c.out.lt_size (Nat.le_refl _)
  refine (dprint_any R_c.out l2.out (Nat.le_refl _) hn1.out ez1.out).mono ?_
  rw [e1.out]
  rintro e w2 ⟨rfl, hb⟩
  replace R_d := hide (Rd.then_ R_d.out hb)
  replace R_c := hide (Rd.then_ R_c.out hb)
  have U4 : Below V1.heap.size V1 w2 := Below.then_ U3 hb
  replace B := hide (Below.then_ B.out hb)
  clear hb
  go_wp2_with fail
  refine (dprint_bad R_d.out gd.out (Nat.le_refl _) hpb.out).mono ?_
  rintro e w3 ⟨rfl, hb⟩
  replace R_d := hide (Rd.then_ R_d.out hb)
  replace R_c := hide (Rd.then_ R_c.out hb)
  have U5 : Below V1.heap.size V1 w3 := Below.then_ U4 hb
  replace B := hide (Below.then_ B.out hb)
  clear hb
  go_wp2_with fail
  refine (awake_any).mono ?_
  rintro e w4 ⟨rfl, hb⟩
  replace R_d := hide (Rd.then_ R_d.out hb)
  replace R_c := hide (Rd.then_ R_c.out hb)
  have U6 : Below V1.heap.size V1 w4 := Below.then_ U5 hb
  replace B := hide (Below.then_ B.out hb)
  clear hb
  go_wp2
  go_ret
  exact ⟨rfl, B.out⟩

set_option maxHeartbeats 4000000 in
theorem note_ok_long {w : World} {Bd : Nat} {A_d : Option Addr} {n_d c_d : Nat} {x_d : List Nat} {s_d : Bool} {p_d : Int} {s : ByteArray} (h_d : Rd w Bd A_d n_d c_d x_d) (g_d : n_d ≤ 10000000) (hB : Bd ≤ w.heap.size) {z1 p1 k1 : Int} (hP : ∀ w, Calls Tryz.prog 22 #[.string s] w (RetDec w z1 p1 k1)) {n1 : Nat} (hk1 : k1 = 0) (hp1 : p1 = (n1 : Int)) (hn1 : n1 ≤ 9) (l1 : (dig (zmag z1)).length ≤ 402) (e1 : dstr z1 n1 = s) {p : Nat} {z : Int} {t : ByteArray} (hp : p_d = (p : Int)) (h9 : p ≤ 9) (hz : iv s_d (val x_d) = z) (ht : dstr z p = t) (hl : 400 < t.size) :
    Calls Tryz.prog 5 #[.agg #[.bool s_d, .slice A_d n_d c_d, .int .i64 p_d], .string s] w (RetB w (.bool true)) := by
  replace hP := hide hP
  subst hk1 hp1
  replace hn1 := hide hn1
  replace e1 := hide e1
  have l2 : (dig (zmag z1)).length ≤ 1000000000 := by omega
  replace l2 := hide l2
  clear l1
  have ez1 : iv (zneg z1) (val (dig (zmag z1))) = z1 := ivz z1
  replace ez1 := hide ez1
  subst hp
  have hll : decide ((400 : Int) < (t.size : Int)) = true := decide_eq_true (by omega)
  clear hl
  replace h9 := hide h9
  replace hz := hide hz
  replace ht := hide ht
  have gd : n_d ≤ 1000000000 := by omega
  replace gd := hide gd
  obtain ⟨W, hW⟩ : ∃ W, W = (w.alloc (.cells #[.bool s_d, .slice A_d n_d c_d, .int .i64 (p : Int)] 29)) := ⟨_, rfl⟩
  have b_d : BoxD W (w.heap.size) (.bool s_d) (.slice A_d n_d c_d) (.int .i64 (p : Int)) := by rw [hW]; exact (BoxD.new w _ _ _ rfl)
  have hwW : Below w.heap.size w W := by rw [hW]; exact ((Below.refl _ _).alloc (Nat.le_refl _) _)
  have R_d := hide (Rd.upto h_d hwW hB)
  clear h_d
  have B := hide hwW
  clear hwW
  clear hB
  have U0 : Below W.heap.size W W := Below.refl _ _
  have c_d0 := b_d.at0 b_d.lt_size (Nat.le_refl _)
  have c_d1 := b_d.at1 b_d.lt_size (Nat.le_refl _)
  have c_d2 := b_d.at2 b_d.lt_size (Nat.le_refl _)
  replace b_d := hide b_d
  go_enter Tryz.func5, Tryz.ntmps5
  go_wp2_with fail
  rw [← hW]
  clear hW
  refine (hP.out _).mono ?_
  rintro e w1 ⟨A_c, c_c, rfl, R_c, hb⟩
  replace R_d := hide (Rd.then_ R_d.out hb)
  have U1 : Below W.heap.size W w1 := Below.then_ U0 hb
  replace B := hide (Below.then_ B.out hb)
  replace R_c := hide R_c
  clear hb
  have hbx : Below w1.heap.size w1 (w1.alloc (.cells #[.bool (zneg z1), .slice A_c (dig (zmag z1)).length c_c, .int .i64 (n1 : Int)] 29)) := ((Below.refl _ _).alloc (Nat.le_refl _) _)
  have Ux := Below.then_ U1 hbx
  go_wp2_with fail
  obtain ⟨V1, hV⟩ : ∃ V, V = (w1.alloc (.cells #[.bool (zneg z1), .slice A_c (dig (zmag z1)).length c_c, .int .i64 (n1 : Int)] 29)) := ⟨_, rfl⟩
  obtain ⟨g_c, hg_c⟩ : ∃ g, g = w1.heap.size := ⟨_, rfl⟩
  rw [← hV]
  rw [← hV] at hbx Ux
  rw [← hg_c]
  have b_c : BoxD V1 g_c (.bool (zneg z1)) (.slice A_c (dig (zmag z1)).length c_c) (.int .i64 (n1 : Int)) := by rw [hV]; exact (BoxD.new _ _ _ _ hg_c)
  clear hV
  have ne_d_c : w.heap.size ≠ g_c := by have := (b_d.out.lt b_d.out.lt_size (Nat.le_refl _)) _ U1; omega
  replace ne_d_c := hide ne_d_c
  have ge_c : w.heap.size ≤ g_c := by have := B.out.size; omega
  replace ge_c := hide ge_c
  clear hg_c
  replace R_d := hide (Rd.then_ R_d.out hbx)
  replace R_c := hide (Rd.then_ R_c.out hbx)
  have U2 : Below W.heap.size W V1 := Below.then_ U1 hbx
  replace B := hide (Below.then_ B.out hbx)
  clear hbx
  replace b_d := hide (BoxD.keep b_d.out U2)
  clear c_d0 c_d1 c_d2
  replace b_c := hide b_c
  have U3 : Below V1.heap.size V1 V1 := Below.refl _ _
  have c_d0 := b_d.out.at0 b_d.out.lt_size (Nat.le_refl _)
  have c_d1 := b_d.out.at1 b_d.out.lt_size (Nat.le_refl _)
  have c_d2 := b_d.out.at2 b_d.out.lt_size (Nat.le_refl _)
  have c_c0 := b_c.out.at0 b_c.out.lt_size (Nat.le_refl _)
  have c_c1 := b_c.out.at1 b_c.out.lt_size (Nat.le_refl _)
  have c_c2 := b_c.out.at2 b_c.out.lt_size (Nat.le_refl _)
  have f_c0 := b_c.out.free0 b_c.out.lt_size (Nat.le_refl _)
  have f_c1 := b_c.out.free1 b_c.out.lt_size (Nat.le_refl _)
  have f_c2 := b_c.out.free2 b_c.out.lt_size (Nat.le_refl _)
  have l_c := b_c.out.lt b_c.out.lt_size (Nat.le_refl _)
  refine (dprint_any R_c.out l2.out (Nat.le_refl _) hn1.out ez1.out).mono ?_
  rw [e1.out]
  rintro e w2 ⟨rfl, hb⟩
  replace R_d := hide (Rd.then_ R_d.out hb)
  replace R_c := hide (Rd.then_ R_c.out hb)
  have U4 : Below V1.heap.size V1 w2 := Below.then_ U3 hb
  replace B := hide (Below.then_ B.out hb)
  clear hb
  go_wp2_with fail
  refine (dprint_any R_d.out gd.out (Nat.le_refl _) h9.out hz.out).mono ?_
  rw [ht.out]
  rintro e w3 ⟨rfl, hb⟩
  replace R_d := hide (Rd.then_ R_d.out hb)
  replace R_c := hide (Rd.then_ R_c.out hb)
  have U5 : Below V1.heap.size V1 w3 := Below.then_ U4 hb
  replace B := hide (Below.then_ B.out hb)
  clear hb
  go_wp2_with fail
  refine (awake_any).mono ?_
  rintro e w4 ⟨rfl, hb⟩
  replace R_d := hide (Rd.then_ R_d.out hb)
  replace R_c := hide (Rd.then_ R_c.out hb)
  have U6 : Below V1.heap.size V1 w4 := Below.then_ U5 hb
  replace B := hide (Below.then_ B.out hb)
  clear hb
  go_wp2
  go_ret
  exact ⟨rfl, B.out⟩

set_option maxHeartbeats 4000000 in
theorem note_ok_short {w : World} {Bd : Nat} {A_d : Option Addr} {n_d c_d : Nat} {x_d : List Nat} {s_d : Bool} {p_d : Int} {s : ByteArray} (h_d : Rd w Bd A_d n_d c_d x_d) (g_d : n_d ≤ 10000000) (hB : Bd ≤ w.heap.size) {z1 p1 k1 : Int} (hP : ∀ w, Calls Tryz.prog 22 #[.string s] w (RetDec w z1 p1 k1)) {n1 : Nat} (hk1 : k1 = 0) (hp1 : p1 = (n1 : Int)) (hn1 : n1 ≤ 9) (l1 : (dig (zmag z1)).length ≤ 402) (e1 : dstr z1 n1 = s) {p : Nat} {z : Int} {t : ByteArray} (hp : p_d = (p : Int)) (h9 : p ≤ 9) (hz : iv s_d (val x_d) = z) (ht : dstr z p = t) (hl : t.size ≤ 400) :
    Calls Tryz.prog 5 #[.agg #[.bool s_d, .slice A_d n_d c_d, .int .i64 p_d], .string s] w (RetB w (.bool true)) := by
  replace hP := hide hP
  subst hk1 hp1
  replace hn1 := hide hn1
  replace e1 := hide e1
  have l2 : (dig (zmag z1)).length ≤ 1000000000 := by omega
  replace l2 := hide l2
  clear l1
  have ez1 : iv (zneg z1) (val (dig (zmag z1))) = z1 := ivz z1
  replace ez1 := hide ez1
  subst hp
  have hP2 : ∀ w, Calls Tryz.prog 22 #[.string t] w (RetDec w z (p : Int) 0) := fun w => by have := par_dstr (z := z) h9 (by rw [ht]; exact hl) w; rw [ht] at this; exact this
  replace hP2 := hide hP2
  have hc : sgn (iv (zneg z) (val (dig (zmag z))) - iv s_d (val x_d)) = 0 := by rw [ivz, hz, Int.sub_self]; rfl
  replace hc := hide hc
  have hll : decide ((400 : Int) < (t.size : Int)) = false := decide_eq_false (by omega)
  clear hl
  replace h9 := hide h9
  replace hz := hide hz
  replace ht := hide ht
  have gd : n_d ≤ 1000000000 := by omega
  replace gd := hide gd
  obtain ⟨W, hW⟩ : ∃ W, W = (w.alloc (.cells #[.bool s_d, .slice A_d n_d c_d, .int .i64 (p : Int)] 29)) := ⟨_, rfl⟩
  have b_d : BoxD W (w.heap.size) (.bool s_d) (.slice A_d n_d c_d) (.int .i64 (p : Int)) := by rw [hW]; exact (BoxD.new w _ _ _ rfl)
  have hwW : Below w.heap.size w W := by rw [hW]; exact ((Below.refl _ _).alloc (Nat.le_refl _) _)
  have R_d := hide (Rd.upto h_d hwW hB)
  clear h_d
  have B := hide hwW
  clear hwW
  clear hB
  have U0 : Below W.heap.size W W := Below.refl _ _
  have c_d0 := b_d.at0 b_d.lt_size (Nat.le_refl _)
  have c_d1 := b_d.at1 b_d.lt_size (Nat.le_refl _)
  have c_d2 := b_d.at2 b_d.lt_size (Nat.le_refl _)
  replace b_d := hide b_d
  go_enter Tryz.func5, Tryz.ntmps5
  go_wp2_with fail
  rw [← hW]
  clear hW
  refine (hP.out _).mono ?_
  rintro e w1 ⟨A_c, c_c, rfl, R_c, hb⟩
  replace R_d := hide (Rd.then_ R_d.out hb)
  have U1 : Below W.heap.size W w1 := Below.then_ U0 hb
  replace B := hide (Below.then_ B.out hb)
  replace R_c := hide R_c
  clear hb
  have hbx : Below w1.heap.size w1 (w1.alloc (.cells #[.bool (zneg z1), .slice A_c (dig (zmag z1)).length c_c, .int .i64 (n1 : Int)] 29)) := ((Below.refl _ _).alloc (Nat.le_refl _) _)
  have Ux := Below.then_ U1 hbx
  go_wp2_with fail
  obtain ⟨V1, hV⟩ : ∃ V, V = (w1.alloc (.cells #[.bool (zneg z1), .slice A_c (dig (zmag z1)).length c_c, .int .i64 (n1 : Int)] 29)) := ⟨_, rfl⟩
  obtain ⟨g_c, hg_c⟩ : ∃ g, g = w1.heap.size := ⟨_, rfl⟩
  rw [← hV]
  rw [← hV] at hbx Ux
  rw [← hg_c]
  have b_c : BoxD V1 g_c (.bool (zneg z1)) (.slice A_c (dig (zmag z1)).length c_c) (.int .i64 (n1 : Int)) := by rw [hV]; exact (BoxD.new _ _ _ _ hg_c)
  clear hV
  have ne_d_c : w.heap.size ≠ g_c := by have := (b_d.out.lt b_d.out.lt_size (Nat.le_refl _)) _ U1; omega
  replace ne_d_c := hide ne_d_c
  have ge_c : w.heap.size ≤ g_c := by have := B.out.size; omega
  replace ge_c := hide ge_c
  clear hg_c
  replace R_d := hide (Rd.then_ R_d.out hbx)
  replace R_c := hide (Rd.then_ R_c.out hbx)
  have U2 : Below W.heap.size W V1 := Below.then_ U1 hbx
  replace B := hide (Below.then_ B.out hbx)
  clear hbx
  replace b_d := hide (BoxD.keep b_d.out U2)
  clear c_d0 c_d1 c_d2
  replace b_c := hide b_c
  have U3 : Below V1.heap.size V1 V1 := Below.refl _ _
  have c_d0 := b_d.out.at0 b_d.out.lt_size (Nat.le_refl _)
  have c_d1 := b_d.out.at1 b_d.out.lt_size (Nat.le_refl _)
  have c_d2 := b_d.out.at2 b_d.out.lt_size (Nat.le_refl _)
  have c_c0 := b_c.out.at0 b_c.out.lt_size (Nat.le_refl _)
  have c_c1 := b_c.out.at1 b_c.out.lt_size (Nat.le_refl _)
  have c_c2 := b_c.out.at2 b_c.out.lt_size (Nat.le_refl _)
  have f_c0 := b_c.out.free0 b_c.out.lt_size (Nat.le_refl _)
  have f_c1 := b_c.out.free1 b_c.out.lt_size (Nat.le_refl _)
  have f_c2 := b_c.out.free2 b_c.out.lt_size (Nat.le_refl _)
  have l_c := b_c.out.lt b_c.out.lt_size (Nat.le_refl _)
  refine (dprint_any R_c.out l2.out (Nat.le_refl _) hn1.out ez1.out).mono ?_
  rw [e1.out]
  rintro e w2 ⟨rfl, hb⟩
  replace R_d := hide (Rd.then_ R_d.out hb)
  replace R_c := hide (Rd.then_ R_c.out hb)
  have U4 : Below V1.heap.size V1 w2 := Below.then_ U3 hb
  replace B := hide (Below.then_ B.out hb)
  clear hb
  go_wp2_with fail
  refine (dprint_any R_d.out gd.out (Nat.le_refl _) h9.out hz.out).mono ?_
  rw [ht.out]
  rintro e w3 ⟨rfl, hb⟩
  replace R_d := hide (Rd.then_ R_d.out hb)
  replace R_c := hide (Rd.then_ R_c.out hb)
  have U5 : Below V1.heap.size V1 w3 := Below.then_ U4 hb
  replace B := hide (Below.then_ B.out hb)
  clear hb
  go_wp2_with fail
  refine (hP2.out _).mono ?_
  rintro e w4 ⟨A_new, c_new, rfl, R_new, hb⟩
  replace R_d := hide (Rd.then_ R_d.out hb)
  replace R_c := hide (Rd.then_ R_c.out hb)
  have U6 : Below V1.heap.size V1 w4 := Below.then_ U5 hb
  replace B := hide (Below.then_ B.out hb)
  replace R_new := hide R_new
  clear hb
  have nn_d := ne_d_c.out
  go_wp2_with fail
  clear nn_d
  obtain ⟨V7, hV⟩ : ∃ V, V = (((w4.setCell ⟨g_c, 0, none⟩ (.bool (zneg z))).setCell ⟨g_c, 1, none⟩ (.slice A_new (dig (zmag z)).length c_new)).setCell ⟨g_c, 2, none⟩ (.int .i64 (p : Int))) := ⟨_, rfl⟩
  rw [← hV]
  have b_d' : BoxD V7 (w.heap.size) (.bool s_d) (.slice A_d n_d c_d) (.int .i64 (p : Int)) := by rw [hV]; exact (BoxD.other (BoxD.other (BoxD.other (BoxD.keep b_d.out U6) ne_d_c.out _) ne_d_c.out _) ne_d_c.out _)
  have b_c' : BoxD V7 g_c (.bool (zneg z)) (.slice A_new (dig (zmag z)).length c_new) (.int .i64 (p : Int)) := by rw [hV]; exact BoxD.set (BoxD.keep b_c.out U6) _ _ _ 
  replace R_d : Hid (Rd V7 V7.heap.size A_d n_d c_d x_d) := hide (by rw [hV]; simpa using farD (c_c0 _ U6) (c_c1 _ U6) (c_c2 _ U6) _ _ _ R_d.out)
  replace R_c : Hid (Rd V7 V7.heap.size A_c (dig (zmag z1)).length c_c (dig (zmag z1))) := hide (by rw [hV]; simpa using farD (c_c0 _ U6) (c_c1 _ U6) (c_c2 _ U6) _ _ _ R_c.out)
  replace R_new : Hid (Rd V7 V7.heap.size A_new (dig (zmag z)).length c_new (dig (zmag z))) := hide (by rw [hV]; simpa using farD (c_c0 _ U6) (c_c1 _ U6) (c_c2 _ U6) _ _ _ R_new.out)
  replace B : Hid (Below w.heap.size w V7) := hide (by rw [hV]; exact (((B.out.setCell ge_c.out _).setCell ge_c.out _).setCell ge_c.out _))
  clear hV
  clear c_d0 c_d1 c_d2
  replace b_d := hide b_d'
  clear b_d'
  clear c_c0 c_c1 c_c2 f_c0 f_c1 f_c2 l_c
  replace b_c := hide b_c'
  clear b_c'
  have U8 : Below V7.heap.size V7 V7 := Below.refl _ _
  have c_d0 := b_d.out.at0 b_d.out.lt_size (Nat.le_refl _)
  have c_d1 := b_d.out.at1 b_d.out.lt_size (Nat.le_refl _)
  have c_d2 := b_d.out.at2 b_d.out.lt_size (Nat.le_refl _)
  have c_c0 := b_c.out.at0 b_c.out.lt_size (Nat.le_refl _)
  have c_c1 := b_c.out.at1 b_c.out.lt_size (Nat.le_refl _)
  have c_c2 := b_c.out.at2 b_c.out.lt_size (Nat.le_refl _)
  have f_c0 := b_c.out.free0 b_c.out.lt_size (Nat.le_refl _)
  have f_c1 := b_c.out.free1 b_c.out.lt_size (Nat.le_refl _)
  have f_c2 := b_c.out.free2 b_c.out.lt_size (Nat.le_refl _)
  have l_c := b_c.out.lt b_c.out.lt_size (Nat.le_refl _)
  refine (icmp_any _ _ _ _ _ _ _ _ _ _ _ _ R_new.out R_d.out (Nat.le_refl _)).mono ?_
  rw [hc.out]
  rintro e w5 ⟨rfl, hb⟩
  replace R_d := hide (Rd.then_ R_d.out hb)
  replace R_c := hide (Rd.then_ R_c.out hb)
  replace R_new := hide (Rd.then_ R_new.out hb)
  have U9 : Below V7.heap.size V7 w5 := Below.then_ U8 hb
  replace B := hide (Below.then_ B.out hb)
  clear hb
  go_wp2_with fail
  refine (awake_any).mono ?_
  rintro e w6 ⟨rfl, hb⟩
  replace R_d := hide (Rd.then_ R_d.out hb)
  replace R_c := hide (Rd.then_ R_c.out hb)
  replace R_new := hide (Rd.then_ R_new.out hb)
  have U10 : Below V7.heap.size V7 w6 := Below.then_ U9 hb
  replace B := hide (Below.then_ B.out hb)
  clear hb
  go_wp2
  go_ret
  exact ⟨rfl, B.out⟩

set_option maxHeartbeats 4000000 in
theorem note_er_lo {w : World} {Bd : Nat} {A_d : Option Addr} {n_d c_d : Nat} {x_d : List Nat} {s_d : Bool} {p_d : Int} {s : ByteArray} (h_d : Rd w Bd A_d n_d c_d x_d) (g_d : n_d ≤ 10000000) (hB : Bd ≤ w.heap.size) {z1 p1 k1 : Int} (hP : ∀ w, Calls Tryz.prog 22 #[.string s] w (RetDec w z1 p1 k1)) (hk1 : (k1 == 0) = false) (hp : p_d < 0) :
    Calls Tryz.prog 5 #[.agg #[.bool s_d, .slice A_d n_d c_d, .int .i64 p_d], .string s] w (RetB w (.bool true)) := by
  replace hP := hide hP
  have hpb : ¬ (0 ≤ p_d ∧ p_d ≤ 9) := by omega
  replace hpb := hide hpb
  have hlo : decide (p_d < 0) = true := decide_eq_true hp
  clear hp
  have gd : n_d ≤ 1000000000 := by omega
  replace gd := hide gd
  obtain ⟨W, hW⟩ : ∃ W, W = (w.alloc (.cells #[.bool s_d, .slice A_d n_d c_d, .int .i64 p_d] 29)) := ⟨_, rfl⟩
  have b_d : BoxD W (w.heap.size) (.bool s_d) (.slice A_d n_d c_d) (.int .i64 p_d) := by rw [hW]; exact (BoxD.new w _ _ _ rfl)
  have hwW : Below w.heap.size w W := by rw [hW]; exact ((Below.refl _ _).alloc (Nat.le_refl _) _)
  have R_d := hide (Rd.upto h_d hwW hB)
  clear h_d
  have B := hide hwW
  clear hwW
  clear hB
  have U0 : Below W.heap.size W W := Below.refl _ _
  have c_d0 := b_d.at0 b_d.lt_size (Nat.le_refl _)
  have c_d1 := b_d.at1 b_d.lt_size (Nat.le_refl _)
  have c_d2 := b_d.at2 b_d.lt_size (Nat.le_refl _)
  replace b_d := hide b_d
  go_enter Tryz.func5, Tryz.ntmps5
  go_wp2_with fail
  rw [← hW]
  clear hW
  refine (hP.out _).mono ?_
  rintro e w1 ⟨A_c, c_c, rfl, R_c, hb⟩
  replace R_d := hide (Rd.then_ R_d.out hb)
  have U1 : Below W.heap.size W w1 := Below.then_ U0 hb
  replace B := hide (Below.then_ B.out hb)
  replace R_c := hide R_c
  clear hb
  have hbx : Below w1.heap.size w1 (w1.alloc (.cells #[.bool (zneg z1), .slice A_c (dig (zmag z1)).length c_c, .int .i64 p1] 29)) := ((Below.refl _ _).alloc (Nat.le_refl _) _)
  have Ux := Below.then_ U1 hbx
  go_wp2_with fail
  obtain ⟨V1, hV⟩ : ∃ V, V = (w1.alloc (.cells #[.bool (zneg z1), .slice A_c (dig (zmag z1)).length c_c, .int .i64 p1] 29)) := ⟨_, rfl⟩
  obtain ⟨g_c, hg_c⟩ : ∃ g, g = w1.heap.size := ⟨_, rfl⟩
  rw [← hV]
  rw [← hV] at hbx Ux
  rw [← hg_c]
  have b_c : BoxD V1 g_c (.bool (zneg z1)) (.slice A_c (dig (zmag z1)).length c_c) (.int .i64 p1) := by rw [hV]; exact (BoxD.new _ _ _ _ hg_c)
  clear hV
  have ne_d_c : w.heap.size ≠ g_c := by have := (b_d.out.lt b_d.out.lt_size (Nat.le_refl _)) _ U1; omega
  replace ne_d_c := hide ne_d_c
  have ge_c : w.heap.size ≤ g_c := by have := B.out.size; omega
  replace ge_c := hide ge_c
  clear hg_c
  replace R_d := hide (Rd.then_ R_d.out hbx)
  replace R_c := hide (Rd.then_ R_c.out hbx)
  have U2 : Below W.heap.size W V1 := Below.then_ U1 hbx
  replace B := hide (Below.then_ B.out hbx)
  clear hbx
  replace b_d := hide (BoxD.keep b_d.out U2)
  clear c_d0 c_d1 c_d2
  replace b_c := hide b_c
  have U3 : Below V1.heap.size V1 V1 := Below.refl _ _
  have c_d0 := b_d.out.at0 b_d.out.lt_size (Nat.le_refl _)
  have c_d1 := b_d.out.at1 b_d.out.lt_size (Nat.le_refl _)
  have c_d2 := b_d.out.at2 b_d.out.lt_size (Nat.le_refl _)
  have c_c0 := b_c.out.at0 b_c.out.lt_size (Nat.le_refl _)
  have c_c1 := b_c.out.at1 b_c.out.lt_size (Nat.le_refl _)
  have c_c2 := b_c.out.at2 b_c.out.lt_size (Nat.le_refl _)
  have f_c0 := b_c.out.free0 b_c.out.lt_size (Nat.le_refl _)
  have f_c1 := b_c.out.free1 b_c.out.lt_size (Nat.le_refl _)
  have f_c2 := b_c.out.free2 b_c.out.lt_size (Nat.le_refl _)
  have l_c := b_c.out.lt b_c.out.lt_size (Nat.le_refl _)
  refine (dprint_bad R_d.out gd.out (Nat.le_refl _) hpb.out).mono ?_
  rintro e w2 ⟨rfl, hb⟩
  replace R_d := hide (Rd.then_ R_d.out hb)
  replace R_c := hide (Rd.then_ R_c.out hb)
  have U4 : Below V1.heap.size V1 w2 := Below.then_ U3 hb
  replace B := hide (Below.then_ B.out hb)
  clear hb
  go_wp2_with fail
  refine (awake_any).mono ?_
  rintro e w3 ⟨rfl, hb⟩
  replace R_d := hide (Rd.then_ R_d.out hb)
  replace R_c := hide (Rd.then_ R_c.out hb)
  have U5 : Below V1.heap.size V1 w3 := Below.then_ U4 hb
  replace B := hide (Below.then_ B.out hb)
  clear hb
  go_wp2
  go_ret
  exact ⟨rfl, B.out⟩

set_option maxHeartbeats 4000000 in
theorem note_er_hi {w : World} {Bd : Nat} {A_d : Option Addr} {n_d c_d : Nat} {x_d : List Nat} {s_d : Bool} {p_d : Int} {s : ByteArray} (h_d : Rd w Bd A_d n_d c_d x_d) (g_d : n_d ≤ 10000000) (hB : Bd ≤ w.heap.size) {z1 p1 k1 : Int} (hP : ∀ w, Calls Tryz.prog 22 #[.string s] w (RetDec w z1 p1 k1)) (hk1 : (k1 == 0) = false) (hp : 9 < p_d) :
    Calls Tryz.prog 5 #[.agg #[.bool s_d, .slice A_d n_d c_d, .int .i64 p_d], .string s] w (RetB w (.bool true)) := by
  replace hP := hide hP
  have hpb : ¬ (0 ≤ p_d ∧ p_d ≤ 9) := by omega
  replace hpb := hide hpb
  have hlo : decide (p_d < 0) = false := decide_eq_false (by omega)
  have hhi : decide ((9 : Int) < p_d) = true := decide_eq_true hp
  clear hp
  have gd : n_d ≤ 1000000000 := by omega
  replace gd := hide gd
  obtain ⟨W, hW⟩ : ∃ W, W = (w.alloc (.cells #[.bool s_d, .slice A_d n_d c_d, .int .i64 p_d] 29)) := ⟨_, rfl⟩
  have b_d : BoxD W (w.heap.size) (.bool s_d) (.slice A_d n_d c_d) (.int .i64 p_d) := by rw [hW]; exact (BoxD.new w _ _ _ rfl)
  have hwW : Below w.heap.size w W := by rw [hW]; exact ((Below.refl _ _).alloc (Nat.le_refl _) _)
  have R_d := hide (Rd.upto h_d hwW hB)
  clear h_d
  have B := hide hwW
  clear hwW
  clear hB
  have U0 : Below W.heap.size W W := Below.refl _ _
  have c_d0 := b_d.at0 b_d.lt_size (Nat.le_refl _)
  have c_d1 := b_d.at1 b_d.lt_size (Nat.le_refl _)
  have c_d2 := b_d.at2 b_d.lt_size (Nat.le_refl _)
  replace b_d := hide b_d
  go_enter Tryz.func5, Tryz.ntmps5
  go_wp2_with fail
  rw [← hW]
  clear hW
  refine (hP.out _).mono ?_
  rintro e w1 ⟨A_c, c_c, rfl, R_c, hb⟩
  replace R_d := hide (Rd.then_ R_d.out hb)
  have U1 : Below W.heap.size W w1 := Below.then_ U0 hb
  replace B := hide (Below.then_ B.out hb)
  replace R_c := hide R_c
  clear hb
  have hbx : Below w1.heap.size w1 (w1.alloc (.cells #[.bool (zneg z1), .slice A_c (dig (zmag z1)).length c_c, .int .i64 p1] 29)) := ((Below.refl _ _).alloc (Nat.le_refl _) _)
  have Ux := Below.then_ U1 hbx
  go_wp2_with fail
  obtain ⟨V1, hV⟩ : ∃ V, V = (w1.alloc (.cells #[.bool (zneg z1), .slice A_c (dig (zmag z1)).length c_c, .int .i64 p1] 29)) := ⟨_, rfl⟩
  obtain ⟨g_c, hg_c⟩ : ∃ g, g = w1.heap.size := ⟨_, rfl⟩
  rw [← hV]
  rw [← hV] at hbx Ux
  rw [← hg_c]
  have b_c : BoxD V1 g_c (.bool (zneg z1)) (.slice A_c (dig (zmag z1)).length c_c) (.int .i64 p1) := by rw [hV]; exact (BoxD.new _ _ _ _ hg_c)
  clear hV
  have ne_d_c : w.heap.size ≠ g_c := by have := (b_d.out.lt b_d.out.lt_size (Nat.le_refl _)) _ U1; omega
  replace ne_d_c := hide ne_d_c
  have ge_c : w.heap.size ≤ g_c := by have := B.out.size; omega
  replace ge_c := hide ge_c
  clear hg_c
  replace R_d := hide (Rd.then_ R_d.out hbx)
  replace R_c := hide (Rd.then_ R_c.out hbx)
  have U2 : Below W.heap.size W V1 := Below.then_ U1 hbx
  replace B := hide (Below.then_ B.out hbx)
  clear hbx
  replace b_d := hide (BoxD.keep b_d.out U2)
  clear c_d0 c_d1 c_d2
  replace b_c := hide b_c
  have U3 : Below V1.heap.size V1 V1 := Below.refl _ _
  have c_d0 := b_d.out.at0 b_d.out.lt_size (Nat.le_refl _)
  have c_d1 := b_d.out.at1 b_d.out.lt_size (Nat.le_refl _)
  have c_d2 := b_d.out.at2 b_d.out.lt_size (Nat.le_refl _)
  have c_c0 := b_c.out.at0 b_c.out.lt_size (Nat.le_refl _)
  have c_c1 := b_c.out.at1 b_c.out.lt_size (Nat.le_refl _)
  have c_c2 := b_c.out.at2 b_c.out.lt_size (Nat.le_refl _)
  have f_c0 := b_c.out.free0 b_c.out.lt_size (Nat.le_refl _)
  have f_c1 := b_c.out.free1 b_c.out.lt_size (Nat.le_refl _)
  have f_c2 := b_c.out.free2 b_c.out.lt_size (Nat.le_refl _)
  have l_c := b_c.out.lt b_c.out.lt_size (Nat.le_refl _)
  refine (dprint_bad R_d.out gd.out (Nat.le_refl _) hpb.out).mono ?_
  rintro e w2 ⟨rfl, hb⟩
  replace R_d := hide (Rd.then_ R_d.out hb)
  replace R_c := hide (Rd.then_ R_c.out hb)
  have U4 : Below V1.heap.size V1 w2 := Below.then_ U3 hb
  replace B := hide (Below.then_ B.out hb)
  clear hb
  go_wp2_with fail
  refine (awake_any).mono ?_
  rintro e w3 ⟨rfl, hb⟩
  replace R_d := hide (Rd.then_ R_d.out hb)
  replace R_c := hide (Rd.then_ R_c.out hb)
  have U5 : Below V1.heap.size V1 w3 := Below.then_ U4 hb
  replace B := hide (Below.then_ B.out hb)
  clear hb
  go_wp2
  go_ret
  exact ⟨rfl, B.out⟩

set_option maxHeartbeats 4000000 in
theorem note_er_long {w : World} {Bd : Nat} {A_d : Option Addr} {n_d c_d : Nat} {x_d : List Nat} {s_d : Bool} {p_d : Int} {s : ByteArray} (h_d : Rd w Bd A_d n_d c_d x_d) (g_d : n_d ≤ 10000000) (hB : Bd ≤ w.heap.size) {z1 p1 k1 : Int} (hP : ∀ w, Calls Tryz.prog 22 #[.string s] w (RetDec w z1 p1 k1)) (hk1 : (k1 == 0) = false) {p : Nat} {z : Int} {t : ByteArray} (hp : p_d = (p : Int)) (h9 : p ≤ 9) (hz : iv s_d (val x_d) = z) (ht : dstr z p = t) (hl : 400 < t.size) :
    Calls Tryz.prog 5 #[.agg #[.bool s_d, .slice A_d n_d c_d, .int .i64 p_d], .string s] w (RetB w (.bool true)) := by
  replace hP := hide hP
  subst hp
  have hll : decide ((400 : Int) < (t.size : Int)) = true := decide_eq_true (by omega)
  clear hl
  replace h9 := hide h9
  replace hz := hide hz
  replace ht := hide ht
  have gd : n_d ≤ 1000000000 := by omega
  replace gd := hide gd
  obtain ⟨W, hW⟩ : ∃ W, W = (w.alloc (.cells #[.bool s_d, .slice A_d n_d c_d, .int .i64 (p : Int)] 29)) := ⟨_, rfl⟩
  have b_d : BoxD W (w.heap.size) (.bool s_d) (.slice A_d n_d c_d) (.int .i64 (p : Int)) := by rw [hW]; exact (BoxD.new w _ _ _ rfl)
  have hwW : Below w.heap.size w W := by rw [hW]; exact ((Below.refl _ _).alloc (Nat.le_refl _) _)
  have R_d := hide (Rd.upto h_d hwW hB)
  clear h_d
  have B := hide hwW
  clear hwW
  clear hB
  have U0 : Below W.heap.size W W := Below.refl _ _
  have c_d0 := b_d.at0 b_d.lt_size (Nat.le_refl _)
  have c_d1 := b_d.at1 b_d.lt_size (Nat.le_refl _)
  have c_d2 := b_d.at2 b_d.lt_size (Nat.le_refl _)
  replace b_d := hide b_d
  go_enter Tryz.func5, Tryz.ntmps5
  go_wp2_with fail
  rw [← hW]
  clear hW
  refine (hP.out _).mono ?_
  rintro e w1 ⟨A_c, c_c, rfl, R_c, hb⟩
  replace R_d := hide (Rd.then_ R_d.out hb)
  have U1 : Below W.heap.size W w1 := Below.then_ U0 hb
  replace B := hide (Below.then_ B.out hb)
  replace R_c := hide R_c
  clear hb
  have hbx : Below w1.heap.size w1 (w1.alloc (.cells #[.bool (zneg z1), .slice A_c (dig (zmag z1)).length c_c, .int .i64 p1] 29)) := ((Below.refl _ _).alloc (Nat.le_refl _) _)
  have Ux := Below.then_ U1 hbx
  go_wp2_with fail
  obtain ⟨V1, hV⟩ : ∃ V, V = (w1.alloc (.cells #[.bool (zneg z1), .slice A_c (dig (zmag z1)).length c_c, .int .i64 p1] 29)) := ⟨_, rfl⟩
  obtain ⟨g_c, hg_c⟩ : ∃ g, g = w1.heap.size := ⟨_, rfl⟩
  rw [← hV]
  rw [← hV] at hbx Ux
  rw [← hg_c]
  have b_c : BoxD V1 g_c (.bool (zneg z1)) (.slice A_c (dig (zmag z1)).length c_c) (.int .i64 p1) := by rw [hV]; exact (BoxD.new _ _ _ _ hg_c)
  clear hV
  have ne_d_c : w.heap.size ≠ g_c := by have := (b_d.out.lt b_d.out.lt_size (Nat.le_refl _)) _ U1; omega
  replace ne_d_c := hide ne_d_c
  have ge_c : w.heap.size ≤ g_c := by have := B.out.size; omega
  replace ge_c := hide ge_c
  clear hg_c
  replace R_d := hide (Rd.then_ R_d.out hbx)
  replace R_c := hide (Rd.then_ R_c.out hbx)
  have U2 : Below W.heap.size W V1 := Below.then_ U1 hbx
  replace B := hide (Below.then_ B.out hbx)
  clear hbx
  replace b_d := hide (BoxD.keep b_d.out U2)
  clear c_d0 c_d1 c_d2
  replace b_c := hide b_c
  have U3 : Below V1.heap.size V1 V1 := Below.refl _ _
  have c_d0 := b_d.out.at0 b_d.out.lt_size (Nat.le_refl _)
  have c_d1 := b_d.out.at1 b_d.out.lt_size (Nat.le_refl _)
  have c_d2 := b_d.out.at2 b_d.out.lt_size (Nat.le_refl _)
  have c_c0 := b_c.out.at0 b_c.out.lt_size (Nat.le_refl _)
  have c_c1 := b_c.out.at1 b_c.out.lt_size (Nat.le_refl _)
  have c_c2 := b_c.out.at2 b_c.out.lt_size (Nat.le_refl _)
  have f_c0 := b_c.out.free0 b_c.out.lt_size (Nat.le_refl _)
  have f_c1 := b_c.out.free1 b_c.out.lt_size (Nat.le_refl _)
  have f_c2 := b_c.out.free2 b_c.out.lt_size (Nat.le_refl _)
  have l_c := b_c.out.lt b_c.out.lt_size (Nat.le_refl _)
  refine (dprint_any R_d.out gd.out (Nat.le_refl _) h9.out hz.out).mono ?_
  rw [ht.out]
  rintro e w2 ⟨rfl, hb⟩
  replace R_d := hide (Rd.then_ R_d.out hb)
  replace R_c := hide (Rd.then_ R_c.out hb)
  have U4 : Below V1.heap.size V1 w2 := Below.then_ U3 hb
  replace B := hide (Below.then_ B.out hb)
  clear hb
  go_wp2_with fail
  refine (awake_any).mono ?_
  rintro e w3 ⟨rfl, hb⟩
  replace R_d := hide (Rd.then_ R_d.out hb)
  replace R_c := hide (Rd.then_ R_c.out hb)
  have U5 : Below V1.heap.size V1 w3 := Below.then_ U4 hb
  replace B := hide (Below.then_ B.out hb)
  clear hb
  go_wp2
  go_ret
  exact ⟨rfl, B.out⟩

set_option maxHeartbeats 4000000 in
theorem note_er_short {w : World} {Bd : Nat} {A_d : Option Addr} {n_d c_d : Nat} {x_d : List Nat} {s_d : Bool} {p_d : Int} {s : ByteArray} (h_d : Rd w Bd A_d n_d c_d x_d) (g_d : n_d ≤ 10000000) (hB : Bd ≤ w.heap.size) {z1 p1 k1 : Int} (hP : ∀ w, Calls Tryz.prog 22 #[.string s] w (RetDec w z1 p1 k1)) (hk1 : (k1 == 0) = false) {p : Nat} {z : Int} {t : ByteArray} (hp : p_d = (p : Int)) (h9 : p ≤ 9) (hz : iv s_d (val x_d) = z) (ht : dstr z p = t) (hl : t.size ≤ 400) :
    Calls Tryz.prog 5 #[.agg #[.bool s_d, .slice A_d n_d c_d, .int .i64 p_d], .string s] w (RetB w (.bool true)) := by
  replace hP := hide hP
  subst hp
  have hP2 : ∀ w, Calls Tryz.prog 22 #[.string t] w (RetDec w z (p : Int) 0) := fun w => by have := par_dstr (z := z) h9 (by rw [ht]; exact hl) w; rw [ht] at this; exact this
  replace hP2 := hide hP2
  have hc : sgn (iv (zneg z) (val (dig (zmag z))) - iv s_d (val x_d)) = 0 := by rw [ivz, hz, Int.sub_self]; rfl
  replace hc := hide hc
  have hll : decide ((400 : Int) < (t.size : Int)) = false := decide_eq_false (by omega)
  clear hl
  replace h9 := hide h9
  replace hz := hide hz
  replace ht := hide ht
  have gd : n_d ≤ 1000000000 := by omega
  replace gd := hide gd
  obtain ⟨W, hW⟩ : ∃ W, W = (w.alloc (.cells #[.bool s_d, .slice A_d n_d c_d, .int .i64 (p : Int)] 29)) := ⟨_, rfl⟩
  have b_d : BoxD W (w.heap.size) (.bool s_d) (.slice A_d n_d c_d) (.int .i64 (p : Int)) := by rw [hW]; exact (BoxD.new w _ _ _ rfl)
  have hwW : Below w.heap.size w W := by rw [hW]; exact ((Below.refl _ _).alloc (Nat.le_refl _) _)
  have R_d := hide (Rd.upto h_d hwW hB)
  clear h_d
  have B := hide hwW
  clear hwW
  clear hB
  have U0 : Below W.heap.size W W := Below.refl _ _
  have c_d0 := b_d.at0 b_d.lt_size (Nat.le_refl _)
  have c_d1 := b_d.at1 b_d.lt_size (Nat.le_refl _)
  have c_d2 := b_d.at2 b_d.lt_size (Nat.le_refl _)
  replace b_d := hide b_d
  go_enter Tryz.func5, Tryz.ntmps5
  go_wp2_with fail
  rw [← hW]
  clear hW
  refine (hP.out _).mono ?_
  rintro e w1 ⟨A_c, c_c, rfl, R_c, hb⟩
  replace R_d := hide (Rd.then_ R_d.out hb)
  have U1 : Below W.heap.size W w1 := Below.then_ U0 hb
  replace B := hide (Below.then_ B.out hb)
  replace R_c := hide R_c
  clear hb
  have hbx : Below w1.heap.size w1 (w1.alloc (.cells #[.bool (zneg z1), .slice A_c (dig (zmag z1)).length c_c, .int .i64 p1] 29)) := ((Below.refl _ _).alloc (Nat.le_refl _) _)
  have Ux := Below.then_ U1 hbx
  go_wp2_with fail
  obtain ⟨V1, hV⟩ : ∃ V, V = (w1.alloc (.cells #[.bool (zneg z1), .slice A_c (dig (zmag z1)).length c_c, .int .i64 p1] 29)) := ⟨_, rfl⟩
  obtain ⟨g_c, hg_c⟩ : ∃ g, g = w1.heap.size := ⟨_, rfl⟩
  rw [← hV]
  rw [← hV] at hbx Ux
  rw [← hg_c]
  have b_c : BoxD V1 g_c (.bool (zneg z1)) (.slice A_c (dig (zmag z1)).length c_c) (.int .i64 p1) := by rw [hV]; exact (BoxD.new _ _ _ _ hg_c)
  clear hV
  have ne_d_c : w.heap.size ≠ g_c := by have := (b_d.out.lt b_d.out.lt_size (Nat.le_refl _)) _ U1; omega
  replace ne_d_c := hide ne_d_c
  have ge_c : w.heap.size ≤ g_c := by have := B.out.size; omega
  replace ge_c := hide ge_c
  clear hg_c
  replace R_d := hide (Rd.then_ R_d.out hbx)
  replace R_c := hide (Rd.then_ R_c.out hbx)
  have U2 : Below W.heap.size W V1 := Below.then_ U1 hbx
  replace B := hide (Below.then_ B.out hbx)
  clear hbx
  replace b_d := hide (BoxD.keep b_d.out U2)
  clear c_d0 c_d1 c_d2
  replace b_c := hide b_c
  have U3 : Below V1.heap.size V1 V1 := Below.refl _ _
  have c_d0 := b_d.out.at0 b_d.out.lt_size (Nat.le_refl _)
  have c_d1 := b_d.out.at1 b_d.out.lt_size (Nat.le_refl _)
  have c_d2 := b_d.out.at2 b_d.out.lt_size (Nat.le_refl _)
  have c_c0 := b_c.out.at0 b_c.out.lt_size (Nat.le_refl _)
  have c_c1 := b_c.out.at1 b_c.out.lt_size (Nat.le_refl _)
  have c_c2 := b_c.out.at2 b_c.out.lt_size (Nat.le_refl _)
  have f_c0 := b_c.out.free0 b_c.out.lt_size (Nat.le_refl _)
  have f_c1 := b_c.out.free1 b_c.out.lt_size (Nat.le_refl _)
  have f_c2 := b_c.out.free2 b_c.out.lt_size (Nat.le_refl _)
  have l_c := b_c.out.lt b_c.out.lt_size (Nat.le_refl _)
  refine (dprint_any R_d.out gd.out (Nat.le_refl _) h9.out hz.out).mono ?_
  rw [ht.out]
  rintro e w2 ⟨rfl, hb⟩
  replace R_d := hide (Rd.then_ R_d.out hb)
  replace R_c := hide (Rd.then_ R_c.out hb)
  have U4 : Below V1.heap.size V1 w2 := Below.then_ U3 hb
  replace B := hide (Below.then_ B.out hb)
  clear hb
  go_wp2_with fail
  refine (hP2.out _).mono ?_
  rintro e w3 ⟨A_new, c_new, rfl, R_new, hb⟩
  replace R_d := hide (Rd.then_ R_d.out hb)
  replace R_c := hide (Rd.then_ R_c.out hb)
  have U5 : Below V1.heap.size V1 w3 := Below.then_ U4 hb
  replace B := hide (Below.then_ B.out hb)
  replace R_new := hide R_new
  clear hb
  have nn_d := ne_d_c.out
  go_wp2_with fail
  clear nn_d
  obtain ⟨V6, hV⟩ : ∃ V, V = (((w3.setCell ⟨g_c, 0, none⟩ (.bool (zneg z))).setCell ⟨g_c, 1, none⟩ (.slice A_new (dig (zmag z)).length c_new)).setCell ⟨g_c, 2, none⟩ (.int .i64 (p : Int))) := ⟨_, rfl⟩
  rw [← hV]
  have b_d' : BoxD V6 (w.heap.size) (.bool s_d) (.slice A_d n_d c_d) (.int .i64 (p : Int)) := by rw [hV]; exact (BoxD.other (BoxD.other (BoxD.other (BoxD.keep b_d.out U5) ne_d_c.out _) ne_d_c.out _) ne_d_c.out _)
  have b_c' : BoxD V6 g_c (.bool (zneg z)) (.slice A_new (dig (zmag z)).length c_new) (.int .i64 (p : Int)) := by rw [hV]; exact BoxD.set (BoxD.keep b_c.out U5) _ _ _ 
  replace R_d : Hid (Rd V6 V6.heap.size A_d n_d c_d x_d) := hide (by rw [hV]; simpa using farD (c_c0 _ U5) (c_c1 _ U5) (c_c2 _ U5) _ _ _ R_d.out)
  replace R_c : Hid (Rd V6 V6.heap.size A_c (dig (zmag z1)).length c_c (dig (zmag z1))) := hide (by rw [hV]; simpa using farD (c_c0 _ U5) (c_c1 _ U5) (c_c2 _ U5) _ _ _ R_c.out)
  replace R_new : Hid (Rd V6 V6.heap.size A_new (dig (zmag z)).length c_new (dig (zmag z))) := hide (by rw [hV]; simpa using farD (c_c0 _ U5) (c_c1 _ U5) (c_c2 _ U5) _ _ _ R_new.out)
  replace B : Hid (Below w.heap.size w V6) := hide (by rw [hV]; exact (((B.out.setCell ge_c.out _).setCell ge_c.out _).setCell ge_c.out _))
  clear hV
  clear c_d0 c_d1 c_d2
  replace b_d := hide b_d'
  clear b_d'
  clear c_c0 c_c1 c_c2 f_c0 f_c1 f_c2 l_c
  replace b_c := hide b_c'
  clear b_c'
  have U7 : Below V6.heap.size V6 V6 := Below.refl _ _
  have c_d0 := b_d.out.at0 b_d.out.lt_size (Nat.le_refl _)
  have c_d1 := b_d.out.at1 b_d.out.lt_size (Nat.le_refl _)
  have c_d2 := b_d.out.at2 b_d.out.lt_size (Nat.le_refl _)
  have c_c0 := b_c.out.at0 b_c.out.lt_size (Nat.le_refl _)
  have c_c1 := b_c.out.at1 b_c.out.lt_size (Nat.le_refl _)
  have c_c2 := b_c.out.at2 b_c.out.lt_size (Nat.le_refl _)
  have f_c0 := b_c.out.free0 b_c.out.lt_size (Nat.le_refl _)
  have f_c1 := b_c.out.free1 b_c.out.lt_size (Nat.le_refl _)
  have f_c2 := b_c.out.free2 b_c.out.lt_size (Nat.le_refl _)
  have l_c := b_c.out.lt b_c.out.lt_size (Nat.le_refl _)
  refine (icmp_any _ _ _ _ _ _ _ _ _ _ _ _ R_new.out R_d.out (Nat.le_refl _)).mono ?_
  rw [hc.out]
  rintro e w4 ⟨rfl, hb⟩
  replace R_d := hide (Rd.then_ R_d.out hb)
  replace R_c := hide (Rd.then_ R_c.out hb)
  replace R_new := hide (Rd.then_ R_new.out hb)
  have U8 : Below V6.heap.size V6 w4 := Below.then_ U7 hb
  replace B := hide (Below.then_ B.out hb)
  clear hb
  go_wp2_with fail
  refine (awake_any).mono ?_
  rintro e w5 ⟨rfl, hb⟩
  replace R_d := hide (Rd.then_ R_d.out hb)
  replace R_c := hide (Rd.then_ R_c.out hb)
  replace R_new := hide (Rd.then_ R_new.out hb)
  have U9 : Below V6.heap.size V6 w5 := Below.then_ U8 hb
  replace B := hide (Below.then_ B.out hb)
  clear hb
  go_wp2
  go_ret
  exact ⟨rfl, B.out⟩

theorem note_all {w : World} {A_d : Option Addr} {n_d c_d : Nat} {x_d : List Nat} {s_d : Bool} {p_d : Int} {s : ByteArray} (h_d : Rd w w.heap.size A_d n_d c_d x_d) (g_d : n_d ≤ 10000000) (hs : s.size ≤ 9223372036854775807) :
    Calls Tryz.prog 5 #[.agg #[.bool s_d, .slice A_d n_d c_d, .int .i64 p_d], .string s] w (RetB w (.bool true)) := by
  obtain ⟨z1, p1, k1, hP, l1, h1⟩ := par_dec s hs
  by_cases hk : k1 = 0
  · obtain ⟨n1, hp1, hn1, e1⟩ := h1 hk
    by_cases h0 : p_d < 0
    · exact note_ok_lo h_d g_d (Nat.le_refl _) hP hk hp1 hn1 l1 e1 h0
    · by_cases h9 : 9 < p_d
      · exact note_ok_hi h_d g_d (Nat.le_refl _) hP hk hp1 hn1 l1 e1 h9
      · obtain ⟨p, hp⟩ : ∃ p : Nat, p_d = (p : Int) := ⟨p_d.toNat, by omega⟩
        by_cases hl : 400 < (dstr (iv s_d (val x_d)) p).size
        · exact note_ok_long h_d g_d (Nat.le_refl _) hP hk hp1 hn1 l1 e1 hp (by omega) rfl rfl hl
        · exact note_ok_short h_d g_d (Nat.le_refl _) hP hk hp1 hn1 l1 e1 hp (by omega) rfl rfl (by omega)
  · have hk' : (k1 == 0) = false := by simpa using hk
    by_cases h0 : p_d < 0
    · exact note_er_lo h_d g_d (Nat.le_refl _) hP hk' h0
    · by_cases h9 : 9 < p_d
      · exact note_er_hi h_d g_d (Nat.le_refl _) hP hk' h9
      · obtain ⟨p, hp⟩ : ∃ p : Nat, p_d = (p : Int) := ⟨p_d.toNat, by omega⟩
        by_cases hl : 400 < (dstr (iv s_d (val x_d)) p).size
        · exact note_er_long h_d g_d (Nat.le_refl _) hP hk' hp (by omega) rfl rfl hl
        · exact note_er_short h_d g_d (Nat.le_refl _) hP hk' hp (by omega) rfl rfl (by omega)

end Go.Proofs.YtdlmfembnmomjaaGreatDoor

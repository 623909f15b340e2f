/-
  DecimalMirror.
-/
import Derived.Test.YtdlmfembnmomjaaGreatDoorLaw4
namespace Go.Proofs.YtdlmfembnmomjaaGreatDoor
open Go.RowKit


theorem rz_mirror {p m : Int} (h : okd p m) (x : Rat) : -rz p m x = rz p (mir m) (-x) := by
  have h' : okd p (mir m) := by
    refine ⟨h.1, h.2.1, ?_, ?_⟩ <;> · unfold mir; have := h.2.2; split <;> try split
                                      all_goals omega
  rw [rz_ok h, rz_ok h', Rat.neg_mul]
  exact (rnd_neg h.2.2 _).symm
theorem rz_mir6 {p : Int} (h : okd p 6) {x : Rat} : -rz p 6 x = rz p 7 (-x) := rz_mirror h x
theorem rz_mir7 {p : Int} (h : okd p 7) {x : Rat} : -rz p 7 x = rz p 6 (-x) := rz_mirror h x
theorem rz_mir {p m : Int} (h : okd p m) (h6 : m ≠ 6) (h7 : m ≠ 7) {x : Rat} : -rz p m x = rz p m (-x) := by
  have := rz_mirror h x
  rwa [show mir m = m by unfold mir; rw [if_neg h6, if_neg h7]] at this

set_option maxHeartbeats 4000000 in
theorem mirror_bad {w : World} {Bd : Nat} {A_a : Option Addr} {n_a c_a : Nat} {x_a : List Nat} {s_a : Bool} {A_ad : Option Addr} {n_ad c_ad : Nat} {x_ad : List Nat} {p m : Int} (h_a : Rd w Bd A_a n_a c_a x_a) (_g_a : n_a ≤ 10000000) (h_ad : Rd w Bd A_ad n_ad c_ad x_ad) (_g_ad : n_ad ≤ 10000000) (hB : Bd ≤ w.heap.size) (h : ¬ okd p m) :
    Calls Tryz.prog 7 #[.agg #[.bool s_a, .slice A_a n_a c_a, .slice A_ad n_ad c_ad], .int .i64 p, .int .i64 m] w (RetB w (.bool true)) := by
  replace h := hide h
  obtain ⟨W, hW⟩ : ∃ W, W = (w.alloc (.cells #[.bool s_a, .slice A_a n_a c_a, .slice A_ad n_ad c_ad] 27)) := ⟨_, rfl⟩
  have b_a : Box3 W (w.heap.size) (.bool s_a) (.slice A_a n_a c_a) (.slice A_ad n_ad c_ad) := by rw [hW]; exact (Box3.new w _ _ _ rfl)
  have hwW : Below w.heap.size w W := by rw [hW]; exact ((Below.refl _ _).alloc (Nat.le_refl _) _)
  have R_a := hide (Rd.upto h_a hwW hB)
  clear h_a
  have R_ad := hide (Rd.upto h_ad hwW hB)
  clear h_ad
  have B := hide hwW
  clear hwW
  clear hB
  have U0 : Below W.heap.size W W := Below.refl _ _
  have c_a0 := b_a.at0 b_a.lt_size (Nat.le_refl _)
  have c_a1 := b_a.at1 b_a.lt_size (Nat.le_refl _)
  have c_a2 := b_a.at2 b_a.lt_size (Nat.le_refl _)
  replace b_a := hide b_a
  go_enter Tryz.func7, Tryz.ntmps7
  go_wp2_with fail
  rw [← hW]
  clear hW
  refine (valid_no h.out).mono ?_
  rintro e w1 ⟨rfl, hb⟩
  replace R_a := hide (Rd.then_ R_a.out hb)
  replace R_ad := hide (Rd.then_ R_ad.out hb)
  have U1 : Below W.heap.size W w1 := Below.then_ U0 hb
  replace B := hide (Below.then_ B.out hb)
  clear hb
  go_wp2_with fail
  refine (awake_any).mono ?_
  rintro e w2 ⟨rfl, hb⟩
  replace R_a := hide (Rd.then_ R_a.out hb)
  replace R_ad := hide (Rd.then_ R_ad.out hb)
  have U2 : Below W.heap.size W w2 := Below.then_ U1 hb
  replace B := hide (Below.then_ B.out hb)
  clear hb
  go_wp2
  go_ret
  exact ⟨rfl, B.out⟩

set_option maxHeartbeats 4000000 in
theorem mirror_6 {w : World} {Bd : Nat} {A_a : Option Addr} {n_a c_a : Nat} {x_a : List Nat} {s_a : Bool} {A_ad : Option Addr} {n_ad c_ad : Nat} {x_ad : List Nat} {p : Int} (h_a : Rd w Bd A_a n_a c_a x_a) (g_a : n_a ≤ 10000000) (h_ad : Rd w Bd A_ad n_ad c_ad x_ad) (g_ad : n_ad ≤ 10000000) (hB : Bd ≤ w.heap.size) (h : okd p 6) :
    Calls Tryz.prog 7 #[.agg #[.bool s_a, .slice A_a n_a c_a, .slice A_ad n_ad c_ad], .int .i64 p, .int .i64 6] w (RetB w (.bool true)) := by
  obtain ⟨q, e_q⟩ : ∃ new, -qv s_a (val x_a) (val x_ad) = new := ⟨_, rfl⟩
  replace e_q := hide e_q
  have s_q := sz_neg e_q.out (sz_rd h_a h_ad rfl g_a g_ad)
  have bq : (dig (zmag q.num)).length ≤ 1000000000 ∧ (dig q.den).length ≤ 1000000000 := by omega
  replace bq := hide bq
  obtain ⟨y, e_y⟩ : ∃ new, rz p 6 (qv s_a (val x_a) (val x_ad)) = new := ⟨_, rfl⟩
  replace e_y := hide e_y
  obtain ⟨z, e_z⟩ : ∃ v, rz p 7 (qv (zneg q.num) (val (dig (zmag q.num))) (val (dig q.den))) = v := ⟨_, rfl⟩
  replace e_z := hide e_z
  have hyz : -y = z := by rw [← e_y.out, ← e_z.out, qv_eta, ← e_q.out]; exact rz_mir6 h
  have e_n : -iv (zneg y) (val (dig (zmag y))) = z := by rw [ivz]; exact hyz
  replace e_n := hide e_n
  have e_c : sgn (iv (zneg z) (val (dig (zmag z))) - iv (zneg z) (val (dig (zmag z)))) = 0 := by rw [Int.sub_self]; rfl
  replace e_c := hide e_c
  have e_P : rp p 6 = p := if_pos h
  replace e_P := hide e_P
  have e_e : re p 6 = 0 := if_pos h
  replace e_e := hide e_e
  have h2 : okd p 7 := ⟨h.1, h.2.1, by omega, by omega⟩
  have e_P2 : rp p 7 = p := if_pos h2
  replace e_P2 := hide e_P2
  have e_e2 : re p 7 = 0 := if_pos h2
  replace e_e2 := hide e_e2
  clear h2
  have g1 : n_a ≤ 1000000000 ∧ n_ad ≤ 1000000000 := by omega
  replace g1 := hide g1
  clear s_q hyz
  have h0 := hide h.1
  have h9 := hide h.2.1
  have h1 := hide h.2.2.1
  have h7 := hide h.2.2.2
  clear h
  obtain ⟨W, hW⟩ : ∃ W, W = (w.alloc (.cells #[.bool s_a, .slice A_a n_a c_a, .slice A_ad n_ad c_ad] 27)) := ⟨_, rfl⟩
  have b_a : Box3 W (w.heap.size) (.bool s_a) (.slice A_a n_a c_a) (.slice A_ad n_ad c_ad) := by rw [hW]; exact (Box3.new w _ _ _ rfl)
  have hwW : Below w.heap.size w W := by rw [hW]; exact ((Below.refl _ _).alloc (Nat.le_refl _) _)
  have R_a := hide (Rd.upto h_a hwW hB)
  clear h_a
  have R_ad := hide (Rd.upto h_ad hwW hB)
  clear h_ad
  have B := hide hwW
  clear hwW
  clear hB
  have U0 : Below W.heap.size W W := Below.refl _ _
  have c_a0 := b_a.at0 b_a.lt_size (Nat.le_refl _)
  have c_a1 := b_a.at1 b_a.lt_size (Nat.le_refl _)
  have c_a2 := b_a.at2 b_a.lt_size (Nat.le_refl _)
  replace b_a := hide b_a
  go_enter Tryz.func7, Tryz.ntmps7
  go_wp2_with fail
  rw [← hW]
  clear hW
  refine (valid_yes h0.out h9.out h1.out h7.out).mono ?_
  rintro e w1 ⟨rfl, hb⟩
  replace R_a := hide (Rd.then_ R_a.out hb)
  replace R_ad := hide (Rd.then_ R_ad.out hb)
  have U1 : Below W.heap.size W w1 := Below.then_ U0 hb
  replace B := hide (Below.then_ B.out hb)
  clear hb
  go_wp2_with fail
  refine (pround_gen R_a.out g1.out.1 R_ad.out g1.out.2 (Nat.le_refl _) e_y.out e_P.out e_e.out).mono ?_
  rintro e w2 ⟨A_d, c_d, rfl, R_d, hb⟩
  replace R_a := hide (Rd.then_ R_a.out hb)
  replace R_ad := hide (Rd.then_ R_ad.out hb)
  have U2 : Below W.heap.size W w2 := Below.then_ U1 hb
  replace B := hide (Below.then_ B.out hb)
  replace R_d := hide R_d
  clear hb
  have hbx : Below w2.heap.size w2 (w2.alloc (.cells #[.bool (zneg y), .slice A_d (dig (zmag y)).length c_d, .int .i64 p] 29)) := ((Below.refl _ _).alloc (Nat.le_refl _) _)
  have Ux := Below.then_ U2 hbx
  go_wp2_with fail
  obtain ⟨V2, hV⟩ : ∃ V, V = (w2.alloc (.cells #[.bool (zneg y), .slice A_d (dig (zmag y)).length c_d, .int .i64 p] 29)) := ⟨_, rfl⟩
  obtain ⟨g_d, hg_d⟩ : ∃ g, g = w2.heap.size := ⟨_, rfl⟩
  rw [← hV]
  rw [← hV] at hbx Ux
  rw [← hg_d]
  have b_d : BoxD V2 g_d (.bool (zneg y)) (.slice A_d (dig (zmag y)).length c_d) (.int .i64 p) := by rw [hV]; exact (BoxD.new _ _ _ _ hg_d)
  clear hV
  have ne_a_d : w.heap.size ≠ g_d := by have := (b_a.out.lt b_a.out.lt_size (Nat.le_refl _)) _ U2; omega
  replace ne_a_d := hide ne_a_d
  have ge_d : w.heap.size ≤ g_d := by have := B.out.size; omega
  replace ge_d := hide ge_d
  clear hg_d
  replace R_a := hide (Rd.then_ R_a.out hbx)
  replace R_ad := hide (Rd.then_ R_ad.out hbx)
  replace R_d := hide (Rd.then_ R_d.out hbx)
  have U3 : Below W.heap.size W V2 := Below.then_ U2 hbx
  replace B := hide (Below.then_ B.out hbx)
  clear hbx
  replace b_a := hide (Box3.keep b_a.out U3)
  clear c_a0 c_a1 c_a2
  replace b_d := hide b_d
  have U4 : Below V2.heap.size V2 V2 := Below.refl _ _
  have c_a0 := b_a.out.at0 b_a.out.lt_size (Nat.le_refl _)
  have c_a1 := b_a.out.at1 b_a.out.lt_size (Nat.le_refl _)
  have c_a2 := b_a.out.at2 b_a.out.lt_size (Nat.le_refl _)
  have c_d0 := b_d.out.at0 b_d.out.lt_size (Nat.le_refl _)
  have c_d1 := b_d.out.at1 b_d.out.lt_size (Nat.le_refl _)
  have c_d2 := b_d.out.at2 b_d.out.lt_size (Nat.le_refl _)
  refine (pneg_any R_a.out g1.out.1 R_ad.out g1.out.2 (Nat.le_refl _) e_q.out).mono ?_
  rintro e w3 ⟨A_q, c_q, A_qd, c_qd, rfl, R_q, R_qd, hb⟩
  replace R_a := hide (Rd.then_ R_a.out hb)
  replace R_ad := hide (Rd.then_ R_ad.out hb)
  replace R_d := hide (Rd.then_ R_d.out hb)
  have U5 : Below V2.heap.size V2 w3 := Below.then_ U4 hb
  replace B := hide (Below.then_ B.out hb)
  replace R_q := hide R_q
  replace R_qd := hide R_qd
  clear hb
  go_wp2_with fail
  refine (pround_gen R_q.out bq.out.1 R_qd.out bq.out.2 (Nat.le_refl _) e_z.out e_P2.out e_e2.out).mono ?_
  rintro e w4 ⟨A_c, c_c, rfl, R_c, hb⟩
  replace R_a := hide (Rd.then_ R_a.out hb)
  replace R_ad := hide (Rd.then_ R_ad.out hb)
  replace R_d := hide (Rd.then_ R_d.out hb)
  replace R_q := hide (Rd.then_ R_q.out hb)
  replace R_qd := hide (Rd.then_ R_qd.out hb)
  have U6 : Below V2.heap.size V2 w4 := Below.then_ U5 hb
  replace B := hide (Below.then_ B.out hb)
  replace R_c := hide R_c
  clear hb
  have hbx : Below w4.heap.size w4 (w4.alloc (.cells #[.bool (zneg z), .slice A_c (dig (zmag z)).length c_c, .int .i64 p] 29)) := ((Below.refl _ _).alloc (Nat.le_refl _) _)
  have Ux := Below.then_ U6 hbx
  go_wp2_with fail
  obtain ⟨V6, hV⟩ : ∃ V, V = (w4.alloc (.cells #[.bool (zneg z), .slice A_c (dig (zmag z)).length c_c, .int .i64 p] 29)) := ⟨_, rfl⟩
  obtain ⟨g_c, hg_c⟩ : ∃ g, g = w4.heap.size := ⟨_, rfl⟩
  rw [← hV]
  rw [← hV] at hbx Ux
  rw [← hg_c]
  have b_c : BoxD V6 g_c (.bool (zneg z)) (.slice A_c (dig (zmag z)).length c_c) (.int .i64 p) := by rw [hV]; exact (BoxD.new _ _ _ _ hg_c)
  clear hV
  have ne_a_c : w.heap.size ≠ g_c := by have := (b_a.out.lt b_a.out.lt_size (Nat.le_refl _)) _ U6; omega
  replace ne_a_c := hide ne_a_c
  have ne_d_c : g_d ≠ g_c := by have := (b_d.out.lt b_d.out.lt_size (Nat.le_refl _)) _ U6; omega
  replace ne_d_c := hide ne_d_c
  have ge_c : w.heap.size ≤ g_c := by have := B.out.size; omega
  replace ge_c := hide ge_c
  clear hg_c
  replace R_a := hide (Rd.then_ R_a.out hbx)
  replace R_ad := hide (Rd.then_ R_ad.out hbx)
  replace R_d := hide (Rd.then_ R_d.out hbx)
  replace R_q := hide (Rd.then_ R_q.out hbx)
  replace R_qd := hide (Rd.then_ R_qd.out hbx)
  replace R_c := hide (Rd.then_ R_c.out hbx)
  have U7 : Below V2.heap.size V2 V6 := Below.then_ U6 hbx
  replace B := hide (Below.then_ B.out hbx)
  clear hbx
  replace b_a := hide (Box3.keep b_a.out U7)
  clear c_a0 c_a1 c_a2
  replace b_d := hide (BoxD.keep b_d.out U7)
  clear c_d0 c_d1 c_d2
  replace b_c := hide b_c
  have U8 : Below V6.heap.size V6 V6 := Below.refl _ _
  have c_a0 := b_a.out.at0 b_a.out.lt_size (Nat.le_refl _)
  have c_a1 := b_a.out.at1 b_a.out.lt_size (Nat.le_refl _)
  have c_a2 := b_a.out.at2 b_a.out.lt_size (Nat.le_refl _)
  have c_d0 := b_d.out.at0 b_d.out.lt_size (Nat.le_refl _)
  have c_d1 := b_d.out.at1 b_d.out.lt_size (Nat.le_refl _)
  have c_d2 := b_d.out.at2 b_d.out.lt_size (Nat.le_refl _)
  have c_c0 := b_c.out.at0 b_c.out.lt_size (Nat.le_refl _)
  have c_c1 := b_c.out.at1 b_c.out.lt_size (Nat.le_refl _)
  have c_c2 := b_c.out.at2 b_c.out.lt_size (Nat.le_refl _)
  have hd := Below.drw_ V6
  replace R_a := hide (Rd.then_ R_a.out hd)
  replace R_ad := hide (Rd.then_ R_ad.out hd)
  replace R_d := hide (Rd.then_ R_d.out hd)
  replace R_q := hide (Rd.then_ R_q.out hd)
  replace R_qd := hide (Rd.then_ R_qd.out hd)
  replace R_c := hide (Rd.then_ R_c.out hd)
  have U9 : Below V6.heap.size V6 (V6.drew) := Below.then_ U8 hd
  replace B := hide (Below.then_ B.out hd)
  clear hd
  have tok1 : True := trivial
  go_region_held3 (fun w' => Below V6.heap.size V6 w') (assumption)
    (first
      | (go_at_call 27; (have _t := tok1; (with_reducible refine (ineg_any _ _ _ _ _ _ _ R_d.out (Nat.le_refl _)).mono ?_); rw [e_n.out]; rintro e w5 ⟨A_n, c_n, rfl, R_n, hb⟩; replace R_a := hide (Rd.then_ R_a.out hb); replace R_ad := hide (Rd.then_ R_ad.out hb); replace R_d := hide (Rd.then_ R_d.out hb); replace R_q := hide (Rd.then_ R_q.out hb); replace R_qd := hide (Rd.then_ R_qd.out hb); replace R_c := hide (Rd.then_ R_c.out hb); have U10 : Below V6.heap.size V6 w5 := Below.then_ U9 hb; replace B := hide (Below.then_ B.out hb); replace R_n := hide R_n; clear hb; have tok2 : True := trivial; clear _t tok1))
      | (go_at_call 24; (have _t := tok2; (with_reducible refine (icmp_any _ _ _ _ _ _ _ _ _ _ _ _ R_n.out R_c.out (Nat.le_refl _)).mono ?_); rw [e_c.out]; rintro e w6 ⟨rfl, hb⟩; replace R_a := hide (Rd.then_ R_a.out hb); replace R_ad := hide (Rd.then_ R_ad.out hb); replace R_d := hide (Rd.then_ R_d.out hb); replace R_q := hide (Rd.then_ R_q.out hb); replace R_qd := hide (Rd.then_ R_qd.out hb); replace R_c := hide (Rd.then_ R_c.out hb); replace R_n := hide (Rd.then_ R_n.out hb); have U11 : Below V6.heap.size V6 w6 := Below.then_ U10 hb; replace B := hide (Below.then_ B.out hb); clear hb; have tok3 : True := trivial; clear _t tok2))
      | (go_at_call 15; (have _t := tok3; (with_reducible refine (awake_any).mono ?_); rintro e w7 ⟨rfl, hb⟩; replace R_a := hide (Rd.then_ R_a.out hb); replace R_ad := hide (Rd.then_ R_ad.out hb); replace R_d := hide (Rd.then_ R_d.out hb); replace R_q := hide (Rd.then_ R_q.out hb); replace R_qd := hide (Rd.then_ R_qd.out hb); replace R_c := hide (Rd.then_ R_c.out hb); replace R_n := hide (Rd.then_ R_n.out hb); have U12 : Below V6.heap.size V6 w7 := Below.then_ U11 hb; replace B := hide (Below.then_ B.out hb); clear hb; have tok4 : True := trivial; clear _t tok3)))
  clear tok4
  go_wp2
  go_ret
  exact ⟨rfl, B.out⟩

set_option maxHeartbeats 4000000 in
theorem mirror_7 {w : World} {Bd : Nat} {A_a : Option Addr} {n_a c_a : Nat} {x_a : List Nat} {s_a : Bool} {A_ad : Option Addr} {n_ad c_ad : Nat} {x_ad : List Nat} {p : Int} (h_a : Rd w Bd A_a n_a c_a x_a) (g_a : n_a ≤ 10000000) (h_ad : Rd w Bd A_ad n_ad c_ad x_ad) (g_ad : n_ad ≤ 10000000) (hB : Bd ≤ w.heap.size) (h : okd p 7) :
    Calls Tryz.prog 7 #[.agg #[.bool s_a, .slice A_a n_a c_a, .slice A_ad n_ad c_ad], .int .i64 p, .int .i64 7] w (RetB w (.bool true)) := by
  obtain ⟨q, e_q⟩ : ∃ new, -qv s_a (val x_a) (val x_ad) = new := ⟨_, rfl⟩
  replace e_q := hide e_q
  have s_q := sz_neg e_q.out (sz_rd h_a h_ad rfl g_a g_ad)
  have bq : (dig (zmag q.num)).length ≤ 1000000000 ∧ (dig q.den).length ≤ 1000000000 := by omega
  replace bq := hide bq
  obtain ⟨y, e_y⟩ : ∃ new, rz p 7 (qv s_a (val x_a) (val x_ad)) = new := ⟨_, rfl⟩
  replace e_y := hide e_y
  obtain ⟨z, e_z⟩ : ∃ v, rz p 6 (qv (zneg q.num) (val (dig (zmag q.num))) (val (dig q.den))) = v := ⟨_, rfl⟩
  replace e_z := hide e_z
  have hyz : -y = z := by rw [← e_y.out, ← e_z.out, qv_eta, ← e_q.out]; exact rz_mir7 h
  have e_n : -iv (zneg y) (val (dig (zmag y))) = z := by rw [ivz]; exact hyz
  replace e_n := hide e_n
  have e_c : sgn (iv (zneg z) (val (dig (zmag z))) - iv (zneg z) (val (dig (zmag z)))) = 0 := by rw [Int.sub_self]; rfl
  replace e_c := hide e_c
  have e_P : rp p 7 = p := if_pos h
  replace e_P := hide e_P
  have e_e : re p 7 = 0 := if_pos h
  replace e_e := hide e_e
  have h2 : okd p 6 := ⟨h.1, h.2.1, by omega, by omega⟩
  have e_P2 : rp p 6 = p := if_pos h2
  replace e_P2 := hide e_P2
  have e_e2 : re p 6 = 0 := if_pos h2
  replace e_e2 := hide e_e2
  clear h2
  have g1 : n_a ≤ 1000000000 ∧ n_ad ≤ 1000000000 := by omega
  replace g1 := hide g1
  clear s_q hyz
  have h0 := hide h.1
  have h9 := hide h.2.1
  have h1 := hide h.2.2.1
  have h7 := hide h.2.2.2
  clear h
  obtain ⟨W, hW⟩ : ∃ W, W = (w.alloc (.cells #[.bool s_a, .slice A_a n_a c_a, .slice A_ad n_ad c_ad] 27)) := ⟨_, rfl⟩
  have b_a : Box3 W (w.heap.size) (.bool s_a) (.slice A_a n_a c_a) (.slice A_ad n_ad c_ad) := by rw [hW]; exact (Box3.new w _ _ _ rfl)
  have hwW : Below w.heap.size w W := by rw [hW]; exact ((Below.refl _ _).alloc (Nat.le_refl _) _)
  have R_a := hide (Rd.upto h_a hwW hB)
  clear h_a
  have R_ad := hide (Rd.upto h_ad hwW hB)
  clear h_ad
  have B := hide hwW
  clear hwW
  clear hB
  have U0 : Below W.heap.size W W := Below.refl _ _
  have c_a0 := b_a.at0 b_a.lt_size (Nat.le_refl _)
  have c_a1 := b_a.at1 b_a.lt_size (Nat.le_refl _)
  have c_a2 := b_a.at2 b_a.lt_size (Nat.le_refl _)
  replace b_a := hide b_a
  go_enter Tryz.func7, Tryz.ntmps7
  go_wp2_with fail
  rw [← hW]
  clear hW
  refine (valid_yes h0.out h9.out h1.out h7.out).mono ?_
  rintro e w1 ⟨rfl, hb⟩
  replace R_a := hide (Rd.then_ R_a.out hb)
  replace R_ad := hide (Rd.then_ R_ad.out hb)
  have U1 : Below W.heap.size W w1 := Below.then_ U0 hb
  replace B := hide (Below.then_ B.out hb)
  clear hb
  go_wp2_with fail
  refine (pround_gen R_a.out g1.out.1 R_ad.out g1.out.2 (Nat.le_refl _) e_y.out e_P.out e_e.out).mono ?_
  rintro e w2 ⟨A_d, c_d, rfl, R_d, hb⟩
  replace R_a := hide (Rd.then_ R_a.out hb)
  replace R_ad := hide (Rd.then_ R_ad.out hb)
  have U2 : Below W.heap.size W w2 := Below.then_ U1 hb
  replace B := hide (Below.then_ B.out hb)
  replace R_d := hide R_d
  clear hb
  have hbx : Below w2.heap.size w2 (w2.alloc (.cells #[.bool (zneg y), .slice A_d (dig (zmag y)).length c_d, .int .i64 p] 29)) := ((Below.refl _ _).alloc (Nat.le_refl _) _)
  have Ux := Below.then_ U2 hbx
  go_wp2_with fail
  obtain ⟨V2, hV⟩ : ∃ V, V = (w2.alloc (.cells #[.bool (zneg y), .slice A_d (dig (zmag y)).length c_d, .int .i64 p] 29)) := ⟨_, rfl⟩
  obtain ⟨g_d, hg_d⟩ : ∃ g, g = w2.heap.size := ⟨_, rfl⟩
  rw [← hV]
  rw [← hV] at hbx Ux
  rw [← hg_d]
  have b_d : BoxD V2 g_d (.bool (zneg y)) (.slice A_d (dig (zmag y)).length c_d) (.int .i64 p) := by rw [hV]; exact (BoxD.new _ _ _ _ hg_d)
  clear hV
  have ne_a_d : w.heap.size ≠ g_d := by have := (b_a.out.lt b_a.out.lt_size (Nat.le_refl _)) _ U2; omega
  replace ne_a_d := hide ne_a_d
  have ge_d : w.heap.size ≤ g_d := by have := B.out.size; omega
  replace ge_d := hide ge_d
  clear hg_d
  replace R_a := hide (Rd.then_ R_a.out hbx)
  replace R_ad := hide (Rd.then_ R_ad.out hbx)
  replace R_d := hide (Rd.then_ R_d.out hbx)
  have U3 : Below W.heap.size W V2 := Below.then_ U2 hbx
  replace B := hide (Below.then_ B.out hbx)
  clear hbx
  replace b_a := hide (Box3.keep b_a.out U3)
  clear c_a0 c_a1 c_a2
  replace b_d := hide b_d
  have U4 : Below V2.heap.size V2 V2 := Below.refl _ _
  have c_a0 := b_a.out.at0 b_a.out.lt_size (Nat.le_refl _)
  have c_a1 := b_a.out.at1 b_a.out.lt_size (Nat.le_refl _)
  have c_a2 := b_a.out.at2 b_a.out.lt_size (Nat.le_refl _)
  have c_d0 := b_d.out.at0 b_d.out.lt_size (Nat.le_refl _)
  have c_d1 := b_d.out.at1 b_d.out.lt_size (Nat.le_refl _)
  have c_d2 := b_d.out.at2 b_d.out.lt_size (Nat.le_refl _)
  refine (pneg_any R_a.out g1.out.1 R_ad.out g1.out.2 (Nat.le_refl _) e_q.out).mono ?_
  rintro e w3 ⟨A_q, c_q, A_qd, c_qd, rfl, R_q, R_qd, hb⟩
  replace R_a := hide (Rd.then_ R_a.out hb)
  replace R_ad := hide (Rd.then_ R_ad.out hb)
  replace R_d := hide (Rd.then_ R_d.out hb)
  have U5 : Below V2.heap.size V2 w3 := Below.then_ U4 hb
  replace B := hide (Below.then_ B.out hb)
  replace R_q := hide R_q
  replace R_qd := hide R_qd
  clear hb
  go_wp2_with fail
  refine (pround_gen R_q.out bq.out.1 R_qd.out bq.out.2 (Nat.le_refl _) e_z.out e_P2.out e_e2.out).mono ?_
  rintro e w4 ⟨A_c, c_c, rfl, R_c, hb⟩
  replace R_a := hide (Rd.then_ R_a.out hb)
  replace R_ad := hide (Rd.then_ R_ad.out hb)
  replace R_d := hide (Rd.then_ R_d.out hb)
  replace R_q := hide (Rd.then_ R_q.out hb)
  replace R_qd := hide (Rd.then_ R_qd.out hb)
  have U6 : Below V2.heap.size V2 w4 := Below.then_ U5 hb
  replace B := hide (Below.then_ B.out hb)
  replace R_c := hide R_c
  clear hb
  have hbx : Below w4.heap.size w4 (w4.alloc (.cells #[.bool (zneg z), .slice A_c (dig (zmag z)).length c_c, .int .i64 p] 29)) := ((Below.refl _ _).alloc (Nat.le_refl _) _)
  have Ux := Below.then_ U6 hbx
  go_wp2_with fail
  obtain ⟨V6, hV⟩ : ∃ V, V = (w4.alloc (.cells #[.bool (zneg z), .slice A_c (dig (zmag z)).length c_c, .int .i64 p] 29)) := ⟨_, rfl⟩
  obtain ⟨g_c, hg_c⟩ : ∃ g, g = w4.heap.size := ⟨_, rfl⟩
  rw [← hV]
  rw [← hV] at hbx Ux
  rw [← hg_c]
  have b_c : BoxD V6 g_c (.bool (zneg z)) (.slice A_c (dig (zmag z)).length c_c) (.int .i64 p) := by rw [hV]; exact (BoxD.new _ _ _ _ hg_c)
  clear hV
  have ne_a_c : w.heap.size ≠ g_c := by have := (b_a.out.lt b_a.out.lt_size (Nat.le_refl _)) _ U6; omega
  replace ne_a_c := hide ne_a_c
  have ne_d_c : g_d ≠ g_c := by have := (b_d.out.lt b_d.out.lt_size (Nat.le_refl _)) _ U6; omega
  replace ne_d_c := hide ne_d_c
  have ge_c : w.heap.size ≤ g_c := by have := B.out.size; omega
  replace ge_c := hide ge_c
  clear hg_c
  replace R_a := hide (Rd.then_ R_a.out hbx)
  replace R_ad := hide (Rd.then_ R_ad.out hbx)
  replace R_d := hide (Rd.then_ R_d.out hbx)
  replace R_q := hide (Rd.then_ R_q.out hbx)
  replace R_qd := hide (Rd.then_ R_qd.out hbx)
  replace R_c := hide (Rd.then_ R_c.out hbx)
  have U7 : Below V2.heap.size V2 V6 := Below.then_ U6 hbx
  replace B := hide (Below.then_ B.out hbx)
  clear hbx
  replace b_a := hide (Box3.keep b_a.out U7)
  clear c_a0 c_a1 c_a2
  replace b_d := hide (BoxD.keep b_d.out U7)
  clear c_d0 c_d1 c_d2
  replace b_c := hide b_c
  have U8 : Below V6.heap.size V6 V6 := Below.refl _ _
  have c_a0 := b_a.out.at0 b_a.out.lt_size (Nat.le_refl _)
  have c_a1 := b_a.out.at1 b_a.out.lt_size (Nat.le_refl _)
  have c_a2 := b_a.out.at2 b_a.out.lt_size (Nat.le_refl _)
  have c_d0 := b_d.out.at0 b_d.out.lt_size (Nat.le_refl _)
  have c_d1 := b_d.out.at1 b_d.out.lt_size (Nat.le_refl _)
  have c_d2 := b_d.out.at2 b_d.out.lt_size (Nat.le_refl _)
  have c_c0 := b_c.out.at0 b_c.out.lt_size (Nat.le_refl _)
  have c_c1 := b_c.out.at1 b_c.out.lt_size (Nat.le_refl _)
  have c_c2 := b_c.out.at2 b_c.out.lt_size (Nat.le_refl _)
  have hd := Below.drw_ V6
  replace R_a := hide (Rd.then_ R_a.out hd)
  replace R_ad := hide (Rd.then_ R_ad.out hd)
  replace R_d := hide (Rd.then_ R_d.out hd)
  replace R_q := hide (Rd.then_ R_q.out hd)
  replace R_qd := hide (Rd.then_ R_qd.out hd)
  replace R_c := hide (Rd.then_ R_c.out hd)
  have U9 : Below V6.heap.size V6 (V6.drew) := Below.then_ U8 hd
  replace B := hide (Below.then_ B.out hd)
  clear hd
  have tok1 : True := trivial
  go_region_held3 (fun w' => Below V6.heap.size V6 w') (assumption)
    (first
      | (go_at_call 27; (have _t := tok1; (with_reducible refine (ineg_any _ _ _ _ _ _ _ R_d.out (Nat.le_refl _)).mono ?_); rw [e_n.out]; rintro e w5 ⟨A_n, c_n, rfl, R_n, hb⟩; replace R_a := hide (Rd.then_ R_a.out hb); replace R_ad := hide (Rd.then_ R_ad.out hb); replace R_d := hide (Rd.then_ R_d.out hb); replace R_q := hide (Rd.then_ R_q.out hb); replace R_qd := hide (Rd.then_ R_qd.out hb); replace R_c := hide (Rd.then_ R_c.out hb); have U10 : Below V6.heap.size V6 w5 := Below.then_ U9 hb; replace B := hide (Below.then_ B.out hb); replace R_n := hide R_n; clear hb; have tok2 : True := trivial; clear _t tok1))
      | (go_at_call 24; (have _t := tok2; (with_reducible refine (icmp_any _ _ _ _ _ _ _ _ _ _ _ _ R_n.out R_c.out (Nat.le_refl _)).mono ?_); rw [e_c.out]; rintro e w6 ⟨rfl, hb⟩; replace R_a := hide (Rd.then_ R_a.out hb); replace R_ad := hide (Rd.then_ R_ad.out hb); replace R_d := hide (Rd.then_ R_d.out hb); replace R_q := hide (Rd.then_ R_q.out hb); replace R_qd := hide (Rd.then_ R_qd.out hb); replace R_c := hide (Rd.then_ R_c.out hb); replace R_n := hide (Rd.then_ R_n.out hb); have U11 : Below V6.heap.size V6 w6 := Below.then_ U10 hb; replace B := hide (Below.then_ B.out hb); clear hb; have tok3 : True := trivial; clear _t tok2))
      | (go_at_call 15; (have _t := tok3; (with_reducible refine (awake_any).mono ?_); rintro e w7 ⟨rfl, hb⟩; replace R_a := hide (Rd.then_ R_a.out hb); replace R_ad := hide (Rd.then_ R_ad.out hb); replace R_d := hide (Rd.then_ R_d.out hb); replace R_q := hide (Rd.then_ R_q.out hb); replace R_qd := hide (Rd.then_ R_qd.out hb); replace R_c := hide (Rd.then_ R_c.out hb); replace R_n := hide (Rd.then_ R_n.out hb); have U12 : Below V6.heap.size V6 w7 := Below.then_ U11 hb; replace B := hide (Below.then_ B.out hb); clear hb; have tok4 : True := trivial; clear _t tok3)))
  clear tok4
  go_wp2
  go_ret
  exact ⟨rfl, B.out⟩

set_option maxHeartbeats 4000000 in
theorem mirror_o {w : World} {Bd : Nat} {A_a : Option Addr} {n_a c_a : Nat} {x_a : List Nat} {s_a : Bool} {A_ad : Option Addr} {n_ad c_ad : Nat} {x_ad : List Nat} {p m : Int} (h_a : Rd w Bd A_a n_a c_a x_a) (g_a : n_a ≤ 10000000) (h_ad : Rd w Bd A_ad n_ad c_ad x_ad) (g_ad : n_ad ≤ 10000000) (hB : Bd ≤ w.heap.size) (h : okd p m) (hm6 : (m == 6) = false) (hm7 : (m == 7) = false) :
    Calls Tryz.prog 7 #[.agg #[.bool s_a, .slice A_a n_a c_a, .slice A_ad n_ad c_ad], .int .i64 p, .int .i64 m] w (RetB w (.bool true)) := by
  obtain ⟨q, e_q⟩ : ∃ new, -qv s_a (val x_a) (val x_ad) = new := ⟨_, rfl⟩
  replace e_q := hide e_q
  have s_q := sz_neg e_q.out (sz_rd h_a h_ad rfl g_a g_ad)
  have bq : (dig (zmag q.num)).length ≤ 1000000000 ∧ (dig q.den).length ≤ 1000000000 := by omega
  replace bq := hide bq
  obtain ⟨y, e_y⟩ : ∃ new, rz p m (qv s_a (val x_a) (val x_ad)) = new := ⟨_, rfl⟩
  replace e_y := hide e_y
  obtain ⟨z, e_z⟩ : ∃ v, rz p m (qv (zneg q.num) (val (dig (zmag q.num))) (val (dig q.den))) = v := ⟨_, rfl⟩
  replace e_z := hide e_z
  have hyz : -y = z := by rw [← e_y.out, ← e_z.out, qv_eta, ← e_q.out]; exact rz_mir h (by simpa using hm6) (by simpa using hm7)
  have e_n : -iv (zneg y) (val (dig (zmag y))) = z := by rw [ivz]; exact hyz
  replace e_n := hide e_n
  have e_c : sgn (iv (zneg z) (val (dig (zmag z))) - iv (zneg z) (val (dig (zmag z)))) = 0 := by rw [Int.sub_self]; rfl
  replace e_c := hide e_c
  have e_P : rp p m = p := if_pos h
  replace e_P := hide e_P
  have e_e : re p m = 0 := if_pos h
  replace e_e := hide e_e
  have g1 : n_a ≤ 1000000000 ∧ n_ad ≤ 1000000000 := by omega
  replace g1 := hide g1
  clear s_q hyz
  have h0 := hide h.1
  have h9 := hide h.2.1
  have h1 := hide h.2.2.1
  have h7 := hide h.2.2.2
  clear h
  obtain ⟨W, hW⟩ : ∃ W, W = (w.alloc (.cells #[.bool s_a, .slice A_a n_a c_a, .slice A_ad n_ad c_ad] 27)) := ⟨_, rfl⟩
  have b_a : Box3 W (w.heap.size) (.bool s_a) (.slice A_a n_a c_a) (.slice A_ad n_ad c_ad) := by rw [hW]; exact (Box3.new w _ _ _ rfl)
  have hwW : Below w.heap.size w W := by rw [hW]; exact ((Below.refl _ _).alloc (Nat.le_refl _) _)
  have R_a := hide (Rd.upto h_a hwW hB)
  clear h_a
  have R_ad := hide (Rd.upto h_ad hwW hB)
  clear h_ad
  have B := hide hwW
  clear hwW
  clear hB
  have U0 : Below W.heap.size W W := Below.refl _ _
  have c_a0 := b_a.at0 b_a.lt_size (Nat.le_refl _)
  have c_a1 := b_a.at1 b_a.lt_size (Nat.le_refl _)
  have c_a2 := b_a.at2 b_a.lt_size (Nat.le_refl _)
  replace b_a := hide b_a
  go_enter Tryz.func7, Tryz.ntmps7
  go_wp2_with fail
  rw [← hW]
  clear hW
  refine (valid_yes h0.out h9.out h1.out h7.out).mono ?_
  rintro e w1 ⟨rfl, hb⟩
  replace R_a := hide (Rd.then_ R_a.out hb)
  replace R_ad := hide (Rd.then_ R_ad.out hb)
  have U1 : Below W.heap.size W w1 := Below.then_ U0 hb
  replace B := hide (Below.then_ B.out hb)
  clear hb
  go_wp2_with fail
  refine (pround_gen R_a.out g1.out.1 R_ad.out g1.out.2 (Nat.le_refl _) e_y.out e_P.out e_e.out).mono ?_
  rintro e w2 ⟨A_d, c_d, rfl, R_d, hb⟩
  replace R_a := hide (Rd.then_ R_a.out hb)
  replace R_ad := hide (Rd.then_ R_ad.out hb)
  have U2 : Below W.heap.size W w2 := Below.then_ U1 hb
  replace B := hide (Below.then_ B.out hb)
  replace R_d := hide R_d
  clear hb
  have hbx : Below w2.heap.size w2 (w2.alloc (.cells #[.bool (zneg y), .slice A_d (dig (zmag y)).length c_d, .int .i64 p] 29)) := ((Below.refl _ _).alloc (Nat.le_refl _) _)
  have Ux := Below.then_ U2 hbx
  go_wp2_with fail
  obtain ⟨V2, hV⟩ : ∃ V, V = (w2.alloc (.cells #[.bool (zneg y), .slice A_d (dig (zmag y)).length c_d, .int .i64 p] 29)) := ⟨_, rfl⟩
  obtain ⟨g_d, hg_d⟩ : ∃ g, g = w2.heap.size := ⟨_, rfl⟩
  rw [← hV]
  rw [← hV] at hbx Ux
  rw [← hg_d]
  have b_d : BoxD V2 g_d (.bool (zneg y)) (.slice A_d (dig (zmag y)).length c_d) (.int .i64 p) := by rw [hV]; exact (BoxD.new _ _ _ _ hg_d)
  clear hV
  have ne_a_d : w.heap.size ≠ g_d := by have := (b_a.out.lt b_a.out.lt_size (Nat.le_refl _)) _ U2; omega
  replace ne_a_d := hide ne_a_d
  have ge_d : w.heap.size ≤ g_d := by have := B.out.size; omega
  replace ge_d := hide ge_d
  clear hg_d
  replace R_a := hide (Rd.then_ R_a.out hbx)
  replace R_ad := hide (Rd.then_ R_ad.out hbx)
  replace R_d := hide (Rd.then_ R_d.out hbx)
  have U3 : Below W.heap.size W V2 := Below.then_ U2 hbx
  replace B := hide (Below.then_ B.out hbx)
  clear hbx
  replace b_a := hide (Box3.keep b_a.out U3)
  clear c_a0 c_a1 c_a2
  replace b_d := hide b_d
  have U4 : Below V2.heap.size V2 V2 := Below.refl _ _
  have c_a0 := b_a.out.at0 b_a.out.lt_size (Nat.le_refl _)
  have c_a1 := b_a.out.at1 b_a.out.lt_size (Nat.le_refl _)
  have c_a2 := b_a.out.at2 b_a.out.lt_size (Nat.le_refl _)
  have c_d0 := b_d.out.at0 b_d.out.lt_size (Nat.le_refl _)
  have c_d1 := b_d.out.at1 b_d.out.lt_size (Nat.le_refl _)
  have c_d2 := b_d.out.at2 b_d.out.lt_size (Nat.le_refl _)
  refine (pneg_any R_a.out g1.out.1 R_ad.out g1.out.2 (Nat.le_refl _) e_q.out).mono ?_
  rintro e w3 ⟨A_q, c_q, A_qd, c_qd, rfl, R_q, R_qd, hb⟩
  replace R_a := hide (Rd.then_ R_a.out hb)
  replace R_ad := hide (Rd.then_ R_ad.out hb)
  replace R_d := hide (Rd.then_ R_d.out hb)
  have U5 : Below V2.heap.size V2 w3 := Below.then_ U4 hb
  replace B := hide (Below.then_ B.out hb)
  replace R_q := hide R_q
  replace R_qd := hide R_qd
  clear hb
  go_wp2_with fail
  refine (pround_gen R_q.out bq.out.1 R_qd.out bq.out.2 (Nat.le_refl _) e_z.out e_P.out e_e.out).mono ?_
  rintro e w4 ⟨A_c, c_c, rfl, R_c, hb⟩
  replace R_a := hide (Rd.then_ R_a.out hb)
  replace R_ad := hide (Rd.then_ R_ad.out hb)
  replace R_d := hide (Rd.then_ R_d.out hb)
  replace R_q := hide (Rd.then_ R_q.out hb)
  replace R_qd := hide (Rd.then_ R_qd.out hb)
  have U6 : Below V2.heap.size V2 w4 := Below.then_ U5 hb
  replace B := hide (Below.then_ B.out hb)
  replace R_c := hide R_c
  clear hb
  have hbx : Below w4.heap.size w4 (w4.alloc (.cells #[.bool (zneg z), .slice A_c (dig (zmag z)).length c_c, .int .i64 p] 29)) := ((Below.refl _ _).alloc (Nat.le_refl _) _)
  have Ux := Below.then_ U6 hbx
  go_wp2_with fail
  obtain ⟨V6, hV⟩ : ∃ V, V = (w4.alloc (.cells #[.bool (zneg z), .slice A_c (dig (zmag z)).length c_c, .int .i64 p] 29)) := ⟨_, rfl⟩
  obtain ⟨g_c, hg_c⟩ : ∃ g, g = w4.heap.size := ⟨_, rfl⟩
  rw [← hV]
  rw [← hV] at hbx Ux
  rw [← hg_c]
  have b_c : BoxD V6 g_c (.bool (zneg z)) (.slice A_c (dig (zmag z)).length c_c) (.int .i64 p) := by rw [hV]; exact (BoxD.new _ _ _ _ hg_c)
  clear hV
  have ne_a_c : w.heap.size ≠ g_c := by have := (b_a.out.lt b_a.out.lt_size (Nat.le_refl _)) _ U6; omega
  replace ne_a_c := hide ne_a_c
  have ne_d_c : g_d ≠ g_c := by have := (b_d.out.lt b_d.out.lt_size (Nat.le_refl _)) _ U6; omega
  replace ne_d_c := hide ne_d_c
  have ge_c : w.heap.size ≤ g_c := by have := B.out.size; omega
  replace ge_c := hide ge_c
  clear hg_c
  replace R_a := hide (Rd.then_ R_a.out hbx)
  replace R_ad := hide (Rd.then_ R_ad.out hbx)
  replace R_d := hide (Rd.then_ R_d.out hbx)
  replace R_q := hide (Rd.then_ R_q.out hbx)
  replace R_qd := hide (Rd.then_ R_qd.out hbx)
  replace R_c := hide (Rd.then_ R_c.out hbx)
  have U7 : Below V2.heap.size V2 V6 := Below.then_ U6 hbx
  replace B := hide (Below.then_ B.out hbx)
  clear hbx
  replace b_a := hide (Box3.keep b_a.out U7)
  clear c_a0 c_a1 c_a2
  replace b_d := hide (BoxD.keep b_d.out U7)
  clear c_d0 c_d1 c_d2
  replace b_c := hide b_c
  have U8 : Below V6.heap.size V6 V6 := Below.refl _ _
  have c_a0 := b_a.out.at0 b_a.out.lt_size (Nat.le_refl _)
  have c_a1 := b_a.out.at1 b_a.out.lt_size (Nat.le_refl _)
  have c_a2 := b_a.out.at2 b_a.out.lt_size (Nat.le_refl _)
  have c_d0 := b_d.out.at0 b_d.out.lt_size (Nat.le_refl _)
  have c_d1 := b_d.out.at1 b_d.out.lt_size (Nat.le_refl _)
  have c_d2 := b_d.out.at2 b_d.out.lt_size (Nat.le_refl _)
  have c_c0 := b_c.out.at0 b_c.out.lt_size (Nat.le_refl _)
  have c_c1 := b_c.out.at1 b_c.out.lt_size (Nat.le_refl _)
  have c_c2 := b_c.out.at2 b_c.out.lt_size (Nat.le_refl _)
  have hd := Below.drw_ V6
  replace R_a := hide (Rd.then_ R_a.out hd)
  replace R_ad := hide (Rd.then_ R_ad.out hd)
  replace R_d := hide (Rd.then_ R_d.out hd)
  replace R_q := hide (Rd.then_ R_q.out hd)
  replace R_qd := hide (Rd.then_ R_qd.out hd)
  replace R_c := hide (Rd.then_ R_c.out hd)
  have U9 : Below V6.heap.size V6 (V6.drew) := Below.then_ U8 hd
  replace B := hide (Below.then_ B.out hd)
  clear hd
  have tok1 : True := trivial
  go_region_held3 (fun w' => Below V6.heap.size V6 w') (assumption)
    (first
      | (go_at_call 27; (have _t := tok1; (with_reducible refine (ineg_any _ _ _ _ _ _ _ R_d.out (Nat.le_refl _)).mono ?_); rw [e_n.out]; rintro e w5 ⟨A_n, c_n, rfl, R_n, hb⟩; replace R_a := hide (Rd.then_ R_a.out hb); replace R_ad := hide (Rd.then_ R_ad.out hb); replace R_d := hide (Rd.then_ R_d.out hb); replace R_q := hide (Rd.then_ R_q.out hb); replace R_qd := hide (Rd.then_ R_qd.out hb); replace R_c := hide (Rd.then_ R_c.out hb); have U10 : Below V6.heap.size V6 w5 := Below.then_ U9 hb; replace B := hide (Below.then_ B.out hb); replace R_n := hide R_n; clear hb; have tok2 : True := trivial; clear _t tok1))
      | (go_at_call 24; (have _t := tok2; (with_reducible refine (icmp_any _ _ _ _ _ _ _ _ _ _ _ _ R_n.out R_c.out (Nat.le_refl _)).mono ?_); rw [e_c.out]; rintro e w6 ⟨rfl, hb⟩; replace R_a := hide (Rd.then_ R_a.out hb); replace R_ad := hide (Rd.then_ R_ad.out hb); replace R_d := hide (Rd.then_ R_d.out hb); replace R_q := hide (Rd.then_ R_q.out hb); replace R_qd := hide (Rd.then_ R_qd.out hb); replace R_c := hide (Rd.then_ R_c.out hb); replace R_n := hide (Rd.then_ R_n.out hb); have U11 : Below V6.heap.size V6 w6 := Below.then_ U10 hb; replace B := hide (Below.then_ B.out hb); clear hb; have tok3 : True := trivial; clear _t tok2))
      | (go_at_call 15; (have _t := tok3; (with_reducible refine (awake_any).mono ?_); rintro e w7 ⟨rfl, hb⟩; replace R_a := hide (Rd.then_ R_a.out hb); replace R_ad := hide (Rd.then_ R_ad.out hb); replace R_d := hide (Rd.then_ R_d.out hb); replace R_q := hide (Rd.then_ R_q.out hb); replace R_qd := hide (Rd.then_ R_qd.out hb); replace R_c := hide (Rd.then_ R_c.out hb); replace R_n := hide (Rd.then_ R_n.out hb); have U12 : Below V6.heap.size V6 w7 := Below.then_ U11 hb; replace B := hide (Below.then_ B.out hb); clear hb; have tok4 : True := trivial; clear _t tok3)))
  clear tok4
  go_wp2
  go_ret
  exact ⟨rfl, B.out⟩

theorem mirror_all {w : World} {A_a : Option Addr} {n_a c_a : Nat} {x_a : List Nat} {s_a : Bool} {A_ad : Option Addr} {n_ad c_ad : Nat} {x_ad : List Nat} (h_a : Rd w w.heap.size A_a n_a c_a x_a) (g_a : n_a ≤ 10000000) (h_ad : Rd w w.heap.size A_ad n_ad c_ad x_ad) (g_ad : n_ad ≤ 10000000) {p m : Int} :
    Calls Tryz.prog 7 #[.agg #[.bool s_a, .slice A_a n_a c_a, .slice A_ad n_ad c_ad], .int .i64 p, .int .i64 m] w (RetB w (.bool true)) := by
  by_cases h : okd p m
  · by_cases h6 : m = 6
    · subst h6; exact mirror_6 h_a g_a h_ad g_ad (Nat.le_refl _) h
    · by_cases h7 : m = 7
      · subst h7; exact mirror_7 h_a g_a h_ad g_ad (Nat.le_refl _) h
      · exact mirror_o h_a g_a h_ad g_ad (Nat.le_refl _) h (by simpa using h6) (by simpa using h7)
  · exact mirror_bad h_a g_a h_ad g_ad (Nat.le_refl _) h

end Go.Proofs.YtdlmfembnmomjaaGreatDoor

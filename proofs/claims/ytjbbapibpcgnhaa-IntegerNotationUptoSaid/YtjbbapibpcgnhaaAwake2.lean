/-
  awake of the law: the chapter's examples.
-/
import Derived.Test.YtjbbapibpcgnhaaSame2
import Derived.Test.YtjbbapibpcgnhaaIntPar
import Derived.Test.YtjbbapibpcgnhaaInt6
import Derived.Test.YtjbbapibpcgnhaaInt4
namespace Go.Proofs.Ytjbbapibpcgnhaa
open Go.RowKit

theorem small_len {z : Int} (h : zmag z < 18446744073709551616) : (dig (zmag z)).length ≤ 2 := (dig_len_le _ 2).2 (by simp only [pw]; omega)
theorem zstr_m4 : zstr (-4) = ⟨#[45, 52]⟩ := by unfold zstr; rw [if_pos (by omega), show zmag (-4) = 4 from rfl]; simp [dec, ddig]; rfl
theorem zstr_1 : zstr 1 = ⟨#[49]⟩ := by unfold zstr; rw [if_neg (by omega), show zmag 1 = 1 from rfl]; simp [dec, ddig]; rfl
theorem zstr_m12 : zstr (-12) = ⟨#[45, 49, 50]⟩ := by unfold zstr; rw [if_pos (by omega), show zmag (-12) = 12 from rfl]; simp [dec, ddig]; rfl
theorem par_m12 (w : World) : Calls Try.prog 34 #[.string ⟨#[45, 49, 50]⟩] w (RetIV w (-12) 0) := by
  have h := par_zstr (-12) (by rw [zstr_m12]; decide) w
  have hl : (dec (zmag (-12))).length ≤ 400 := by rw [show zmag (-12) = 12 from rfl]; simp [dec, ddig]
  rw [zstr_m12, if_pos hl, if_pos hl] at h
  exact h

set_option maxHeartbeats 4000000 in
theorem awake_any (w : World) : Calls Try.prog 23 #[] w (RetB w (.bool true)) := by
  have e1 : fq (zneg (-7)) (zneg 2) (val (dig (zmag (-7)))) (val (dig (zmag 2))) = -4 := by rw [val_dig, val_dig]; rfl
  have e2 : fr (zneg (-7)) (zneg 2) (val (dig (zmag (-7)))) (val (dig (zmag 2))) = 1 := by rw [val_dig, val_dig]; rfl
  have e3 : val (dig (zmag 2)) ≠ 0 := by rw [val_dig]; decide
  have e4 : iv (zneg (-4)) (val (dig (zmag (-4)))) * iv (zneg (-4294967296)) (val (dig (zmag (-4294967296)))) = 17179869184 := by rw [val_ieta, val_ieta]; rfl
  have e5 : i64v (iv (zneg 17179869184) (val (dig (zmag 17179869184)))) = 17179869184 := by rw [val_ieta]; rfl
  have e6 : i64ok (iv (zneg 17179869184) (val (dig (zmag 17179869184)))) = true := by rw [val_ieta]; rfl
  have p1 : zstr (iv (zneg (-4)) (val (dig (zmag (-4))))) = ⟨#[45, 52]⟩ := by rw [val_ieta, zstr_m4]
  have p2 : zstr (iv (zneg 1) (val (dig (zmag 1)))) = ⟨#[49]⟩ := by rw [val_ieta, zstr_1]
  have p3 : zstr (iv (zneg (-12)) (val (dig (zmag (-12))))) = ⟨#[45, 49, 50]⟩ := by rw [val_ieta, zstr_m12]
  have e7 : sgn (iv (zneg (-12)) (val (dig (zmag (-12)))) - iv (zneg 1) (val (dig (zmag 1)))) = -1 := by rw [val_ieta, val_ieta]; rfl
  replace e1 := hide e1
  replace e2 := hide e2
  replace e3 := hide e3
  replace e4 := hide e4
  replace e5 := hide e5
  replace e6 := hide e6
  replace e7 := hide e7
  replace p1 := hide p1
  replace p2 := hide p2
  replace p3 := hide p3
  have B := hide (Below.refl w.heap.size w)
  have U0 : Below w.heap.size w w := Below.refl _ _
  go_enter Try.func23, Try.ntmps23
  go_wp2_with fail
  refine (iof_any _ (-7) (by omega) (by omega)).mono ?_
  rintro e w1 ⟨A_m, c_m, rfl, R_m, hb⟩
  have U1 : Below w.heap.size w w1 := Below.then_ U0 hb
  replace B := hide (Below.then_ B.out hb)
  replace R_m := hide R_m
  clear hb
  go_wp2_with fail
  refine (iof_any _ (2) (by omega) (by omega)).mono ?_
  rintro e w2 ⟨A_p, c_p, rfl, R_p, hb⟩
  replace R_m := hide (Rd.then_ R_m.out hb)
  have U2 : Below w.heap.size w w2 := Below.then_ U1 hb
  replace B := hide (Below.then_ B.out hb)
  replace R_p := hide R_p
  clear hb
  go_wp2_with fail
  refine (idiv_any _ _ _ _ _ _ _ _ _ _ _ _ R_m.out R_p.out (Nat.le_refl _) (by have := small_len (z := -7) (by decide); omega) e3.out).mono ?_
  rw [e1.out, e2.out]
  rintro e w3 ⟨A_q, c_q, A_r, c_r, rfl, R_q, R_r, hb⟩
  replace R_m := hide (Rd.then_ R_m.out hb)
  replace R_p := hide (Rd.then_ R_p.out hb)
  have U3 : Below w.heap.size w w3 := Below.then_ U2 hb
  replace B := hide (Below.then_ B.out hb)
  replace R_q := hide R_q
  replace R_r := hide R_r
  clear hb
  clear R_m
  clear R_p
  have hbx : Below w3.heap.size w3 ((w3.alloc (.cells #[.bool (zneg (-4)), .slice A_q (dig (zmag (-4))).length c_q] 25)).alloc (.cells #[.bool (zneg 1), .slice A_r (dig (zmag 1)).length c_r] 25)) := (((Below.refl _ _).alloc (Nat.le_refl _) _).alloc (by simp) _)
  have Ux := Below.then_ U3 hbx
  go_wp2_with fail
  obtain ⟨V3, hV⟩ : ∃ V, V = ((w3.alloc (.cells #[.bool (zneg (-4)), .slice A_q (dig (zmag (-4))).length c_q] 25)).alloc (.cells #[.bool (zneg 1), .slice A_r (dig (zmag 1)).length c_r] 25)) := ⟨_, rfl⟩
  obtain ⟨g_q, hg_q⟩ : ∃ g, g = w3.heap.size := ⟨_, rfl⟩
  obtain ⟨g_r, hg_r⟩ : ∃ g, g = w3.heap.size + 1 := ⟨_, rfl⟩
  rw [← hV]
  rw [← hV] at hbx Ux
  rw [← hg_r]
  rw [← hg_q]
  have b_q : Box V3 g_q (.bool (zneg (-4))) (.slice A_q (dig (zmag (-4))).length c_q) := by rw [hV]; exact ((Box.new _ _ _ hg_q).al _)
  have b_r : Box V3 g_r (.bool (zneg 1)) (.slice A_r (dig (zmag 1)).length c_r) := by rw [hV]; exact (Box.new _ _ _ (by rw [hg_r]; simp))
  clear hV
  clear hg_q
  clear hg_r
  replace R_q := hide (Rd.then_ R_q.out hbx)
  replace R_r := hide (Rd.then_ R_r.out hbx)
  have U4 : Below w.heap.size w V3 := Below.then_ U3 hbx
  replace B := hide (Below.then_ B.out hbx)
  clear hbx
  replace b_q := hide b_q
  replace b_r := hide b_r
  have U5 : Below V3.heap.size V3 V3 := Below.refl _ _
  have c_q0 := b_q.out.at0 b_q.out.lt_size (Nat.le_refl _)
  have c_q1 := b_q.out.at1 b_q.out.lt_size (Nat.le_refl _)
  have c_r0 := b_r.out.at0 b_r.out.lt_size (Nat.le_refl _)
  have c_r1 := b_r.out.at1 b_r.out.lt_size (Nat.le_refl _)
  refine (par_m12 _).mono ?_
  rintro e w4 ⟨A_n, c_n, rfl, R_n, hb⟩
  replace R_q := hide (Rd.then_ R_q.out hb)
  replace R_r := hide (Rd.then_ R_r.out hb)
  have U6 : Below V3.heap.size V3 w4 := Below.then_ U5 hb
  replace B := hide (Below.then_ B.out hb)
  replace R_n := hide R_n
  clear hb
  have hbx : Below w4.heap.size w4 (w4.alloc (.cells #[.bool (zneg (-12)), .slice A_n (dig (zmag (-12))).length c_n] 25)) := ((Below.refl _ _).alloc (Nat.le_refl _) _)
  have Ux := Below.then_ U6 hbx
  go_wp2_with fail
  obtain ⟨V6, hV⟩ : ∃ V, V = (w4.alloc (.cells #[.bool (zneg (-12)), .slice A_n (dig (zmag (-12))).length c_n] 25)) := ⟨_, rfl⟩
  obtain ⟨g_n, hg_n⟩ : ∃ g, g = w4.heap.size := ⟨_, rfl⟩
  rw [← hV]
  rw [← hV] at hbx Ux
  rw [← hg_n]
  have b_n : Box V6 g_n (.bool (zneg (-12))) (.slice A_n (dig (zmag (-12))).length c_n) := by rw [hV]; exact (Box.new _ _ _ hg_n)
  clear hV
  clear hg_n
  replace R_q := hide (Rd.then_ R_q.out hbx)
  replace R_r := hide (Rd.then_ R_r.out hbx)
  replace R_n := hide (Rd.then_ R_n.out hbx)
  have U7 : Below V3.heap.size V3 V6 := Below.then_ U6 hbx
  replace B := hide (Below.then_ B.out hbx)
  clear hbx
  replace b_q := hide (Box.keep b_q.out U7)
  clear c_q0 c_q1
  replace b_r := hide (Box.keep b_r.out U7)
  clear c_r0 c_r1
  replace b_n := hide b_n
  have U8 : Below V6.heap.size V6 V6 := Below.refl _ _
  have c_q0 := b_q.out.at0 b_q.out.lt_size (Nat.le_refl _)
  have c_q1 := b_q.out.at1 b_q.out.lt_size (Nat.le_refl _)
  have c_r0 := b_r.out.at0 b_r.out.lt_size (Nat.le_refl _)
  have c_r1 := b_r.out.at1 b_r.out.lt_size (Nat.le_refl _)
  have c_n0 := b_n.out.at0 b_n.out.lt_size (Nat.le_refl _)
  have c_n1 := b_n.out.at1 b_n.out.lt_size (Nat.le_refl _)
  refine (iof_any _ (-4) (by omega) (by omega)).mono ?_
  rintro e w5 ⟨A_m, c_m, rfl, R_m, hb⟩
  replace R_q := hide (Rd.then_ R_q.out hb)
  replace R_r := hide (Rd.then_ R_r.out hb)
  replace R_n := hide (Rd.then_ R_n.out hb)
  have U9 : Below V6.heap.size V6 w5 := Below.then_ U8 hb
  replace B := hide (Below.then_ B.out hb)
  replace R_m := hide R_m
  clear hb
  go_wp2_with fail
  refine (iof_any _ (-4294967296) (by omega) (by omega)).mono ?_
  rintro e w6 ⟨A_p, c_p, rfl, R_p, hb⟩
  replace R_q := hide (Rd.then_ R_q.out hb)
  replace R_r := hide (Rd.then_ R_r.out hb)
  replace R_n := hide (Rd.then_ R_n.out hb)
  replace R_m := hide (Rd.then_ R_m.out hb)
  have U10 : Below V6.heap.size V6 w6 := Below.then_ U9 hb
  replace B := hide (Below.then_ B.out hb)
  replace R_p := hide R_p
  clear hb
  go_wp2_with fail
  refine (imul_any _ _ _ _ _ _ _ _ _ _ _ _ R_m.out R_p.out (Nat.le_refl _) (by have := small_len (z := -4) (by decide); have := small_len (z := -4294967296) (by decide); omega)).mono ?_
  rw [e4.out]
  rintro e w7 ⟨A_t, c_t, rfl, R_t, hb⟩
  replace R_q := hide (Rd.then_ R_q.out hb)
  replace R_r := hide (Rd.then_ R_r.out hb)
  replace R_n := hide (Rd.then_ R_n.out hb)
  replace R_m := hide (Rd.then_ R_m.out hb)
  replace R_p := hide (Rd.then_ R_p.out hb)
  have U11 : Below V6.heap.size V6 w7 := Below.then_ U10 hb
  replace B := hide (Below.then_ B.out hb)
  replace R_t := hide R_t
  clear hb
  clear R_m
  clear R_p
  go_wp2_with fail
  refine (int64_any _ _ _ _ _ _ _ R_t.out (Nat.le_refl _)).mono ?_
  rw [e5.out, e6.out]
  rintro e w8 ⟨rfl, hb⟩
  replace R_q := hide (Rd.then_ R_q.out hb)
  replace R_r := hide (Rd.then_ R_r.out hb)
  replace R_n := hide (Rd.then_ R_n.out hb)
  replace R_t := hide (Rd.then_ R_t.out hb)
  have U12 : Below V6.heap.size V6 w8 := Below.then_ U11 hb
  replace B := hide (Below.then_ B.out hb)
  clear hb
  clear R_t
  go_wp2_with fail
  refine (iprint_any _ _ _ _ _ _ _ R_q.out (Nat.le_refl _) (by have := small_len (z := -4) (by decide); omega)).mono ?_
  rw [p1.out]
  rintro e w9 ⟨rfl, hb⟩
  replace R_q := hide (Rd.then_ R_q.out hb)
  replace R_r := hide (Rd.then_ R_r.out hb)
  replace R_n := hide (Rd.then_ R_n.out hb)
  have U13 : Below V6.heap.size V6 w9 := Below.then_ U12 hb
  replace B := hide (Below.then_ B.out hb)
  clear hb
  go_wp2_with fail
  refine (iprint_any _ _ _ _ _ _ _ R_r.out (Nat.le_refl _) (by have := small_len (z := 1) (by decide); omega)).mono ?_
  rw [p2.out]
  rintro e w10 ⟨rfl, hb⟩
  replace R_q := hide (Rd.then_ R_q.out hb)
  replace R_r := hide (Rd.then_ R_r.out hb)
  replace R_n := hide (Rd.then_ R_n.out hb)
  have U14 : Below V6.heap.size V6 w10 := Below.then_ U13 hb
  replace B := hide (Below.then_ B.out hb)
  clear hb
  go_wp2_with fail
  refine (iprint_any _ _ _ _ _ _ _ R_n.out (Nat.le_refl _) (by have := small_len (z := -12) (by decide); omega)).mono ?_
  rw [p3.out]
  rintro e w11 ⟨rfl, hb⟩
  replace R_q := hide (Rd.then_ R_q.out hb)
  replace R_r := hide (Rd.then_ R_r.out hb)
  replace R_n := hide (Rd.then_ R_n.out hb)
  have U15 : Below V6.heap.size V6 w11 := Below.then_ U14 hb
  replace B := hide (Below.then_ B.out hb)
  clear hb
  go_wp2_with fail
  refine (icmp_any _ _ _ _ _ _ _ _ _ _ _ _ R_n.out R_r.out (Nat.le_refl _)).mono ?_
  rw [e7.out]
  rintro e w12 ⟨rfl, hb⟩
  replace R_q := hide (Rd.then_ R_q.out hb)
  replace R_r := hide (Rd.then_ R_r.out hb)
  replace R_n := hide (Rd.then_ R_n.out hb)
  have U16 : Below V6.heap.size V6 w12 := Below.then_ U15 hb
  replace B := hide (Below.then_ B.out hb)
  clear hb
  go_wp2
  go_ret
  exact ⟨rfl, B.out⟩

end Go.Proofs.Ytjbbapibpcgnhaa

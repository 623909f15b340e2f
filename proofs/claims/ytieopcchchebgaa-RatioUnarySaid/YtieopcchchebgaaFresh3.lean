/-
  zero, reduced, Norm of ratio, their numbers in blocks of their own.
-/
import Derived.Test.YtieopcchchebgaaFresh2
namespace Go.Proofs.Ytieopcchchebgaa
open Go.RowKit


/-- a ratio handed back, its numbers in blocks that the call made -/
def RetRatF (w : World) (q : Rat) (e : Ending) (w' : World) : Prop :=
  ∃ A c B d, e = .returned (.agg #[.bool (zneg q.num), .slice A (dig (zmag q.num)).length c, .slice B (dig q.den).length d]) ∧
    Rd w' w'.heap.size A (dig (zmag q.num)).length c (dig (zmag q.num)) ∧ Rd w' w'.heap.size B (dig q.den).length d (dig q.den) ∧ Below w.heap.size w w' ∧ Fresh w w' A (dig (zmag q.num)).length ∧ Fresh w w' B (dig q.den).length
theorem RetRatF.mk {w : World} {q : Rat} {A B : Option Addr} {c d : Nat} {w' : World} (h : RetRat w q (.returned (.agg #[.bool (zneg q.num), .slice A (dig (zmag q.num)).length c, .slice B (dig q.den).length d])) w')
    (hA : Fresh w w' A (dig (zmag q.num)).length) (hB : Fresh w w' B (dig q.den).length) : RetRatF w q (.returned (.agg #[.bool (zneg q.num), .slice A (dig (zmag q.num)).length c, .slice B (dig q.den).length d])) w' := by
  obtain ⟨A', c', B', d', he, h1, h2, hb⟩ := h
  cases he
  exact ⟨A, c, B, d, rfl, h1, h2, hb, hA, hB⟩
theorem zero_num (q : Rat) (hq : (0 : Rat) = q) : dig (zmag q.num) = [] := by rw [← hq, q0num, show zmag 0 = 0 from rfl, dig_zero]

set_option maxHeartbeats 4000000 in
theorem zero_f {w : World}   {q : Rat} (hq : (0 : Rat) = q) :
    Calls Try.prog 51 #[] w (RetRatF w q) := by
  replace hq := hide hq
  obtain ⟨W, hW⟩ : ∃ W, W = (w.alloc (.cells #[.bool false, .slice none 0 0, .slice none 0 0] 27)) := ⟨_, rfl⟩
  have b_r0 : Box3 W (w.heap.size) (.bool false) (.slice none 0 0) (.slice none 0 0) := by rw [hW]; exact (Box3.new w _ _ _ rfl)
  have hwW : Below w.heap.size w W := by rw [hW]; exact ((Below.refl _ _).alloc (Nat.le_refl _) _)
  have B := hide hwW
  clear hwW
  have U0 : Below W.heap.size W W := Below.refl _ _
  have c_r00 := b_r0.at0 b_r0.lt_size (Nat.le_refl _)
  have c_r01 := b_r0.at1 b_r0.lt_size (Nat.le_refl _)
  have c_r02 := b_r0.at2 b_r0.lt_size (Nat.le_refl _)
  have f_r00 := b_r0.free0 b_r0.lt_size (Nat.le_refl _)
  have f_r01 := b_r0.free1 b_r0.lt_size (Nat.le_refl _)
  have f_r02 := b_r0.free2 b_r0.lt_size (Nat.le_refl _)
  have l_r0 := b_r0.lt b_r0.lt_size (Nat.le_refl _)
  replace b_r0 := hide b_r0
  have l_r00 := l_r0 W U0
  replace l_r00 := hide l_r00
  have hww := hide B.out.size
  go_enter Try.func51, Try.ntmps51
  go_wp2_with fail
  rw [← hW]
  clear hW
  have l_r0' := l_r00.out
  refine (of1_f _).mono ?_
  rintro e w1 ⟨A_d, c_d, rfl, R_d, hb, F_d⟩
  have U1 : Below W.heap.size W w1 := Below.then_ U0 hb
  replace B := hide (Below.then_ B.out hb)
  replace R_d := hide R_d
  replace F_d := hide (Fresh.before F_d U0.size)
  clear hb
  have l1 := l_r0'
  go_wp2
  refine bodyPost_ret (v := .agg #[.bool false, .slice none 0 0, .slice A_d (dig 1).length c_d]) (by simp [results, Try.results51, go_sem, c_r00 _ U1, c_r01 _ U1, c_r02 _ U1]) rfl ?_
  have hz := RetRat.zero (q := 0) rfl B.out (by omega) (c_r00 _ U1) (c_r01 _ U1) (c_r02 _ U1) R_d.out
  obtain ⟨A', c', B', d', he, h1, h2, hb⟩ := hz
  have hn0 := zero_num 0 rfl
  rw [← hq.out]
  refine ⟨A', c', B', d', he, h1, h2, hb, by rw [hn0]; exact Fresh.none_, ?_⟩
  have hv := Ending.returned.inj he
  simp only [Value.agg.injEq, Array.mk.injEq, List.cons.injEq, Value.slice.injEq, and_true] at hv
  obtain ⟨_, _, rfl, _, rfl⟩ := hv
  exact Fresh.before (Fresh.far (Fresh.far (Fresh.far F_d.out l_r0' _) l_r0' _) l_r0' _) hww.out

set_option maxHeartbeats 4000000 in
theorem reduced_0f {w : World} {Bd : Nat} {A_a : Option Addr} {n_a c_a : Nat} {x_a : List Nat} {s_a : Bool} {A_b : Option Addr} {n_b c_b : Nat} {x_b : List Nat} (h_a : Rd w Bd A_a n_a c_a x_a) (_g_a : n_a ≤ 10000000000) (h_b : Rd w Bd A_b n_b c_b x_b) (_g_b : n_b ≤ 10000000000) (hB : Bd ≤ w.heap.size) {q : Rat} (h0 : val x_b = 0) (hq : (0 : Rat) = q) :
    Calls Try.prog 52 #[.agg #[.bool s_a, .slice A_a n_a c_a], .slice A_b n_b c_b] w (RetRatF w q) := by
  replace h0 := hide h0
  replace hq := hide hq
  obtain ⟨W, hW⟩ : ∃ W, W = ((w.alloc (.cells #[.bool s_a, .slice A_a n_a c_a] 25)).alloc (.cells #[.bool false, .slice none 0 0, .slice none 0 0] 27)) := ⟨_, rfl⟩
  have b_a : Box W (w.heap.size) (.bool s_a) (.slice A_a n_a c_a) := by rw [hW]; exact ((Box.new w _ _ rfl).al _)
  have b_r0 : Box3 W (w.heap.size + 1) (.bool false) (.slice none 0 0) (.slice none 0 0) := by rw [hW]; exact (Box3.new _ _ _ _ (by simp))
  have hwW : Below w.heap.size w W := by rw [hW]; exact (((Below.refl _ _).alloc (Nat.le_refl _) _).alloc (by simp) _)
  have R_a := hide (Rd.upto h_a hwW hB)
  clear h_a
  have R_b := hide (Rd.upto h_b hwW hB)
  clear h_b
  have B := hide hwW
  clear hwW
  clear hB
  have U0 : Below W.heap.size W W := Below.refl _ _
  have c_a0 := b_a.at0 b_a.lt_size (Nat.le_refl _)
  have c_a1 := b_a.at1 b_a.lt_size (Nat.le_refl _)
  replace b_a := hide b_a
  have c_r00 := b_r0.at0 b_r0.lt_size (Nat.le_refl _)
  have c_r01 := b_r0.at1 b_r0.lt_size (Nat.le_refl _)
  have c_r02 := b_r0.at2 b_r0.lt_size (Nat.le_refl _)
  have f_r00 := b_r0.free0 b_r0.lt_size (Nat.le_refl _)
  have f_r01 := b_r0.free1 b_r0.lt_size (Nat.le_refl _)
  have f_r02 := b_r0.free2 b_r0.lt_size (Nat.le_refl _)
  have l_r0 := b_r0.lt b_r0.lt_size (Nat.le_refl _)
  replace b_r0 := hide b_r0
  have l_r00 := l_r0 W U0
  replace l_r00 := hide l_r00
  have hww := hide B.out.size
  go_enter Try.func52, Try.ntmps52
  go_wp2_with fail
  rw [← hW]
  clear hW
  have l_r0' := l_r00.out
  have hbl : bl (val x_b) = 0 := by rw [h0.out, bl_zero]
  replace hbl := hide hbl
  refine (bits_any _ _ _ _ _ _ R_b.out).mono ?_
  rw [hbl.out]
  rintro e w' ⟨rfl, rfl⟩
  go_wp2_with fail
  refine (zero_f hq.out).mono ?_
  rintro e w1 ⟨A_q, c_q, A_qd, c_qd, rfl, R_q, R_qd, hb, F_q, F_qd⟩
  replace R_a := hide (Rd.then_ R_a.out hb)
  replace R_b := hide (Rd.then_ R_b.out hb)
  have U1 : Below W.heap.size W w1 := Below.then_ U0 hb
  replace B := hide (Below.then_ B.out hb)
  replace R_q := hide R_q
  replace R_qd := hide R_qd
  replace F_q := hide (Fresh.before F_q U0.size)
  replace F_qd := hide (Fresh.before F_qd U0.size)
  clear hb
  go_wp2
  exact bodyPost_ret (v := .agg #[.bool (zneg q.num), .slice A_q (dig (zmag q.num)).length c_q, .slice A_qd (dig q.den).length c_qd]) (by simp [results, Try.results52, go_sem, c_r00 _ U1, c_r01 _ U1, c_r02 _ U1]) rfl (RetRatF.mk (RetRat.box B.out (by omega) (c_r00 _ U1) (c_r01 _ U1) (c_r02 _ U1) R_q.out R_qd.out) (Fresh.before (Fresh.far (Fresh.far (Fresh.far F_q.out l_r0' _) l_r0' _) l_r0' _) hww.out) (Fresh.before (Fresh.far (Fresh.far (Fresh.far F_qd.out l_r0' _) l_r0' _) l_r0' _) hww.out))

set_option maxHeartbeats 4000000 in
theorem reduced_1f {w : World} {Bd : Nat} {A_a : Option Addr} {n_a c_a : Nat} {x_a : List Nat} {s_a : Bool} {A_b : Option Addr} {n_b c_b : Nat} {x_b : List Nat} (h_a : Rd w Bd A_a n_a c_a x_a) (g_a : n_a ≤ 10000000000) (h_b : Rd w Bd A_b n_b c_b x_b) (g_b : n_b ≤ 10000000000) (hB : Bd ≤ w.heap.size) {q : Rat} (h0 : val x_b ≠ 0) (hq : qv s_a (val x_a) (val x_b) = q) :
    Calls Try.prog 52 #[.agg #[.bool s_a, .slice A_a n_a c_a], .slice A_b n_b c_b] w (RetRatF w q) := by
  have e_num : iv s_a (val x_a / Nat.gcd (val x_a) (val x_b)) = q.num := by rw [← hq, qv_num _ _ h0]
  have e_den : val x_b / Nat.gcd (val x_a) (val x_b) = q.den := by rw [← hq, qv_den _ _ h0]
  have hg0 : Nat.gcd (val x_a) (val x_b) ≠ 0 := fun h => h0 (Nat.eq_zero_of_gcd_eq_zero_right h)
  obtain ⟨g, e_g⟩ : ∃ g, Nat.gcd (val x_a) (val x_b) = g := ⟨_, rfl⟩
  rw [e_g] at e_num e_den hg0
  obtain ⟨m, e_m⟩ : ∃ m, val x_a / val (dig g) = m := ⟨_, rfl⟩
  have e_n : iv s_a (val (dig m)) = q.num := by rw [val_dig, ← e_m, val_dig]; exact e_num
  have e_d : val x_b / val (dig g) = q.den := by rw [val_dig]; exact e_den
  have hg1 : val (dig g) ≠ 0 := by rw [val_dig]; exact hg0
  have hbl := ofne h0
  clear e_num e_den hg0 h0 hq
  replace e_g := hide e_g
  replace e_m := hide e_m
  replace e_n := hide e_n
  replace e_d := hide e_d
  replace hg1 := hide hg1
  have g1 : n_a + 1 ≤ 70368744177664 := by omega
  replace g1 := hide g1
  have g2 : n_b + 1 ≤ 70368744177664 := by omega
  replace g2 := hide g2
  obtain ⟨W, hW⟩ : ∃ W, W = ((w.alloc (.cells #[.bool s_a, .slice A_a n_a c_a] 25)).alloc (.cells #[.bool false, .slice none 0 0, .slice none 0 0] 27)) := ⟨_, rfl⟩
  have b_a : Box W (w.heap.size) (.bool s_a) (.slice A_a n_a c_a) := by rw [hW]; exact ((Box.new w _ _ rfl).al _)
  have b_r0 : Box3 W (w.heap.size + 1) (.bool false) (.slice none 0 0) (.slice none 0 0) := by rw [hW]; exact (Box3.new _ _ _ _ (by simp))
  have hwW : Below w.heap.size w W := by rw [hW]; exact (((Below.refl _ _).alloc (Nat.le_refl _) _).alloc (by simp) _)
  have R_a := hide (Rd.upto h_a hwW hB)
  clear h_a
  have R_b := hide (Rd.upto h_b hwW hB)
  clear h_b
  have B := hide hwW
  clear hwW
  clear hB
  have U0 : Below W.heap.size W W := Below.refl _ _
  have c_a0 := b_a.at0 b_a.lt_size (Nat.le_refl _)
  have c_a1 := b_a.at1 b_a.lt_size (Nat.le_refl _)
  replace b_a := hide b_a
  have c_r00 := b_r0.at0 b_r0.lt_size (Nat.le_refl _)
  have c_r01 := b_r0.at1 b_r0.lt_size (Nat.le_refl _)
  have c_r02 := b_r0.at2 b_r0.lt_size (Nat.le_refl _)
  have f_r00 := b_r0.free0 b_r0.lt_size (Nat.le_refl _)
  have f_r01 := b_r0.free1 b_r0.lt_size (Nat.le_refl _)
  have f_r02 := b_r0.free2 b_r0.lt_size (Nat.le_refl _)
  have l_r0 := b_r0.lt b_r0.lt_size (Nat.le_refl _)
  replace b_r0 := hide b_r0
  have l_r00 := l_r0 W U0
  replace l_r00 := hide l_r00
  have hww := hide B.out.size
  go_enter Try.func52, Try.ntmps52
  go_wp2_with fail
  rw [← hW]
  clear hW
  have l_r0' := l_r00.out
  refine (bits_any _ _ _ _ _ _ R_b.out).mono ?_
  rintro e w' ⟨rfl, rfl⟩
  go_wp2_with fail
  refine (gcd_any _ _ _ _ _ _ _ _ _ _ R_a.out R_b.out (Nat.le_refl _) g1.out g2.out).mono ?_
  rw [e_g.out]
  rintro e w1 ⟨A_g, c_g, rfl, R_g, hb⟩
  replace R_a := hide (Rd.then_ R_a.out hb)
  replace R_b := hide (Rd.then_ R_b.out hb)
  have U1 : Below W.heap.size W w1 := Below.then_ U0 hb
  replace B := hide (Below.then_ B.out hb)
  replace R_g := hide R_g
  clear hb
  go_wp2_with fail
  refine (quo_any R_a.out R_g.out (Nat.le_refl _) g1.out hg1.out e_m.out).mono ?_
  rintro e w2 ⟨A_m, c_m, A_y, c_y, r_y, rfl, R_m, hb⟩
  replace R_a := hide (Rd.then_ R_a.out hb)
  replace R_b := hide (Rd.then_ R_b.out hb)
  replace R_g := hide (Rd.then_ R_g.out hb)
  have U2 : Below W.heap.size W w2 := Below.then_ U1 hb
  replace B := hide (Below.then_ B.out hb)
  replace R_m := hide R_m
  clear hb
  go_wp2_with fail
  refine (quo_f R_b.out R_g.out (Nat.le_refl _) g2.out hg1.out e_d.out).mono ?_
  rintro e w3 ⟨A_qd, c_qd, A_y2, c_y2, r_y2, rfl, R_qd, hb, F_qd⟩
  replace R_a := hide (Rd.then_ R_a.out hb)
  replace R_b := hide (Rd.then_ R_b.out hb)
  replace R_g := hide (Rd.then_ R_g.out hb)
  replace R_m := hide (Rd.then_ R_m.out hb)
  have U3 : Below W.heap.size W w3 := Below.then_ U2 hb
  replace B := hide (Below.then_ B.out hb)
  replace R_qd := hide R_qd
  replace F_qd := hide (Fresh.before F_qd U2.size)
  clear hb
  go_wp2_with fail
  refine (imake_f _ _ _ _ _ _ _ R_m.out (Nat.le_refl _) e_n.out).mono ?_
  rintro e w4 ⟨A_q, c_q, rfl, R_q, hb, F_q⟩
  replace R_a := hide (Rd.then_ R_a.out hb)
  replace R_b := hide (Rd.then_ R_b.out hb)
  replace R_g := hide (Rd.then_ R_g.out hb)
  replace R_m := hide (Rd.then_ R_m.out hb)
  replace R_qd := hide (Rd.then_ R_qd.out hb)
  have U4 : Below W.heap.size W w4 := Below.then_ U3 hb
  replace B := hide (Below.then_ B.out hb)
  replace F_qd := hide (Fresh.keep F_qd.out hb)
  replace R_q := hide R_q
  replace F_q := hide (Fresh.before F_q U3.size)
  clear hb
  go_wp2
  exact bodyPost_ret (v := .agg #[.bool (zneg q.num), .slice A_q (dig (zmag q.num)).length c_q, .slice A_qd (dig q.den).length c_qd]) (by simp [results, Try.results52, go_sem, c_r00 _ U4, c_r01 _ U4, c_r02 _ U4]) rfl (RetRatF.mk (RetRat.box B.out (by omega) (c_r00 _ U4) (c_r01 _ U4) (c_r02 _ U4) R_q.out R_qd.out) (Fresh.before (Fresh.far (Fresh.far (Fresh.far F_q.out l_r0' _) l_r0' _) l_r0' _) hww.out) (Fresh.before (Fresh.far (Fresh.far (Fresh.far F_qd.out l_r0' _) l_r0' _) l_r0' _) hww.out))

theorem reduced_f {w : World} {Bd : Nat} {A_a : Option Addr} {n_a c_a : Nat} {x_a : List Nat} {s_a : Bool} {A_b : Option Addr} {n_b c_b : Nat} {x_b : List Nat} (h_a : Rd w Bd A_a n_a c_a x_a) (g_a : n_a ≤ 10000000000) (h_b : Rd w Bd A_b n_b c_b x_b) (g_b : n_b ≤ 10000000000) (hB : Bd ≤ w.heap.size) {q : Rat} (hq : qv s_a (val x_a) (val x_b) = q) :
    Calls Try.prog 52 #[.agg #[.bool s_a, .slice A_a n_a c_a], .slice A_b n_b c_b] w (RetRatF w q) := by
  by_cases h0 : val x_b = 0
  · exact reduced_0f h_a g_a h_b g_b hB h0 (by rw [← hq, h0, qv_zero])
  · exact reduced_1f h_a g_a h_b g_b hB h0 hq

set_option maxHeartbeats 4000000 in
theorem pnorm_f {w : World} {Bd : Nat} {A_a : Option Addr} {n_a c_a : Nat} {x_a : List Nat} {s_a : Bool} {A_ad : Option Addr} {n_ad c_ad : Nat} {x_ad : List Nat} (h_a : Rd w Bd A_a n_a c_a x_a) (g_a : n_a ≤ 10000000000) (h_ad : Rd w Bd A_ad n_ad c_ad x_ad) (g_ad : n_ad ≤ 10000000000) (hB : Bd ≤ w.heap.size) {q : Rat} (hq : qv s_a (val x_a) (val x_ad) = q) :
    Calls Try.prog 20 #[.agg #[.bool s_a, .slice A_a n_a c_a, .slice A_ad n_ad c_ad]] w (RetRatF w q) := by
  replace hq := hide hq
  obtain ⟨W, hW⟩ : ∃ W, W = ((w.alloc (.cells #[.bool s_a, .slice A_a n_a c_a, .slice A_ad n_ad c_ad] 27)).alloc (.cells #[.bool false, .slice none 0 0, .slice none 0 0] 27)) := ⟨_, rfl⟩
  have b_a : Box3 W (w.heap.size) (.bool s_a) (.slice A_a n_a c_a) (.slice A_ad n_ad c_ad) := by rw [hW]; exact ((Box3.new w _ _ _ rfl).al _)
  have b_r0 : Box3 W (w.heap.size + 1) (.bool false) (.slice none 0 0) (.slice none 0 0) := by rw [hW]; exact (Box3.new _ _ _ _ (by simp))
  have hwW : Below w.heap.size w W := by rw [hW]; exact (((Below.refl _ _).alloc (Nat.le_refl _) _).alloc (by simp) _)
  have R_a := hide (Rd.upto h_a hwW hB)
  clear h_a
  have R_ad := hide (Rd.upto h_ad hwW hB)
  clear h_ad
  have B := hide hwW
  clear hwW
  clear hB
  have U0 : Below W.heap.size W W := Below.refl _ _
  have c_a0 := b_a.at0 b_a.lt_size (Nat.le_refl _)
  have c_a1 := b_a.at1 b_a.lt_size (Nat.le_refl _)
  have c_a2 := b_a.at2 b_a.lt_size (Nat.le_refl _)
  replace b_a := hide b_a
  have c_r00 := b_r0.at0 b_r0.lt_size (Nat.le_refl _)
  have c_r01 := b_r0.at1 b_r0.lt_size (Nat.le_refl _)
  have c_r02 := b_r0.at2 b_r0.lt_size (Nat.le_refl _)
  have f_r00 := b_r0.free0 b_r0.lt_size (Nat.le_refl _)
  have f_r01 := b_r0.free1 b_r0.lt_size (Nat.le_refl _)
  have f_r02 := b_r0.free2 b_r0.lt_size (Nat.le_refl _)
  have l_r0 := b_r0.lt b_r0.lt_size (Nat.le_refl _)
  replace b_r0 := hide b_r0
  have l_r00 := l_r0 W U0
  replace l_r00 := hide l_r00
  have hww := hide B.out.size
  go_enter Try.func20, Try.ntmps20
  go_wp2_with fail
  rw [← hW]
  clear hW
  have l_r0' := l_r00.out
  refine (reduced_f R_a.out g_a R_ad.out g_ad (Nat.le_refl _) hq.out).mono ?_
  rintro e w1 ⟨A_q, c_q, A_qd, c_qd, rfl, R_q, R_qd, hb, F_q, F_qd⟩
  replace R_a := hide (Rd.then_ R_a.out hb)
  replace R_ad := hide (Rd.then_ R_ad.out hb)
  have U1 : Below W.heap.size W w1 := Below.then_ U0 hb
  replace B := hide (Below.then_ B.out hb)
  replace R_q := hide R_q
  replace R_qd := hide R_qd
  replace F_q := hide (Fresh.before F_q U0.size)
  replace F_qd := hide (Fresh.before F_qd U0.size)
  clear hb
  go_wp2
  exact bodyPost_ret (v := .agg #[.bool (zneg q.num), .slice A_q (dig (zmag q.num)).length c_q, .slice A_qd (dig q.den).length c_qd]) (by simp [results, Try.results20, go_sem, c_r00 _ U1, c_r01 _ U1, c_r02 _ U1]) rfl (RetRatF.mk (RetRat.box B.out (by omega) (c_r00 _ U1) (c_r01 _ U1) (c_r02 _ U1) R_q.out R_qd.out) (Fresh.before (Fresh.far (Fresh.far (Fresh.far F_q.out l_r0' _) l_r0' _) l_r0' _) hww.out) (Fresh.before (Fresh.far (Fresh.far (Fresh.far F_qd.out l_r0' _) l_r0' _) l_r0' _) hww.out))

end Go.Proofs.Ytieopcchchebgaa

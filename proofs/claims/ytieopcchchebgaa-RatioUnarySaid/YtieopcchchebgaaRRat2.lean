/-
  Norm, Sign, Neg, Mul, Abs of the reference.
-/
import Derived.Test.YtieopcchchebgaaRRat1
namespace Go.Proofs.Ytieopcchchebgaa
open Go.RowKit


set_option maxHeartbeats 4000000 in
theorem rnorm3_any {w : World} {Bd : Nat} {A_a : Option Addr} {n_a c_a : Nat} {x_a : List Nat} {s_a : Bool} {A_ad : Option Addr} {n_ad c_ad : Nat} {x_ad : List Nat} (h_a : Rd w Bd A_a n_a c_a x_a) (g_a : n_a ≤ 1000000000) (h_ad : Rd w Bd A_ad n_ad c_ad x_ad) (g_ad : n_ad ≤ 1000000000) (hB : Bd ≤ w.heap.size) {q : Rat} (hq : qv s_a (val x_a) (val x_ad) = q) :
    Calls Try.prog 21 #[.agg #[.bool s_a, .slice A_a n_a c_a, .slice A_ad n_ad c_ad]] w (RetRat w q) := by
  obtain ⟨z, e_z⟩ : ∃ v, tp s_a (val x_a) (val x_ad) = v := ⟨_, rfl⟩
  replace e_z := hide e_z
  obtain ⟨d, e_d⟩ : ∃ v, lw (val x_ad) = v := ⟨_, rfl⟩
  replace e_d := hide e_d
  have l_z : zmag z < pw n_a := by rw [← e_z.out]; exact tp_lt h_a.lt
  replace l_z := hide l_z
  have l_d : d < pw (n_ad + 1) := by rw [← e_d.out]; exact lw_lt h_ad.lt
  replace l_d := hide l_d
  have q_a : mkRat z d = qv s_a (val x_a) (val x_ad) := by rw [← e_z.out, ← e_d.out, qv_tp]
  replace q_a := hide q_a
  have n_d : d ≠ 0 := by rw [← e_d.out]; exact lw_ne _
  replace n_d := hide n_d
  have e_q : qv (zneg z) (val (dig (zmag z))) (val (dig d)) = q := by rw [qvz, q_a.out]; exact hq
  replace e_q := hide e_q
  have gz : (dig (zmag z)).length ≤ 10000000000 := by have := zl l_z.out; omega
  replace gz := hide gz
  have gd : (dig d).length ≤ 10000000000 := by have := dl l_d.out; omega
  replace gd := hide gd
  have hd : val (dig d) ≠ 0 := by rw [val_dig]; exact n_d.out
  replace hd := hide hd
  clear hq
  obtain ⟨W, hW⟩ : ∃ W, W = ((w.alloc (.cells #[.bool s_a, .slice A_a n_a c_a, .slice A_ad n_ad c_ad] 27)).alloc (.cells #[.bool false, .slice none 0 0, .slice none 0 0] 27)) := ⟨_, rfl⟩
  have b_a : Box3 W (w.heap.size) (.bool s_a) (.slice A_a n_a c_a) (.slice A_ad n_ad c_ad) := by rw [hW]; exact ((Box3.new w _ _ _ rfl).al _)
  have b_r0 : Box3 W (w.heap.size + 1) (.bool false) (.slice none 0 0) (.slice none 0 0) := by rw [hW]; exact (Box3.new _ _ _ _ (by simp))
  have hwW : Below w.heap.size w W := by rw [hW]; exact (((Below.refl _ _).alloc (Nat.le_refl _) _).alloc (by simp) _)
  have R_a := hide (Rd.upto h_a hwW hB)
  clear h_a
  have R_ad := hide (Rd.upto h_ad hwW hB)
  clear h_ad
  have B := hide hwW
  clear hwW
  clear hB
  have U0 : Below W.heap.size W W := Below.refl _ _
  have c_a0 := b_a.at0 b_a.lt_size (Nat.le_refl _)
  have c_a1 := b_a.at1 b_a.lt_size (Nat.le_refl _)
  have c_a2 := b_a.at2 b_a.lt_size (Nat.le_refl _)
  replace b_a := hide b_a
  have c_r00 := b_r0.at0 b_r0.lt_size (Nat.le_refl _)
  have c_r01 := b_r0.at1 b_r0.lt_size (Nat.le_refl _)
  have c_r02 := b_r0.at2 b_r0.lt_size (Nat.le_refl _)
  have f_r00 := b_r0.free0 b_r0.lt_size (Nat.le_refl _)
  have f_r01 := b_r0.free1 b_r0.lt_size (Nat.le_refl _)
  have f_r02 := b_r0.free2 b_r0.lt_size (Nat.le_refl _)
  have l_r0 := b_r0.lt b_r0.lt_size (Nat.le_refl _)
  replace b_r0 := hide b_r0
  go_enter Try.func21, Try.ntmps21
  go_wp2_with fail
  rw [← hW]
  clear hW
  have k_a0 := b_a.out.but0 (g1 := w.heap.size + 1) (g2 := w.heap.size + 1) (by omega) (by omega)
  have k_a1 := b_a.out.but1 (g1 := w.heap.size + 1) (g2 := w.heap.size + 1) (by omega) (by omega)
  have k_a2 := b_a.out.but2 (g1 := w.heap.size + 1) (g2 := w.heap.size + 1) (by omega) (by omega)
  have hd := Below.drw_ W
  replace R_a := hide (Rd.then_ R_a.out hd)
  replace R_ad := hide (Rd.then_ R_ad.out hd)
  have U1 : Below W.heap.size W (W.drew) := Below.then_ U0 hd
  replace B := hide (Below.then_ B.out hd)
  have K1 : KeptBut (w.heap.size + 1) (w.heap.size + 1) W.heap.size W (W.drew) := KeptBut.below U1
  clear hd
  have tok1 : True := trivial
  go_region_held3 (fun w' => KeptBut (w.heap.size + 1) (w.heap.size + 1) W.heap.size W w') (first | assumption | (with_reducible exact KeptBut.drw _) | ((repeat (first | (with_reducible refine KeptBut.set0 ?_ _) | (with_reducible refine KeptBut.drew_ ?_))); first | assumption | (with_reducible exact KeptBut.refl _ _ _ _)))
    (first
      | (go_at_call 60; (have _t := tok1; (with_reducible refine (top_any R_a.out (by omega) R_ad.out (by omega) (Nat.le_refl _) e_z.out).mono ?_); rintro e w1 ⟨A_z, c_z, rfl, R_z, hb⟩; replace R_a := hide (Rd.then_ R_a.out hb); replace R_ad := hide (Rd.then_ R_ad.out hb); have U2 : Below W.heap.size W w1 := Below.then_ U1 hb; replace B := hide (Below.then_ B.out hb); have K2 : KeptBut (w.heap.size + 1) (w.heap.size + 1) W.heap.size W w1 := KeptBut.below U2; replace R_z := hide R_z; clear hb; have tok2 : True := trivial; clear _t tok1))
      | (go_at_call 62; (have _t := tok2; (with_reducible refine (rlow_any R_a.out (by omega) R_ad.out (by omega) (Nat.le_refl _) e_d.out).mono ?_); rintro e w2 ⟨A_d, c_d, rfl, R_d, hb⟩; replace R_a := hide (Rd.then_ R_a.out hb); replace R_ad := hide (Rd.then_ R_ad.out hb); replace R_z := hide (Rd.then_ R_z.out hb); have U3 : Below W.heap.size W w2 := Below.then_ U2 hb; replace B := hide (Below.then_ B.out hb); have K3 : KeptBut (w.heap.size + 1) (w.heap.size + 1) W.heap.size W w2 := KeptBut.below U3; replace R_d := hide R_d; clear hb; have tok3 : True := trivial; clear _t tok2))
      | (go_at_call 57; (have _t := tok3; (with_reducible refine (reduce_any R_z.out gz.out R_d.out gd.out (Nat.le_refl _) hd.out e_q.out).mono ?_); rintro e w3 ⟨A_q, c_q, A_qd, c_qd, rfl, R_q, R_qd, hb⟩; replace R_a := hide (Rd.then_ R_a.out hb); replace R_ad := hide (Rd.then_ R_ad.out hb); replace R_z := hide (Rd.then_ R_z.out hb); replace R_d := hide (Rd.then_ R_d.out hb); have U4 : Below W.heap.size W w3 := Below.then_ U3 hb; replace B := hide (Below.then_ B.out hb); have K4 : KeptBut (w.heap.size + 1) (w.heap.size + 1) W.heap.size W w3 := KeptBut.below U4; replace R_q := hide R_q; replace R_qd := hide R_qd; clear hb; have tok4 : True := trivial; clear _t tok3)))
  clear tok4
  clear k_a0 k_a1 k_a2
  go_wp2
  exact bodyPost_ret (v := .agg #[.bool (zneg q.num), .slice A_q (dig (zmag q.num)).length c_q, .slice A_qd (dig q.den).length c_qd]) (by simp [results, Try.results21, go_sem, c_r00 _ U4, c_r01 _ U4, c_r02 _ U4]) rfl (RetRat.box B.out (by omega) (c_r00 _ U4) (c_r01 _ U4) (c_r02 _ U4) R_q.out R_qd.out)

set_option maxHeartbeats 4000000 in
theorem rsign3_any {w : World} {Bd : Nat} {A_a : Option Addr} {n_a c_a : Nat} {x_a : List Nat} {s_a : Bool} {A_ad : Option Addr} {n_ad c_ad : Nat} {x_ad : List Nat} (h_a : Rd w Bd A_a n_a c_a x_a) (g_a : n_a ≤ 1000000000) (h_ad : Rd w Bd A_ad n_ad c_ad x_ad) (g_ad : n_ad ≤ 1000000000) (hB : Bd ≤ w.heap.size) {k : Int} (hk : sgn (qv s_a (val x_a) (val x_ad)).num = k) :
    Calls Try.prog 27 #[.agg #[.bool s_a, .slice A_a n_a c_a, .slice A_ad n_ad c_ad]] w (RetB w (.int .i64 k)) := by
  obtain ⟨z, e_z⟩ : ∃ v, tp s_a (val x_a) (val x_ad) = v := ⟨_, rfl⟩
  replace e_z := hide e_z
  obtain ⟨d, e_d⟩ : ∃ v, lw (val x_ad) = v := ⟨_, rfl⟩
  replace e_d := hide e_d
  have l_z : zmag z < pw n_a := by rw [← e_z.out]; exact tp_lt h_a.lt
  replace l_z := hide l_z
  have l_d : d < pw (n_ad + 1) := by rw [← e_d.out]; exact lw_lt h_ad.lt
  replace l_d := hide l_d
  have q_a : mkRat z d = qv s_a (val x_a) (val x_ad) := by rw [← e_z.out, ← e_d.out, qv_tp]
  replace q_a := hide q_a
  have n_d : d ≠ 0 := by rw [← e_d.out]; exact lw_ne _
  replace n_d := hide n_d
  have e_k : sgn (iv (zneg z) (val (dig (zmag z)))) = k := by rw [ivz, ← hk, ← q_a.out, sgn_mk n_d.out]
  replace e_k := hide e_k
  clear hk
  obtain ⟨W, hW⟩ : ∃ W, W = (w.alloc (.cells #[.bool s_a, .slice A_a n_a c_a, .slice A_ad n_ad c_ad] 27)) := ⟨_, rfl⟩
  have b_a : Box3 W (w.heap.size) (.bool s_a) (.slice A_a n_a c_a) (.slice A_ad n_ad c_ad) := by rw [hW]; exact (Box3.new w _ _ _ rfl)
  have hwW : Below w.heap.size w W := by rw [hW]; exact ((Below.refl _ _).alloc (Nat.le_refl _) _)
  have R_a := hide (Rd.upto h_a hwW hB)
  clear h_a
  have R_ad := hide (Rd.upto h_ad hwW hB)
  clear h_ad
  have B := hide hwW
  clear hwW
  clear hB
  have U0 : Below W.heap.size W W := Below.refl _ _
  have c_a0 := b_a.at0 b_a.lt_size (Nat.le_refl _)
  have c_a1 := b_a.at1 b_a.lt_size (Nat.le_refl _)
  have c_a2 := b_a.at2 b_a.lt_size (Nat.le_refl _)
  replace b_a := hide b_a
  go_enter Try.func27, Try.ntmps27
  go_wp2_with fail
  rw [← hW]
  clear hW
  refine (top_any R_a.out (by omega) R_ad.out (by omega) (Nat.le_refl _) e_z.out).mono ?_
  rintro e w1 ⟨A_z, c_z, rfl, R_z, hb⟩
  replace R_a := hide (Rd.then_ R_a.out hb)
  replace R_ad := hide (Rd.then_ R_ad.out hb)
  have U1 : Below W.heap.size W w1 := Below.then_ U0 hb
  replace B := hide (Below.then_ B.out hb)
  replace R_z := hide R_z
  clear hb
  go_wp2_with fail
  refine (risign_any _ _ _ _ _ _ _ R_z.out (Nat.le_refl _)).mono ?_
  rw [e_k.out]
  rintro e w2 ⟨rfl, hb⟩
  replace R_a := hide (Rd.then_ R_a.out hb)
  replace R_ad := hide (Rd.then_ R_ad.out hb)
  replace R_z := hide (Rd.then_ R_z.out hb)
  have U2 : Below W.heap.size W w2 := Below.then_ U1 hb
  replace B := hide (Below.then_ B.out hb)
  clear hb
  go_wp2
  go_ret
  exact ⟨rfl, B.out⟩

set_option maxHeartbeats 4000000 in
theorem rneg3_any {w : World} {Bd : Nat} {A_a : Option Addr} {n_a c_a : Nat} {x_a : List Nat} {s_a : Bool} {A_ad : Option Addr} {n_ad c_ad : Nat} {x_ad : List Nat} (h_a : Rd w Bd A_a n_a c_a x_a) (g_a : n_a ≤ 1000000000) (h_ad : Rd w Bd A_ad n_ad c_ad x_ad) (g_ad : n_ad ≤ 1000000000) (hB : Bd ≤ w.heap.size) {q : Rat} (hq : -qv s_a (val x_a) (val x_ad) = q) :
    Calls Try.prog 23 #[.agg #[.bool s_a, .slice A_a n_a c_a, .slice A_ad n_ad c_ad]] w (RetRat w q) := by
  obtain ⟨z, e_z⟩ : ∃ v, tp s_a (val x_a) (val x_ad) = v := ⟨_, rfl⟩
  replace e_z := hide e_z
  obtain ⟨d, e_d⟩ : ∃ v, lw (val x_ad) = v := ⟨_, rfl⟩
  replace e_d := hide e_d
  have l_z : zmag z < pw n_a := by rw [← e_z.out]; exact tp_lt h_a.lt
  replace l_z := hide l_z
  have l_d : d < pw (n_ad + 1) := by rw [← e_d.out]; exact lw_lt h_ad.lt
  replace l_d := hide l_d
  have q_a : mkRat z d = qv s_a (val x_a) (val x_ad) := by rw [← e_z.out, ← e_d.out, qv_tp]
  replace q_a := hide q_a
  have n_d : d ≠ 0 := by rw [← e_d.out]; exact lw_ne _
  replace n_d := hide n_d
  obtain ⟨y, e_y⟩ : ∃ v, -iv (zneg z) (val (dig (zmag z))) = v := ⟨_, rfl⟩
  replace e_y := hide e_y
  have e_q : qv (zneg y) (val (dig (zmag y))) (val (dig d)) = q := by rw [qvz, ← e_y.out, ivz, ← mk_neg, q_a.out]; exact hq
  replace e_q := hide e_q
  have gy : (dig (zmag y)).length ≤ 10000000000 := by rw [← e_y.out, ivz]; have := zl (zl_neg l_z.out); omega
  replace gy := hide gy
  have gd : (dig d).length ≤ 10000000000 := by have := dl l_d.out; omega
  replace gd := hide gd
  have hd : val (dig d) ≠ 0 := by rw [val_dig]; exact n_d.out
  replace hd := hide hd
  clear hq
  obtain ⟨W, hW⟩ : ∃ W, W = ((w.alloc (.cells #[.bool s_a, .slice A_a n_a c_a, .slice A_ad n_ad c_ad] 27)).alloc (.cells #[.bool false, .slice none 0 0, .slice none 0 0] 27)) := ⟨_, rfl⟩
  have b_a : Box3 W (w.heap.size) (.bool s_a) (.slice A_a n_a c_a) (.slice A_ad n_ad c_ad) := by rw [hW]; exact ((Box3.new w _ _ _ rfl).al _)
  have b_r0 : Box3 W (w.heap.size + 1) (.bool false) (.slice none 0 0) (.slice none 0 0) := by rw [hW]; exact (Box3.new _ _ _ _ (by simp))
  have hwW : Below w.heap.size w W := by rw [hW]; exact (((Below.refl _ _).alloc (Nat.le_refl _) _).alloc (by simp) _)
  have R_a := hide (Rd.upto h_a hwW hB)
  clear h_a
  have R_ad := hide (Rd.upto h_ad hwW hB)
  clear h_ad
  have B := hide hwW
  clear hwW
  clear hB
  have U0 : Below W.heap.size W W := Below.refl _ _
  have c_a0 := b_a.at0 b_a.lt_size (Nat.le_refl _)
  have c_a1 := b_a.at1 b_a.lt_size (Nat.le_refl _)
  have c_a2 := b_a.at2 b_a.lt_size (Nat.le_refl _)
  replace b_a := hide b_a
  have c_r00 := b_r0.at0 b_r0.lt_size (Nat.le_refl _)
  have c_r01 := b_r0.at1 b_r0.lt_size (Nat.le_refl _)
  have c_r02 := b_r0.at2 b_r0.lt_size (Nat.le_refl _)
  have f_r00 := b_r0.free0 b_r0.lt_size (Nat.le_refl _)
  have f_r01 := b_r0.free1 b_r0.lt_size (Nat.le_refl _)
  have f_r02 := b_r0.free2 b_r0.lt_size (Nat.le_refl _)
  have l_r0 := b_r0.lt b_r0.lt_size (Nat.le_refl _)
  replace b_r0 := hide b_r0
  go_enter Try.func23, Try.ntmps23
  go_wp2_with fail
  rw [← hW]
  clear hW
  have k_a0 := b_a.out.but0 (g1 := w.heap.size + 1) (g2 := w.heap.size + 1) (by omega) (by omega)
  have k_a1 := b_a.out.but1 (g1 := w.heap.size + 1) (g2 := w.heap.size + 1) (by omega) (by omega)
  have k_a2 := b_a.out.but2 (g1 := w.heap.size + 1) (g2 := w.heap.size + 1) (by omega) (by omega)
  have hd := Below.drw_ W
  replace R_a := hide (Rd.then_ R_a.out hd)
  replace R_ad := hide (Rd.then_ R_ad.out hd)
  have U1 : Below W.heap.size W (W.drew) := Below.then_ U0 hd
  replace B := hide (Below.then_ B.out hd)
  have K1 : KeptBut (w.heap.size + 1) (w.heap.size + 1) W.heap.size W (W.drew) := KeptBut.below U1
  clear hd
  have tok1 : True := trivial
  go_region_held3 (fun w' => KeptBut (w.heap.size + 1) (w.heap.size + 1) W.heap.size W w') (first | assumption | (with_reducible exact KeptBut.drw _) | ((repeat (first | (with_reducible refine KeptBut.set0 ?_ _) | (with_reducible refine KeptBut.drew_ ?_))); first | assumption | (with_reducible exact KeptBut.refl _ _ _ _)))
    (first
      | (go_at_call 60; (have _t := tok1; (with_reducible refine (top_any R_a.out (by omega) R_ad.out (by omega) (Nat.le_refl _) e_z.out).mono ?_); rintro e w1 ⟨A_z, c_z, rfl, R_z, hb⟩; replace R_a := hide (Rd.then_ R_a.out hb); replace R_ad := hide (Rd.then_ R_ad.out hb); have U2 : Below W.heap.size W w1 := Below.then_ U1 hb; replace B := hide (Below.then_ B.out hb); have K2 : KeptBut (w.heap.size + 1) (w.heap.size + 1) W.heap.size W w1 := KeptBut.below U2; replace R_z := hide R_z; clear hb; have tok2 : True := trivial; clear _t tok1))
      | (go_at_call 56; (have _t := tok2; (with_reducible refine (rineg_any _ _ _ _ _ _ _ R_z.out (Nat.le_refl _)).mono ?_); rw [e_y.out]; rintro e w2 ⟨A_y, c_y, rfl, R_y, hb⟩; replace R_a := hide (Rd.then_ R_a.out hb); replace R_ad := hide (Rd.then_ R_ad.out hb); replace R_z := hide (Rd.then_ R_z.out hb); have U3 : Below W.heap.size W w2 := Below.then_ U2 hb; replace B := hide (Below.then_ B.out hb); have K3 : KeptBut (w.heap.size + 1) (w.heap.size + 1) W.heap.size W w2 := KeptBut.below U3; replace R_y := hide R_y; clear hb; have tok3 : True := trivial; clear _t tok2))
      | (go_at_call 62; (have _t := tok3; (with_reducible refine (rlow_any R_a.out (by omega) R_ad.out (by omega) (Nat.le_refl _) e_d.out).mono ?_); rintro e w3 ⟨A_d, c_d, rfl, R_d, hb⟩; replace R_a := hide (Rd.then_ R_a.out hb); replace R_ad := hide (Rd.then_ R_ad.out hb); replace R_z := hide (Rd.then_ R_z.out hb); replace R_y := hide (Rd.then_ R_y.out hb); have U4 : Below W.heap.size W w3 := Below.then_ U3 hb; replace B := hide (Below.then_ B.out hb); have K4 : KeptBut (w.heap.size + 1) (w.heap.size + 1) W.heap.size W w3 := KeptBut.below U4; replace R_d := hide R_d; clear hb; have tok4 : True := trivial; clear _t tok3))
      | (go_at_call 57; (have _t := tok4; (with_reducible refine (reduce_any R_y.out gy.out R_d.out gd.out (Nat.le_refl _) hd.out e_q.out).mono ?_); rintro e w4 ⟨A_q, c_q, A_qd, c_qd, rfl, R_q, R_qd, hb⟩; replace R_a := hide (Rd.then_ R_a.out hb); replace R_ad := hide (Rd.then_ R_ad.out hb); replace R_z := hide (Rd.then_ R_z.out hb); replace R_y := hide (Rd.then_ R_y.out hb); replace R_d := hide (Rd.then_ R_d.out hb); have U5 : Below W.heap.size W w4 := Below.then_ U4 hb; replace B := hide (Below.then_ B.out hb); have K5 : KeptBut (w.heap.size + 1) (w.heap.size + 1) W.heap.size W w4 := KeptBut.below U5; replace R_q := hide R_q; replace R_qd := hide R_qd; clear hb; have tok5 : True := trivial; clear _t tok4)))
  clear tok5
  clear k_a0 k_a1 k_a2
  go_wp2
  exact bodyPost_ret (v := .agg #[.bool (zneg q.num), .slice A_q (dig (zmag q.num)).length c_q, .slice A_qd (dig q.den).length c_qd]) (by simp [results, Try.results23, go_sem, c_r00 _ U5, c_r01 _ U5, c_r02 _ U5]) rfl (RetRat.box B.out (by omega) (c_r00 _ U5) (c_r01 _ U5) (c_r02 _ U5) R_q.out R_qd.out)

set_option maxHeartbeats 4000000 in
theorem rmul3_any {w : World} {Bd : Nat} {A_a : Option Addr} {n_a c_a : Nat} {x_a : List Nat} {s_a : Bool} {A_ad : Option Addr} {n_ad c_ad : Nat} {x_ad : List Nat} {A_b : Option Addr} {n_b c_b : Nat} {x_b : List Nat} {s_b : Bool} {A_bd : Option Addr} {n_bd c_bd : Nat} {x_bd : List Nat} (h_a : Rd w Bd A_a n_a c_a x_a) (g_a : n_a ≤ 2000000000) (h_ad : Rd w Bd A_ad n_ad c_ad x_ad) (g_ad : n_ad ≤ 2000000000) (h_b : Rd w Bd A_b n_b c_b x_b) (g_b : n_b ≤ 2000000000) (h_bd : Rd w Bd A_bd n_bd c_bd x_bd) (g_bd : n_bd ≤ 2000000000) (hB : Bd ≤ w.heap.size) {q : Rat} (hq : qv s_a (val x_a) (val x_ad) * qv s_b (val x_b) (val x_bd) = q) :
    Calls Try.prog 38 #[.agg #[.bool s_a, .slice A_a n_a c_a, .slice A_ad n_ad c_ad], .agg #[.bool s_b, .slice A_b n_b c_b, .slice A_bd n_bd c_bd]] w (RetRat w q) := by
  obtain ⟨z1, e_z1⟩ : ∃ v, tp s_a (val x_a) (val x_ad) = v := ⟨_, rfl⟩
  replace e_z1 := hide e_z1
  obtain ⟨d1, e_d1⟩ : ∃ v, lw (val x_ad) = v := ⟨_, rfl⟩
  replace e_d1 := hide e_d1
  have l_z1 : zmag z1 < pw n_a := by rw [← e_z1.out]; exact tp_lt h_a.lt
  replace l_z1 := hide l_z1
  have l_d1 : d1 < pw (n_ad + 1) := by rw [← e_d1.out]; exact lw_lt h_ad.lt
  replace l_d1 := hide l_d1
  have q_a : mkRat z1 d1 = qv s_a (val x_a) (val x_ad) := by rw [← e_z1.out, ← e_d1.out, qv_tp]
  replace q_a := hide q_a
  have n_d1 : d1 ≠ 0 := by rw [← e_d1.out]; exact lw_ne _
  replace n_d1 := hide n_d1
  obtain ⟨z2, e_z2⟩ : ∃ v, tp s_b (val x_b) (val x_bd) = v := ⟨_, rfl⟩
  replace e_z2 := hide e_z2
  obtain ⟨d2, e_d2⟩ : ∃ v, lw (val x_bd) = v := ⟨_, rfl⟩
  replace e_d2 := hide e_d2
  have l_z2 : zmag z2 < pw n_b := by rw [← e_z2.out]; exact tp_lt h_b.lt
  replace l_z2 := hide l_z2
  have l_d2 : d2 < pw (n_bd + 1) := by rw [← e_d2.out]; exact lw_lt h_bd.lt
  replace l_d2 := hide l_d2
  have q_b : mkRat z2 d2 = qv s_b (val x_b) (val x_bd) := by rw [← e_z2.out, ← e_d2.out, qv_tp]
  replace q_b := hide q_b
  have n_d2 : d2 ≠ 0 := by rw [← e_d2.out]; exact lw_ne _
  replace n_d2 := hide n_d2
  obtain ⟨z3, e_z3⟩ : ∃ v, iv (zneg z1) (val (dig (zmag z1))) * iv (zneg z2) (val (dig (zmag z2))) = v := ⟨_, rfl⟩
  replace e_z3 := hide e_z3
  obtain ⟨d3, e_d3⟩ : ∃ v, val (dig d1) * val (dig d2) = v := ⟨_, rfl⟩
  replace e_d3 := hide e_d3
  have e_q : qv (zneg z3) (val (dig (zmag z3))) (val (dig d3)) = q := by rw [qvz, ← hq, ← q_a.out, ← q_b.out, mk_mul, ← e_z3.out, ← e_d3.out, ivz, ivz, val_dig, val_dig]
  replace e_q := hide e_q
  have gz3 : (dig (zmag z3)).length ≤ 10000000000 := by rw [← e_z3.out, ivz, ivz]; have := zl (zl_mul l_z1.out l_z2.out); omega
  replace gz3 := hide gz3
  have gd3 : (dig d3).length ≤ 10000000000 := by rw [← e_d3.out, val_dig, val_dig]; have := dl (lt_mul l_d1.out l_d2.out); omega
  replace gd3 := hide gd3
  have hd : val (dig d3) ≠ 0 := by rw [val_dig, ← e_d3.out, val_dig, val_dig]; exact Nat.mul_ne_zero n_d1.out n_d2.out
  replace hd := hide hd
  have g1 : (dig (zmag z1)).length + (dig (zmag z2)).length ≤ 70368744177664 := by have := zl l_z1.out; have := zl l_z2.out; omega
  replace g1 := hide g1
  have g2 : (dig d1).length ≤ 2000000001 ∧ (dig d2).length ≤ 2000000001 := by have := dl l_d1.out; have := dl l_d2.out; omega
  replace g2 := hide g2
  clear hq
  obtain ⟨W, hW⟩ : ∃ W, W = (((w.alloc (.cells #[.bool s_a, .slice A_a n_a c_a, .slice A_ad n_ad c_ad] 27)).alloc (.cells #[.bool s_b, .slice A_b n_b c_b, .slice A_bd n_bd c_bd] 27)).alloc (.cells #[.bool false, .slice none 0 0, .slice none 0 0] 27)) := ⟨_, rfl⟩
  have b_a : Box3 W (w.heap.size) (.bool s_a) (.slice A_a n_a c_a) (.slice A_ad n_ad c_ad) := by rw [hW]; exact (((Box3.new w _ _ _ rfl).al _).al _)
  have b_b : Box3 W (w.heap.size + 1) (.bool s_b) (.slice A_b n_b c_b) (.slice A_bd n_bd c_bd) := by rw [hW]; exact ((Box3.new _ _ _ _ (by simp)).al _)
  have b_r0 : Box3 W (w.heap.size + 1 + 1) (.bool false) (.slice none 0 0) (.slice none 0 0) := by rw [hW]; exact (Box3.new _ _ _ _ (by simp))
  have hwW : Below w.heap.size w W := by rw [hW]; exact ((((Below.refl _ _).alloc (Nat.le_refl _) _).alloc (by simp) _).alloc (by simp; omega) _)
  have R_a := hide (Rd.upto h_a hwW hB)
  clear h_a
  have R_ad := hide (Rd.upto h_ad hwW hB)
  clear h_ad
  have R_b := hide (Rd.upto h_b hwW hB)
  clear h_b
  have R_bd := hide (Rd.upto h_bd hwW hB)
  clear h_bd
  have B := hide hwW
  clear hwW
  clear hB
  have U0 : Below W.heap.size W W := Below.refl _ _
  have c_a0 := b_a.at0 b_a.lt_size (Nat.le_refl _)
  have c_a1 := b_a.at1 b_a.lt_size (Nat.le_refl _)
  have c_a2 := b_a.at2 b_a.lt_size (Nat.le_refl _)
  replace b_a := hide b_a
  have c_b0 := b_b.at0 b_b.lt_size (Nat.le_refl _)
  have c_b1 := b_b.at1 b_b.lt_size (Nat.le_refl _)
  have c_b2 := b_b.at2 b_b.lt_size (Nat.le_refl _)
  replace b_b := hide b_b
  have c_r00 := b_r0.at0 b_r0.lt_size (Nat.le_refl _)
  have c_r01 := b_r0.at1 b_r0.lt_size (Nat.le_refl _)
  have c_r02 := b_r0.at2 b_r0.lt_size (Nat.le_refl _)
  have f_r00 := b_r0.free0 b_r0.lt_size (Nat.le_refl _)
  have f_r01 := b_r0.free1 b_r0.lt_size (Nat.le_refl _)
  have f_r02 := b_r0.free2 b_r0.lt_size (Nat.le_refl _)
  have l_r0 := b_r0.lt b_r0.lt_size (Nat.le_refl _)
  replace b_r0 := hide b_r0
  go_enter Try.func38, Try.ntmps38
  go_wp2_with fail
  rw [← hW]
  clear hW
  have k_a0 := b_a.out.but0 (g1 := w.heap.size + 1 + 1) (g2 := w.heap.size + 1 + 1) (by omega) (by omega)
  have k_a1 := b_a.out.but1 (g1 := w.heap.size + 1 + 1) (g2 := w.heap.size + 1 + 1) (by omega) (by omega)
  have k_a2 := b_a.out.but2 (g1 := w.heap.size + 1 + 1) (g2 := w.heap.size + 1 + 1) (by omega) (by omega)
  have k_b0 := b_b.out.but0 (g1 := w.heap.size + 1 + 1) (g2 := w.heap.size + 1 + 1) (by omega) (by omega)
  have k_b1 := b_b.out.but1 (g1 := w.heap.size + 1 + 1) (g2 := w.heap.size + 1 + 1) (by omega) (by omega)
  have k_b2 := b_b.out.but2 (g1 := w.heap.size + 1 + 1) (g2 := w.heap.size + 1 + 1) (by omega) (by omega)
  have hd := Below.drw_ W
  replace R_a := hide (Rd.then_ R_a.out hd)
  replace R_ad := hide (Rd.then_ R_ad.out hd)
  replace R_b := hide (Rd.then_ R_b.out hd)
  replace R_bd := hide (Rd.then_ R_bd.out hd)
  have U1 : Below W.heap.size W (W.drew) := Below.then_ U0 hd
  replace B := hide (Below.then_ B.out hd)
  have K1 : KeptBut (w.heap.size + 1 + 1) (w.heap.size + 1 + 1) W.heap.size W (W.drew) := KeptBut.below U1
  clear hd
  have tok1 : True := trivial
  go_region_held3 (fun w' => KeptBut (w.heap.size + 1 + 1) (w.heap.size + 1 + 1) W.heap.size W w') (first | assumption | (with_reducible exact KeptBut.drw _) | ((repeat (first | (with_reducible refine KeptBut.set0 ?_ _) | (with_reducible refine KeptBut.drew_ ?_))); first | assumption | (with_reducible exact KeptBut.refl _ _ _ _)))
    (first
      | (go_at_call 60; (have _t := tok1; (with_reducible refine (top_any R_a.out (by omega) R_ad.out (by omega) (Nat.le_refl _) e_z1.out).mono ?_); rintro e w1 ⟨A_z1, c_z1, rfl, R_z1, hb⟩; replace R_a := hide (Rd.then_ R_a.out hb); replace R_ad := hide (Rd.then_ R_ad.out hb); replace R_b := hide (Rd.then_ R_b.out hb); replace R_bd := hide (Rd.then_ R_bd.out hb); have U2 : Below W.heap.size W w1 := Below.then_ U1 hb; replace B := hide (Below.then_ B.out hb); have K2 : KeptBut (w.heap.size + 1 + 1) (w.heap.size + 1 + 1) W.heap.size W w1 := KeptBut.below U2; replace R_z1 := hide R_z1; clear hb; have tok2 : True := trivial; clear _t tok1))
      | (go_at_call 60; (have _t := tok2; (with_reducible refine (top_any R_b.out (by omega) R_bd.out (by omega) (Nat.le_refl _) e_z2.out).mono ?_); rintro e w2 ⟨A_z2, c_z2, rfl, R_z2, hb⟩; replace R_a := hide (Rd.then_ R_a.out hb); replace R_ad := hide (Rd.then_ R_ad.out hb); replace R_b := hide (Rd.then_ R_b.out hb); replace R_bd := hide (Rd.then_ R_bd.out hb); replace R_z1 := hide (Rd.then_ R_z1.out hb); have U3 : Below W.heap.size W w2 := Below.then_ U2 hb; replace B := hide (Below.then_ B.out hb); have K3 : KeptBut (w.heap.size + 1 + 1) (w.heap.size + 1 + 1) W.heap.size W w2 := KeptBut.below U3; replace R_z2 := hide R_z2; clear hb; have tok3 : True := trivial; clear _t tok2))
      | (go_at_call 75; (have _t := tok3; (with_reducible refine (rimul_any _ _ _ _ _ _ _ _ _ _ _ _ R_z1.out R_z2.out (Nat.le_refl _) g1.out).mono ?_); rw [e_z3.out]; rintro e w3 ⟨A_z3, c_z3, rfl, R_z3, hb⟩; replace R_a := hide (Rd.then_ R_a.out hb); replace R_ad := hide (Rd.then_ R_ad.out hb); replace R_b := hide (Rd.then_ R_b.out hb); replace R_bd := hide (Rd.then_ R_bd.out hb); replace R_z1 := hide (Rd.then_ R_z1.out hb); replace R_z2 := hide (Rd.then_ R_z2.out hb); have U4 : Below W.heap.size W w3 := Below.then_ U3 hb; replace B := hide (Below.then_ B.out hb); have K4 : KeptBut (w.heap.size + 1 + 1) (w.heap.size + 1 + 1) W.heap.size W w3 := KeptBut.below U4; replace R_z3 := hide R_z3; clear hb; have tok4 : True := trivial; clear _t tok3))
      | (go_at_call 62; (have _t := tok4; (with_reducible refine (rlow_any R_a.out (by omega) R_ad.out (by omega) (Nat.le_refl _) e_d1.out).mono ?_); rintro e w4 ⟨A_d1, c_d1, rfl, R_d1, hb⟩; replace R_a := hide (Rd.then_ R_a.out hb); replace R_ad := hide (Rd.then_ R_ad.out hb); replace R_b := hide (Rd.then_ R_b.out hb); replace R_bd := hide (Rd.then_ R_bd.out hb); replace R_z1 := hide (Rd.then_ R_z1.out hb); replace R_z2 := hide (Rd.then_ R_z2.out hb); replace R_z3 := hide (Rd.then_ R_z3.out hb); have U5 : Below W.heap.size W w4 := Below.then_ U4 hb; replace B := hide (Below.then_ B.out hb); have K5 : KeptBut (w.heap.size + 1 + 1) (w.heap.size + 1 + 1) W.heap.size W w4 := KeptBut.below U5; replace R_d1 := hide R_d1; clear hb; have tok5 : True := trivial; clear _t tok4))
      | (go_at_call 62; (have _t := tok5; (with_reducible refine (rlow_any R_b.out (by omega) R_bd.out (by omega) (Nat.le_refl _) e_d2.out).mono ?_); rintro e w5 ⟨A_d2, c_d2, rfl, R_d2, hb⟩; replace R_a := hide (Rd.then_ R_a.out hb); replace R_ad := hide (Rd.then_ R_ad.out hb); replace R_b := hide (Rd.then_ R_b.out hb); replace R_bd := hide (Rd.then_ R_bd.out hb); replace R_z1 := hide (Rd.then_ R_z1.out hb); replace R_z2 := hide (Rd.then_ R_z2.out hb); replace R_z3 := hide (Rd.then_ R_z3.out hb); replace R_d1 := hide (Rd.then_ R_d1.out hb); have U6 : Below W.heap.size W w5 := Below.then_ U5 hb; replace B := hide (Below.then_ B.out hb); have K6 : KeptBut (w.heap.size + 1 + 1) (w.heap.size + 1 + 1) W.heap.size W w5 := KeptBut.below U6; replace R_d2 := hide R_d2; clear hb; have tok6 : True := trivial; clear _t tok5))
      | (go_at_call 79; (have _t := tok6; (with_reducible refine (rmul_any _ _ _ _ _ _ _ _ _ _ R_d1.out R_d2.out (Nat.le_refl _) (by have := g2.out; omega)).mono ?_); rw [e_d3.out]; rintro e w6 ⟨A_d3, c_d3, rfl, R_d3, hb⟩; replace R_a := hide (Rd.then_ R_a.out hb); replace R_ad := hide (Rd.then_ R_ad.out hb); replace R_b := hide (Rd.then_ R_b.out hb); replace R_bd := hide (Rd.then_ R_bd.out hb); replace R_z1 := hide (Rd.then_ R_z1.out hb); replace R_z2 := hide (Rd.then_ R_z2.out hb); replace R_z3 := hide (Rd.then_ R_z3.out hb); replace R_d1 := hide (Rd.then_ R_d1.out hb); replace R_d2 := hide (Rd.then_ R_d2.out hb); have U7 : Below W.heap.size W w6 := Below.then_ U6 hb; replace B := hide (Below.then_ B.out hb); have K7 : KeptBut (w.heap.size + 1 + 1) (w.heap.size + 1 + 1) W.heap.size W w6 := KeptBut.below U7; replace R_d3 := hide R_d3; clear hb; have tok7 : True := trivial; clear _t tok6))
      | (go_at_call 57; (have _t := tok7; (with_reducible refine (reduce_any R_z3.out gz3.out R_d3.out gd3.out (Nat.le_refl _) hd.out e_q.out).mono ?_); rintro e w7 ⟨A_q, c_q, A_qd, c_qd, rfl, R_q, R_qd, hb⟩; replace R_a := hide (Rd.then_ R_a.out hb); replace R_ad := hide (Rd.then_ R_ad.out hb); replace R_b := hide (Rd.then_ R_b.out hb); replace R_bd := hide (Rd.then_ R_bd.out hb); replace R_z1 := hide (Rd.then_ R_z1.out hb); replace R_z2 := hide (Rd.then_ R_z2.out hb); replace R_z3 := hide (Rd.then_ R_z3.out hb); replace R_d1 := hide (Rd.then_ R_d1.out hb); replace R_d2 := hide (Rd.then_ R_d2.out hb); replace R_d3 := hide (Rd.then_ R_d3.out hb); have U8 : Below W.heap.size W w7 := Below.then_ U7 hb; replace B := hide (Below.then_ B.out hb); have K8 : KeptBut (w.heap.size + 1 + 1) (w.heap.size + 1 + 1) W.heap.size W w7 := KeptBut.below U8; replace R_q := hide R_q; replace R_qd := hide R_qd; clear hb; have tok8 : True := trivial; clear _t tok7)))
  clear tok8
  clear k_a0 k_a1 k_a2
  clear k_b0 k_b1 k_b2
  go_wp2
  exact bodyPost_ret (v := .agg #[.bool (zneg q.num), .slice A_q (dig (zmag q.num)).length c_q, .slice A_qd (dig q.den).length c_qd]) (by simp [results, Try.results38, go_sem, c_r00 _ U8, c_r01 _ U8, c_r02 _ U8]) rfl (RetRat.box B.out (by omega) (c_r00 _ U8) (c_r01 _ U8) (c_r02 _ U8) R_q.out R_qd.out)

set_option maxHeartbeats 4000000 in
theorem rabs_neg {w : World} {Bd : Nat} {A_a : Option Addr} {n_a c_a : Nat} {x_a : List Nat} {s_a : Bool} {A_ad : Option Addr} {n_ad c_ad : Nat} {x_ad : List Nat} (h_a : Rd w Bd A_a n_a c_a x_a) (g_a : n_a ≤ 1000000000) (h_ad : Rd w Bd A_ad n_ad c_ad x_ad) (g_ad : n_ad ≤ 1000000000) (hB : Bd ≤ w.heap.size) {q : Rat} {k : Int} (hk : sgn (qv s_a (val x_a) (val x_ad)).num = k) (hk0 : decide (k < 0) = true) (hq : -qv s_a (val x_a) (val x_ad) = q) :
    Calls Try.prog 25 #[.agg #[.bool s_a, .slice A_a n_a c_a, .slice A_ad n_ad c_ad]] w (RetRat w q) := by
  replace hk := hide hk
  replace hq := hide hq
  obtain ⟨W, hW⟩ : ∃ W, W = ((w.alloc (.cells #[.bool s_a, .slice A_a n_a c_a, .slice A_ad n_ad c_ad] 27)).alloc (.cells #[.bool false, .slice none 0 0, .slice none 0 0] 27)) := ⟨_, rfl⟩
  have b_a : Box3 W (w.heap.size) (.bool s_a) (.slice A_a n_a c_a) (.slice A_ad n_ad c_ad) := by rw [hW]; exact ((Box3.new w _ _ _ rfl).al _)
  have b_r0 : Box3 W (w.heap.size + 1) (.bool false) (.slice none 0 0) (.slice none 0 0) := by rw [hW]; exact (Box3.new _ _ _ _ (by simp))
  have hwW : Below w.heap.size w W := by rw [hW]; exact (((Below.refl _ _).alloc (Nat.le_refl _) _).alloc (by simp) _)
  have R_a := hide (Rd.upto h_a hwW hB)
  clear h_a
  have R_ad := hide (Rd.upto h_ad hwW hB)
  clear h_ad
  have B := hide hwW
  clear hwW
  clear hB
  have U0 : Below W.heap.size W W := Below.refl _ _
  have c_a0 := b_a.at0 b_a.lt_size (Nat.le_refl _)
  have c_a1 := b_a.at1 b_a.lt_size (Nat.le_refl _)
  have c_a2 := b_a.at2 b_a.lt_size (Nat.le_refl _)
  replace b_a := hide b_a
  have c_r00 := b_r0.at0 b_r0.lt_size (Nat.le_refl _)
  have c_r01 := b_r0.at1 b_r0.lt_size (Nat.le_refl _)
  have c_r02 := b_r0.at2 b_r0.lt_size (Nat.le_refl _)
  have f_r00 := b_r0.free0 b_r0.lt_size (Nat.le_refl _)
  have f_r01 := b_r0.free1 b_r0.lt_size (Nat.le_refl _)
  have f_r02 := b_r0.free2 b_r0.lt_size (Nat.le_refl _)
  have l_r0 := b_r0.lt b_r0.lt_size (Nat.le_refl _)
  replace b_r0 := hide b_r0
  go_enter Try.func25, Try.ntmps25
  go_wp2_with fail
  rw [← hW]
  clear hW
  refine (rsign3_any R_a.out g_a R_ad.out g_ad (Nat.le_refl _) hk.out).mono ?_
  rintro e w1 ⟨rfl, hb⟩
  replace R_a := hide (Rd.then_ R_a.out hb)
  replace R_ad := hide (Rd.then_ R_ad.out hb)
  have U1 : Below W.heap.size W w1 := Below.then_ U0 hb
  replace B := hide (Below.then_ B.out hb)
  clear hb
  go_wp2_with fail
  refine (rneg3_any R_a.out g_a R_ad.out g_ad (Nat.le_refl _) hq.out).mono ?_
  rintro e w2 ⟨A_q, c_q, A_qd, c_qd, rfl, R_q, R_qd, hb⟩
  replace R_a := hide (Rd.then_ R_a.out hb)
  replace R_ad := hide (Rd.then_ R_ad.out hb)
  have U2 : Below W.heap.size W w2 := Below.then_ U1 hb
  replace B := hide (Below.then_ B.out hb)
  replace R_q := hide R_q
  replace R_qd := hide R_qd
  clear hb
  go_wp2
  exact bodyPost_ret (v := .agg #[.bool (zneg q.num), .slice A_q (dig (zmag q.num)).length c_q, .slice A_qd (dig q.den).length c_qd]) (by simp [results, Try.results25, go_sem, c_r00 _ U2, c_r01 _ U2, c_r02 _ U2]) rfl (RetRat.box B.out (by omega) (c_r00 _ U2) (c_r01 _ U2) (c_r02 _ U2) R_q.out R_qd.out)

set_option maxHeartbeats 4000000 in
theorem rabs_pos {w : World} {Bd : Nat} {A_a : Option Addr} {n_a c_a : Nat} {x_a : List Nat} {s_a : Bool} {A_ad : Option Addr} {n_ad c_ad : Nat} {x_ad : List Nat} (h_a : Rd w Bd A_a n_a c_a x_a) (g_a : n_a ≤ 1000000000) (h_ad : Rd w Bd A_ad n_ad c_ad x_ad) (g_ad : n_ad ≤ 1000000000) (hB : Bd ≤ w.heap.size) {q : Rat} {k : Int} (hk : sgn (qv s_a (val x_a) (val x_ad)).num = k) (hk0 : decide (k < 0) = false) (hq : qv s_a (val x_a) (val x_ad) = q) :
    Calls Try.prog 25 #[.agg #[.bool s_a, .slice A_a n_a c_a, .slice A_ad n_ad c_ad]] w (RetRat w q) := by
  replace hk := hide hk
  replace hq := hide hq
  obtain ⟨W, hW⟩ : ∃ W, W = ((w.alloc (.cells #[.bool s_a, .slice A_a n_a c_a, .slice A_ad n_ad c_ad] 27)).alloc (.cells #[.bool false, .slice none 0 0, .slice none 0 0] 27)) := ⟨_, rfl⟩
  have b_a : Box3 W (w.heap.size) (.bool s_a) (.slice A_a n_a c_a) (.slice A_ad n_ad c_ad) := by rw [hW]; exact ((Box3.new w _ _ _ rfl).al _)
  have b_r0 : Box3 W (w.heap.size + 1) (.bool false) (.slice none 0 0) (.slice none 0 0) := by rw [hW]; exact (Box3.new _ _ _ _ (by simp))
  have hwW : Below w.heap.size w W := by rw [hW]; exact (((Below.refl _ _).alloc (Nat.le_refl _) _).alloc (by simp) _)
  have R_a := hide (Rd.upto h_a hwW hB)
  clear h_a
  have R_ad := hide (Rd.upto h_ad hwW hB)
  clear h_ad
  have B := hide hwW
  clear hwW
  clear hB
  have U0 : Below W.heap.size W W := Below.refl _ _
  have c_a0 := b_a.at0 b_a.lt_size (Nat.le_refl _)
  have c_a1 := b_a.at1 b_a.lt_size (Nat.le_refl _)
  have c_a2 := b_a.at2 b_a.lt_size (Nat.le_refl _)
  replace b_a := hide b_a
  have c_r00 := b_r0.at0 b_r0.lt_size (Nat.le_refl _)
  have c_r01 := b_r0.at1 b_r0.lt_size (Nat.le_refl _)
  have c_r02 := b_r0.at2 b_r0.lt_size (Nat.le_refl _)
  have f_r00 := b_r0.free0 b_r0.lt_size (Nat.le_refl _)
  have f_r01 := b_r0.free1 b_r0.lt_size (Nat.le_refl _)
  have f_r02 := b_r0.free2 b_r0.lt_size (Nat.le_refl _)
  have l_r0 := b_r0.lt b_r0.lt_size (Nat.le_refl _)
  replace b_r0 := hide b_r0
  go_enter Try.func25, Try.ntmps25
  go_wp2_with fail
  rw [← hW]
  clear hW
  refine (rsign3_any R_a.out g_a R_ad.out g_ad (Nat.le_refl _) hk.out).mono ?_
  rintro e w1 ⟨rfl, hb⟩
  replace R_a := hide (Rd.then_ R_a.out hb)
  replace R_ad := hide (Rd.then_ R_ad.out hb)
  have U1 : Below W.heap.size W w1 := Below.then_ U0 hb
  replace B := hide (Below.then_ B.out hb)
  clear hb
  go_wp2_with fail
  refine (rnorm3_any R_a.out g_a R_ad.out g_ad (Nat.le_refl _) hq.out).mono ?_
  rintro e w2 ⟨A_q, c_q, A_qd, c_qd, rfl, R_q, R_qd, hb⟩
  replace R_a := hide (Rd.then_ R_a.out hb)
  replace R_ad := hide (Rd.then_ R_ad.out hb)
  have U2 : Below W.heap.size W w2 := Below.then_ U1 hb
  replace B := hide (Below.then_ B.out hb)
  replace R_q := hide R_q
  replace R_qd := hide R_qd
  clear hb
  go_wp2
  exact bodyPost_ret (v := .agg #[.bool (zneg q.num), .slice A_q (dig (zmag q.num)).length c_q, .slice A_qd (dig q.den).length c_qd]) (by simp [results, Try.results25, go_sem, c_r00 _ U2, c_r01 _ U2, c_r02 _ U2]) rfl (RetRat.box B.out (by omega) (c_r00 _ U2) (c_r01 _ U2) (c_r02 _ U2) R_q.out R_qd.out)

theorem rabs_any {w : World} {Bd : Nat} {A_a : Option Addr} {n_a c_a : Nat} {x_a : List Nat} {s_a : Bool} {A_ad : Option Addr} {n_ad c_ad : Nat} {x_ad : List Nat} (h_a : Rd w Bd A_a n_a c_a x_a) (g_a : n_a ≤ 1000000000) (h_ad : Rd w Bd A_ad n_ad c_ad x_ad) (g_ad : n_ad ≤ 1000000000) (hB : Bd ≤ w.heap.size) {q : Rat} (hq : qabs (qv s_a (val x_a) (val x_ad)) = q) :
    Calls Try.prog 25 #[.agg #[.bool s_a, .slice A_a n_a c_a, .slice A_ad n_ad c_ad]] w (RetRat w q) := by
  unfold qabs at hq
  by_cases hn : (qv s_a (val x_a) (val x_ad)).num < 0
  · rw [if_pos hn] at hq
    exact rabs_neg h_a g_a h_ad g_ad hB rfl (decide_eq_true (by rw [(sgn_neg_iff _).2 hn]; decide)) hq
  · rw [if_neg hn] at hq
    exact rabs_pos h_a g_a h_ad g_ad hB rfl (decide_eq_false (by have := sgn_neg_iff (qv s_a (val x_a) (val x_ad)).num; have := sgn_three (qv s_a (val x_a) (val x_ad)).num; omega)) hq

end Go.Proofs.Ytieopcchchebgaa

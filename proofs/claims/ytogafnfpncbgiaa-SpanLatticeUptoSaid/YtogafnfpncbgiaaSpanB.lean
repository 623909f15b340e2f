/-
  Has, Within, Width, Scale of span.
-/
import Derived.Test.YtogafnfpncbgiaaSpanA
namespace Go.Proofs.Ytogafnfpncbgiaa
open Go.RowKit


set_option maxHeartbeats 4000000 in
theorem has_in {w : World} {Bd : Nat} {L : Nat} (gL : L ≤ 100000000) {a0 : Rc} {q_a0 : Rat} {a1 : Rc} {q_a1 : Rat} {r : Rc} {q_r : Rat} (h_a0 : Rq w Bd L a0 q_a0) (h_a1 : Rq w Bd L a1 q_a1) (h_r : Rq w Bd L r q_r) (hB : Bd ≤ w.heap.size) {l h : Rat} (hl : rlo q_a0 q_a1 = l) (hh : rhi q_a0 q_a1 = h) (h1 : l ≤ q_r) (h2 : q_r ≤ h) :
    Calls Try.prog 8 #[.agg #[.bool a0.s, .slice a0.A a0.n a0.c, .slice a0.B a0.m a0.d, .bool a1.s, .slice a1.A a1.n a1.c, .slice a1.B a1.m a1.d], .agg #[.bool r.s, .slice r.A r.n r.c, .slice r.B r.m r.d]] w (RetB w (.bool true)) := by
  replace hl := hide hl
  replace hh := hide hh
  obtain ⟨k1, e_k1⟩ : ∃ k, sgn (l - q_r).num = k := ⟨_, rfl⟩
  have hk1 : decide (k1 ≤ 0) = true := by exact decide_eq_true (by rw [← e_k1]; exact cmp_le.2 h1)
  replace e_k1 := hide e_k1
  clear h1
  replace hk1 := hide hk1
  obtain ⟨k2, e_k2⟩ : ∃ k, sgn (q_r - h).num = k := ⟨_, rfl⟩
  have hk2 : decide (k2 ≤ 0) = true := by exact decide_eq_true (by rw [← e_k2]; exact cmp_le.2 h2)
  replace e_k2 := hide e_k2
  clear h2
  replace hk2 := hide hk2
  obtain ⟨W, hW⟩ : ∃ W, W = ((w.alloc (.cells #[.bool a0.s, .slice a0.A a0.n a0.c, .slice a0.B a0.m a0.d, .bool a1.s, .slice a1.A a1.n a1.c, .slice a1.B a1.m a1.d] 29)).alloc (.cells #[.bool r.s, .slice r.A r.n r.c, .slice r.B r.m r.d] 27)) := ⟨_, rfl⟩
  have b_a : Box6 W (w.heap.size) (.bool a0.s) (.slice a0.A a0.n a0.c) (.slice a0.B a0.m a0.d) (.bool a1.s) (.slice a1.A a1.n a1.c) (.slice a1.B a1.m a1.d) := by rw [hW]; exact ((Box6.new w _ _ _ _ _ _ rfl).al _)
  have b_r : Box3 W (w.heap.size + 1) (.bool r.s) (.slice r.A r.n r.c) (.slice r.B r.m r.d) := by rw [hW]; exact (Box3.new _ _ _ _ (by simp))
  have hwW : Below w.heap.size w W := by rw [hW]; exact (((Below.refl _ _).alloc (Nat.le_refl _) _).alloc (by simp) _)
  have R_a0 := hide (h_a0.upto hwW hB)
  clear h_a0
  have R_a1 := hide (h_a1.upto hwW hB)
  clear h_a1
  have R_r := hide (h_r.upto hwW hB)
  clear h_r
  have B := hide hwW
  clear hwW
  clear hB
  have U0 : Below W.heap.size W W := Below.refl _ _
  have c_a0 := b_a.at0 b_a.lt_size (Nat.le_refl _)
  have c_a1 := b_a.at1 b_a.lt_size (Nat.le_refl _)
  have c_a2 := b_a.at2 b_a.lt_size (Nat.le_refl _)
  have c_a3 := b_a.at3 b_a.lt_size (Nat.le_refl _)
  have c_a4 := b_a.at4 b_a.lt_size (Nat.le_refl _)
  have c_a5 := b_a.at5 b_a.lt_size (Nat.le_refl _)
  have f_a0 := b_a.free0 b_a.lt_size (Nat.le_refl _)
  have f_a1 := b_a.free1 b_a.lt_size (Nat.le_refl _)
  have f_a2 := b_a.free2 b_a.lt_size (Nat.le_refl _)
  have f_a3 := b_a.free3 b_a.lt_size (Nat.le_refl _)
  have f_a4 := b_a.free4 b_a.lt_size (Nat.le_refl _)
  have f_a5 := b_a.free5 b_a.lt_size (Nat.le_refl _)
  have l_a := b_a.lt b_a.lt_size (Nat.le_refl _)
  replace b_a := hide b_a
  have c_r0 := b_r.at0 b_r.lt_size (Nat.le_refl _)
  have c_r1 := b_r.at1 b_r.lt_size (Nat.le_refl _)
  have c_r2 := b_r.at2 b_r.lt_size (Nat.le_refl _)
  replace b_r := hide b_r
  go_enter Try.func8, Try.ntmps8
  go_wp2_with fail
  rw [← hW]
  clear hW
  refine (inorder_any gL R_a0.out R_a1.out (Nat.le_refl _) hl.out hh.out).mono ?_
  rintro e w1 ⟨x_x0, x_x1, rfl, R_x0, R_x1, hb⟩
  replace R_a0 := hide (R_a0.out.then_ hb)
  replace R_a1 := hide (R_a1.out.then_ hb)
  replace R_r := hide (R_r.out.then_ hb)
  have U1 : Below W.heap.size W w1 := Below.then_ U0 hb
  replace B := hide (Below.then_ B.out hb)
  replace R_x0 := hide R_x0
  replace R_x1 := hide R_x1
  clear hb
  go_wp2_with fail
  obtain ⟨V2, hV⟩ : ∃ V, V = ((((((w1.setCell ⟨w.heap.size, 0, none⟩ (.bool x_x0.s)).setCell ⟨w.heap.size, 1, none⟩ (.slice x_x0.A x_x0.n x_x0.c)).setCell ⟨w.heap.size, 2, none⟩ (.slice x_x0.B x_x0.m x_x0.d)).setCell ⟨w.heap.size, 3, none⟩ (.bool x_x1.s)).setCell ⟨w.heap.size, 4, none⟩ (.slice x_x1.A x_x1.n x_x1.c)).setCell ⟨w.heap.size, 5, none⟩ (.slice x_x1.B x_x1.m x_x1.d)) := ⟨_, rfl⟩
  rw [← hV]
  have b_a' : Box6 V2 (w.heap.size) (.bool x_x0.s) (.slice x_x0.A x_x0.n x_x0.c) (.slice x_x0.B x_x0.m x_x0.d) (.bool x_x1.s) (.slice x_x1.A x_x1.n x_x1.c) (.slice x_x1.B x_x1.m x_x1.d) := by rw [hV]; exact Box6.set (Box6.keep b_a.out U1) _ _ _ _ _ _ 
  have b_r' : Box3 V2 (w.heap.size + 1) (.bool r.s) (.slice r.A r.n r.c) (.slice r.B r.m r.d) := by rw [hV]; exact (Box3.other (Box3.other (Box3.other (Box3.other (Box3.other (Box3.other (Box3.keep b_r.out U1) (by omega) _) (by omega) _) (by omega) _) (by omega) _) (by omega) _) (by omega) _)
  replace R_a0 := hide (show Rq V2 V2.heap.size _ _ _ by rw [hV]; exact R_a0.out.set6  (c_a0 _ U1) (c_a1 _ U1) (c_a2 _ U1) (c_a3 _ U1) (c_a4 _ U1) (c_a5 _ U1) _ _ _ _ _ _ )
  replace R_a1 := hide (show Rq V2 V2.heap.size _ _ _ by rw [hV]; exact R_a1.out.set6  (c_a0 _ U1) (c_a1 _ U1) (c_a2 _ U1) (c_a3 _ U1) (c_a4 _ U1) (c_a5 _ U1) _ _ _ _ _ _ )
  replace R_r := hide (show Rq V2 V2.heap.size _ _ _ by rw [hV]; exact R_r.out.set6  (c_a0 _ U1) (c_a1 _ U1) (c_a2 _ U1) (c_a3 _ U1) (c_a4 _ U1) (c_a5 _ U1) _ _ _ _ _ _ )
  replace R_x0 := hide (show Rq V2 V2.heap.size _ _ _ by rw [hV]; exact R_x0.out.set6  (c_a0 _ U1) (c_a1 _ U1) (c_a2 _ U1) (c_a3 _ U1) (c_a4 _ U1) (c_a5 _ U1) _ _ _ _ _ _ )
  replace R_x1 := hide (show Rq V2 V2.heap.size _ _ _ by rw [hV]; exact R_x1.out.set6  (c_a0 _ U1) (c_a1 _ U1) (c_a2 _ U1) (c_a3 _ U1) (c_a4 _ U1) (c_a5 _ U1) _ _ _ _ _ _ )
  replace B : Hid (Below w.heap.size w V2) := hide (by rw [hV]; exact ((((((B.out.setCell (show w.heap.size ≤ w.heap.size by omega) _).setCell (show w.heap.size ≤ w.heap.size by omega) _).setCell (show w.heap.size ≤ w.heap.size by omega) _).setCell (show w.heap.size ≤ w.heap.size by omega) _).setCell (show w.heap.size ≤ w.heap.size by omega) _).setCell (show w.heap.size ≤ w.heap.size by omega) _))
  clear hV
  clear c_a0 c_a1 c_a2 c_a3 c_a4 c_a5 f_a0 f_a1 f_a2 f_a3 f_a4 f_a5 l_a
  replace b_a := hide b_a'
  clear b_a'
  clear c_r0 c_r1 c_r2
  replace b_r := hide b_r'
  clear b_r'
  have U3 : Below V2.heap.size V2 V2 := Below.refl _ _
  have c_a0 := b_a.out.at0 b_a.out.lt_size (Nat.le_refl _)
  have c_a1 := b_a.out.at1 b_a.out.lt_size (Nat.le_refl _)
  have c_a2 := b_a.out.at2 b_a.out.lt_size (Nat.le_refl _)
  have c_a3 := b_a.out.at3 b_a.out.lt_size (Nat.le_refl _)
  have c_a4 := b_a.out.at4 b_a.out.lt_size (Nat.le_refl _)
  have c_a5 := b_a.out.at5 b_a.out.lt_size (Nat.le_refl _)
  have f_a0 := b_a.out.free0 b_a.out.lt_size (Nat.le_refl _)
  have f_a1 := b_a.out.free1 b_a.out.lt_size (Nat.le_refl _)
  have f_a2 := b_a.out.free2 b_a.out.lt_size (Nat.le_refl _)
  have f_a3 := b_a.out.free3 b_a.out.lt_size (Nat.le_refl _)
  have f_a4 := b_a.out.free4 b_a.out.lt_size (Nat.le_refl _)
  have f_a5 := b_a.out.free5 b_a.out.lt_size (Nat.le_refl _)
  have l_a := b_a.out.lt b_a.out.lt_size (Nat.le_refl _)
  have c_r0 := b_r.out.at0 b_r.out.lt_size (Nat.le_refl _)
  have c_r1 := b_r.out.at1 b_r.out.lt_size (Nat.le_refl _)
  have c_r2 := b_r.out.at2 b_r.out.lt_size (Nat.le_refl _)
  replace hk1 := hk1.out
  replace hk2 := hk2.out
  refine (cmp_q R_x0.out (by omega) R_r.out (by omega) (Nat.le_refl _) e_k1.out).mono ?_
  rintro e w2 ⟨rfl, hb⟩
  replace R_a0 := hide (R_a0.out.then_ hb)
  replace R_a1 := hide (R_a1.out.then_ hb)
  replace R_r := hide (R_r.out.then_ hb)
  replace R_x0 := hide (R_x0.out.then_ hb)
  replace R_x1 := hide (R_x1.out.then_ hb)
  have U4 : Below V2.heap.size V2 w2 := Below.then_ U3 hb
  replace B := hide (Below.then_ B.out hb)
  clear hb
  go_wp2_with fail
  refine (cmp_q R_r.out (by omega) R_x1.out (by omega) (Nat.le_refl _) e_k2.out).mono ?_
  rintro e w3 ⟨rfl, hb⟩
  replace R_a0 := hide (R_a0.out.then_ hb)
  replace R_a1 := hide (R_a1.out.then_ hb)
  replace R_r := hide (R_r.out.then_ hb)
  replace R_x0 := hide (R_x0.out.then_ hb)
  replace R_x1 := hide (R_x1.out.then_ hb)
  have U5 : Below V2.heap.size V2 w3 := Below.then_ U4 hb
  replace B := hide (Below.then_ B.out hb)
  clear hb
  go_wp2
  go_ret
  exact ⟨by first | rfl | rw [hk2] | simp [hk2], B.out⟩

set_option maxHeartbeats 4000000 in
theorem has_above {w : World} {Bd : Nat} {L : Nat} (gL : L ≤ 100000000) {a0 : Rc} {q_a0 : Rat} {a1 : Rc} {q_a1 : Rat} {r : Rc} {q_r : Rat} (h_a0 : Rq w Bd L a0 q_a0) (h_a1 : Rq w Bd L a1 q_a1) (h_r : Rq w Bd L r q_r) (hB : Bd ≤ w.heap.size) {l h : Rat} (hl : rlo q_a0 q_a1 = l) (hh : rhi q_a0 q_a1 = h) (h1 : l ≤ q_r) (h2 : ¬ q_r ≤ h) :
    Calls Try.prog 8 #[.agg #[.bool a0.s, .slice a0.A a0.n a0.c, .slice a0.B a0.m a0.d, .bool a1.s, .slice a1.A a1.n a1.c, .slice a1.B a1.m a1.d], .agg #[.bool r.s, .slice r.A r.n r.c, .slice r.B r.m r.d]] w (RetB w (.bool false)) := by
  replace hl := hide hl
  replace hh := hide hh
  obtain ⟨k1, e_k1⟩ : ∃ k, sgn (l - q_r).num = k := ⟨_, rfl⟩
  have hk1 : decide (k1 ≤ 0) = true := by exact decide_eq_true (by rw [← e_k1]; exact cmp_le.2 h1)
  replace e_k1 := hide e_k1
  clear h1
  replace hk1 := hide hk1
  obtain ⟨k2, e_k2⟩ : ∃ k, sgn (q_r - h).num = k := ⟨_, rfl⟩
  have hk2 : decide (k2 ≤ 0) = false := by refine decide_eq_false ?_; rw [← e_k2, cmp_le]; exact h2
  replace e_k2 := hide e_k2
  clear h2
  replace hk2 := hide hk2
  obtain ⟨W, hW⟩ : ∃ W, W = ((w.alloc (.cells #[.bool a0.s, .slice a0.A a0.n a0.c, .slice a0.B a0.m a0.d, .bool a1.s, .slice a1.A a1.n a1.c, .slice a1.B a1.m a1.d] 29)).alloc (.cells #[.bool r.s, .slice r.A r.n r.c, .slice r.B r.m r.d] 27)) := ⟨_, rfl⟩
  have b_a : Box6 W (w.heap.size) (.bool a0.s) (.slice a0.A a0.n a0.c) (.slice a0.B a0.m a0.d) (.bool a1.s) (.slice a1.A a1.n a1.c) (.slice a1.B a1.m a1.d) := by rw [hW]; exact ((Box6.new w _ _ _ _ _ _ rfl).al _)
  have b_r : Box3 W (w.heap.size + 1) (.bool r.s) (.slice r.A r.n r.c) (.slice r.B r.m r.d) := by rw [hW]; exact (Box3.new _ _ _ _ (by simp))
  have hwW : Below w.heap.size w W := by rw [hW]; exact (((Below.refl _ _).alloc (Nat.le_refl _) _).alloc (by simp) _)
  have R_a0 := hide (h_a0.upto hwW hB)
  clear h_a0
  have R_a1 := hide (h_a1.upto hwW hB)
  clear h_a1
  have R_r := hide (h_r.upto hwW hB)
  clear h_r
  have B := hide hwW
  clear hwW
  clear hB
  have U0 : Below W.heap.size W W := Below.refl _ _
  have c_a0 := b_a.at0 b_a.lt_size (Nat.le_refl _)
  have c_a1 := b_a.at1 b_a.lt_size (Nat.le_refl _)
  have c_a2 := b_a.at2 b_a.lt_size (Nat.le_refl _)
  have c_a3 := b_a.at3 b_a.lt_size (Nat.le_refl _)
  have c_a4 := b_a.at4 b_a.lt_size (Nat.le_refl _)
  have c_a5 := b_a.at5 b_a.lt_size (Nat.le_refl _)
  have f_a0 := b_a.free0 b_a.lt_size (Nat.le_refl _)
  have f_a1 := b_a.free1 b_a.lt_size (Nat.le_refl _)
  have f_a2 := b_a.free2 b_a.lt_size (Nat.le_refl _)
  have f_a3 := b_a.free3 b_a.lt_size (Nat.le_refl _)
  have f_a4 := b_a.free4 b_a.lt_size (Nat.le_refl _)
  have f_a5 := b_a.free5 b_a.lt_size (Nat.le_refl _)
  have l_a := b_a.lt b_a.lt_size (Nat.le_refl _)
  replace b_a := hide b_a
  have c_r0 := b_r.at0 b_r.lt_size (Nat.le_refl _)
  have c_r1 := b_r.at1 b_r.lt_size (Nat.le_refl _)
  have c_r2 := b_r.at2 b_r.lt_size (Nat.le_refl _)
  replace b_r := hide b_r
  go_enter Try.func8, Try.ntmps8
  go_wp2_with fail
  rw [← hW]
  clear hW
  refine (inorder_any gL R_a0.out R_a1.out (Nat.le_refl _) hl.out hh.out).mono ?_
  rintro e w1 ⟨x_x0, x_x1, rfl, R_x0, R_x1, hb⟩
  replace R_a0 := hide (R_a0.out.then_ hb)
  replace R_a1 := hide (R_a1.out.then_ hb)
  replace R_r := hide (R_r.out.then_ hb)
  have U1 : Below W.heap.size W w1 := Below.then_ U0 hb
  replace B := hide (Below.then_ B.out hb)
  replace R_x0 := hide R_x0
  replace R_x1 := hide R_x1
  clear hb
  go_wp2_with fail
  obtain ⟨V2, hV⟩ : ∃ V, V = ((((((w1.setCell ⟨w.heap.size, 0, none⟩ (.bool x_x0.s)).setCell ⟨w.heap.size, 1, none⟩ (.slice x_x0.A x_x0.n x_x0.c)).setCell ⟨w.heap.size, 2, none⟩ (.slice x_x0.B x_x0.m x_x0.d)).setCell ⟨w.heap.size, 3, none⟩ (.bool x_x1.s)).setCell ⟨w.heap.size, 4, none⟩ (.slice x_x1.A x_x1.n x_x1.c)).setCell ⟨w.heap.size, 5, none⟩ (.slice x_x1.B x_x1.m x_x1.d)) := ⟨_, rfl⟩
  rw [← hV]
  have b_a' : Box6 V2 (w.heap.size) (.bool x_x0.s) (.slice x_x0.A x_x0.n x_x0.c) (.slice x_x0.B x_x0.m x_x0.d) (.bool x_x1.s) (.slice x_x1.A x_x1.n x_x1.c) (.slice x_x1.B x_x1.m x_x1.d) := by rw [hV]; exact Box6.set (Box6.keep b_a.out U1) _ _ _ _ _ _ 
  have b_r' : Box3 V2 (w.heap.size + 1) (.bool r.s) (.slice r.A r.n r.c) (.slice r.B r.m r.d) := by rw [hV]; exact (Box3.other (Box3.other (Box3.other (Box3.other (Box3.other (Box3.other (Box3.keep b_r.out U1) (by omega) _) (by omega) _) (by omega) _) (by omega) _) (by omega) _) (by omega) _)
  replace R_a0 := hide (show Rq V2 V2.heap.size _ _ _ by rw [hV]; exact R_a0.out.set6  (c_a0 _ U1) (c_a1 _ U1) (c_a2 _ U1) (c_a3 _ U1) (c_a4 _ U1) (c_a5 _ U1) _ _ _ _ _ _ )
  replace R_a1 := hide (show Rq V2 V2.heap.size _ _ _ by rw [hV]; exact R_a1.out.set6  (c_a0 _ U1) (c_a1 _ U1) (c_a2 _ U1) (c_a3 _ U1) (c_a4 _ U1) (c_a5 _ U1) _ _ _ _ _ _ )
  replace R_r := hide (show Rq V2 V2.heap.size _ _ _ by rw [hV]; exact R_r.out.set6  (c_a0 _ U1) (c_a1 _ U1) (c_a2 _ U1) (c_a3 _ U1) (c_a4 _ U1) (c_a5 _ U1) _ _ _ _ _ _ )
  replace R_x0 := hide (show Rq V2 V2.heap.size _ _ _ by rw [hV]; exact R_x0.out.set6  (c_a0 _ U1) (c_a1 _ U1) (c_a2 _ U1) (c_a3 _ U1) (c_a4 _ U1) (c_a5 _ U1) _ _ _ _ _ _ )
  replace R_x1 := hide (show Rq V2 V2.heap.size _ _ _ by rw [hV]; exact R_x1.out.set6  (c_a0 _ U1) (c_a1 _ U1) (c_a2 _ U1) (c_a3 _ U1) (c_a4 _ U1) (c_a5 _ U1) _ _ _ _ _ _ )
  replace B : Hid (Below w.heap.size w V2) := hide (by rw [hV]; exact ((((((B.out.setCell (show w.heap.size ≤ w.heap.size by omega) _).setCell (show w.heap.size ≤ w.heap.size by omega) _).setCell (show w.heap.size ≤ w.heap.size by omega) _).setCell (show w.heap.size ≤ w.heap.size by omega) _).setCell (show w.heap.size ≤ w.heap.size by omega) _).setCell (show w.heap.size ≤ w.heap.size by omega) _))
  clear hV
  clear c_a0 c_a1 c_a2 c_a3 c_a4 c_a5 f_a0 f_a1 f_a2 f_a3 f_a4 f_a5 l_a
  replace b_a := hide b_a'
  clear b_a'
  clear c_r0 c_r1 c_r2
  replace b_r := hide b_r'
  clear b_r'
  have U3 : Below V2.heap.size V2 V2 := Below.refl _ _
  have c_a0 := b_a.out.at0 b_a.out.lt_size (Nat.le_refl _)
  have c_a1 := b_a.out.at1 b_a.out.lt_size (Nat.le_refl _)
  have c_a2 := b_a.out.at2 b_a.out.lt_size (Nat.le_refl _)
  have c_a3 := b_a.out.at3 b_a.out.lt_size (Nat.le_refl _)
  have c_a4 := b_a.out.at4 b_a.out.lt_size (Nat.le_refl _)
  have c_a5 := b_a.out.at5 b_a.out.lt_size (Nat.le_refl _)
  have f_a0 := b_a.out.free0 b_a.out.lt_size (Nat.le_refl _)
  have f_a1 := b_a.out.free1 b_a.out.lt_size (Nat.le_refl _)
  have f_a2 := b_a.out.free2 b_a.out.lt_size (Nat.le_refl _)
  have f_a3 := b_a.out.free3 b_a.out.lt_size (Nat.le_refl _)
  have f_a4 := b_a.out.free4 b_a.out.lt_size (Nat.le_refl _)
  have f_a5 := b_a.out.free5 b_a.out.lt_size (Nat.le_refl _)
  have l_a := b_a.out.lt b_a.out.lt_size (Nat.le_refl _)
  have c_r0 := b_r.out.at0 b_r.out.lt_size (Nat.le_refl _)
  have c_r1 := b_r.out.at1 b_r.out.lt_size (Nat.le_refl _)
  have c_r2 := b_r.out.at2 b_r.out.lt_size (Nat.le_refl _)
  replace hk1 := hk1.out
  replace hk2 := hk2.out
  refine (cmp_q R_x0.out (by omega) R_r.out (by omega) (Nat.le_refl _) e_k1.out).mono ?_
  rintro e w2 ⟨rfl, hb⟩
  replace R_a0 := hide (R_a0.out.then_ hb)
  replace R_a1 := hide (R_a1.out.then_ hb)
  replace R_r := hide (R_r.out.then_ hb)
  replace R_x0 := hide (R_x0.out.then_ hb)
  replace R_x1 := hide (R_x1.out.then_ hb)
  have U4 : Below V2.heap.size V2 w2 := Below.then_ U3 hb
  replace B := hide (Below.then_ B.out hb)
  clear hb
  go_wp2_with fail
  refine (cmp_q R_r.out (by omega) R_x1.out (by omega) (Nat.le_refl _) e_k2.out).mono ?_
  rintro e w3 ⟨rfl, hb⟩
  replace R_a0 := hide (R_a0.out.then_ hb)
  replace R_a1 := hide (R_a1.out.then_ hb)
  replace R_r := hide (R_r.out.then_ hb)
  replace R_x0 := hide (R_x0.out.then_ hb)
  replace R_x1 := hide (R_x1.out.then_ hb)
  have U5 : Below V2.heap.size V2 w3 := Below.then_ U4 hb
  replace B := hide (Below.then_ B.out hb)
  clear hb
  go_wp2
  go_ret
  exact ⟨by first | rfl | rw [hk2] | simp [hk2], B.out⟩

set_option maxHeartbeats 4000000 in
theorem has_below {w : World} {Bd : Nat} {L : Nat} (gL : L ≤ 100000000) {a0 : Rc} {q_a0 : Rat} {a1 : Rc} {q_a1 : Rat} {r : Rc} {q_r : Rat} (h_a0 : Rq w Bd L a0 q_a0) (h_a1 : Rq w Bd L a1 q_a1) (h_r : Rq w Bd L r q_r) (hB : Bd ≤ w.heap.size) {l h : Rat} (hl : rlo q_a0 q_a1 = l) (hh : rhi q_a0 q_a1 = h) (h1 : ¬ l ≤ q_r) :
    Calls Try.prog 8 #[.agg #[.bool a0.s, .slice a0.A a0.n a0.c, .slice a0.B a0.m a0.d, .bool a1.s, .slice a1.A a1.n a1.c, .slice a1.B a1.m a1.d], .agg #[.bool r.s, .slice r.A r.n r.c, .slice r.B r.m r.d]] w (RetB w (.bool false)) := by
  replace hl := hide hl
  replace hh := hide hh
  obtain ⟨k1, e_k1⟩ : ∃ k, sgn (l - q_r).num = k := ⟨_, rfl⟩
  have hk1 : decide (k1 ≤ 0) = false := by refine decide_eq_false ?_; rw [← e_k1, cmp_le]; exact h1
  replace e_k1 := hide e_k1
  clear h1
  replace hk1 := hide hk1
  obtain ⟨W, hW⟩ : ∃ W, W = ((w.alloc (.cells #[.bool a0.s, .slice a0.A a0.n a0.c, .slice a0.B a0.m a0.d, .bool a1.s, .slice a1.A a1.n a1.c, .slice a1.B a1.m a1.d] 29)).alloc (.cells #[.bool r.s, .slice r.A r.n r.c, .slice r.B r.m r.d] 27)) := ⟨_, rfl⟩
  have b_a : Box6 W (w.heap.size) (.bool a0.s) (.slice a0.A a0.n a0.c) (.slice a0.B a0.m a0.d) (.bool a1.s) (.slice a1.A a1.n a1.c) (.slice a1.B a1.m a1.d) := by rw [hW]; exact ((Box6.new w _ _ _ _ _ _ rfl).al _)
  have b_r : Box3 W (w.heap.size + 1) (.bool r.s) (.slice r.A r.n r.c) (.slice r.B r.m r.d) := by rw [hW]; exact (Box3.new _ _ _ _ (by simp))
  have hwW : Below w.heap.size w W := by rw [hW]; exact (((Below.refl _ _).alloc (Nat.le_refl _) _).alloc (by simp) _)
  have R_a0 := hide (h_a0.upto hwW hB)
  clear h_a0
  have R_a1 := hide (h_a1.upto hwW hB)
  clear h_a1
  have R_r := hide (h_r.upto hwW hB)
  clear h_r
  have B := hide hwW
  clear hwW
  clear hB
  have U0 : Below W.heap.size W W := Below.refl _ _
  have c_a0 := b_a.at0 b_a.lt_size (Nat.le_refl _)
  have c_a1 := b_a.at1 b_a.lt_size (Nat.le_refl _)
  have c_a2 := b_a.at2 b_a.lt_size (Nat.le_refl _)
  have c_a3 := b_a.at3 b_a.lt_size (Nat.le_refl _)
  have c_a4 := b_a.at4 b_a.lt_size (Nat.le_refl _)
  have c_a5 := b_a.at5 b_a.lt_size (Nat.le_refl _)
  have f_a0 := b_a.free0 b_a.lt_size (Nat.le_refl _)
  have f_a1 := b_a.free1 b_a.lt_size (Nat.le_refl _)
  have f_a2 := b_a.free2 b_a.lt_size (Nat.le_refl _)
  have f_a3 := b_a.free3 b_a.lt_size (Nat.le_refl _)
  have f_a4 := b_a.free4 b_a.lt_size (Nat.le_refl _)
  have f_a5 := b_a.free5 b_a.lt_size (Nat.le_refl _)
  have l_a := b_a.lt b_a.lt_size (Nat.le_refl _)
  replace b_a := hide b_a
  have c_r0 := b_r.at0 b_r.lt_size (Nat.le_refl _)
  have c_r1 := b_r.at1 b_r.lt_size (Nat.le_refl _)
  have c_r2 := b_r.at2 b_r.lt_size (Nat.le_refl _)
  replace b_r := hide b_r
  go_enter Try.func8, Try.ntmps8
  go_wp2_with fail
  rw [← hW]
  clear hW
  refine (inorder_any gL R_a0.out R_a1.out (Nat.le_refl _) hl.out hh.out).mono ?_
  rintro e w1 ⟨x_x0, x_x1, rfl, R_x0, R_x1, hb⟩
  replace R_a0 := hide (R_a0.out.then_ hb)
  replace R_a1 := hide (R_a1.out.then_ hb)
  replace R_r := hide (R_r.out.then_ hb)
  have U1 : Below W.heap.size W w1 := Below.then_ U0 hb
  replace B := hide (Below.then_ B.out hb)
  replace R_x0 := hide R_x0
  replace R_x1 := hide R_x1
  clear hb
  go_wp2_with fail
  obtain ⟨V2, hV⟩ : ∃ V, V = ((((((w1.setCell ⟨w.heap.size, 0, none⟩ (.bool x_x0.s)).setCell ⟨w.heap.size, 1, none⟩ (.slice x_x0.A x_x0.n x_x0.c)).setCell ⟨w.heap.size, 2, none⟩ (.slice x_x0.B x_x0.m x_x0.d)).setCell ⟨w.heap.size, 3, none⟩ (.bool x_x1.s)).setCell ⟨w.heap.size, 4, none⟩ (.slice x_x1.A x_x1.n x_x1.c)).setCell ⟨w.heap.size, 5, none⟩ (.slice x_x1.B x_x1.m x_x1.d)) := ⟨_, rfl⟩
  rw [← hV]
  have b_a' : Box6 V2 (w.heap.size) (.bool x_x0.s) (.slice x_x0.A x_x0.n x_x0.c) (.slice x_x0.B x_x0.m x_x0.d) (.bool x_x1.s) (.slice x_x1.A x_x1.n x_x1.c) (.slice x_x1.B x_x1.m x_x1.d) := by rw [hV]; exact Box6.set (Box6.keep b_a.out U1) _ _ _ _ _ _ 
  have b_r' : Box3 V2 (w.heap.size + 1) (.bool r.s) (.slice r.A r.n r.c) (.slice r.B r.m r.d) := by rw [hV]; exact (Box3.other (Box3.other (Box3.other (Box3.other (Box3.other (Box3.other (Box3.keep b_r.out U1) (by omega) _) (by omega) _) (by omega) _) (by omega) _) (by omega) _) (by omega) _)
  replace R_a0 := hide (show Rq V2 V2.heap.size _ _ _ by rw [hV]; exact R_a0.out.set6  (c_a0 _ U1) (c_a1 _ U1) (c_a2 _ U1) (c_a3 _ U1) (c_a4 _ U1) (c_a5 _ U1) _ _ _ _ _ _ )
  replace R_a1 := hide (show Rq V2 V2.heap.size _ _ _ by rw [hV]; exact R_a1.out.set6  (c_a0 _ U1) (c_a1 _ U1) (c_a2 _ U1) (c_a3 _ U1) (c_a4 _ U1) (c_a5 _ U1) _ _ _ _ _ _ )
  replace R_r := hide (show Rq V2 V2.heap.size _ _ _ by rw [hV]; exact R_r.out.set6  (c_a0 _ U1) (c_a1 _ U1) (c_a2 _ U1) (c_a3 _ U1) (c_a4 _ U1) (c_a5 _ U1) _ _ _ _ _ _ )
  replace R_x0 := hide (show Rq V2 V2.heap.size _ _ _ by rw [hV]; exact R_x0.out.set6  (c_a0 _ U1) (c_a1 _ U1) (c_a2 _ U1) (c_a3 _ U1) (c_a4 _ U1) (c_a5 _ U1) _ _ _ _ _ _ )
  replace R_x1 := hide (show Rq V2 V2.heap.size _ _ _ by rw [hV]; exact R_x1.out.set6  (c_a0 _ U1) (c_a1 _ U1) (c_a2 _ U1) (c_a3 _ U1) (c_a4 _ U1) (c_a5 _ U1) _ _ _ _ _ _ )
  replace B : Hid (Below w.heap.size w V2) := hide (by rw [hV]; exact ((((((B.out.setCell (show w.heap.size ≤ w.heap.size by omega) _).setCell (show w.heap.size ≤ w.heap.size by omega) _).setCell (show w.heap.size ≤ w.heap.size by omega) _).setCell (show w.heap.size ≤ w.heap.size by omega) _).setCell (show w.heap.size ≤ w.heap.size by omega) _).setCell (show w.heap.size ≤ w.heap.size by omega) _))
  clear hV
  clear c_a0 c_a1 c_a2 c_a3 c_a4 c_a5 f_a0 f_a1 f_a2 f_a3 f_a4 f_a5 l_a
  replace b_a := hide b_a'
  clear b_a'
  clear c_r0 c_r1 c_r2
  replace b_r := hide b_r'
  clear b_r'
  have U3 : Below V2.heap.size V2 V2 := Below.refl _ _
  have c_a0 := b_a.out.at0 b_a.out.lt_size (Nat.le_refl _)
  have c_a1 := b_a.out.at1 b_a.out.lt_size (Nat.le_refl _)
  have c_a2 := b_a.out.at2 b_a.out.lt_size (Nat.le_refl _)
  have c_a3 := b_a.out.at3 b_a.out.lt_size (Nat.le_refl _)
  have c_a4 := b_a.out.at4 b_a.out.lt_size (Nat.le_refl _)
  have c_a5 := b_a.out.at5 b_a.out.lt_size (Nat.le_refl _)
  have f_a0 := b_a.out.free0 b_a.out.lt_size (Nat.le_refl _)
  have f_a1 := b_a.out.free1 b_a.out.lt_size (Nat.le_refl _)
  have f_a2 := b_a.out.free2 b_a.out.lt_size (Nat.le_refl _)
  have f_a3 := b_a.out.free3 b_a.out.lt_size (Nat.le_refl _)
  have f_a4 := b_a.out.free4 b_a.out.lt_size (Nat.le_refl _)
  have f_a5 := b_a.out.free5 b_a.out.lt_size (Nat.le_refl _)
  have l_a := b_a.out.lt b_a.out.lt_size (Nat.le_refl _)
  have c_r0 := b_r.out.at0 b_r.out.lt_size (Nat.le_refl _)
  have c_r1 := b_r.out.at1 b_r.out.lt_size (Nat.le_refl _)
  have c_r2 := b_r.out.at2 b_r.out.lt_size (Nat.le_refl _)
  replace hk1 := hk1.out
  refine (cmp_q R_x0.out (by omega) R_r.out (by omega) (Nat.le_refl _) e_k1.out).mono ?_
  rintro e w2 ⟨rfl, hb⟩
  replace R_a0 := hide (R_a0.out.then_ hb)
  replace R_a1 := hide (R_a1.out.then_ hb)
  replace R_r := hide (R_r.out.then_ hb)
  replace R_x0 := hide (R_x0.out.then_ hb)
  replace R_x1 := hide (R_x1.out.then_ hb)
  have U4 : Below V2.heap.size V2 w2 := Below.then_ U3 hb
  replace B := hide (Below.then_ B.out hb)
  clear hb
  go_wp2
  go_ret
  exact ⟨by first | rfl | rw [hk1] | simp [hk1], B.out⟩

/-- lies in the interval -/
def rhas (p q r : Rat) : Prop := rlo p q ≤ r ∧ r ≤ rhi p q
instance (p q r : Rat) : Decidable (rhas p q r) := inferInstanceAs (Decidable (_ ∧ _))
theorem has_any {w : World} {Bd : Nat} {L : Nat} (gL : L ≤ 100000000) {a0 : Rc} {q_a0 : Rat} {a1 : Rc} {q_a1 : Rat} {r : Rc} {q_r : Rat} (h_a0 : Rq w Bd L a0 q_a0) (h_a1 : Rq w Bd L a1 q_a1) (h_r : Rq w Bd L r q_r) (hB : Bd ≤ w.heap.size) {b : Bool} (hb : decide (rhas q_a0 q_a1 q_r) = b) :
    Calls Try.prog 8 #[.agg #[.bool a0.s, .slice a0.A a0.n a0.c, .slice a0.B a0.m a0.d, .bool a1.s, .slice a1.A a1.n a1.c, .slice a1.B a1.m a1.d], .agg #[.bool r.s, .slice r.A r.n r.c, .slice r.B r.m r.d]] w (RetB w (.bool b)) := by
  subst hb
  by_cases h1 : rlo q_a0 q_a1 ≤ q_r
  · by_cases h2 : q_r ≤ rhi q_a0 q_a1
    · rw [decide_eq_true (show rhas q_a0 q_a1 q_r from ⟨h1, h2⟩)]; exact has_in gL h_a0 h_a1 h_r hB rfl rfl h1 h2
    · rw [decide_eq_false (fun h : rhas q_a0 q_a1 q_r => h2 h.2)]; exact has_above gL h_a0 h_a1 h_r hB rfl rfl h1 h2
  · rw [decide_eq_false (fun h : rhas q_a0 q_a1 q_r => h1 h.1)]; exact has_below gL h_a0 h_a1 h_r hB rfl rfl h1

set_option maxHeartbeats 4000000 in
theorem within_b {w : World} {Bd : Nat} {L : Nat} (gL : L ≤ 100000000) {a0 : Rc} {q_a0 : Rat} {a1 : Rc} {q_a1 : Rat} {b0 : Rc} {q_b0 : Rat} {b1 : Rc} {q_b1 : Rat} (h_a0 : Rq w Bd L a0 q_a0) (h_a1 : Rq w Bd L a1 q_a1) (h_b0 : Rq w Bd L b0 q_b0) (h_b1 : Rq w Bd L b1 q_b1) (hB : Bd ≤ w.heap.size) (h1 : decide (rhas q_b0 q_b1 q_a0) = true) {b : Bool} (h2 : decide (rhas q_b0 q_b1 q_a1) = b) :
    Calls Try.prog 20 #[.agg #[.bool a0.s, .slice a0.A a0.n a0.c, .slice a0.B a0.m a0.d, .bool a1.s, .slice a1.A a1.n a1.c, .slice a1.B a1.m a1.d], .agg #[.bool b0.s, .slice b0.A b0.n b0.c, .slice b0.B b0.m b0.d, .bool b1.s, .slice b1.A b1.n b1.c, .slice b1.B b1.m b1.d]] w (RetB w (.bool b)) := by
  replace h1 := hide h1
  replace h2 := hide h2
  obtain ⟨W, hW⟩ : ∃ W, W = ((w.alloc (.cells #[.bool a0.s, .slice a0.A a0.n a0.c, .slice a0.B a0.m a0.d, .bool a1.s, .slice a1.A a1.n a1.c, .slice a1.B a1.m a1.d] 29)).alloc (.cells #[.bool b0.s, .slice b0.A b0.n b0.c, .slice b0.B b0.m b0.d, .bool b1.s, .slice b1.A b1.n b1.c, .slice b1.B b1.m b1.d] 29)) := ⟨_, rfl⟩
  have b_a : Box6 W (w.heap.size) (.bool a0.s) (.slice a0.A a0.n a0.c) (.slice a0.B a0.m a0.d) (.bool a1.s) (.slice a1.A a1.n a1.c) (.slice a1.B a1.m a1.d) := by rw [hW]; exact ((Box6.new w _ _ _ _ _ _ rfl).al _)
  have b_b : Box6 W (w.heap.size + 1) (.bool b0.s) (.slice b0.A b0.n b0.c) (.slice b0.B b0.m b0.d) (.bool b1.s) (.slice b1.A b1.n b1.c) (.slice b1.B b1.m b1.d) := by rw [hW]; exact (Box6.new _ _ _ _ _ _ _ (by simp))
  have hwW : Below w.heap.size w W := by rw [hW]; exact (((Below.refl _ _).alloc (Nat.le_refl _) _).alloc (by simp) _)
  have R_a0 := hide (h_a0.upto hwW hB)
  clear h_a0
  have R_a1 := hide (h_a1.upto hwW hB)
  clear h_a1
  have R_b0 := hide (h_b0.upto hwW hB)
  clear h_b0
  have R_b1 := hide (h_b1.upto hwW hB)
  clear h_b1
  have B := hide hwW
  clear hwW
  clear hB
  have U0 : Below W.heap.size W W := Below.refl _ _
  have c_a0 := b_a.at0 b_a.lt_size (Nat.le_refl _)
  have c_a1 := b_a.at1 b_a.lt_size (Nat.le_refl _)
  have c_a2 := b_a.at2 b_a.lt_size (Nat.le_refl _)
  have c_a3 := b_a.at3 b_a.lt_size (Nat.le_refl _)
  have c_a4 := b_a.at4 b_a.lt_size (Nat.le_refl _)
  have c_a5 := b_a.at5 b_a.lt_size (Nat.le_refl _)
  replace b_a := hide b_a
  have c_b0 := b_b.at0 b_b.lt_size (Nat.le_refl _)
  have c_b1 := b_b.at1 b_b.lt_size (Nat.le_refl _)
  have c_b2 := b_b.at2 b_b.lt_size (Nat.le_refl _)
  have c_b3 := b_b.at3 b_b.lt_size (Nat.le_refl _)
  have c_b4 := b_b.at4 b_b.lt_size (Nat.le_refl _)
  have c_b5 := b_b.at5 b_b.lt_size (Nat.le_refl _)
  replace b_b := hide b_b
  go_enter Try.func20, Try.ntmps20
  go_wp2_with fail
  rw [← hW]
  clear hW
  refine (has_any gL R_b0.out R_b1.out R_a0.out (Nat.le_refl _) h1.out).mono ?_
  rintro e w1 ⟨rfl, hb⟩
  replace R_a0 := hide (R_a0.out.then_ hb)
  replace R_a1 := hide (R_a1.out.then_ hb)
  replace R_b0 := hide (R_b0.out.then_ hb)
  replace R_b1 := hide (R_b1.out.then_ hb)
  have U1 : Below W.heap.size W w1 := Below.then_ U0 hb
  replace B := hide (Below.then_ B.out hb)
  clear hb
  go_wp2_with fail
  refine (has_any gL R_b0.out R_b1.out R_a1.out (Nat.le_refl _) h2.out).mono ?_
  rintro e w2 ⟨rfl, hb⟩
  replace R_a0 := hide (R_a0.out.then_ hb)
  replace R_a1 := hide (R_a1.out.then_ hb)
  replace R_b0 := hide (R_b0.out.then_ hb)
  replace R_b1 := hide (R_b1.out.then_ hb)
  have U2 : Below W.heap.size W w2 := Below.then_ U1 hb
  replace B := hide (Below.then_ B.out hb)
  clear hb
  go_wp2
  go_ret
  exact ⟨rfl, B.out⟩

set_option maxHeartbeats 4000000 in
theorem within_no {w : World} {Bd : Nat} {L : Nat} (gL : L ≤ 100000000) {a0 : Rc} {q_a0 : Rat} {a1 : Rc} {q_a1 : Rat} {b0 : Rc} {q_b0 : Rat} {b1 : Rc} {q_b1 : Rat} (h_a0 : Rq w Bd L a0 q_a0) (h_a1 : Rq w Bd L a1 q_a1) (h_b0 : Rq w Bd L b0 q_b0) (h_b1 : Rq w Bd L b1 q_b1) (hB : Bd ≤ w.heap.size) (h1 : decide (rhas q_b0 q_b1 q_a0) = false) :
    Calls Try.prog 20 #[.agg #[.bool a0.s, .slice a0.A a0.n a0.c, .slice a0.B a0.m a0.d, .bool a1.s, .slice a1.A a1.n a1.c, .slice a1.B a1.m a1.d], .agg #[.bool b0.s, .slice b0.A b0.n b0.c, .slice b0.B b0.m b0.d, .bool b1.s, .slice b1.A b1.n b1.c, .slice b1.B b1.m b1.d]] w (RetB w (.bool false)) := by
  replace h1 := hide h1
  obtain ⟨W, hW⟩ : ∃ W, W = ((w.alloc (.cells #[.bool a0.s, .slice a0.A a0.n a0.c, .slice a0.B a0.m a0.d, .bool a1.s, .slice a1.A a1.n a1.c, .slice a1.B a1.m a1.d] 29)).alloc (.cells #[.bool b0.s, .slice b0.A b0.n b0.c, .slice b0.B b0.m b0.d, .bool b1.s, .slice b1.A b1.n b1.c, .slice b1.B b1.m b1.d] 29)) := ⟨_, rfl⟩
  have b_a : Box6 W (w.heap.size) (.bool a0.s) (.slice a0.A a0.n a0.c) (.slice a0.B a0.m a0.d) (.bool a1.s) (.slice a1.A a1.n a1.c) (.slice a1.B a1.m a1.d) := by rw [hW]; exact ((Box6.new w _ _ _ _ _ _ rfl).al _)
  have b_b : Box6 W (w.heap.size + 1) (.bool b0.s) (.slice b0.A b0.n b0.c) (.slice b0.B b0.m b0.d) (.bool b1.s) (.slice b1.A b1.n b1.c) (.slice b1.B b1.m b1.d) := by rw [hW]; exact (Box6.new _ _ _ _ _ _ _ (by simp))
  have hwW : Below w.heap.size w W := by rw [hW]; exact (((Below.refl _ _).alloc (Nat.le_refl _) _).alloc (by simp) _)
  have R_a0 := hide (h_a0.upto hwW hB)
  clear h_a0
  have R_a1 := hide (h_a1.upto hwW hB)
  clear h_a1
  have R_b0 := hide (h_b0.upto hwW hB)
  clear h_b0
  have R_b1 := hide (h_b1.upto hwW hB)
  clear h_b1
  have B := hide hwW
  clear hwW
  clear hB
  have U0 : Below W.heap.size W W := Below.refl _ _
  have c_a0 := b_a.at0 b_a.lt_size (Nat.le_refl _)
  have c_a1 := b_a.at1 b_a.lt_size (Nat.le_refl _)
  have c_a2 := b_a.at2 b_a.lt_size (Nat.le_refl _)
  have c_a3 := b_a.at3 b_a.lt_size (Nat.le_refl _)
  have c_a4 := b_a.at4 b_a.lt_size (Nat.le_refl _)
  have c_a5 := b_a.at5 b_a.lt_size (Nat.le_refl _)
  replace b_a := hide b_a
  have c_b0 := b_b.at0 b_b.lt_size (Nat.le_refl _)
  have c_b1 := b_b.at1 b_b.lt_size (Nat.le_refl _)
  have c_b2 := b_b.at2 b_b.lt_size (Nat.le_refl _)
  have c_b3 := b_b.at3 b_b.lt_size (Nat.le_refl _)
  have c_b4 := b_b.at4 b_b.lt_size (Nat.le_refl _)
  have c_b5 := b_b.at5 b_b.lt_size (Nat.le_refl _)
  replace b_b := hide b_b
  go_enter Try.func20, Try.ntmps20
  go_wp2_with fail
  rw [← hW]
  clear hW
  refine (has_any gL R_b0.out R_b1.out R_a0.out (Nat.le_refl _) h1.out).mono ?_
  rintro e w1 ⟨rfl, hb⟩
  replace R_a0 := hide (R_a0.out.then_ hb)
  replace R_a1 := hide (R_a1.out.then_ hb)
  replace R_b0 := hide (R_b0.out.then_ hb)
  replace R_b1 := hide (R_b1.out.then_ hb)
  have U1 : Below W.heap.size W w1 := Below.then_ U0 hb
  replace B := hide (Below.then_ B.out hb)
  clear hb
  go_wp2
  go_ret
  exact ⟨rfl, B.out⟩

/-- lies within -/
def rin (p q p' q' : Rat) : Prop := rhas p' q' p ∧ rhas p' q' q
instance (p q p' q' : Rat) : Decidable (rin p q p' q') := inferInstanceAs (Decidable (_ ∧ _))
theorem within_any {w : World} {Bd : Nat} {L : Nat} (gL : L ≤ 100000000) {a0 a1 b0 b1 : Rc} {q_a0 q_a1 q_b0 q_b1 : Rat} (h_a0 : Rq w Bd L a0 q_a0) (h_a1 : Rq w Bd L a1 q_a1) (h_b0 : Rq w Bd L b0 q_b0) (h_b1 : Rq w Bd L b1 q_b1) (hB : Bd ≤ w.heap.size) {b : Bool} (hb : decide (rin q_a0 q_a1 q_b0 q_b1) = b) :
    Calls Try.prog 20 #[.agg #[.bool a0.s, .slice a0.A a0.n a0.c, .slice a0.B a0.m a0.d, .bool a1.s, .slice a1.A a1.n a1.c, .slice a1.B a1.m a1.d], .agg #[.bool b0.s, .slice b0.A b0.n b0.c, .slice b0.B b0.m b0.d, .bool b1.s, .slice b1.A b1.n b1.c, .slice b1.B b1.m b1.d]] w (RetB w (.bool b)) := by
  subst hb
  by_cases h1 : rhas q_b0 q_b1 q_a0
  · have h := within_b gL h_a0 h_a1 h_b0 h_b1 hB (decide_eq_true h1) rfl
    rwa [show decide (rhas q_b0 q_b1 q_a1) = decide (rin q_a0 q_a1 q_b0 q_b1) from decide_eq_decide.2 ⟨fun h2 => ⟨h1, h2⟩, fun h2 => h2.2⟩] at h
  · rw [decide_eq_false (fun h : rin q_a0 q_a1 q_b0 q_b1 => h1 h.1)]; exact within_no gL h_a0 h_a1 h_b0 h_b1 hB (decide_eq_false h1)

set_option maxHeartbeats 4000000 in
theorem width_any {w : World} {Bd : Nat} {L : Nat} (gL : L ≤ 100000000) {a0 : Rc} {q_a0 : Rat} {a1 : Rc} {q_a1 : Rat} (h_a0 : Rq w Bd L a0 q_a0) (h_a1 : Rq w Bd L a1 q_a1) (hB : Bd ≤ w.heap.size) {d : Rat} (hd : rhi q_a0 q_a1 - rlo q_a0 q_a1 = d) :
    Calls Try.prog 22 #[.agg #[.bool a0.s, .slice a0.A a0.n a0.c, .slice a0.B a0.m a0.d, .bool a1.s, .slice a1.A a1.n a1.c, .slice a1.B a1.m a1.d]] w (RetN w (L + L + 3) d) := by
  obtain ⟨l, hl⟩ : ∃ l, rlo q_a0 q_a1 = l := ⟨_, rfl⟩
  obtain ⟨h, hh⟩ : ∃ h, rhi q_a0 q_a1 = h := ⟨_, rfl⟩
  rw [hl, hh] at hd
  replace hl := hide hl
  replace hh := hide hh
  replace hd := hide hd
  obtain ⟨W, hW⟩ : ∃ W, W = ((w.alloc (.cells #[.bool a0.s, .slice a0.A a0.n a0.c, .slice a0.B a0.m a0.d, .bool a1.s, .slice a1.A a1.n a1.c, .slice a1.B a1.m a1.d] 29)).alloc (.cells #[.bool false, .slice none 0 0, .slice none 0 0] 27)) := ⟨_, rfl⟩
  have b_a : Box6 W (w.heap.size) (.bool a0.s) (.slice a0.A a0.n a0.c) (.slice a0.B a0.m a0.d) (.bool a1.s) (.slice a1.A a1.n a1.c) (.slice a1.B a1.m a1.d) := by rw [hW]; exact ((Box6.new w _ _ _ _ _ _ rfl).al _)
  have b_r0 : Box3 W (w.heap.size + 1) (.bool false) (.slice none 0 0) (.slice none 0 0) := by rw [hW]; exact (Box3.new _ _ _ _ (by simp))
  have hwW : Below w.heap.size w W := by rw [hW]; exact (((Below.refl _ _).alloc (Nat.le_refl _) _).alloc (by simp) _)
  have R_a0 := hide (h_a0.upto hwW hB)
  clear h_a0
  have R_a1 := hide (h_a1.upto hwW hB)
  clear h_a1
  have B := hide hwW
  clear hwW
  clear hB
  have U0 : Below W.heap.size W W := Below.refl _ _
  have c_a0 := b_a.at0 b_a.lt_size (Nat.le_refl _)
  have c_a1 := b_a.at1 b_a.lt_size (Nat.le_refl _)
  have c_a2 := b_a.at2 b_a.lt_size (Nat.le_refl _)
  have c_a3 := b_a.at3 b_a.lt_size (Nat.le_refl _)
  have c_a4 := b_a.at4 b_a.lt_size (Nat.le_refl _)
  have c_a5 := b_a.at5 b_a.lt_size (Nat.le_refl _)
  have f_a0 := b_a.free0 b_a.lt_size (Nat.le_refl _)
  have f_a1 := b_a.free1 b_a.lt_size (Nat.le_refl _)
  have f_a2 := b_a.free2 b_a.lt_size (Nat.le_refl _)
  have f_a3 := b_a.free3 b_a.lt_size (Nat.le_refl _)
  have f_a4 := b_a.free4 b_a.lt_size (Nat.le_refl _)
  have f_a5 := b_a.free5 b_a.lt_size (Nat.le_refl _)
  have l_a := b_a.lt b_a.lt_size (Nat.le_refl _)
  replace b_a := hide b_a
  have c_r00 := b_r0.at0 b_r0.lt_size (Nat.le_refl _)
  have c_r01 := b_r0.at1 b_r0.lt_size (Nat.le_refl _)
  have c_r02 := b_r0.at2 b_r0.lt_size (Nat.le_refl _)
  have f_r00 := b_r0.free0 b_r0.lt_size (Nat.le_refl _)
  have f_r01 := b_r0.free1 b_r0.lt_size (Nat.le_refl _)
  have f_r02 := b_r0.free2 b_r0.lt_size (Nat.le_refl _)
  have l_r0 := b_r0.lt b_r0.lt_size (Nat.le_refl _)
  replace b_r0 := hide b_r0
  go_enter Try.func22, Try.ntmps22
  go_wp2_with fail
  rw [← hW]
  clear hW
  refine (inorder_any gL R_a0.out R_a1.out (Nat.le_refl _) hl.out hh.out).mono ?_
  rintro e w1 ⟨x_x0, x_x1, rfl, R_x0, R_x1, hb⟩
  replace R_a0 := hide (R_a0.out.then_ hb)
  replace R_a1 := hide (R_a1.out.then_ hb)
  have U1 : Below W.heap.size W w1 := Below.then_ U0 hb
  replace B := hide (Below.then_ B.out hb)
  replace R_x0 := hide R_x0
  replace R_x1 := hide R_x1
  clear hb
  go_wp2_with fail
  obtain ⟨V2, hV⟩ : ∃ V, V = ((((((w1.setCell ⟨w.heap.size, 0, none⟩ (.bool x_x0.s)).setCell ⟨w.heap.size, 1, none⟩ (.slice x_x0.A x_x0.n x_x0.c)).setCell ⟨w.heap.size, 2, none⟩ (.slice x_x0.B x_x0.m x_x0.d)).setCell ⟨w.heap.size, 3, none⟩ (.bool x_x1.s)).setCell ⟨w.heap.size, 4, none⟩ (.slice x_x1.A x_x1.n x_x1.c)).setCell ⟨w.heap.size, 5, none⟩ (.slice x_x1.B x_x1.m x_x1.d)) := ⟨_, rfl⟩
  rw [← hV]
  have b_a' : Box6 V2 (w.heap.size) (.bool x_x0.s) (.slice x_x0.A x_x0.n x_x0.c) (.slice x_x0.B x_x0.m x_x0.d) (.bool x_x1.s) (.slice x_x1.A x_x1.n x_x1.c) (.slice x_x1.B x_x1.m x_x1.d) := by rw [hV]; exact Box6.set (Box6.keep b_a.out U1) _ _ _ _ _ _ 
  have b_r0' : Box3 V2 (w.heap.size + 1) (.bool false) (.slice none 0 0) (.slice none 0 0) := by rw [hV]; exact (Box3.other (Box3.other (Box3.other (Box3.other (Box3.other (Box3.other (Box3.keep b_r0.out U1) (by omega) _) (by omega) _) (by omega) _) (by omega) _) (by omega) _) (by omega) _)
  replace R_a0 := hide (show Rq V2 V2.heap.size _ _ _ by rw [hV]; exact R_a0.out.set6  (c_a0 _ U1) (c_a1 _ U1) (c_a2 _ U1) (c_a3 _ U1) (c_a4 _ U1) (c_a5 _ U1) _ _ _ _ _ _ )
  replace R_a1 := hide (show Rq V2 V2.heap.size _ _ _ by rw [hV]; exact R_a1.out.set6  (c_a0 _ U1) (c_a1 _ U1) (c_a2 _ U1) (c_a3 _ U1) (c_a4 _ U1) (c_a5 _ U1) _ _ _ _ _ _ )
  replace R_x0 := hide (show Rq V2 V2.heap.size _ _ _ by rw [hV]; exact R_x0.out.set6  (c_a0 _ U1) (c_a1 _ U1) (c_a2 _ U1) (c_a3 _ U1) (c_a4 _ U1) (c_a5 _ U1) _ _ _ _ _ _ )
  replace R_x1 := hide (show Rq V2 V2.heap.size _ _ _ by rw [hV]; exact R_x1.out.set6  (c_a0 _ U1) (c_a1 _ U1) (c_a2 _ U1) (c_a3 _ U1) (c_a4 _ U1) (c_a5 _ U1) _ _ _ _ _ _ )
  replace B : Hid (Below w.heap.size w V2) := hide (by rw [hV]; exact ((((((B.out.setCell (show w.heap.size ≤ w.heap.size by omega) _).setCell (show w.heap.size ≤ w.heap.size by omega) _).setCell (show w.heap.size ≤ w.heap.size by omega) _).setCell (show w.heap.size ≤ w.heap.size by omega) _).setCell (show w.heap.size ≤ w.heap.size by omega) _).setCell (show w.heap.size ≤ w.heap.size by omega) _))
  clear hV
  clear c_a0 c_a1 c_a2 c_a3 c_a4 c_a5 f_a0 f_a1 f_a2 f_a3 f_a4 f_a5 l_a
  replace b_a := hide b_a'
  clear b_a'
  clear c_r00 c_r01 c_r02 f_r00 f_r01 f_r02 l_r0
  replace b_r0 := hide b_r0'
  clear b_r0'
  have U3 : Below V2.heap.size V2 V2 := Below.refl _ _
  have c_a0 := b_a.out.at0 b_a.out.lt_size (Nat.le_refl _)
  have c_a1 := b_a.out.at1 b_a.out.lt_size (Nat.le_refl _)
  have c_a2 := b_a.out.at2 b_a.out.lt_size (Nat.le_refl _)
  have c_a3 := b_a.out.at3 b_a.out.lt_size (Nat.le_refl _)
  have c_a4 := b_a.out.at4 b_a.out.lt_size (Nat.le_refl _)
  have c_a5 := b_a.out.at5 b_a.out.lt_size (Nat.le_refl _)
  have f_a0 := b_a.out.free0 b_a.out.lt_size (Nat.le_refl _)
  have f_a1 := b_a.out.free1 b_a.out.lt_size (Nat.le_refl _)
  have f_a2 := b_a.out.free2 b_a.out.lt_size (Nat.le_refl _)
  have f_a3 := b_a.out.free3 b_a.out.lt_size (Nat.le_refl _)
  have f_a4 := b_a.out.free4 b_a.out.lt_size (Nat.le_refl _)
  have f_a5 := b_a.out.free5 b_a.out.lt_size (Nat.le_refl _)
  have l_a := b_a.out.lt b_a.out.lt_size (Nat.le_refl _)
  have c_r00 := b_r0.out.at0 b_r0.out.lt_size (Nat.le_refl _)
  have c_r01 := b_r0.out.at1 b_r0.out.lt_size (Nat.le_refl _)
  have c_r02 := b_r0.out.at2 b_r0.out.lt_size (Nat.le_refl _)
  have f_r00 := b_r0.out.free0 b_r0.out.lt_size (Nat.le_refl _)
  have f_r01 := b_r0.out.free1 b_r0.out.lt_size (Nat.le_refl _)
  have f_r02 := b_r0.out.free2 b_r0.out.lt_size (Nat.le_refl _)
  have l_r0 := b_r0.out.lt b_r0.out.lt_size (Nat.le_refl _)
  refine (sub_q R_x1.out (by omega) R_x0.out (by omega) (Nat.le_refl _) hd.out).mono ?_
  rintro e w2 ⟨x_d, rfl, R_d, hb⟩
  replace R_a0 := hide (R_a0.out.then_ hb)
  replace R_a1 := hide (R_a1.out.then_ hb)
  replace R_x0 := hide (R_x0.out.then_ hb)
  replace R_x1 := hide (R_x1.out.then_ hb)
  have U4 : Below V2.heap.size V2 w2 := Below.then_ U3 hb
  replace B := hide (Below.then_ B.out hb)
  replace R_d := hide R_d
  clear hb
  go_wp2
  exact bodyPost_ret (v := .agg #[.bool x_d.s, .slice x_d.A x_d.n x_d.c, .slice x_d.B x_d.m x_d.d]) (by simp [results, Try.results22, go_sem, c_r00 _ U4, c_r01 _ U4, c_r02 _ U4]) rfl (RetN.box B.out (by omega) (c_r00 _ U4) (c_r01 _ U4) (c_r02 _ U4) R_d.out)

set_option maxHeartbeats 4000000 in
theorem scale_any {w : World} {Bd : Nat} {L : Nat} (gL : L ≤ 40000000) {a0 : Rc} {q_a0 : Rat} {a1 : Rc} {q_a1 : Rat} {r : Rc} {q_r : Rat} (h_a0 : Rq w Bd L a0 q_a0) (h_a1 : Rq w Bd L a1 q_a1) (h_r : Rq w Bd L r q_r) (hB : Bd ≤ w.heap.size) {l h : Rat} (hl : rlo (q_a0 * q_r) (q_a1 * q_r) = l) (hh : rhi (q_a0 * q_r) (q_a1 * q_r) = h) :
    Calls Try.prog 15 #[.agg #[.bool a0.s, .slice a0.A a0.n a0.c, .slice a0.B a0.m a0.d, .bool a1.s, .slice a1.A a1.n a1.c, .slice a1.B a1.m a1.d], .agg #[.bool r.s, .slice r.A r.n r.c, .slice r.B r.m r.d]] w (RetSN w (L + L + 2) l h) := by
  obtain ⟨p, hp⟩ : ∃ l, q_a0 * q_r = l := ⟨_, rfl⟩
  obtain ⟨q, hq⟩ : ∃ h, q_a1 * q_r = h := ⟨_, rfl⟩
  rw [hp, hq] at hl hh
  replace hl := hide hl
  replace hh := hide hh
  replace hp := hide hp
  replace hq := hide hq
  have gL2 : L + L + 2 ≤ 100000000 := by omega
  obtain ⟨W, hW⟩ : ∃ W, W = (((w.alloc (.cells #[.bool a0.s, .slice a0.A a0.n a0.c, .slice a0.B a0.m a0.d, .bool a1.s, .slice a1.A a1.n a1.c, .slice a1.B a1.m a1.d] 29)).alloc (.cells #[.bool r.s, .slice r.A r.n r.c, .slice r.B r.m r.d] 27)).alloc (.cells #[.bool false, .slice none 0 0, .slice none 0 0, .bool false, .slice none 0 0, .slice none 0 0] 29)) := ⟨_, rfl⟩
  have b_a : Box6 W (w.heap.size) (.bool a0.s) (.slice a0.A a0.n a0.c) (.slice a0.B a0.m a0.d) (.bool a1.s) (.slice a1.A a1.n a1.c) (.slice a1.B a1.m a1.d) := by rw [hW]; exact (((Box6.new w _ _ _ _ _ _ rfl).al _).al _)
  have b_r : Box3 W (w.heap.size + 1) (.bool r.s) (.slice r.A r.n r.c) (.slice r.B r.m r.d) := by rw [hW]; exact ((Box3.new _ _ _ _ (by simp)).al _)
  have b_r0 : Box6 W (w.heap.size + 1 + 1) (.bool false) (.slice none 0 0) (.slice none 0 0) (.bool false) (.slice none 0 0) (.slice none 0 0) := by rw [hW]; exact (Box6.new _ _ _ _ _ _ _ (by simp))
  have hwW : Below w.heap.size w W := by rw [hW]; exact ((((Below.refl _ _).alloc (Nat.le_refl _) _).alloc (by simp) _).alloc (by simp; omega) _)
  have R_a0 := hide (h_a0.upto hwW hB)
  clear h_a0
  have R_a1 := hide (h_a1.upto hwW hB)
  clear h_a1
  have R_r := hide (h_r.upto hwW hB)
  clear h_r
  have B := hide hwW
  clear hwW
  clear hB
  have U0 : Below W.heap.size W W := Below.refl _ _
  have c_a0 := b_a.at0 b_a.lt_size (Nat.le_refl _)
  have c_a1 := b_a.at1 b_a.lt_size (Nat.le_refl _)
  have c_a2 := b_a.at2 b_a.lt_size (Nat.le_refl _)
  have c_a3 := b_a.at3 b_a.lt_size (Nat.le_refl _)
  have c_a4 := b_a.at4 b_a.lt_size (Nat.le_refl _)
  have c_a5 := b_a.at5 b_a.lt_size (Nat.le_refl _)
  replace b_a := hide b_a
  have c_r0 := b_r.at0 b_r.lt_size (Nat.le_refl _)
  have c_r1 := b_r.at1 b_r.lt_size (Nat.le_refl _)
  have c_r2 := b_r.at2 b_r.lt_size (Nat.le_refl _)
  replace b_r := hide b_r
  have c_r00 := b_r0.at0 b_r0.lt_size (Nat.le_refl _)
  have c_r01 := b_r0.at1 b_r0.lt_size (Nat.le_refl _)
  have c_r02 := b_r0.at2 b_r0.lt_size (Nat.le_refl _)
  have c_r03 := b_r0.at3 b_r0.lt_size (Nat.le_refl _)
  have c_r04 := b_r0.at4 b_r0.lt_size (Nat.le_refl _)
  have c_r05 := b_r0.at5 b_r0.lt_size (Nat.le_refl _)
  have f_r00 := b_r0.free0 b_r0.lt_size (Nat.le_refl _)
  have f_r01 := b_r0.free1 b_r0.lt_size (Nat.le_refl _)
  have f_r02 := b_r0.free2 b_r0.lt_size (Nat.le_refl _)
  have f_r03 := b_r0.free3 b_r0.lt_size (Nat.le_refl _)
  have f_r04 := b_r0.free4 b_r0.lt_size (Nat.le_refl _)
  have f_r05 := b_r0.free5 b_r0.lt_size (Nat.le_refl _)
  have l_r0 := b_r0.lt b_r0.lt_size (Nat.le_refl _)
  replace b_r0 := hide b_r0
  go_enter Try.func15, Try.ntmps15
  go_wp2_with fail
  rw [← hW]
  clear hW
  have k_a0 := b_a.out.but0 (g1 := w.heap.size + 1 + 1) (g2 := w.heap.size + 1 + 1) (by omega) (by omega)
  have k_a1 := b_a.out.but1 (g1 := w.heap.size + 1 + 1) (g2 := w.heap.size + 1 + 1) (by omega) (by omega)
  have k_a2 := b_a.out.but2 (g1 := w.heap.size + 1 + 1) (g2 := w.heap.size + 1 + 1) (by omega) (by omega)
  have k_a3 := b_a.out.but3 (g1 := w.heap.size + 1 + 1) (g2 := w.heap.size + 1 + 1) (by omega) (by omega)
  have k_a4 := b_a.out.but4 (g1 := w.heap.size + 1 + 1) (g2 := w.heap.size + 1 + 1) (by omega) (by omega)
  have k_a5 := b_a.out.but5 (g1 := w.heap.size + 1 + 1) (g2 := w.heap.size + 1 + 1) (by omega) (by omega)
  have k_r0 := b_r.out.but0 (g1 := w.heap.size + 1 + 1) (g2 := w.heap.size + 1 + 1) (by omega) (by omega)
  have k_r1 := b_r.out.but1 (g1 := w.heap.size + 1 + 1) (g2 := w.heap.size + 1 + 1) (by omega) (by omega)
  have k_r2 := b_r.out.but2 (g1 := w.heap.size + 1 + 1) (g2 := w.heap.size + 1 + 1) (by omega) (by omega)
  have hd := Below.drw_ W
  replace R_a0 := hide (R_a0.out.then_ hd)
  replace R_a1 := hide (R_a1.out.then_ hd)
  replace R_r := hide (R_r.out.then_ hd)
  have U1 : Below W.heap.size W (W.drew) := Below.then_ U0 hd
  replace B := hide (Below.then_ B.out hd)
  have K1 : KeptBut (w.heap.size + 1 + 1) (w.heap.size + 1 + 1) W.heap.size W (W.drew) := KeptBut.below U1
  clear hd
  have tok1 : True := trivial
  go_region_held3 (fun w' => KeptBut (w.heap.size + 1 + 1) (w.heap.size + 1 + 1) W.heap.size W w') (first | (with_reducible assumption) | (with_reducible exact KeptBut.drw _) | ((repeat (first | (with_reducible refine KeptBut.set0 ?_ _) | (with_reducible refine KeptBut.drew_ ?_))); first | (with_reducible assumption) | (with_reducible exact KeptBut.refl _ _ _ _)))
    (first
      | (go_at_call 14; (have _t := tok1; (with_reducible refine (mul_q R_a0.out (by omega) R_r.out (by omega) (Nat.le_refl _) hp.out).mono ?_); rintro e w1 ⟨x_p, rfl, R_p, hb⟩; replace R_a0 := hide (R_a0.out.then_ hb); replace R_a1 := hide (R_a1.out.then_ hb); replace R_r := hide (R_r.out.then_ hb); have U2 : Below W.heap.size W w1 := Below.then_ U1 hb; replace B := hide (Below.then_ B.out hb); have K2 : KeptBut (w.heap.size + 1 + 1) (w.heap.size + 1 + 1) W.heap.size W w1 := KeptBut.below U2; replace R_p := hide R_p; clear hb; have tok2 : True := trivial; clear _t tok1))
      | (go_at_call 14; (have _t := tok2; (with_reducible refine (mul_q R_a1.out (by omega) R_r.out (by omega) (Nat.le_refl _) hq.out).mono ?_); rintro e w2 ⟨x_q, rfl, R_q, hb⟩; replace R_a0 := hide (R_a0.out.then_ hb); replace R_a1 := hide (R_a1.out.then_ hb); replace R_r := hide (R_r.out.then_ hb); replace R_p := hide (R_p.out.then_ hb); have U3 : Below W.heap.size W w2 := Below.then_ U2 hb; replace B := hide (Below.then_ B.out hb); have K3 : KeptBut (w.heap.size + 1 + 1) (w.heap.size + 1 + 1) W.heap.size W w2 := KeptBut.below U3; replace R_q := hide R_q; clear hb; have tok3 : True := trivial; clear _t tok2))
      | (go_at_call 29; (have _t := tok3; (with_reducible refine (inorder_n gL2 R_p.out R_q.out (Nat.le_refl _) hl.out hh.out).mono ?_); rintro e w3 ⟨x_x0, x_x1, rfl, R_x0, R_x1, hb⟩; replace R_a0 := hide (R_a0.out.then_ hb); replace R_a1 := hide (R_a1.out.then_ hb); replace R_r := hide (R_r.out.then_ hb); replace R_p := hide (R_p.out.then_ hb); replace R_q := hide (R_q.out.then_ hb); have U4 : Below W.heap.size W w3 := Below.then_ U3 hb; replace B := hide (Below.then_ B.out hb); have K4 : KeptBut (w.heap.size + 1 + 1) (w.heap.size + 1 + 1) W.heap.size W w3 := KeptBut.below U4; replace R_x0 := hide R_x0; replace R_x1 := hide R_x1; clear hb; have tok4 : True := trivial; clear _t tok3)))
  clear tok4
  clear k_a0 k_a1 k_a2 k_a3 k_a4 k_a5
  clear k_r0 k_r1 k_r2
  go_wp2
  exact bodyPost_ret (v := .agg #[.bool x_x0.s, .slice x_x0.A x_x0.n x_x0.c, .slice x_x0.B x_x0.m x_x0.d, .bool x_x1.s, .slice x_x1.A x_x1.n x_x1.c, .slice x_x1.B x_x1.m x_x1.d]) (by simp [results, Try.results15, go_sem, c_r00 _ U4, c_r01 _ U4, c_r02 _ U4, c_r03 _ U4, c_r04 _ U4, c_r05 _ U4]) rfl (RetSN.box B.out (by omega) (c_r00 _ U4) (c_r01 _ U4) (c_r02 _ U4) (c_r03 _ U4) (c_r04 _ U4) (c_r05 _ U4) R_x0.out R_x1.out)

end Go.Proofs.Ytogafnfpncbgiaa

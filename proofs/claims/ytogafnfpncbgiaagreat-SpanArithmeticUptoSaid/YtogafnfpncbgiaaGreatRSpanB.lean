/-
  The reference of span: Add, Sub, Mul, Scale.
-/
import Derived.Test.YtogafnfpncbgiaaGreatRSpanA
import Derived.Test.YtogafnfpncbgiaaGreatSort
namespace Go.Proofs.YtogafnfpncbgiaaGreat
open Go.RowKit


set_option maxHeartbeats 4000000 in
theorem rsadd_any {w : World} {Bd : Nat} {L : Nat} (gL : L ≤ 30000000) {a0 : Rc} {q_a0 : Rat} {a1 : Rc} {q_a1 : Rat} {b0 : Rc} {q_b0 : Rat} {b1 : Rc} {q_b1 : Rat} (h_a0 : Rq w Bd L a0 q_a0) (h_a1 : Rq w Bd L a1 q_a1) (h_b0 : Rq w Bd L b0 q_b0) (h_b1 : Rq w Bd L b1 q_b1) (hB : Bd ≤ w.heap.size) {l h : Rat} (hl : rlo q_a0 q_a1 + rlo q_b0 q_b1 = l) (hh : rhi q_a0 q_a1 + rhi q_b0 q_b1 = h) :
    Calls Tryz.prog 8 #[.agg #[.bool a0.s, .slice a0.A a0.n a0.c, .slice a0.B a0.m a0.d, .bool a1.s, .slice a1.A a1.n a1.c, .slice a1.B a1.m a1.d], .agg #[.bool b0.s, .slice b0.A b0.n b0.c, .slice b0.B b0.m b0.d, .bool b1.s, .slice b1.A b1.n b1.c, .slice b1.B b1.m b1.d]] w (RetSN w (2 * L + 6) l h) := by
  obtain ⟨la, hla⟩ : ∃ l, rlo q_a0 q_a1 = l := ⟨_, rfl⟩
  obtain ⟨ha, hha⟩ : ∃ h, rhi q_a0 q_a1 = h := ⟨_, rfl⟩
  have oa : la ≤ ha := by rw [← hla, ← hha]; exact rlo_le_rhi _ _
  obtain ⟨lb, hlb⟩ : ∃ l, rlo q_b0 q_b1 = l := ⟨_, rfl⟩
  obtain ⟨hb, hhb⟩ : ∃ h, rhi q_b0 q_b1 = h := ⟨_, rfl⟩
  have ob : lb ≤ hb := by rw [← hlb, ← hhb]; exact rlo_le_rhi _ _
  rw [hla, hlb] at hl
  rw [hha, hhb] at hh
  have o : l ≤ h := by grind
  have e1 : rlo l h = l := rlo_of_le o
  have e2 : rhi l h = h := rhi_of_le o
  clear o oa ob
  replace hl := hide hl
  replace hh := hide hh
  replace hla := hide hla
  replace hha := hide hha
  replace hlb := hide hlb
  replace hhb := hide hhb
  replace e1 := hide e1
  replace e2 := hide e2
  have gL0 : L ≤ 100000000 := by omega
  replace gL0 := hide gL0
  have gL3 : L + 1 + (L + 1) + 3 ≤ 100000000 := by omega
  replace gL3 := hide gL3
  obtain ⟨W, hW⟩ : ∃ W, W = (((w.alloc (.cells #[.bool a0.s, .slice a0.A a0.n a0.c, .slice a0.B a0.m a0.d, .bool a1.s, .slice a1.A a1.n a1.c, .slice a1.B a1.m a1.d] 29)).alloc (.cells #[.bool b0.s, .slice b0.A b0.n b0.c, .slice b0.B b0.m b0.d, .bool b1.s, .slice b1.A b1.n b1.c, .slice b1.B b1.m b1.d] 29)).alloc (.cells #[.bool false, .slice none 0 0, .slice none 0 0, .bool false, .slice none 0 0, .slice none 0 0] 29)) := ⟨_, rfl⟩
  have b_a : Box6 W (w.heap.size) (.bool a0.s) (.slice a0.A a0.n a0.c) (.slice a0.B a0.m a0.d) (.bool a1.s) (.slice a1.A a1.n a1.c) (.slice a1.B a1.m a1.d) := by rw [hW]; exact (((Box6.new w _ _ _ _ _ _ rfl).al _).al _)
  have b_b : Box6 W (w.heap.size + 1) (.bool b0.s) (.slice b0.A b0.n b0.c) (.slice b0.B b0.m b0.d) (.bool b1.s) (.slice b1.A b1.n b1.c) (.slice b1.B b1.m b1.d) := by rw [hW]; exact ((Box6.new _ _ _ _ _ _ _ (by simp)).al _)
  have b_r0 : Box6 W (w.heap.size + 1 + 1) (.bool false) (.slice none 0 0) (.slice none 0 0) (.bool false) (.slice none 0 0) (.slice none 0 0) := by rw [hW]; exact (Box6.new _ _ _ _ _ _ _ (by simp))
  have hwW : Below w.heap.size w W := by rw [hW]; exact ((((Below.refl _ _).alloc (Nat.le_refl _) _).alloc (by simp) _).alloc (by simp; omega) _)
  have R_a0 := hide (h_a0.upto hwW hB)
  clear h_a0
  have R_a1 := hide (h_a1.upto hwW hB)
  clear h_a1
  have R_b0 := hide (h_b0.upto hwW hB)
  clear h_b0
  have R_b1 := hide (h_b1.upto hwW hB)
  clear h_b1
  have B := hide hwW
  clear hwW
  clear hB
  have U0 : Below W.heap.size W W := Below.refl _ _
  have c_a0 := b_a.at0 b_a.lt_size (Nat.le_refl _)
  have c_a1 := b_a.at1 b_a.lt_size (Nat.le_refl _)
  have c_a2 := b_a.at2 b_a.lt_size (Nat.le_refl _)
  have c_a3 := b_a.at3 b_a.lt_size (Nat.le_refl _)
  have c_a4 := b_a.at4 b_a.lt_size (Nat.le_refl _)
  have c_a5 := b_a.at5 b_a.lt_size (Nat.le_refl _)
  replace b_a := hide b_a
  have c_b0 := b_b.at0 b_b.lt_size (Nat.le_refl _)
  have c_b1 := b_b.at1 b_b.lt_size (Nat.le_refl _)
  have c_b2 := b_b.at2 b_b.lt_size (Nat.le_refl _)
  have c_b3 := b_b.at3 b_b.lt_size (Nat.le_refl _)
  have c_b4 := b_b.at4 b_b.lt_size (Nat.le_refl _)
  have c_b5 := b_b.at5 b_b.lt_size (Nat.le_refl _)
  replace b_b := hide b_b
  have c_r00 := b_r0.at0 b_r0.lt_size (Nat.le_refl _)
  have c_r01 := b_r0.at1 b_r0.lt_size (Nat.le_refl _)
  have c_r02 := b_r0.at2 b_r0.lt_size (Nat.le_refl _)
  have c_r03 := b_r0.at3 b_r0.lt_size (Nat.le_refl _)
  have c_r04 := b_r0.at4 b_r0.lt_size (Nat.le_refl _)
  have c_r05 := b_r0.at5 b_r0.lt_size (Nat.le_refl _)
  have f_r00 := b_r0.free0 b_r0.lt_size (Nat.le_refl _)
  have f_r01 := b_r0.free1 b_r0.lt_size (Nat.le_refl _)
  have f_r02 := b_r0.free2 b_r0.lt_size (Nat.le_refl _)
  have f_r03 := b_r0.free3 b_r0.lt_size (Nat.le_refl _)
  have f_r04 := b_r0.free4 b_r0.lt_size (Nat.le_refl _)
  have f_r05 := b_r0.free5 b_r0.lt_size (Nat.le_refl _)
  have l_r0 := b_r0.lt b_r0.lt_size (Nat.le_refl _)
  replace b_r0 := hide b_r0
  go_enter Tryz.func8, Tryz.ntmps8
  go_wp2_with fail
  rw [← hW]
  clear hW
  refine (rsnorm_any gL0.out R_a0.out R_a1.out (Nat.le_refl _) hla.out hha.out).mono ?_
  rintro e w1 ⟨x_x0, x_x1, rfl, R_x0, R_x1, hb⟩
  replace R_a0 := hide (R_a0.out.then_ hb)
  replace R_a1 := hide (R_a1.out.then_ hb)
  replace R_b0 := hide (R_b0.out.then_ hb)
  replace R_b1 := hide (R_b1.out.then_ hb)
  have U1 : Below W.heap.size W w1 := Below.then_ U0 hb
  replace B := hide (Below.then_ B.out hb)
  replace R_x0 := hide R_x0
  replace R_x1 := hide R_x1
  clear hb
  have hbx : Below w1.heap.size w1 (w1.alloc (.cells #[.bool x_x0.s, .slice x_x0.A x_x0.n x_x0.c, .slice x_x0.B x_x0.m x_x0.d, .bool x_x1.s, .slice x_x1.A x_x1.n x_x1.c, .slice x_x1.B x_x1.m x_x1.d] 29)) := ((Below.refl _ _).alloc (Nat.le_refl _) _)
  have Ux := Below.then_ U1 hbx
  go_wp2_with fail
  obtain ⟨V1, hV⟩ : ∃ V, V = (w1.alloc (.cells #[.bool x_x0.s, .slice x_x0.A x_x0.n x_x0.c, .slice x_x0.B x_x0.m x_x0.d, .bool x_x1.s, .slice x_x1.A x_x1.n x_x1.c, .slice x_x1.B x_x1.m x_x1.d] 29)) := ⟨_, rfl⟩
  obtain ⟨g_x, hg_x⟩ : ∃ g, g = w1.heap.size := ⟨_, rfl⟩
  rw [← hV]
  rw [← hV] at hbx Ux
  rw [← hg_x]
  have b_x : Box6 V1 g_x (.bool x_x0.s) (.slice x_x0.A x_x0.n x_x0.c) (.slice x_x0.B x_x0.m x_x0.d) (.bool x_x1.s) (.slice x_x1.A x_x1.n x_x1.c) (.slice x_x1.B x_x1.m x_x1.d) := by rw [hV]; exact (Box6.new _ _ _ _ _ _ _ hg_x)
  clear hV
  have ne_x_r0 : g_x ≠ w.heap.size + 1 + 1 := by have := l_r0 _ U1; omega
  replace ne_x_r0 := hide ne_x_r0
  have ne_a_x : w.heap.size ≠ g_x := by have := (b_a.out.lt b_a.out.lt_size (Nat.le_refl _)) _ U1; omega
  replace ne_a_x := hide ne_a_x
  have ne_b_x : w.heap.size + 1 ≠ g_x := by have := (b_b.out.lt b_b.out.lt_size (Nat.le_refl _)) _ U1; omega
  replace ne_b_x := hide ne_b_x
  have ne_r0_x := hide (Ne.symm ne_x_r0.out)
  have ge_x : w.heap.size ≤ g_x := by have := B.out.size; omega
  replace ge_x := hide ge_x
  clear hg_x
  replace R_a0 := hide (R_a0.out.then_ hbx)
  replace R_a1 := hide (R_a1.out.then_ hbx)
  replace R_b0 := hide (R_b0.out.then_ hbx)
  replace R_b1 := hide (R_b1.out.then_ hbx)
  replace R_x0 := hide (R_x0.out.then_ hbx)
  replace R_x1 := hide (R_x1.out.then_ hbx)
  have U2 : Below W.heap.size W V1 := Below.then_ U1 hbx
  replace B := hide (Below.then_ B.out hbx)
  clear hbx
  replace b_a := hide (Box6.keep b_a.out U2)
  clear c_a0 c_a1 c_a2 c_a3 c_a4 c_a5
  replace b_b := hide (Box6.keep b_b.out U2)
  clear c_b0 c_b1 c_b2 c_b3 c_b4 c_b5
  replace b_r0 := hide (Box6.keep b_r0.out U2)
  clear c_r00 c_r01 c_r02 c_r03 c_r04 c_r05 f_r00 f_r01 f_r02 f_r03 f_r04 f_r05 l_r0
  replace b_x := hide b_x
  have U3 : Below V1.heap.size V1 V1 := Below.refl _ _
  have c_a0 := b_a.out.at0 b_a.out.lt_size (Nat.le_refl _)
  have c_a1 := b_a.out.at1 b_a.out.lt_size (Nat.le_refl _)
  have c_a2 := b_a.out.at2 b_a.out.lt_size (Nat.le_refl _)
  have c_a3 := b_a.out.at3 b_a.out.lt_size (Nat.le_refl _)
  have c_a4 := b_a.out.at4 b_a.out.lt_size (Nat.le_refl _)
  have c_a5 := b_a.out.at5 b_a.out.lt_size (Nat.le_refl _)
  have c_b0 := b_b.out.at0 b_b.out.lt_size (Nat.le_refl _)
  have c_b1 := b_b.out.at1 b_b.out.lt_size (Nat.le_refl _)
  have c_b2 := b_b.out.at2 b_b.out.lt_size (Nat.le_refl _)
  have c_b3 := b_b.out.at3 b_b.out.lt_size (Nat.le_refl _)
  have c_b4 := b_b.out.at4 b_b.out.lt_size (Nat.le_refl _)
  have c_b5 := b_b.out.at5 b_b.out.lt_size (Nat.le_refl _)
  have c_r00 := b_r0.out.at0 b_r0.out.lt_size (Nat.le_refl _)
  have c_r01 := b_r0.out.at1 b_r0.out.lt_size (Nat.le_refl _)
  have c_r02 := b_r0.out.at2 b_r0.out.lt_size (Nat.le_refl _)
  have c_r03 := b_r0.out.at3 b_r0.out.lt_size (Nat.le_refl _)
  have c_r04 := b_r0.out.at4 b_r0.out.lt_size (Nat.le_refl _)
  have c_r05 := b_r0.out.at5 b_r0.out.lt_size (Nat.le_refl _)
  have f_r00 := b_r0.out.free0 b_r0.out.lt_size (Nat.le_refl _)
  have f_r01 := b_r0.out.free1 b_r0.out.lt_size (Nat.le_refl _)
  have f_r02 := b_r0.out.free2 b_r0.out.lt_size (Nat.le_refl _)
  have f_r03 := b_r0.out.free3 b_r0.out.lt_size (Nat.le_refl _)
  have f_r04 := b_r0.out.free4 b_r0.out.lt_size (Nat.le_refl _)
  have f_r05 := b_r0.out.free5 b_r0.out.lt_size (Nat.le_refl _)
  have l_r0 := b_r0.out.lt b_r0.out.lt_size (Nat.le_refl _)
  have c_x0 := b_x.out.at0 b_x.out.lt_size (Nat.le_refl _)
  have c_x1 := b_x.out.at1 b_x.out.lt_size (Nat.le_refl _)
  have c_x2 := b_x.out.at2 b_x.out.lt_size (Nat.le_refl _)
  have c_x3 := b_x.out.at3 b_x.out.lt_size (Nat.le_refl _)
  have c_x4 := b_x.out.at4 b_x.out.lt_size (Nat.le_refl _)
  have c_x5 := b_x.out.at5 b_x.out.lt_size (Nat.le_refl _)
  refine (rsnorm_any gL0.out R_b0.out R_b1.out (Nat.le_refl _) hlb.out hhb.out).mono ?_
  rintro e w2 ⟨x_y0, x_y1, rfl, R_y0, R_y1, hb⟩
  replace R_a0 := hide (R_a0.out.then_ hb)
  replace R_a1 := hide (R_a1.out.then_ hb)
  replace R_b0 := hide (R_b0.out.then_ hb)
  replace R_b1 := hide (R_b1.out.then_ hb)
  replace R_x0 := hide (R_x0.out.then_ hb)
  replace R_x1 := hide (R_x1.out.then_ hb)
  have U4 : Below V1.heap.size V1 w2 := Below.then_ U3 hb
  replace B := hide (Below.then_ B.out hb)
  replace R_y0 := hide R_y0
  replace R_y1 := hide R_y1
  clear hb
  have hbx : Below w2.heap.size w2 (w2.alloc (.cells #[.bool x_y0.s, .slice x_y0.A x_y0.n x_y0.c, .slice x_y0.B x_y0.m x_y0.d, .bool x_y1.s, .slice x_y1.A x_y1.n x_y1.c, .slice x_y1.B x_y1.m x_y1.d] 29)) := ((Below.refl _ _).alloc (Nat.le_refl _) _)
  have Ux := Below.then_ U4 hbx
  go_wp2_with fail
  obtain ⟨V4, hV⟩ : ∃ V, V = (w2.alloc (.cells #[.bool x_y0.s, .slice x_y0.A x_y0.n x_y0.c, .slice x_y0.B x_y0.m x_y0.d, .bool x_y1.s, .slice x_y1.A x_y1.n x_y1.c, .slice x_y1.B x_y1.m x_y1.d] 29)) := ⟨_, rfl⟩
  obtain ⟨g_y, hg_y⟩ : ∃ g, g = w2.heap.size := ⟨_, rfl⟩
  rw [← hV]
  rw [← hV] at hbx Ux
  rw [← hg_y]
  have b_y : Box6 V4 g_y (.bool x_y0.s) (.slice x_y0.A x_y0.n x_y0.c) (.slice x_y0.B x_y0.m x_y0.d) (.bool x_y1.s) (.slice x_y1.A x_y1.n x_y1.c) (.slice x_y1.B x_y1.m x_y1.d) := by rw [hV]; exact (Box6.new _ _ _ _ _ _ _ hg_y)
  clear hV
  have ne_y_r0 : g_y ≠ w.heap.size + 1 + 1 := by have := l_r0 _ U4; omega
  replace ne_y_r0 := hide ne_y_r0
  have ne_a_y : w.heap.size ≠ g_y := by have := (b_a.out.lt b_a.out.lt_size (Nat.le_refl _)) _ U4; omega
  replace ne_a_y := hide ne_a_y
  have ne_b_y : w.heap.size + 1 ≠ g_y := by have := (b_b.out.lt b_b.out.lt_size (Nat.le_refl _)) _ U4; omega
  replace ne_b_y := hide ne_b_y
  have ne_r0_y := hide (Ne.symm ne_y_r0.out)
  have ne_x_y : g_x ≠ g_y := by have := (b_x.out.lt b_x.out.lt_size (Nat.le_refl _)) _ U4; omega
  replace ne_x_y := hide ne_x_y
  have ge_y : w.heap.size ≤ g_y := by have := B.out.size; omega
  replace ge_y := hide ge_y
  clear hg_y
  replace R_a0 := hide (R_a0.out.then_ hbx)
  replace R_a1 := hide (R_a1.out.then_ hbx)
  replace R_b0 := hide (R_b0.out.then_ hbx)
  replace R_b1 := hide (R_b1.out.then_ hbx)
  replace R_x0 := hide (R_x0.out.then_ hbx)
  replace R_x1 := hide (R_x1.out.then_ hbx)
  replace R_y0 := hide (R_y0.out.then_ hbx)
  replace R_y1 := hide (R_y1.out.then_ hbx)
  have U5 : Below V1.heap.size V1 V4 := Below.then_ U4 hbx
  replace B := hide (Below.then_ B.out hbx)
  clear hbx
  replace b_a := hide (Box6.keep b_a.out U5)
  clear c_a0 c_a1 c_a2 c_a3 c_a4 c_a5
  replace b_b := hide (Box6.keep b_b.out U5)
  clear c_b0 c_b1 c_b2 c_b3 c_b4 c_b5
  replace b_r0 := hide (Box6.keep b_r0.out U5)
  clear c_r00 c_r01 c_r02 c_r03 c_r04 c_r05 f_r00 f_r01 f_r02 f_r03 f_r04 f_r05 l_r0
  replace b_x := hide (Box6.keep b_x.out U5)
  clear c_x0 c_x1 c_x2 c_x3 c_x4 c_x5
  replace b_y := hide b_y
  have U6 : Below V4.heap.size V4 V4 := Below.refl _ _
  have c_a0 := b_a.out.at0 b_a.out.lt_size (Nat.le_refl _)
  have c_a1 := b_a.out.at1 b_a.out.lt_size (Nat.le_refl _)
  have c_a2 := b_a.out.at2 b_a.out.lt_size (Nat.le_refl _)
  have c_a3 := b_a.out.at3 b_a.out.lt_size (Nat.le_refl _)
  have c_a4 := b_a.out.at4 b_a.out.lt_size (Nat.le_refl _)
  have c_a5 := b_a.out.at5 b_a.out.lt_size (Nat.le_refl _)
  have c_b0 := b_b.out.at0 b_b.out.lt_size (Nat.le_refl _)
  have c_b1 := b_b.out.at1 b_b.out.lt_size (Nat.le_refl _)
  have c_b2 := b_b.out.at2 b_b.out.lt_size (Nat.le_refl _)
  have c_b3 := b_b.out.at3 b_b.out.lt_size (Nat.le_refl _)
  have c_b4 := b_b.out.at4 b_b.out.lt_size (Nat.le_refl _)
  have c_b5 := b_b.out.at5 b_b.out.lt_size (Nat.le_refl _)
  have c_r00 := b_r0.out.at0 b_r0.out.lt_size (Nat.le_refl _)
  have c_r01 := b_r0.out.at1 b_r0.out.lt_size (Nat.le_refl _)
  have c_r02 := b_r0.out.at2 b_r0.out.lt_size (Nat.le_refl _)
  have c_r03 := b_r0.out.at3 b_r0.out.lt_size (Nat.le_refl _)
  have c_r04 := b_r0.out.at4 b_r0.out.lt_size (Nat.le_refl _)
  have c_r05 := b_r0.out.at5 b_r0.out.lt_size (Nat.le_refl _)
  have f_r00 := b_r0.out.free0 b_r0.out.lt_size (Nat.le_refl _)
  have f_r01 := b_r0.out.free1 b_r0.out.lt_size (Nat.le_refl _)
  have f_r02 := b_r0.out.free2 b_r0.out.lt_size (Nat.le_refl _)
  have f_r03 := b_r0.out.free3 b_r0.out.lt_size (Nat.le_refl _)
  have f_r04 := b_r0.out.free4 b_r0.out.lt_size (Nat.le_refl _)
  have f_r05 := b_r0.out.free5 b_r0.out.lt_size (Nat.le_refl _)
  have l_r0 := b_r0.out.lt b_r0.out.lt_size (Nat.le_refl _)
  have c_x0 := b_x.out.at0 b_x.out.lt_size (Nat.le_refl _)
  have c_x1 := b_x.out.at1 b_x.out.lt_size (Nat.le_refl _)
  have c_x2 := b_x.out.at2 b_x.out.lt_size (Nat.le_refl _)
  have c_x3 := b_x.out.at3 b_x.out.lt_size (Nat.le_refl _)
  have c_x4 := b_x.out.at4 b_x.out.lt_size (Nat.le_refl _)
  have c_x5 := b_x.out.at5 b_x.out.lt_size (Nat.le_refl _)
  have c_y0 := b_y.out.at0 b_y.out.lt_size (Nat.le_refl _)
  have c_y1 := b_y.out.at1 b_y.out.lt_size (Nat.le_refl _)
  have c_y2 := b_y.out.at2 b_y.out.lt_size (Nat.le_refl _)
  have c_y3 := b_y.out.at3 b_y.out.lt_size (Nat.le_refl _)
  have c_y4 := b_y.out.at4 b_y.out.lt_size (Nat.le_refl _)
  have c_y5 := b_y.out.at5 b_y.out.lt_size (Nat.le_refl _)
  go_wp2_with fail
  have k_a0 := b_a.out.but0 (g1 := w.heap.size + 1 + 1) (g2 := w.heap.size + 1 + 1) (by omega) (by omega)
  have k_a1 := b_a.out.but1 (g1 := w.heap.size + 1 + 1) (g2 := w.heap.size + 1 + 1) (by omega) (by omega)
  have k_a2 := b_a.out.but2 (g1 := w.heap.size + 1 + 1) (g2 := w.heap.size + 1 + 1) (by omega) (by omega)
  have k_a3 := b_a.out.but3 (g1 := w.heap.size + 1 + 1) (g2 := w.heap.size + 1 + 1) (by omega) (by omega)
  have k_a4 := b_a.out.but4 (g1 := w.heap.size + 1 + 1) (g2 := w.heap.size + 1 + 1) (by omega) (by omega)
  have k_a5 := b_a.out.but5 (g1 := w.heap.size + 1 + 1) (g2 := w.heap.size + 1 + 1) (by omega) (by omega)
  have k_b0 := b_b.out.but0 (g1 := w.heap.size + 1 + 1) (g2 := w.heap.size + 1 + 1) (by omega) (by omega)
  have k_b1 := b_b.out.but1 (g1 := w.heap.size + 1 + 1) (g2 := w.heap.size + 1 + 1) (by omega) (by omega)
  have k_b2 := b_b.out.but2 (g1 := w.heap.size + 1 + 1) (g2 := w.heap.size + 1 + 1) (by omega) (by omega)
  have k_b3 := b_b.out.but3 (g1 := w.heap.size + 1 + 1) (g2 := w.heap.size + 1 + 1) (by omega) (by omega)
  have k_b4 := b_b.out.but4 (g1 := w.heap.size + 1 + 1) (g2 := w.heap.size + 1 + 1) (by omega) (by omega)
  have k_b5 := b_b.out.but5 (g1 := w.heap.size + 1 + 1) (g2 := w.heap.size + 1 + 1) (by omega) (by omega)
  have k_x0 := b_x.out.but0 (g1 := w.heap.size + 1 + 1) (g2 := w.heap.size + 1 + 1) ne_x_r0.out ne_x_r0.out
  have k_x1 := b_x.out.but1 (g1 := w.heap.size + 1 + 1) (g2 := w.heap.size + 1 + 1) ne_x_r0.out ne_x_r0.out
  have k_x2 := b_x.out.but2 (g1 := w.heap.size + 1 + 1) (g2 := w.heap.size + 1 + 1) ne_x_r0.out ne_x_r0.out
  have k_x3 := b_x.out.but3 (g1 := w.heap.size + 1 + 1) (g2 := w.heap.size + 1 + 1) ne_x_r0.out ne_x_r0.out
  have k_x4 := b_x.out.but4 (g1 := w.heap.size + 1 + 1) (g2 := w.heap.size + 1 + 1) ne_x_r0.out ne_x_r0.out
  have k_x5 := b_x.out.but5 (g1 := w.heap.size + 1 + 1) (g2 := w.heap.size + 1 + 1) ne_x_r0.out ne_x_r0.out
  have k_y0 := b_y.out.but0 (g1 := w.heap.size + 1 + 1) (g2 := w.heap.size + 1 + 1) ne_y_r0.out ne_y_r0.out
  have k_y1 := b_y.out.but1 (g1 := w.heap.size + 1 + 1) (g2 := w.heap.size + 1 + 1) ne_y_r0.out ne_y_r0.out
  have k_y2 := b_y.out.but2 (g1 := w.heap.size + 1 + 1) (g2 := w.heap.size + 1 + 1) ne_y_r0.out ne_y_r0.out
  have k_y3 := b_y.out.but3 (g1 := w.heap.size + 1 + 1) (g2 := w.heap.size + 1 + 1) ne_y_r0.out ne_y_r0.out
  have k_y4 := b_y.out.but4 (g1 := w.heap.size + 1 + 1) (g2 := w.heap.size + 1 + 1) ne_y_r0.out ne_y_r0.out
  have k_y5 := b_y.out.but5 (g1 := w.heap.size + 1 + 1) (g2 := w.heap.size + 1 + 1) ne_y_r0.out ne_y_r0.out
  have hd := Below.drw_ V4
  replace R_a0 := hide (R_a0.out.then_ hd)
  replace R_a1 := hide (R_a1.out.then_ hd)
  replace R_b0 := hide (R_b0.out.then_ hd)
  replace R_b1 := hide (R_b1.out.then_ hd)
  replace R_x0 := hide (R_x0.out.then_ hd)
  replace R_x1 := hide (R_x1.out.then_ hd)
  replace R_y0 := hide (R_y0.out.then_ hd)
  replace R_y1 := hide (R_y1.out.then_ hd)
  have U7 : Below V4.heap.size V4 (V4.drew) := Below.then_ U6 hd
  replace B := hide (Below.then_ B.out hd)
  have K7 : KeptBut (w.heap.size + 1 + 1) (w.heap.size + 1 + 1) V4.heap.size V4 (V4.drew) := KeptBut.below U7
  clear hd
  have tok1 : True := trivial
  go_region_held3 (fun w' => KeptBut (w.heap.size + 1 + 1) (w.heap.size + 1 + 1) V4.heap.size V4 w') (first | (with_reducible assumption) | (with_reducible exact KeptBut.drw _) | ((repeat (first | (with_reducible refine KeptBut.set0 ?_ _) | (with_reducible refine KeptBut.drew_ ?_))); first | (with_reducible assumption) | (with_reducible exact KeptBut.refl _ _ _ _)))
    (first
      | (go_at_call 23; (have _t := tok1; (with_reducible refine (radd_q R_x0.out.rq (by omega) R_y0.out.rq (by omega) (Nat.le_refl _) hl.out).mono ?_); rintro e w3 ⟨x_s, rfl, R_s, hb⟩; replace R_a0 := hide (R_a0.out.then_ hb); replace R_a1 := hide (R_a1.out.then_ hb); replace R_b0 := hide (R_b0.out.then_ hb); replace R_b1 := hide (R_b1.out.then_ hb); replace R_x0 := hide (R_x0.out.then_ hb); replace R_x1 := hide (R_x1.out.then_ hb); replace R_y0 := hide (R_y0.out.then_ hb); replace R_y1 := hide (R_y1.out.then_ hb); have U8 : Below V4.heap.size V4 w3 := Below.then_ U7 hb; replace B := hide (Below.then_ B.out hb); have K8 : KeptBut (w.heap.size + 1 + 1) (w.heap.size + 1 + 1) V4.heap.size V4 w3 := KeptBut.below U8; replace R_s := hide R_s; clear hb; have tok2 : True := trivial; clear _t tok1))
      | (go_at_call 23; (have _t := tok2; (with_reducible refine (radd_q R_x1.out.rq (by omega) R_y1.out.rq (by omega) (Nat.le_refl _) hh.out).mono ?_); rintro e w4 ⟨x_t, rfl, R_t, hb⟩; replace R_a0 := hide (R_a0.out.then_ hb); replace R_a1 := hide (R_a1.out.then_ hb); replace R_b0 := hide (R_b0.out.then_ hb); replace R_b1 := hide (R_b1.out.then_ hb); replace R_x0 := hide (R_x0.out.then_ hb); replace R_x1 := hide (R_x1.out.then_ hb); replace R_y0 := hide (R_y0.out.then_ hb); replace R_y1 := hide (R_y1.out.then_ hb); replace R_s := hide (R_s.out.then_ hb); have U9 : Below V4.heap.size V4 w4 := Below.then_ U8 hb; replace B := hide (Below.then_ B.out hb); have K9 : KeptBut (w.heap.size + 1 + 1) (w.heap.size + 1 + 1) V4.heap.size V4 w4 := KeptBut.below U9; replace R_t := hide R_t; clear hb; have tok3 : True := trivial; clear _t tok2))
      | (go_at_call 6; (have _t := tok3; (with_reducible refine (rsof_any gL3.out R_s.out.rq R_t.out.rq (Nat.le_refl _) e1.out e2.out).mono ?_); rintro e w5 ⟨x_z0, x_z1, rfl, R_z0, R_z1, hb⟩; replace R_a0 := hide (R_a0.out.then_ hb); replace R_a1 := hide (R_a1.out.then_ hb); replace R_b0 := hide (R_b0.out.then_ hb); replace R_b1 := hide (R_b1.out.then_ hb); replace R_x0 := hide (R_x0.out.then_ hb); replace R_x1 := hide (R_x1.out.then_ hb); replace R_y0 := hide (R_y0.out.then_ hb); replace R_y1 := hide (R_y1.out.then_ hb); replace R_s := hide (R_s.out.then_ hb); replace R_t := hide (R_t.out.then_ hb); have U10 : Below V4.heap.size V4 w5 := Below.then_ U9 hb; replace B := hide (Below.then_ B.out hb); have K10 : KeptBut (w.heap.size + 1 + 1) (w.heap.size + 1 + 1) V4.heap.size V4 w5 := KeptBut.below U10; replace R_z0 := hide R_z0; replace R_z1 := hide R_z1; clear hb; have tok4 : True := trivial; clear _t tok3)))
  clear tok4
  clear k_a0 k_a1 k_a2 k_a3 k_a4 k_a5
  clear k_b0 k_b1 k_b2 k_b3 k_b4 k_b5
  clear k_x0 k_x1 k_x2 k_x3 k_x4 k_x5
  clear k_y0 k_y1 k_y2 k_y3 k_y4 k_y5
  replace R_z0 := hide (R_z0.out.le (M := 2 * L + 6) (by omega))
  replace R_z1 := hide (R_z1.out.le (M := 2 * L + 6) (by omega))
  go_wp2
  exact bodyPost_ret (v := .agg #[.bool x_z0.s, .slice x_z0.A x_z0.n x_z0.c, .slice x_z0.B x_z0.m x_z0.d, .bool x_z1.s, .slice x_z1.A x_z1.n x_z1.c, .slice x_z1.B x_z1.m x_z1.d]) (by simp [results, Tryz.results8, go_sem, c_r00 _ U10, c_r01 _ U10, c_r02 _ U10, c_r03 _ U10, c_r04 _ U10, c_r05 _ U10]) rfl (RetSN.box B.out (by omega) (c_r00 _ U10) (c_r01 _ U10) (c_r02 _ U10) (c_r03 _ U10) (c_r04 _ U10) (c_r05 _ U10) R_z0.out R_z1.out)

set_option maxHeartbeats 4000000 in
theorem rssub_any {w : World} {Bd : Nat} {L : Nat} (gL : L ≤ 30000000) {a0 : Rc} {q_a0 : Rat} {a1 : Rc} {q_a1 : Rat} {b0 : Rc} {q_b0 : Rat} {b1 : Rc} {q_b1 : Rat} (h_a0 : Rq w Bd L a0 q_a0) (h_a1 : Rq w Bd L a1 q_a1) (h_b0 : Rq w Bd L b0 q_b0) (h_b1 : Rq w Bd L b1 q_b1) (hB : Bd ≤ w.heap.size) {l h : Rat} (hl : rlo q_a0 q_a1 - rhi q_b0 q_b1 = l) (hh : rhi q_a0 q_a1 - rlo q_b0 q_b1 = h) :
    Calls Tryz.prog 10 #[.agg #[.bool a0.s, .slice a0.A a0.n a0.c, .slice a0.B a0.m a0.d, .bool a1.s, .slice a1.A a1.n a1.c, .slice a1.B a1.m a1.d], .agg #[.bool b0.s, .slice b0.A b0.n b0.c, .slice b0.B b0.m b0.d, .bool b1.s, .slice b1.A b1.n b1.c, .slice b1.B b1.m b1.d]] w (RetSN w (2 * L + 6) l h) := by
  obtain ⟨la, hla⟩ : ∃ l, rlo q_a0 q_a1 = l := ⟨_, rfl⟩
  obtain ⟨ha, hha⟩ : ∃ h, rhi q_a0 q_a1 = h := ⟨_, rfl⟩
  have oa : la ≤ ha := by rw [← hla, ← hha]; exact rlo_le_rhi _ _
  obtain ⟨lb, hlb⟩ : ∃ l, rlo q_b0 q_b1 = l := ⟨_, rfl⟩
  obtain ⟨hb, hhb⟩ : ∃ h, rhi q_b0 q_b1 = h := ⟨_, rfl⟩
  have ob : lb ≤ hb := by rw [← hlb, ← hhb]; exact rlo_le_rhi _ _
  rw [hla, hhb] at hl
  rw [hha, hlb] at hh
  have o : l ≤ h := by grind
  have e1 : rlo l h = l := rlo_of_le o
  have e2 : rhi l h = h := rhi_of_le o
  clear o oa ob
  replace hl := hide hl
  replace hh := hide hh
  replace hla := hide hla
  replace hha := hide hha
  replace hlb := hide hlb
  replace hhb := hide hhb
  replace e1 := hide e1
  replace e2 := hide e2
  have gL0 : L ≤ 100000000 := by omega
  replace gL0 := hide gL0
  have gL3 : L + 1 + (L + 1) + 3 ≤ 100000000 := by omega
  replace gL3 := hide gL3
  obtain ⟨W, hW⟩ : ∃ W, W = (((w.alloc (.cells #[.bool a0.s, .slice a0.A a0.n a0.c, .slice a0.B a0.m a0.d, .bool a1.s, .slice a1.A a1.n a1.c, .slice a1.B a1.m a1.d] 29)).alloc (.cells #[.bool b0.s, .slice b0.A b0.n b0.c, .slice b0.B b0.m b0.d, .bool b1.s, .slice b1.A b1.n b1.c, .slice b1.B b1.m b1.d] 29)).alloc (.cells #[.bool false, .slice none 0 0, .slice none 0 0, .bool false, .slice none 0 0, .slice none 0 0] 29)) := ⟨_, rfl⟩
  have b_a : Box6 W (w.heap.size) (.bool a0.s) (.slice a0.A a0.n a0.c) (.slice a0.B a0.m a0.d) (.bool a1.s) (.slice a1.A a1.n a1.c) (.slice a1.B a1.m a1.d) := by rw [hW]; exact (((Box6.new w _ _ _ _ _ _ rfl).al _).al _)
  have b_b : Box6 W (w.heap.size + 1) (.bool b0.s) (.slice b0.A b0.n b0.c) (.slice b0.B b0.m b0.d) (.bool b1.s) (.slice b1.A b1.n b1.c) (.slice b1.B b1.m b1.d) := by rw [hW]; exact ((Box6.new _ _ _ _ _ _ _ (by simp)).al _)
  have b_r0 : Box6 W (w.heap.size + 1 + 1) (.bool false) (.slice none 0 0) (.slice none 0 0) (.bool false) (.slice none 0 0) (.slice none 0 0) := by rw [hW]; exact (Box6.new _ _ _ _ _ _ _ (by simp))
  have hwW : Below w.heap.size w W := by rw [hW]; exact ((((Below.refl _ _).alloc (Nat.le_refl _) _).alloc (by simp) _).alloc (by simp; omega) _)
  have R_a0 := hide (h_a0.upto hwW hB)
  clear h_a0
  have R_a1 := hide (h_a1.upto hwW hB)
  clear h_a1
  have R_b0 := hide (h_b0.upto hwW hB)
  clear h_b0
  have R_b1 := hide (h_b1.upto hwW hB)
  clear h_b1
  have B := hide hwW
  clear hwW
  clear hB
  have U0 : Below W.heap.size W W := Below.refl _ _
  have c_a0 := b_a.at0 b_a.lt_size (Nat.le_refl _)
  have c_a1 := b_a.at1 b_a.lt_size (Nat.le_refl _)
  have c_a2 := b_a.at2 b_a.lt_size (Nat.le_refl _)
  have c_a3 := b_a.at3 b_a.lt_size (Nat.le_refl _)
  have c_a4 := b_a.at4 b_a.lt_size (Nat.le_refl _)
  have c_a5 := b_a.at5 b_a.lt_size (Nat.le_refl _)
  replace b_a := hide b_a
  have c_b0 := b_b.at0 b_b.lt_size (Nat.le_refl _)
  have c_b1 := b_b.at1 b_b.lt_size (Nat.le_refl _)
  have c_b2 := b_b.at2 b_b.lt_size (Nat.le_refl _)
  have c_b3 := b_b.at3 b_b.lt_size (Nat.le_refl _)
  have c_b4 := b_b.at4 b_b.lt_size (Nat.le_refl _)
  have c_b5 := b_b.at5 b_b.lt_size (Nat.le_refl _)
  replace b_b := hide b_b
  have c_r00 := b_r0.at0 b_r0.lt_size (Nat.le_refl _)
  have c_r01 := b_r0.at1 b_r0.lt_size (Nat.le_refl _)
  have c_r02 := b_r0.at2 b_r0.lt_size (Nat.le_refl _)
  have c_r03 := b_r0.at3 b_r0.lt_size (Nat.le_refl _)
  have c_r04 := b_r0.at4 b_r0.lt_size (Nat.le_refl _)
  have c_r05 := b_r0.at5 b_r0.lt_size (Nat.le_refl _)
  have f_r00 := b_r0.free0 b_r0.lt_size (Nat.le_refl _)
  have f_r01 := b_r0.free1 b_r0.lt_size (Nat.le_refl _)
  have f_r02 := b_r0.free2 b_r0.lt_size (Nat.le_refl _)
  have f_r03 := b_r0.free3 b_r0.lt_size (Nat.le_refl _)
  have f_r04 := b_r0.free4 b_r0.lt_size (Nat.le_refl _)
  have f_r05 := b_r0.free5 b_r0.lt_size (Nat.le_refl _)
  have l_r0 := b_r0.lt b_r0.lt_size (Nat.le_refl _)
  replace b_r0 := hide b_r0
  go_enter Tryz.func10, Tryz.ntmps10
  go_wp2_with fail
  rw [← hW]
  clear hW
  refine (rsnorm_any gL0.out R_a0.out R_a1.out (Nat.le_refl _) hla.out hha.out).mono ?_
  rintro e w1 ⟨x_x0, x_x1, rfl, R_x0, R_x1, hb⟩
  replace R_a0 := hide (R_a0.out.then_ hb)
  replace R_a1 := hide (R_a1.out.then_ hb)
  replace R_b0 := hide (R_b0.out.then_ hb)
  replace R_b1 := hide (R_b1.out.then_ hb)
  have U1 : Below W.heap.size W w1 := Below.then_ U0 hb
  replace B := hide (Below.then_ B.out hb)
  replace R_x0 := hide R_x0
  replace R_x1 := hide R_x1
  clear hb
  have hbx : Below w1.heap.size w1 (w1.alloc (.cells #[.bool x_x0.s, .slice x_x0.A x_x0.n x_x0.c, .slice x_x0.B x_x0.m x_x0.d, .bool x_x1.s, .slice x_x1.A x_x1.n x_x1.c, .slice x_x1.B x_x1.m x_x1.d] 29)) := ((Below.refl _ _).alloc (Nat.le_refl _) _)
  have Ux := Below.then_ U1 hbx
  go_wp2_with fail
  obtain ⟨V1, hV⟩ : ∃ V, V = (w1.alloc (.cells #[.bool x_x0.s, .slice x_x0.A x_x0.n x_x0.c, .slice x_x0.B x_x0.m x_x0.d, .bool x_x1.s, .slice x_x1.A x_x1.n x_x1.c, .slice x_x1.B x_x1.m x_x1.d] 29)) := ⟨_, rfl⟩
  obtain ⟨g_x, hg_x⟩ : ∃ g, g = w1.heap.size := ⟨_, rfl⟩
  rw [← hV]
  rw [← hV] at hbx Ux
  rw [← hg_x]
  have b_x : Box6 V1 g_x (.bool x_x0.s) (.slice x_x0.A x_x0.n x_x0.c) (.slice x_x0.B x_x0.m x_x0.d) (.bool x_x1.s) (.slice x_x1.A x_x1.n x_x1.c) (.slice x_x1.B x_x1.m x_x1.d) := by rw [hV]; exact (Box6.new _ _ _ _ _ _ _ hg_x)
  clear hV
  have ne_x_r0 : g_x ≠ w.heap.size + 1 + 1 := by have := l_r0 _ U1; omega
  replace ne_x_r0 := hide ne_x_r0
  have ne_a_x : w.heap.size ≠ g_x := by have := (b_a.out.lt b_a.out.lt_size (Nat.le_refl _)) _ U1; omega
  replace ne_a_x := hide ne_a_x
  have ne_b_x : w.heap.size + 1 ≠ g_x := by have := (b_b.out.lt b_b.out.lt_size (Nat.le_refl _)) _ U1; omega
  replace ne_b_x := hide ne_b_x
  have ne_r0_x := hide (Ne.symm ne_x_r0.out)
  have ge_x : w.heap.size ≤ g_x := by have := B.out.size; omega
  replace ge_x := hide ge_x
  clear hg_x
  replace R_a0 := hide (R_a0.out.then_ hbx)
  replace R_a1 := hide (R_a1.out.then_ hbx)
  replace R_b0 := hide (R_b0.out.then_ hbx)
  replace R_b1 := hide (R_b1.out.then_ hbx)
  replace R_x0 := hide (R_x0.out.then_ hbx)
  replace R_x1 := hide (R_x1.out.then_ hbx)
  have U2 : Below W.heap.size W V1 := Below.then_ U1 hbx
  replace B := hide (Below.then_ B.out hbx)
  clear hbx
  replace b_a := hide (Box6.keep b_a.out U2)
  clear c_a0 c_a1 c_a2 c_a3 c_a4 c_a5
  replace b_b := hide (Box6.keep b_b.out U2)
  clear c_b0 c_b1 c_b2 c_b3 c_b4 c_b5
  replace b_r0 := hide (Box6.keep b_r0.out U2)
  clear c_r00 c_r01 c_r02 c_r03 c_r04 c_r05 f_r00 f_r01 f_r02 f_r03 f_r04 f_r05 l_r0
  replace b_x := hide b_x
  have U3 : Below V1.heap.size V1 V1 := Below.refl _ _
  have c_a0 := b_a.out.at0 b_a.out.lt_size (Nat.le_refl _)
  have c_a1 := b_a.out.at1 b_a.out.lt_size (Nat.le_refl _)
  have c_a2 := b_a.out.at2 b_a.out.lt_size (Nat.le_refl _)
  have c_a3 := b_a.out.at3 b_a.out.lt_size (Nat.le_refl _)
  have c_a4 := b_a.out.at4 b_a.out.lt_size (Nat.le_refl _)
  have c_a5 := b_a.out.at5 b_a.out.lt_size (Nat.le_refl _)
  have c_b0 := b_b.out.at0 b_b.out.lt_size (Nat.le_refl _)
  have c_b1 := b_b.out.at1 b_b.out.lt_size (Nat.le_refl _)
  have c_b2 := b_b.out.at2 b_b.out.lt_size (Nat.le_refl _)
  have c_b3 := b_b.out.at3 b_b.out.lt_size (Nat.le_refl _)
  have c_b4 := b_b.out.at4 b_b.out.lt_size (Nat.le_refl _)
  have c_b5 := b_b.out.at5 b_b.out.lt_size (Nat.le_refl _)
  have c_r00 := b_r0.out.at0 b_r0.out.lt_size (Nat.le_refl _)
  have c_r01 := b_r0.out.at1 b_r0.out.lt_size (Nat.le_refl _)
  have c_r02 := b_r0.out.at2 b_r0.out.lt_size (Nat.le_refl _)
  have c_r03 := b_r0.out.at3 b_r0.out.lt_size (Nat.le_refl _)
  have c_r04 := b_r0.out.at4 b_r0.out.lt_size (Nat.le_refl _)
  have c_r05 := b_r0.out.at5 b_r0.out.lt_size (Nat.le_refl _)
  have f_r00 := b_r0.out.free0 b_r0.out.lt_size (Nat.le_refl _)
  have f_r01 := b_r0.out.free1 b_r0.out.lt_size (Nat.le_refl _)
  have f_r02 := b_r0.out.free2 b_r0.out.lt_size (Nat.le_refl _)
  have f_r03 := b_r0.out.free3 b_r0.out.lt_size (Nat.le_refl _)
  have f_r04 := b_r0.out.free4 b_r0.out.lt_size (Nat.le_refl _)
  have f_r05 := b_r0.out.free5 b_r0.out.lt_size (Nat.le_refl _)
  have l_r0 := b_r0.out.lt b_r0.out.lt_size (Nat.le_refl _)
  have c_x0 := b_x.out.at0 b_x.out.lt_size (Nat.le_refl _)
  have c_x1 := b_x.out.at1 b_x.out.lt_size (Nat.le_refl _)
  have c_x2 := b_x.out.at2 b_x.out.lt_size (Nat.le_refl _)
  have c_x3 := b_x.out.at3 b_x.out.lt_size (Nat.le_refl _)
  have c_x4 := b_x.out.at4 b_x.out.lt_size (Nat.le_refl _)
  have c_x5 := b_x.out.at5 b_x.out.lt_size (Nat.le_refl _)
  refine (rsnorm_any gL0.out R_b0.out R_b1.out (Nat.le_refl _) hlb.out hhb.out).mono ?_
  rintro e w2 ⟨x_y0, x_y1, rfl, R_y0, R_y1, hb⟩
  replace R_a0 := hide (R_a0.out.then_ hb)
  replace R_a1 := hide (R_a1.out.then_ hb)
  replace R_b0 := hide (R_b0.out.then_ hb)
  replace R_b1 := hide (R_b1.out.then_ hb)
  replace R_x0 := hide (R_x0.out.then_ hb)
  replace R_x1 := hide (R_x1.out.then_ hb)
  have U4 : Below V1.heap.size V1 w2 := Below.then_ U3 hb
  replace B := hide (Below.then_ B.out hb)
  replace R_y0 := hide R_y0
  replace R_y1 := hide R_y1
  clear hb
  have hbx : Below w2.heap.size w2 (w2.alloc (.cells #[.bool x_y0.s, .slice x_y0.A x_y0.n x_y0.c, .slice x_y0.B x_y0.m x_y0.d, .bool x_y1.s, .slice x_y1.A x_y1.n x_y1.c, .slice x_y1.B x_y1.m x_y1.d] 29)) := ((Below.refl _ _).alloc (Nat.le_refl _) _)
  have Ux := Below.then_ U4 hbx
  go_wp2_with fail
  obtain ⟨V4, hV⟩ : ∃ V, V = (w2.alloc (.cells #[.bool x_y0.s, .slice x_y0.A x_y0.n x_y0.c, .slice x_y0.B x_y0.m x_y0.d, .bool x_y1.s, .slice x_y1.A x_y1.n x_y1.c, .slice x_y1.B x_y1.m x_y1.d] 29)) := ⟨_, rfl⟩
  obtain ⟨g_y, hg_y⟩ : ∃ g, g = w2.heap.size := ⟨_, rfl⟩
  rw [← hV]
  rw [← hV] at hbx Ux
  rw [← hg_y]
  have b_y : Box6 V4 g_y (.bool x_y0.s) (.slice x_y0.A x_y0.n x_y0.c) (.slice x_y0.B x_y0.m x_y0.d) (.bool x_y1.s) (.slice x_y1.A x_y1.n x_y1.c) (.slice x_y1.B x_y1.m x_y1.d) := by rw [hV]; exact (Box6.new _ _ _ _ _ _ _ hg_y)
  clear hV
  have ne_y_r0 : g_y ≠ w.heap.size + 1 + 1 := by have := l_r0 _ U4; omega
  replace ne_y_r0 := hide ne_y_r0
  have ne_a_y : w.heap.size ≠ g_y := by have := (b_a.out.lt b_a.out.lt_size (Nat.le_refl _)) _ U4; omega
  replace ne_a_y := hide ne_a_y
  have ne_b_y : w.heap.size + 1 ≠ g_y := by have := (b_b.out.lt b_b.out.lt_size (Nat.le_refl _)) _ U4; omega
  replace ne_b_y := hide ne_b_y
  have ne_r0_y := hide (Ne.symm ne_y_r0.out)
  have ne_x_y : g_x ≠ g_y := by have := (b_x.out.lt b_x.out.lt_size (Nat.le_refl _)) _ U4; omega
  replace ne_x_y := hide ne_x_y
  have ge_y : w.heap.size ≤ g_y := by have := B.out.size; omega
  replace ge_y := hide ge_y
  clear hg_y
  replace R_a0 := hide (R_a0.out.then_ hbx)
  replace R_a1 := hide (R_a1.out.then_ hbx)
  replace R_b0 := hide (R_b0.out.then_ hbx)
  replace R_b1 := hide (R_b1.out.then_ hbx)
  replace R_x0 := hide (R_x0.out.then_ hbx)
  replace R_x1 := hide (R_x1.out.then_ hbx)
  replace R_y0 := hide (R_y0.out.then_ hbx)
  replace R_y1 := hide (R_y1.out.then_ hbx)
  have U5 : Below V1.heap.size V1 V4 := Below.then_ U4 hbx
  replace B := hide (Below.then_ B.out hbx)
  clear hbx
  replace b_a := hide (Box6.keep b_a.out U5)
  clear c_a0 c_a1 c_a2 c_a3 c_a4 c_a5
  replace b_b := hide (Box6.keep b_b.out U5)
  clear c_b0 c_b1 c_b2 c_b3 c_b4 c_b5
  replace b_r0 := hide (Box6.keep b_r0.out U5)
  clear c_r00 c_r01 c_r02 c_r03 c_r04 c_r05 f_r00 f_r01 f_r02 f_r03 f_r04 f_r05 l_r0
  replace b_x := hide (Box6.keep b_x.out U5)
  clear c_x0 c_x1 c_x2 c_x3 c_x4 c_x5
  replace b_y := hide b_y
  have U6 : Below V4.heap.size V4 V4 := Below.refl _ _
  have c_a0 := b_a.out.at0 b_a.out.lt_size (Nat.le_refl _)
  have c_a1 := b_a.out.at1 b_a.out.lt_size (Nat.le_refl _)
  have c_a2 := b_a.out.at2 b_a.out.lt_size (Nat.le_refl _)
  have c_a3 := b_a.out.at3 b_a.out.lt_size (Nat.le_refl _)
  have c_a4 := b_a.out.at4 b_a.out.lt_size (Nat.le_refl _)
  have c_a5 := b_a.out.at5 b_a.out.lt_size (Nat.le_refl _)
  have c_b0 := b_b.out.at0 b_b.out.lt_size (Nat.le_refl _)
  have c_b1 := b_b.out.at1 b_b.out.lt_size (Nat.le_refl _)
  have c_b2 := b_b.out.at2 b_b.out.lt_size (Nat.le_refl _)
  have c_b3 := b_b.out.at3 b_b.out.lt_size (Nat.le_refl _)
  have c_b4 := b_b.out.at4 b_b.out.lt_size (Nat.le_refl _)
  have c_b5 := b_b.out.at5 b_b.out.lt_size (Nat.le_refl _)
  have c_r00 := b_r0.out.at0 b_r0.out.lt_size (Nat.le_refl _)
  have c_r01 := b_r0.out.at1 b_r0.out.lt_size (Nat.le_refl _)
  have c_r02 := b_r0.out.at2 b_r0.out.lt_size (Nat.le_refl _)
  have c_r03 := b_r0.out.at3 b_r0.out.lt_size (Nat.le_refl _)
  have c_r04 := b_r0.out.at4 b_r0.out.lt_size (Nat.le_refl _)
  have c_r05 := b_r0.out.at5 b_r0.out.lt_size (Nat.le_refl _)
  have f_r00 := b_r0.out.free0 b_r0.out.lt_size (Nat.le_refl _)
  have f_r01 := b_r0.out.free1 b_r0.out.lt_size (Nat.le_refl _)
  have f_r02 := b_r0.out.free2 b_r0.out.lt_size (Nat.le_refl _)
  have f_r03 := b_r0.out.free3 b_r0.out.lt_size (Nat.le_refl _)
  have f_r04 := b_r0.out.free4 b_r0.out.lt_size (Nat.le_refl _)
  have f_r05 := b_r0.out.free5 b_r0.out.lt_size (Nat.le_refl _)
  have l_r0 := b_r0.out.lt b_r0.out.lt_size (Nat.le_refl _)
  have c_x0 := b_x.out.at0 b_x.out.lt_size (Nat.le_refl _)
  have c_x1 := b_x.out.at1 b_x.out.lt_size (Nat.le_refl _)
  have c_x2 := b_x.out.at2 b_x.out.lt_size (Nat.le_refl _)
  have c_x3 := b_x.out.at3 b_x.out.lt_size (Nat.le_refl _)
  have c_x4 := b_x.out.at4 b_x.out.lt_size (Nat.le_refl _)
  have c_x5 := b_x.out.at5 b_x.out.lt_size (Nat.le_refl _)
  have c_y0 := b_y.out.at0 b_y.out.lt_size (Nat.le_refl _)
  have c_y1 := b_y.out.at1 b_y.out.lt_size (Nat.le_refl _)
  have c_y2 := b_y.out.at2 b_y.out.lt_size (Nat.le_refl _)
  have c_y3 := b_y.out.at3 b_y.out.lt_size (Nat.le_refl _)
  have c_y4 := b_y.out.at4 b_y.out.lt_size (Nat.le_refl _)
  have c_y5 := b_y.out.at5 b_y.out.lt_size (Nat.le_refl _)
  go_wp2_with fail
  have k_a0 := b_a.out.but0 (g1 := w.heap.size + 1 + 1) (g2 := w.heap.size + 1 + 1) (by omega) (by omega)
  have k_a1 := b_a.out.but1 (g1 := w.heap.size + 1 + 1) (g2 := w.heap.size + 1 + 1) (by omega) (by omega)
  have k_a2 := b_a.out.but2 (g1 := w.heap.size + 1 + 1) (g2 := w.heap.size + 1 + 1) (by omega) (by omega)
  have k_a3 := b_a.out.but3 (g1 := w.heap.size + 1 + 1) (g2 := w.heap.size + 1 + 1) (by omega) (by omega)
  have k_a4 := b_a.out.but4 (g1 := w.heap.size + 1 + 1) (g2 := w.heap.size + 1 + 1) (by omega) (by omega)
  have k_a5 := b_a.out.but5 (g1 := w.heap.size + 1 + 1) (g2 := w.heap.size + 1 + 1) (by omega) (by omega)
  have k_b0 := b_b.out.but0 (g1 := w.heap.size + 1 + 1) (g2 := w.heap.size + 1 + 1) (by omega) (by omega)
  have k_b1 := b_b.out.but1 (g1 := w.heap.size + 1 + 1) (g2 := w.heap.size + 1 + 1) (by omega) (by omega)
  have k_b2 := b_b.out.but2 (g1 := w.heap.size + 1 + 1) (g2 := w.heap.size + 1 + 1) (by omega) (by omega)
  have k_b3 := b_b.out.but3 (g1 := w.heap.size + 1 + 1) (g2 := w.heap.size + 1 + 1) (by omega) (by omega)
  have k_b4 := b_b.out.but4 (g1 := w.heap.size + 1 + 1) (g2 := w.heap.size + 1 + 1) (by omega) (by omega)
  have k_b5 := b_b.out.but5 (g1 := w.heap.size + 1 + 1) (g2 := w.heap.size + 1 + 1) (by omega) (by omega)
  have k_x0 := b_x.out.but0 (g1 := w.heap.size + 1 + 1) (g2 := w.heap.size + 1 + 1) ne_x_r0.out ne_x_r0.out
  have k_x1 := b_x.out.but1 (g1 := w.heap.size + 1 + 1) (g2 := w.heap.size + 1 + 1) ne_x_r0.out ne_x_r0.out
  have k_x2 := b_x.out.but2 (g1 := w.heap.size + 1 + 1) (g2 := w.heap.size + 1 + 1) ne_x_r0.out ne_x_r0.out
  have k_x3 := b_x.out.but3 (g1 := w.heap.size + 1 + 1) (g2 := w.heap.size + 1 + 1) ne_x_r0.out ne_x_r0.out
  have k_x4 := b_x.out.but4 (g1 := w.heap.size + 1 + 1) (g2 := w.heap.size + 1 + 1) ne_x_r0.out ne_x_r0.out
  have k_x5 := b_x.out.but5 (g1 := w.heap.size + 1 + 1) (g2 := w.heap.size + 1 + 1) ne_x_r0.out ne_x_r0.out
  have k_y0 := b_y.out.but0 (g1 := w.heap.size + 1 + 1) (g2 := w.heap.size + 1 + 1) ne_y_r0.out ne_y_r0.out
  have k_y1 := b_y.out.but1 (g1 := w.heap.size + 1 + 1) (g2 := w.heap.size + 1 + 1) ne_y_r0.out ne_y_r0.out
  have k_y2 := b_y.out.but2 (g1 := w.heap.size + 1 + 1) (g2 := w.heap.size + 1 + 1) ne_y_r0.out ne_y_r0.out
  have k_y3 := b_y.out.but3 (g1 := w.heap.size + 1 + 1) (g2 := w.heap.size + 1 + 1) ne_y_r0.out ne_y_r0.out
  have k_y4 := b_y.out.but4 (g1 := w.heap.size + 1 + 1) (g2 := w.heap.size + 1 + 1) ne_y_r0.out ne_y_r0.out
  have k_y5 := b_y.out.but5 (g1 := w.heap.size + 1 + 1) (g2 := w.heap.size + 1 + 1) ne_y_r0.out ne_y_r0.out
  have hd := Below.drw_ V4
  replace R_a0 := hide (R_a0.out.then_ hd)
  replace R_a1 := hide (R_a1.out.then_ hd)
  replace R_b0 := hide (R_b0.out.then_ hd)
  replace R_b1 := hide (R_b1.out.then_ hd)
  replace R_x0 := hide (R_x0.out.then_ hd)
  replace R_x1 := hide (R_x1.out.then_ hd)
  replace R_y0 := hide (R_y0.out.then_ hd)
  replace R_y1 := hide (R_y1.out.then_ hd)
  have U7 : Below V4.heap.size V4 (V4.drew) := Below.then_ U6 hd
  replace B := hide (Below.then_ B.out hd)
  have K7 : KeptBut (w.heap.size + 1 + 1) (w.heap.size + 1 + 1) V4.heap.size V4 (V4.drew) := KeptBut.below U7
  clear hd
  have tok1 : True := trivial
  go_region_held3 (fun w' => KeptBut (w.heap.size + 1 + 1) (w.heap.size + 1 + 1) V4.heap.size V4 w') (first | (with_reducible assumption) | (with_reducible exact KeptBut.drw _) | ((repeat (first | (with_reducible refine KeptBut.set0 ?_ _) | (with_reducible refine KeptBut.drew_ ?_))); first | (with_reducible assumption) | (with_reducible exact KeptBut.refl _ _ _ _)))
    (first
      | (go_at_call 25; (have _t := tok1; (with_reducible refine (rsub_q R_x0.out.rq (by omega) R_y1.out.rq (by omega) (Nat.le_refl _) hl.out).mono ?_); rintro e w3 ⟨x_s, rfl, R_s, hb⟩; replace R_a0 := hide (R_a0.out.then_ hb); replace R_a1 := hide (R_a1.out.then_ hb); replace R_b0 := hide (R_b0.out.then_ hb); replace R_b1 := hide (R_b1.out.then_ hb); replace R_x0 := hide (R_x0.out.then_ hb); replace R_x1 := hide (R_x1.out.then_ hb); replace R_y0 := hide (R_y0.out.then_ hb); replace R_y1 := hide (R_y1.out.then_ hb); have U8 : Below V4.heap.size V4 w3 := Below.then_ U7 hb; replace B := hide (Below.then_ B.out hb); have K8 : KeptBut (w.heap.size + 1 + 1) (w.heap.size + 1 + 1) V4.heap.size V4 w3 := KeptBut.below U8; replace R_s := hide R_s; clear hb; have tok2 : True := trivial; clear _t tok1))
      | (go_at_call 25; (have _t := tok2; (with_reducible refine (rsub_q R_x1.out.rq (by omega) R_y0.out.rq (by omega) (Nat.le_refl _) hh.out).mono ?_); rintro e w4 ⟨x_t, rfl, R_t, hb⟩; replace R_a0 := hide (R_a0.out.then_ hb); replace R_a1 := hide (R_a1.out.then_ hb); replace R_b0 := hide (R_b0.out.then_ hb); replace R_b1 := hide (R_b1.out.then_ hb); replace R_x0 := hide (R_x0.out.then_ hb); replace R_x1 := hide (R_x1.out.then_ hb); replace R_y0 := hide (R_y0.out.then_ hb); replace R_y1 := hide (R_y1.out.then_ hb); replace R_s := hide (R_s.out.then_ hb); have U9 : Below V4.heap.size V4 w4 := Below.then_ U8 hb; replace B := hide (Below.then_ B.out hb); have K9 : KeptBut (w.heap.size + 1 + 1) (w.heap.size + 1 + 1) V4.heap.size V4 w4 := KeptBut.below U9; replace R_t := hide R_t; clear hb; have tok3 : True := trivial; clear _t tok2))
      | (go_at_call 6; (have _t := tok3; (with_reducible refine (rsof_any gL3.out R_s.out.rq R_t.out.rq (Nat.le_refl _) e1.out e2.out).mono ?_); rintro e w5 ⟨x_z0, x_z1, rfl, R_z0, R_z1, hb⟩; replace R_a0 := hide (R_a0.out.then_ hb); replace R_a1 := hide (R_a1.out.then_ hb); replace R_b0 := hide (R_b0.out.then_ hb); replace R_b1 := hide (R_b1.out.then_ hb); replace R_x0 := hide (R_x0.out.then_ hb); replace R_x1 := hide (R_x1.out.then_ hb); replace R_y0 := hide (R_y0.out.then_ hb); replace R_y1 := hide (R_y1.out.then_ hb); replace R_s := hide (R_s.out.then_ hb); replace R_t := hide (R_t.out.then_ hb); have U10 : Below V4.heap.size V4 w5 := Below.then_ U9 hb; replace B := hide (Below.then_ B.out hb); have K10 : KeptBut (w.heap.size + 1 + 1) (w.heap.size + 1 + 1) V4.heap.size V4 w5 := KeptBut.below U10; replace R_z0 := hide R_z0; replace R_z1 := hide R_z1; clear hb; have tok4 : True := trivial; clear _t tok3)))
  clear tok4
  clear k_a0 k_a1 k_a2 k_a3 k_a4 k_a5
  clear k_b0 k_b1 k_b2 k_b3 k_b4 k_b5
  clear k_x0 k_x1 k_x2 k_x3 k_x4 k_x5
  clear k_y0 k_y1 k_y2 k_y3 k_y4 k_y5
  replace R_z0 := hide (R_z0.out.le (M := 2 * L + 6) (by omega))
  replace R_z1 := hide (R_z1.out.le (M := 2 * L + 6) (by omega))
  go_wp2
  exact bodyPost_ret (v := .agg #[.bool x_z0.s, .slice x_z0.A x_z0.n x_z0.c, .slice x_z0.B x_z0.m x_z0.d, .bool x_z1.s, .slice x_z1.A x_z1.n x_z1.c, .slice x_z1.B x_z1.m x_z1.d]) (by simp [results, Tryz.results10, go_sem, c_r00 _ U10, c_r01 _ U10, c_r02 _ U10, c_r03 _ U10, c_r04 _ U10, c_r05 _ U10]) rfl (RetSN.box B.out (by omega) (c_r00 _ U10) (c_r01 _ U10) (c_r02 _ U10) (c_r03 _ U10) (c_r04 _ U10) (c_r05 _ U10) R_z0.out R_z1.out)

set_option maxHeartbeats 4000000 in
theorem rsmul_any {w : World} {Bd : Nat} {L : Nat} (gL : L ≤ 30000000) {a0 : Rc} {q_a0 : Rat} {a1 : Rc} {q_a1 : Rat} {b0 : Rc} {q_b0 : Rat} {b1 : Rc} {q_b1 : Rat} (h_a0 : Rq w Bd L a0 q_a0) (h_a1 : Rq w Bd L a1 q_a1) (h_b0 : Rq w Bd L b0 q_b0) (h_b1 : Rq w Bd L b1 q_b1) (hB : Bd ≤ w.heap.size) {l h : Rat} (hl : mn4 (q_a0 * q_b0) (q_a0 * q_b1) (q_a1 * q_b0) (q_a1 * q_b1) = l) (hh : mx4 (q_a0 * q_b0) (q_a0 * q_b1) (q_a1 * q_b0) (q_a1 * q_b1) = h) :
    Calls Tryz.prog 12 #[.agg #[.bool a0.s, .slice a0.A a0.n a0.c, .slice a0.B a0.m a0.d, .bool a1.s, .slice a1.A a1.n a1.c, .slice a1.B a1.m a1.d], .agg #[.bool b0.s, .slice b0.A b0.n b0.c, .slice b0.B b0.m b0.d, .bool b1.s, .slice b1.A b1.n b1.c, .slice b1.B b1.m b1.d]] w (RetSN w (2 * L + 4) l h) := by
  obtain ⟨vp, hp⟩ : ∃ l, q_a0 * q_b0 = l := ⟨_, rfl⟩
  obtain ⟨vq, hq⟩ : ∃ l, q_a0 * q_b1 = l := ⟨_, rfl⟩
  obtain ⟨vr, hr⟩ : ∃ l, q_a1 * q_b0 = l := ⟨_, rfl⟩
  obtain ⟨vs, hs⟩ : ∃ l, q_a1 * q_b1 = l := ⟨_, rfl⟩
  rw [hp, hq, hr, hs] at hl hh
  unfold mn4 at hl
  unfold mx4 at hh
  obtain ⟨vml, hml⟩ : ∃ l, rlo vp vq = l := ⟨_, rfl⟩
  obtain ⟨vnl, hnl⟩ : ∃ l, rlo vr vs = l := ⟨_, rfl⟩
  obtain ⟨vmh, hmh⟩ : ∃ l, rhi vp vq = l := ⟨_, rfl⟩
  obtain ⟨vnh, hnh⟩ : ∃ l, rhi vr vs = l := ⟨_, rfl⟩
  rw [hml, hnl] at hl
  rw [hmh, hnh] at hh
  replace hl := hide hl
  replace hh := hide hh
  replace hp := hide hp
  replace hq := hide hq
  replace hr := hide hr
  replace hs := hide hs
  replace hml := hide hml
  replace hnl := hide hnl
  replace hmh := hide hmh
  replace hnh := hide hnh
  have gL2 : L + L + 2 ≤ 100000000 := by omega
  replace gL2 := hide gL2
  have gL3 : L + L + 2 + 1 ≤ 100000000 := by omega
  replace gL3 := hide gL3
  obtain ⟨W, hW⟩ : ∃ W, W = (((w.alloc (.cells #[.bool a0.s, .slice a0.A a0.n a0.c, .slice a0.B a0.m a0.d, .bool a1.s, .slice a1.A a1.n a1.c, .slice a1.B a1.m a1.d] 29)).alloc (.cells #[.bool b0.s, .slice b0.A b0.n b0.c, .slice b0.B b0.m b0.d, .bool b1.s, .slice b1.A b1.n b1.c, .slice b1.B b1.m b1.d] 29)).alloc (.cells #[.bool false, .slice none 0 0, .slice none 0 0, .bool false, .slice none 0 0, .slice none 0 0] 29)) := ⟨_, rfl⟩
  have b_a : Box6 W (w.heap.size) (.bool a0.s) (.slice a0.A a0.n a0.c) (.slice a0.B a0.m a0.d) (.bool a1.s) (.slice a1.A a1.n a1.c) (.slice a1.B a1.m a1.d) := by rw [hW]; exact (((Box6.new w _ _ _ _ _ _ rfl).al _).al _)
  have b_b : Box6 W (w.heap.size + 1) (.bool b0.s) (.slice b0.A b0.n b0.c) (.slice b0.B b0.m b0.d) (.bool b1.s) (.slice b1.A b1.n b1.c) (.slice b1.B b1.m b1.d) := by rw [hW]; exact ((Box6.new _ _ _ _ _ _ _ (by simp)).al _)
  have b_r0 : Box6 W (w.heap.size + 1 + 1) (.bool false) (.slice none 0 0) (.slice none 0 0) (.bool false) (.slice none 0 0) (.slice none 0 0) := by rw [hW]; exact (Box6.new _ _ _ _ _ _ _ (by simp))
  have hwW : Below w.heap.size w W := by rw [hW]; exact ((((Below.refl _ _).alloc (Nat.le_refl _) _).alloc (by simp) _).alloc (by simp; omega) _)
  have R_a0 := hide (h_a0.upto hwW hB)
  clear h_a0
  have R_a1 := hide (h_a1.upto hwW hB)
  clear h_a1
  have R_b0 := hide (h_b0.upto hwW hB)
  clear h_b0
  have R_b1 := hide (h_b1.upto hwW hB)
  clear h_b1
  have B := hide hwW
  clear hwW
  clear hB
  have U0 : Below W.heap.size W W := Below.refl _ _
  have c_a0 := b_a.at0 b_a.lt_size (Nat.le_refl _)
  have c_a1 := b_a.at1 b_a.lt_size (Nat.le_refl _)
  have c_a2 := b_a.at2 b_a.lt_size (Nat.le_refl _)
  have c_a3 := b_a.at3 b_a.lt_size (Nat.le_refl _)
  have c_a4 := b_a.at4 b_a.lt_size (Nat.le_refl _)
  have c_a5 := b_a.at5 b_a.lt_size (Nat.le_refl _)
  replace b_a := hide b_a
  have c_b0 := b_b.at0 b_b.lt_size (Nat.le_refl _)
  have c_b1 := b_b.at1 b_b.lt_size (Nat.le_refl _)
  have c_b2 := b_b.at2 b_b.lt_size (Nat.le_refl _)
  have c_b3 := b_b.at3 b_b.lt_size (Nat.le_refl _)
  have c_b4 := b_b.at4 b_b.lt_size (Nat.le_refl _)
  have c_b5 := b_b.at5 b_b.lt_size (Nat.le_refl _)
  replace b_b := hide b_b
  have c_r00 := b_r0.at0 b_r0.lt_size (Nat.le_refl _)
  have c_r01 := b_r0.at1 b_r0.lt_size (Nat.le_refl _)
  have c_r02 := b_r0.at2 b_r0.lt_size (Nat.le_refl _)
  have c_r03 := b_r0.at3 b_r0.lt_size (Nat.le_refl _)
  have c_r04 := b_r0.at4 b_r0.lt_size (Nat.le_refl _)
  have c_r05 := b_r0.at5 b_r0.lt_size (Nat.le_refl _)
  have f_r00 := b_r0.free0 b_r0.lt_size (Nat.le_refl _)
  have f_r01 := b_r0.free1 b_r0.lt_size (Nat.le_refl _)
  have f_r02 := b_r0.free2 b_r0.lt_size (Nat.le_refl _)
  have f_r03 := b_r0.free3 b_r0.lt_size (Nat.le_refl _)
  have f_r04 := b_r0.free4 b_r0.lt_size (Nat.le_refl _)
  have f_r05 := b_r0.free5 b_r0.lt_size (Nat.le_refl _)
  have l_r0 := b_r0.lt b_r0.lt_size (Nat.le_refl _)
  replace b_r0 := hide b_r0
  go_enter Tryz.func12, Tryz.ntmps12
  go_wp2_with fail
  rw [← hW]
  clear hW
  refine (rmul_q R_a0.out (by omega) R_b0.out (by omega) (Nat.le_refl _) hp.out).mono ?_
  rintro e w1 ⟨x_p, rfl, R_p, hb⟩
  replace R_a0 := hide (R_a0.out.then_ hb)
  replace R_a1 := hide (R_a1.out.then_ hb)
  replace R_b0 := hide (R_b0.out.then_ hb)
  replace R_b1 := hide (R_b1.out.then_ hb)
  have U1 : Below W.heap.size W w1 := Below.then_ U0 hb
  replace B := hide (Below.then_ B.out hb)
  replace R_p := hide R_p
  clear hb
  have hbx : Below w1.heap.size w1 (w1.alloc (.cells #[.bool x_p.s, .slice x_p.A x_p.n x_p.c, .slice x_p.B x_p.m x_p.d] 27)) := ((Below.refl _ _).alloc (Nat.le_refl _) _)
  have Ux := Below.then_ U1 hbx
  go_wp2_with fail
  obtain ⟨V1, hV⟩ : ∃ V, V = (w1.alloc (.cells #[.bool x_p.s, .slice x_p.A x_p.n x_p.c, .slice x_p.B x_p.m x_p.d] 27)) := ⟨_, rfl⟩
  obtain ⟨g_p, hg_p⟩ : ∃ g, g = w1.heap.size := ⟨_, rfl⟩
  rw [← hV]
  rw [← hV] at hbx Ux
  rw [← hg_p]
  have b_p : Box3 V1 g_p (.bool x_p.s) (.slice x_p.A x_p.n x_p.c) (.slice x_p.B x_p.m x_p.d) := by rw [hV]; exact (Box3.new _ _ _ _ hg_p)
  clear hV
  have ne_p_r0 : g_p ≠ w.heap.size + 1 + 1 := by have := l_r0 _ U1; omega
  replace ne_p_r0 := hide ne_p_r0
  have ne_a_p : w.heap.size ≠ g_p := by have := (b_a.out.lt b_a.out.lt_size (Nat.le_refl _)) _ U1; omega
  replace ne_a_p := hide ne_a_p
  have ne_b_p : w.heap.size + 1 ≠ g_p := by have := (b_b.out.lt b_b.out.lt_size (Nat.le_refl _)) _ U1; omega
  replace ne_b_p := hide ne_b_p
  have ne_r0_p := hide (Ne.symm ne_p_r0.out)
  have ge_p : w.heap.size ≤ g_p := by have := B.out.size; omega
  replace ge_p := hide ge_p
  clear hg_p
  replace R_a0 := hide (R_a0.out.then_ hbx)
  replace R_a1 := hide (R_a1.out.then_ hbx)
  replace R_b0 := hide (R_b0.out.then_ hbx)
  replace R_b1 := hide (R_b1.out.then_ hbx)
  replace R_p := hide (R_p.out.then_ hbx)
  have U2 : Below W.heap.size W V1 := Below.then_ U1 hbx
  replace B := hide (Below.then_ B.out hbx)
  clear hbx
  replace b_a := hide (Box6.keep b_a.out U2)
  clear c_a0 c_a1 c_a2 c_a3 c_a4 c_a5
  replace b_b := hide (Box6.keep b_b.out U2)
  clear c_b0 c_b1 c_b2 c_b3 c_b4 c_b5
  replace b_r0 := hide (Box6.keep b_r0.out U2)
  clear c_r00 c_r01 c_r02 c_r03 c_r04 c_r05 f_r00 f_r01 f_r02 f_r03 f_r04 f_r05 l_r0
  replace b_p := hide b_p
  have U3 : Below V1.heap.size V1 V1 := Below.refl _ _
  have c_a0 := b_a.out.at0 b_a.out.lt_size (Nat.le_refl _)
  have c_a1 := b_a.out.at1 b_a.out.lt_size (Nat.le_refl _)
  have c_a2 := b_a.out.at2 b_a.out.lt_size (Nat.le_refl _)
  have c_a3 := b_a.out.at3 b_a.out.lt_size (Nat.le_refl _)
  have c_a4 := b_a.out.at4 b_a.out.lt_size (Nat.le_refl _)
  have c_a5 := b_a.out.at5 b_a.out.lt_size (Nat.le_refl _)
  have c_b0 := b_b.out.at0 b_b.out.lt_size (Nat.le_refl _)
  have c_b1 := b_b.out.at1 b_b.out.lt_size (Nat.le_refl _)
  have c_b2 := b_b.out.at2 b_b.out.lt_size (Nat.le_refl _)
  have c_b3 := b_b.out.at3 b_b.out.lt_size (Nat.le_refl _)
  have c_b4 := b_b.out.at4 b_b.out.lt_size (Nat.le_refl _)
  have c_b5 := b_b.out.at5 b_b.out.lt_size (Nat.le_refl _)
  have c_r00 := b_r0.out.at0 b_r0.out.lt_size (Nat.le_refl _)
  have c_r01 := b_r0.out.at1 b_r0.out.lt_size (Nat.le_refl _)
  have c_r02 := b_r0.out.at2 b_r0.out.lt_size (Nat.le_refl _)
  have c_r03 := b_r0.out.at3 b_r0.out.lt_size (Nat.le_refl _)
  have c_r04 := b_r0.out.at4 b_r0.out.lt_size (Nat.le_refl _)
  have c_r05 := b_r0.out.at5 b_r0.out.lt_size (Nat.le_refl _)
  have f_r00 := b_r0.out.free0 b_r0.out.lt_size (Nat.le_refl _)
  have f_r01 := b_r0.out.free1 b_r0.out.lt_size (Nat.le_refl _)
  have f_r02 := b_r0.out.free2 b_r0.out.lt_size (Nat.le_refl _)
  have f_r03 := b_r0.out.free3 b_r0.out.lt_size (Nat.le_refl _)
  have f_r04 := b_r0.out.free4 b_r0.out.lt_size (Nat.le_refl _)
  have f_r05 := b_r0.out.free5 b_r0.out.lt_size (Nat.le_refl _)
  have l_r0 := b_r0.out.lt b_r0.out.lt_size (Nat.le_refl _)
  have c_p0 := b_p.out.at0 b_p.out.lt_size (Nat.le_refl _)
  have c_p1 := b_p.out.at1 b_p.out.lt_size (Nat.le_refl _)
  have c_p2 := b_p.out.at2 b_p.out.lt_size (Nat.le_refl _)
  refine (rmul_q R_a0.out (by omega) R_b1.out (by omega) (Nat.le_refl _) hq.out).mono ?_
  rintro e w2 ⟨x_q, rfl, R_q, hb⟩
  replace R_a0 := hide (R_a0.out.then_ hb)
  replace R_a1 := hide (R_a1.out.then_ hb)
  replace R_b0 := hide (R_b0.out.then_ hb)
  replace R_b1 := hide (R_b1.out.then_ hb)
  replace R_p := hide (R_p.out.then_ hb)
  have U4 : Below V1.heap.size V1 w2 := Below.then_ U3 hb
  replace B := hide (Below.then_ B.out hb)
  replace R_q := hide R_q
  clear hb
  have hbx : Below w2.heap.size w2 (w2.alloc (.cells #[.bool x_q.s, .slice x_q.A x_q.n x_q.c, .slice x_q.B x_q.m x_q.d] 27)) := ((Below.refl _ _).alloc (Nat.le_refl _) _)
  have Ux := Below.then_ U4 hbx
  go_wp2_with fail
  obtain ⟨V4, hV⟩ : ∃ V, V = (w2.alloc (.cells #[.bool x_q.s, .slice x_q.A x_q.n x_q.c, .slice x_q.B x_q.m x_q.d] 27)) := ⟨_, rfl⟩
  obtain ⟨g_q, hg_q⟩ : ∃ g, g = w2.heap.size := ⟨_, rfl⟩
  rw [← hV]
  rw [← hV] at hbx Ux
  rw [← hg_q]
  have b_q : Box3 V4 g_q (.bool x_q.s) (.slice x_q.A x_q.n x_q.c) (.slice x_q.B x_q.m x_q.d) := by rw [hV]; exact (Box3.new _ _ _ _ hg_q)
  clear hV
  have ne_q_r0 : g_q ≠ w.heap.size + 1 + 1 := by have := l_r0 _ U4; omega
  replace ne_q_r0 := hide ne_q_r0
  have ne_a_q : w.heap.size ≠ g_q := by have := (b_a.out.lt b_a.out.lt_size (Nat.le_refl _)) _ U4; omega
  replace ne_a_q := hide ne_a_q
  have ne_b_q : w.heap.size + 1 ≠ g_q := by have := (b_b.out.lt b_b.out.lt_size (Nat.le_refl _)) _ U4; omega
  replace ne_b_q := hide ne_b_q
  have ne_r0_q := hide (Ne.symm ne_q_r0.out)
  have ne_p_q : g_p ≠ g_q := by have := (b_p.out.lt b_p.out.lt_size (Nat.le_refl _)) _ U4; omega
  replace ne_p_q := hide ne_p_q
  have ge_q : w.heap.size ≤ g_q := by have := B.out.size; omega
  replace ge_q := hide ge_q
  clear hg_q
  replace R_a0 := hide (R_a0.out.then_ hbx)
  replace R_a1 := hide (R_a1.out.then_ hbx)
  replace R_b0 := hide (R_b0.out.then_ hbx)
  replace R_b1 := hide (R_b1.out.then_ hbx)
  replace R_p := hide (R_p.out.then_ hbx)
  replace R_q := hide (R_q.out.then_ hbx)
  have U5 : Below V1.heap.size V1 V4 := Below.then_ U4 hbx
  replace B := hide (Below.then_ B.out hbx)
  clear hbx
  replace b_a := hide (Box6.keep b_a.out U5)
  clear c_a0 c_a1 c_a2 c_a3 c_a4 c_a5
  replace b_b := hide (Box6.keep b_b.out U5)
  clear c_b0 c_b1 c_b2 c_b3 c_b4 c_b5
  replace b_r0 := hide (Box6.keep b_r0.out U5)
  clear c_r00 c_r01 c_r02 c_r03 c_r04 c_r05 f_r00 f_r01 f_r02 f_r03 f_r04 f_r05 l_r0
  replace b_p := hide (Box3.keep b_p.out U5)
  clear c_p0 c_p1 c_p2
  replace b_q := hide b_q
  have U6 : Below V4.heap.size V4 V4 := Below.refl _ _
  have c_a0 := b_a.out.at0 b_a.out.lt_size (Nat.le_refl _)
  have c_a1 := b_a.out.at1 b_a.out.lt_size (Nat.le_refl _)
  have c_a2 := b_a.out.at2 b_a.out.lt_size (Nat.le_refl _)
  have c_a3 := b_a.out.at3 b_a.out.lt_size (Nat.le_refl _)
  have c_a4 := b_a.out.at4 b_a.out.lt_size (Nat.le_refl _)
  have c_a5 := b_a.out.at5 b_a.out.lt_size (Nat.le_refl _)
  have c_b0 := b_b.out.at0 b_b.out.lt_size (Nat.le_refl _)
  have c_b1 := b_b.out.at1 b_b.out.lt_size (Nat.le_refl _)
  have c_b2 := b_b.out.at2 b_b.out.lt_size (Nat.le_refl _)
  have c_b3 := b_b.out.at3 b_b.out.lt_size (Nat.le_refl _)
  have c_b4 := b_b.out.at4 b_b.out.lt_size (Nat.le_refl _)
  have c_b5 := b_b.out.at5 b_b.out.lt_size (Nat.le_refl _)
  have c_r00 := b_r0.out.at0 b_r0.out.lt_size (Nat.le_refl _)
  have c_r01 := b_r0.out.at1 b_r0.out.lt_size (Nat.le_refl _)
  have c_r02 := b_r0.out.at2 b_r0.out.lt_size (Nat.le_refl _)
  have c_r03 := b_r0.out.at3 b_r0.out.lt_size (Nat.le_refl _)
  have c_r04 := b_r0.out.at4 b_r0.out.lt_size (Nat.le_refl _)
  have c_r05 := b_r0.out.at5 b_r0.out.lt_size (Nat.le_refl _)
  have f_r00 := b_r0.out.free0 b_r0.out.lt_size (Nat.le_refl _)
  have f_r01 := b_r0.out.free1 b_r0.out.lt_size (Nat.le_refl _)
  have f_r02 := b_r0.out.free2 b_r0.out.lt_size (Nat.le_refl _)
  have f_r03 := b_r0.out.free3 b_r0.out.lt_size (Nat.le_refl _)
  have f_r04 := b_r0.out.free4 b_r0.out.lt_size (Nat.le_refl _)
  have f_r05 := b_r0.out.free5 b_r0.out.lt_size (Nat.le_refl _)
  have l_r0 := b_r0.out.lt b_r0.out.lt_size (Nat.le_refl _)
  have c_p0 := b_p.out.at0 b_p.out.lt_size (Nat.le_refl _)
  have c_p1 := b_p.out.at1 b_p.out.lt_size (Nat.le_refl _)
  have c_p2 := b_p.out.at2 b_p.out.lt_size (Nat.le_refl _)
  have c_q0 := b_q.out.at0 b_q.out.lt_size (Nat.le_refl _)
  have c_q1 := b_q.out.at1 b_q.out.lt_size (Nat.le_refl _)
  have c_q2 := b_q.out.at2 b_q.out.lt_size (Nat.le_refl _)
  refine (rmul_q R_a1.out (by omega) R_b0.out (by omega) (Nat.le_refl _) hr.out).mono ?_
  rintro e w3 ⟨x_r, rfl, R_r, hb⟩
  replace R_a0 := hide (R_a0.out.then_ hb)
  replace R_a1 := hide (R_a1.out.then_ hb)
  replace R_b0 := hide (R_b0.out.then_ hb)
  replace R_b1 := hide (R_b1.out.then_ hb)
  replace R_p := hide (R_p.out.then_ hb)
  replace R_q := hide (R_q.out.then_ hb)
  have U7 : Below V4.heap.size V4 w3 := Below.then_ U6 hb
  replace B := hide (Below.then_ B.out hb)
  replace R_r := hide R_r
  clear hb
  have hbx : Below w3.heap.size w3 (w3.alloc (.cells #[.bool x_r.s, .slice x_r.A x_r.n x_r.c, .slice x_r.B x_r.m x_r.d] 27)) := ((Below.refl _ _).alloc (Nat.le_refl _) _)
  have Ux := Below.then_ U7 hbx
  go_wp2_with fail
  obtain ⟨V7, hV⟩ : ∃ V, V = (w3.alloc (.cells #[.bool x_r.s, .slice x_r.A x_r.n x_r.c, .slice x_r.B x_r.m x_r.d] 27)) := ⟨_, rfl⟩
  obtain ⟨g_r, hg_r⟩ : ∃ g, g = w3.heap.size := ⟨_, rfl⟩
  rw [← hV]
  rw [← hV] at hbx Ux
  rw [← hg_r]
  have b_r : Box3 V7 g_r (.bool x_r.s) (.slice x_r.A x_r.n x_r.c) (.slice x_r.B x_r.m x_r.d) := by rw [hV]; exact (Box3.new _ _ _ _ hg_r)
  clear hV
  have ne_r_r0 : g_r ≠ w.heap.size + 1 + 1 := by have := l_r0 _ U7; omega
  replace ne_r_r0 := hide ne_r_r0
  have ne_a_r : w.heap.size ≠ g_r := by have := (b_a.out.lt b_a.out.lt_size (Nat.le_refl _)) _ U7; omega
  replace ne_a_r := hide ne_a_r
  have ne_b_r : w.heap.size + 1 ≠ g_r := by have := (b_b.out.lt b_b.out.lt_size (Nat.le_refl _)) _ U7; omega
  replace ne_b_r := hide ne_b_r
  have ne_r0_r := hide (Ne.symm ne_r_r0.out)
  have ne_p_r : g_p ≠ g_r := by have := (b_p.out.lt b_p.out.lt_size (Nat.le_refl _)) _ U7; omega
  replace ne_p_r := hide ne_p_r
  have ne_q_r : g_q ≠ g_r := by have := (b_q.out.lt b_q.out.lt_size (Nat.le_refl _)) _ U7; omega
  replace ne_q_r := hide ne_q_r
  have ge_r : w.heap.size ≤ g_r := by have := B.out.size; omega
  replace ge_r := hide ge_r
  clear hg_r
  replace R_a0 := hide (R_a0.out.then_ hbx)
  replace R_a1 := hide (R_a1.out.then_ hbx)
  replace R_b0 := hide (R_b0.out.then_ hbx)
  replace R_b1 := hide (R_b1.out.then_ hbx)
  replace R_p := hide (R_p.out.then_ hbx)
  replace R_q := hide (R_q.out.then_ hbx)
  replace R_r := hide (R_r.out.then_ hbx)
  have U8 : Below V4.heap.size V4 V7 := Below.then_ U7 hbx
  replace B := hide (Below.then_ B.out hbx)
  clear hbx
  replace b_a := hide (Box6.keep b_a.out U8)
  clear c_a0 c_a1 c_a2 c_a3 c_a4 c_a5
  replace b_b := hide (Box6.keep b_b.out U8)
  clear c_b0 c_b1 c_b2 c_b3 c_b4 c_b5
  replace b_r0 := hide (Box6.keep b_r0.out U8)
  clear c_r00 c_r01 c_r02 c_r03 c_r04 c_r05 f_r00 f_r01 f_r02 f_r03 f_r04 f_r05 l_r0
  replace b_p := hide (Box3.keep b_p.out U8)
  clear c_p0 c_p1 c_p2
  replace b_q := hide (Box3.keep b_q.out U8)
  clear c_q0 c_q1 c_q2
  replace b_r := hide b_r
  have U9 : Below V7.heap.size V7 V7 := Below.refl _ _
  have c_a0 := b_a.out.at0 b_a.out.lt_size (Nat.le_refl _)
  have c_a1 := b_a.out.at1 b_a.out.lt_size (Nat.le_refl _)
  have c_a2 := b_a.out.at2 b_a.out.lt_size (Nat.le_refl _)
  have c_a3 := b_a.out.at3 b_a.out.lt_size (Nat.le_refl _)
  have c_a4 := b_a.out.at4 b_a.out.lt_size (Nat.le_refl _)
  have c_a5 := b_a.out.at5 b_a.out.lt_size (Nat.le_refl _)
  have c_b0 := b_b.out.at0 b_b.out.lt_size (Nat.le_refl _)
  have c_b1 := b_b.out.at1 b_b.out.lt_size (Nat.le_refl _)
  have c_b2 := b_b.out.at2 b_b.out.lt_size (Nat.le_refl _)
  have c_b3 := b_b.out.at3 b_b.out.lt_size (Nat.le_refl _)
  have c_b4 := b_b.out.at4 b_b.out.lt_size (Nat.le_refl _)
  have c_b5 := b_b.out.at5 b_b.out.lt_size (Nat.le_refl _)
  have c_r00 := b_r0.out.at0 b_r0.out.lt_size (Nat.le_refl _)
  have c_r01 := b_r0.out.at1 b_r0.out.lt_size (Nat.le_refl _)
  have c_r02 := b_r0.out.at2 b_r0.out.lt_size (Nat.le_refl _)
  have c_r03 := b_r0.out.at3 b_r0.out.lt_size (Nat.le_refl _)
  have c_r04 := b_r0.out.at4 b_r0.out.lt_size (Nat.le_refl _)
  have c_r05 := b_r0.out.at5 b_r0.out.lt_size (Nat.le_refl _)
  have f_r00 := b_r0.out.free0 b_r0.out.lt_size (Nat.le_refl _)
  have f_r01 := b_r0.out.free1 b_r0.out.lt_size (Nat.le_refl _)
  have f_r02 := b_r0.out.free2 b_r0.out.lt_size (Nat.le_refl _)
  have f_r03 := b_r0.out.free3 b_r0.out.lt_size (Nat.le_refl _)
  have f_r04 := b_r0.out.free4 b_r0.out.lt_size (Nat.le_refl _)
  have f_r05 := b_r0.out.free5 b_r0.out.lt_size (Nat.le_refl _)
  have l_r0 := b_r0.out.lt b_r0.out.lt_size (Nat.le_refl _)
  have c_p0 := b_p.out.at0 b_p.out.lt_size (Nat.le_refl _)
  have c_p1 := b_p.out.at1 b_p.out.lt_size (Nat.le_refl _)
  have c_p2 := b_p.out.at2 b_p.out.lt_size (Nat.le_refl _)
  have c_q0 := b_q.out.at0 b_q.out.lt_size (Nat.le_refl _)
  have c_q1 := b_q.out.at1 b_q.out.lt_size (Nat.le_refl _)
  have c_q2 := b_q.out.at2 b_q.out.lt_size (Nat.le_refl _)
  have c_r0 := b_r.out.at0 b_r.out.lt_size (Nat.le_refl _)
  have c_r1 := b_r.out.at1 b_r.out.lt_size (Nat.le_refl _)
  have c_r2 := b_r.out.at2 b_r.out.lt_size (Nat.le_refl _)
  refine (rmul_q R_a1.out (by omega) R_b1.out (by omega) (Nat.le_refl _) hs.out).mono ?_
  rintro e w4 ⟨x_s, rfl, R_s, hb⟩
  replace R_a0 := hide (R_a0.out.then_ hb)
  replace R_a1 := hide (R_a1.out.then_ hb)
  replace R_b0 := hide (R_b0.out.then_ hb)
  replace R_b1 := hide (R_b1.out.then_ hb)
  replace R_p := hide (R_p.out.then_ hb)
  replace R_q := hide (R_q.out.then_ hb)
  replace R_r := hide (R_r.out.then_ hb)
  have U10 : Below V7.heap.size V7 w4 := Below.then_ U9 hb
  replace B := hide (Below.then_ B.out hb)
  replace R_s := hide R_s
  clear hb
  have hbx : Below w4.heap.size w4 (w4.alloc (.cells #[.bool x_s.s, .slice x_s.A x_s.n x_s.c, .slice x_s.B x_s.m x_s.d] 27)) := ((Below.refl _ _).alloc (Nat.le_refl _) _)
  have Ux := Below.then_ U10 hbx
  go_wp2_with fail
  obtain ⟨V10, hV⟩ : ∃ V, V = (w4.alloc (.cells #[.bool x_s.s, .slice x_s.A x_s.n x_s.c, .slice x_s.B x_s.m x_s.d] 27)) := ⟨_, rfl⟩
  obtain ⟨g_s, hg_s⟩ : ∃ g, g = w4.heap.size := ⟨_, rfl⟩
  rw [← hV]
  rw [← hV] at hbx Ux
  rw [← hg_s]
  have b_s : Box3 V10 g_s (.bool x_s.s) (.slice x_s.A x_s.n x_s.c) (.slice x_s.B x_s.m x_s.d) := by rw [hV]; exact (Box3.new _ _ _ _ hg_s)
  clear hV
  have ne_s_r0 : g_s ≠ w.heap.size + 1 + 1 := by have := l_r0 _ U10; omega
  replace ne_s_r0 := hide ne_s_r0
  have ne_a_s : w.heap.size ≠ g_s := by have := (b_a.out.lt b_a.out.lt_size (Nat.le_refl _)) _ U10; omega
  replace ne_a_s := hide ne_a_s
  have ne_b_s : w.heap.size + 1 ≠ g_s := by have := (b_b.out.lt b_b.out.lt_size (Nat.le_refl _)) _ U10; omega
  replace ne_b_s := hide ne_b_s
  have ne_r0_s := hide (Ne.symm ne_s_r0.out)
  have ne_p_s : g_p ≠ g_s := by have := (b_p.out.lt b_p.out.lt_size (Nat.le_refl _)) _ U10; omega
  replace ne_p_s := hide ne_p_s
  have ne_q_s : g_q ≠ g_s := by have := (b_q.out.lt b_q.out.lt_size (Nat.le_refl _)) _ U10; omega
  replace ne_q_s := hide ne_q_s
  have ne_r_s : g_r ≠ g_s := by have := (b_r.out.lt b_r.out.lt_size (Nat.le_refl _)) _ U10; omega
  replace ne_r_s := hide ne_r_s
  have ge_s : w.heap.size ≤ g_s := by have := B.out.size; omega
  replace ge_s := hide ge_s
  clear hg_s
  replace R_a0 := hide (R_a0.out.then_ hbx)
  replace R_a1 := hide (R_a1.out.then_ hbx)
  replace R_b0 := hide (R_b0.out.then_ hbx)
  replace R_b1 := hide (R_b1.out.then_ hbx)
  replace R_p := hide (R_p.out.then_ hbx)
  replace R_q := hide (R_q.out.then_ hbx)
  replace R_r := hide (R_r.out.then_ hbx)
  replace R_s := hide (R_s.out.then_ hbx)
  have U11 : Below V7.heap.size V7 V10 := Below.then_ U10 hbx
  replace B := hide (Below.then_ B.out hbx)
  clear hbx
  replace b_a := hide (Box6.keep b_a.out U11)
  clear c_a0 c_a1 c_a2 c_a3 c_a4 c_a5
  replace b_b := hide (Box6.keep b_b.out U11)
  clear c_b0 c_b1 c_b2 c_b3 c_b4 c_b5
  replace b_r0 := hide (Box6.keep b_r0.out U11)
  clear c_r00 c_r01 c_r02 c_r03 c_r04 c_r05 f_r00 f_r01 f_r02 f_r03 f_r04 f_r05 l_r0
  replace b_p := hide (Box3.keep b_p.out U11)
  clear c_p0 c_p1 c_p2
  replace b_q := hide (Box3.keep b_q.out U11)
  clear c_q0 c_q1 c_q2
  replace b_r := hide (Box3.keep b_r.out U11)
  clear c_r0 c_r1 c_r2
  replace b_s := hide b_s
  have U12 : Below V10.heap.size V10 V10 := Below.refl _ _
  have c_a0 := b_a.out.at0 b_a.out.lt_size (Nat.le_refl _)
  have c_a1 := b_a.out.at1 b_a.out.lt_size (Nat.le_refl _)
  have c_a2 := b_a.out.at2 b_a.out.lt_size (Nat.le_refl _)
  have c_a3 := b_a.out.at3 b_a.out.lt_size (Nat.le_refl _)
  have c_a4 := b_a.out.at4 b_a.out.lt_size (Nat.le_refl _)
  have c_a5 := b_a.out.at5 b_a.out.lt_size (Nat.le_refl _)
  have c_b0 := b_b.out.at0 b_b.out.lt_size (Nat.le_refl _)
  have c_b1 := b_b.out.at1 b_b.out.lt_size (Nat.le_refl _)
  have c_b2 := b_b.out.at2 b_b.out.lt_size (Nat.le_refl _)
  have c_b3 := b_b.out.at3 b_b.out.lt_size (Nat.le_refl _)
  have c_b4 := b_b.out.at4 b_b.out.lt_size (Nat.le_refl _)
  have c_b5 := b_b.out.at5 b_b.out.lt_size (Nat.le_refl _)
  have c_r00 := b_r0.out.at0 b_r0.out.lt_size (Nat.le_refl _)
  have c_r01 := b_r0.out.at1 b_r0.out.lt_size (Nat.le_refl _)
  have c_r02 := b_r0.out.at2 b_r0.out.lt_size (Nat.le_refl _)
  have c_r03 := b_r0.out.at3 b_r0.out.lt_size (Nat.le_refl _)
  have c_r04 := b_r0.out.at4 b_r0.out.lt_size (Nat.le_refl _)
  have c_r05 := b_r0.out.at5 b_r0.out.lt_size (Nat.le_refl _)
  have f_r00 := b_r0.out.free0 b_r0.out.lt_size (Nat.le_refl _)
  have f_r01 := b_r0.out.free1 b_r0.out.lt_size (Nat.le_refl _)
  have f_r02 := b_r0.out.free2 b_r0.out.lt_size (Nat.le_refl _)
  have f_r03 := b_r0.out.free3 b_r0.out.lt_size (Nat.le_refl _)
  have f_r04 := b_r0.out.free4 b_r0.out.lt_size (Nat.le_refl _)
  have f_r05 := b_r0.out.free5 b_r0.out.lt_size (Nat.le_refl _)
  have l_r0 := b_r0.out.lt b_r0.out.lt_size (Nat.le_refl _)
  have c_p0 := b_p.out.at0 b_p.out.lt_size (Nat.le_refl _)
  have c_p1 := b_p.out.at1 b_p.out.lt_size (Nat.le_refl _)
  have c_p2 := b_p.out.at2 b_p.out.lt_size (Nat.le_refl _)
  have c_q0 := b_q.out.at0 b_q.out.lt_size (Nat.le_refl _)
  have c_q1 := b_q.out.at1 b_q.out.lt_size (Nat.le_refl _)
  have c_q2 := b_q.out.at2 b_q.out.lt_size (Nat.le_refl _)
  have c_r0 := b_r.out.at0 b_r.out.lt_size (Nat.le_refl _)
  have c_r1 := b_r.out.at1 b_r.out.lt_size (Nat.le_refl _)
  have c_r2 := b_r.out.at2 b_r.out.lt_size (Nat.le_refl _)
  have c_s0 := b_s.out.at0 b_s.out.lt_size (Nat.le_refl _)
  have c_s1 := b_s.out.at1 b_s.out.lt_size (Nat.le_refl _)
  have c_s2 := b_s.out.at2 b_s.out.lt_size (Nat.le_refl _)
  go_wp2_with fail
  have k_a0 := b_a.out.but0 (g1 := w.heap.size + 1 + 1) (g2 := w.heap.size + 1 + 1) (by omega) (by omega)
  have k_a1 := b_a.out.but1 (g1 := w.heap.size + 1 + 1) (g2 := w.heap.size + 1 + 1) (by omega) (by omega)
  have k_a2 := b_a.out.but2 (g1 := w.heap.size + 1 + 1) (g2 := w.heap.size + 1 + 1) (by omega) (by omega)
  have k_a3 := b_a.out.but3 (g1 := w.heap.size + 1 + 1) (g2 := w.heap.size + 1 + 1) (by omega) (by omega)
  have k_a4 := b_a.out.but4 (g1 := w.heap.size + 1 + 1) (g2 := w.heap.size + 1 + 1) (by omega) (by omega)
  have k_a5 := b_a.out.but5 (g1 := w.heap.size + 1 + 1) (g2 := w.heap.size + 1 + 1) (by omega) (by omega)
  have k_b0 := b_b.out.but0 (g1 := w.heap.size + 1 + 1) (g2 := w.heap.size + 1 + 1) (by omega) (by omega)
  have k_b1 := b_b.out.but1 (g1 := w.heap.size + 1 + 1) (g2 := w.heap.size + 1 + 1) (by omega) (by omega)
  have k_b2 := b_b.out.but2 (g1 := w.heap.size + 1 + 1) (g2 := w.heap.size + 1 + 1) (by omega) (by omega)
  have k_b3 := b_b.out.but3 (g1 := w.heap.size + 1 + 1) (g2 := w.heap.size + 1 + 1) (by omega) (by omega)
  have k_b4 := b_b.out.but4 (g1 := w.heap.size + 1 + 1) (g2 := w.heap.size + 1 + 1) (by omega) (by omega)
  have k_b5 := b_b.out.but5 (g1 := w.heap.size + 1 + 1) (g2 := w.heap.size + 1 + 1) (by omega) (by omega)
  have k_p0 := b_p.out.but0 (g1 := w.heap.size + 1 + 1) (g2 := w.heap.size + 1 + 1) ne_p_r0.out ne_p_r0.out
  have k_p1 := b_p.out.but1 (g1 := w.heap.size + 1 + 1) (g2 := w.heap.size + 1 + 1) ne_p_r0.out ne_p_r0.out
  have k_p2 := b_p.out.but2 (g1 := w.heap.size + 1 + 1) (g2 := w.heap.size + 1 + 1) ne_p_r0.out ne_p_r0.out
  have k_q0 := b_q.out.but0 (g1 := w.heap.size + 1 + 1) (g2 := w.heap.size + 1 + 1) ne_q_r0.out ne_q_r0.out
  have k_q1 := b_q.out.but1 (g1 := w.heap.size + 1 + 1) (g2 := w.heap.size + 1 + 1) ne_q_r0.out ne_q_r0.out
  have k_q2 := b_q.out.but2 (g1 := w.heap.size + 1 + 1) (g2 := w.heap.size + 1 + 1) ne_q_r0.out ne_q_r0.out
  have k_r0 := b_r.out.but0 (g1 := w.heap.size + 1 + 1) (g2 := w.heap.size + 1 + 1) ne_r_r0.out ne_r_r0.out
  have k_r1 := b_r.out.but1 (g1 := w.heap.size + 1 + 1) (g2 := w.heap.size + 1 + 1) ne_r_r0.out ne_r_r0.out
  have k_r2 := b_r.out.but2 (g1 := w.heap.size + 1 + 1) (g2 := w.heap.size + 1 + 1) ne_r_r0.out ne_r_r0.out
  have k_s0 := b_s.out.but0 (g1 := w.heap.size + 1 + 1) (g2 := w.heap.size + 1 + 1) ne_s_r0.out ne_s_r0.out
  have k_s1 := b_s.out.but1 (g1 := w.heap.size + 1 + 1) (g2 := w.heap.size + 1 + 1) ne_s_r0.out ne_s_r0.out
  have k_s2 := b_s.out.but2 (g1 := w.heap.size + 1 + 1) (g2 := w.heap.size + 1 + 1) ne_s_r0.out ne_s_r0.out
  have hd := Below.drw_ V10
  replace R_a0 := hide (R_a0.out.then_ hd)
  replace R_a1 := hide (R_a1.out.then_ hd)
  replace R_b0 := hide (R_b0.out.then_ hd)
  replace R_b1 := hide (R_b1.out.then_ hd)
  replace R_p := hide (R_p.out.then_ hd)
  replace R_q := hide (R_q.out.then_ hd)
  replace R_r := hide (R_r.out.then_ hd)
  replace R_s := hide (R_s.out.then_ hd)
  have U13 : Below V10.heap.size V10 (V10.drew) := Below.then_ U12 hd
  replace B := hide (Below.then_ B.out hd)
  have K13 : KeptBut (w.heap.size + 1 + 1) (w.heap.size + 1 + 1) V10.heap.size V10 (V10.drew) := KeptBut.below U13
  clear hd
  have tok1 : True := trivial
  go_region_held3 (fun w' => KeptBut (w.heap.size + 1 + 1) (w.heap.size + 1 + 1) V10.heap.size V10 w') (first | (with_reducible assumption) | (with_reducible exact KeptBut.drw _) | ((repeat (first | (with_reducible refine KeptBut.set0 ?_ _) | (with_reducible refine KeptBut.drew_ ?_))); first | (with_reducible assumption) | (with_reducible exact KeptBut.refl _ _ _ _)))
    (first
      | (go_at_call 19; (have _t := tok1; (with_reducible refine (rless_any gL2.out R_p.out.rq R_q.out.rq (Nat.le_refl _) hml.out).mono ?_); rintro e w5 ⟨x_ml, rfl, R_ml, hb⟩; replace R_a0 := hide (R_a0.out.then_ hb); replace R_a1 := hide (R_a1.out.then_ hb); replace R_b0 := hide (R_b0.out.then_ hb); replace R_b1 := hide (R_b1.out.then_ hb); replace R_p := hide (R_p.out.then_ hb); replace R_q := hide (R_q.out.then_ hb); replace R_r := hide (R_r.out.then_ hb); replace R_s := hide (R_s.out.then_ hb); have U14 : Below V10.heap.size V10 w5 := Below.then_ U13 hb; replace B := hide (Below.then_ B.out hb); have K14 : KeptBut (w.heap.size + 1 + 1) (w.heap.size + 1 + 1) V10.heap.size V10 w5 := KeptBut.below U14; replace R_ml := hide R_ml; clear hb; have tok2 : True := trivial; clear _t tok1))
      | (go_at_call 19; (have _t := tok2; (with_reducible refine (rless_any gL2.out R_r.out.rq R_s.out.rq (Nat.le_refl _) hnl.out).mono ?_); rintro e w6 ⟨x_nl, rfl, R_nl, hb⟩; replace R_a0 := hide (R_a0.out.then_ hb); replace R_a1 := hide (R_a1.out.then_ hb); replace R_b0 := hide (R_b0.out.then_ hb); replace R_b1 := hide (R_b1.out.then_ hb); replace R_p := hide (R_p.out.then_ hb); replace R_q := hide (R_q.out.then_ hb); replace R_r := hide (R_r.out.then_ hb); replace R_s := hide (R_s.out.then_ hb); replace R_ml := hide (R_ml.out.then_ hb); have U15 : Below V10.heap.size V10 w6 := Below.then_ U14 hb; replace B := hide (Below.then_ B.out hb); have K15 : KeptBut (w.heap.size + 1 + 1) (w.heap.size + 1 + 1) V10.heap.size V10 w6 := KeptBut.below U15; replace R_nl := hide R_nl; clear hb; have tok3 : True := trivial; clear _t tok2))
      | (go_at_call 19; (have _t := tok3; (with_reducible refine (rless_any gL3.out R_ml.out.rq R_nl.out.rq (Nat.le_refl _) hl.out).mono ?_); rintro e w7 ⟨x_z0, rfl, R_z0, hb⟩; replace R_a0 := hide (R_a0.out.then_ hb); replace R_a1 := hide (R_a1.out.then_ hb); replace R_b0 := hide (R_b0.out.then_ hb); replace R_b1 := hide (R_b1.out.then_ hb); replace R_p := hide (R_p.out.then_ hb); replace R_q := hide (R_q.out.then_ hb); replace R_r := hide (R_r.out.then_ hb); replace R_s := hide (R_s.out.then_ hb); replace R_ml := hide (R_ml.out.then_ hb); replace R_nl := hide (R_nl.out.then_ hb); have U16 : Below V10.heap.size V10 w7 := Below.then_ U15 hb; replace B := hide (Below.then_ B.out hb); have K16 : KeptBut (w.heap.size + 1 + 1) (w.heap.size + 1 + 1) V10.heap.size V10 w7 := KeptBut.below U16; replace R_z0 := hide R_z0; clear hb; have tok4 : True := trivial; clear _t tok3))
      | (go_at_call 20; (have _t := tok4; (with_reducible refine (rgreat_any gL2.out R_p.out.rq R_q.out.rq (Nat.le_refl _) hmh.out).mono ?_); rintro e w8 ⟨x_mh, rfl, R_mh, hb⟩; replace R_a0 := hide (R_a0.out.then_ hb); replace R_a1 := hide (R_a1.out.then_ hb); replace R_b0 := hide (R_b0.out.then_ hb); replace R_b1 := hide (R_b1.out.then_ hb); replace R_p := hide (R_p.out.then_ hb); replace R_q := hide (R_q.out.then_ hb); replace R_r := hide (R_r.out.then_ hb); replace R_s := hide (R_s.out.then_ hb); replace R_ml := hide (R_ml.out.then_ hb); replace R_nl := hide (R_nl.out.then_ hb); replace R_z0 := hide (R_z0.out.then_ hb); have U17 : Below V10.heap.size V10 w8 := Below.then_ U16 hb; replace B := hide (Below.then_ B.out hb); have K17 : KeptBut (w.heap.size + 1 + 1) (w.heap.size + 1 + 1) V10.heap.size V10 w8 := KeptBut.below U17; replace R_mh := hide R_mh; clear hb; have tok5 : True := trivial; clear _t tok4))
      | (go_at_call 20; (have _t := tok5; (with_reducible refine (rgreat_any gL2.out R_r.out.rq R_s.out.rq (Nat.le_refl _) hnh.out).mono ?_); rintro e w9 ⟨x_nh, rfl, R_nh, hb⟩; replace R_a0 := hide (R_a0.out.then_ hb); replace R_a1 := hide (R_a1.out.then_ hb); replace R_b0 := hide (R_b0.out.then_ hb); replace R_b1 := hide (R_b1.out.then_ hb); replace R_p := hide (R_p.out.then_ hb); replace R_q := hide (R_q.out.then_ hb); replace R_r := hide (R_r.out.then_ hb); replace R_s := hide (R_s.out.then_ hb); replace R_ml := hide (R_ml.out.then_ hb); replace R_nl := hide (R_nl.out.then_ hb); replace R_z0 := hide (R_z0.out.then_ hb); replace R_mh := hide (R_mh.out.then_ hb); have U18 : Below V10.heap.size V10 w9 := Below.then_ U17 hb; replace B := hide (Below.then_ B.out hb); have K18 : KeptBut (w.heap.size + 1 + 1) (w.heap.size + 1 + 1) V10.heap.size V10 w9 := KeptBut.below U18; replace R_nh := hide R_nh; clear hb; have tok6 : True := trivial; clear _t tok5))
      | (go_at_call 20; (have _t := tok6; (with_reducible refine (rgreat_any gL3.out R_mh.out.rq R_nh.out.rq (Nat.le_refl _) hh.out).mono ?_); rintro e w10 ⟨x_z1, rfl, R_z1, hb⟩; replace R_a0 := hide (R_a0.out.then_ hb); replace R_a1 := hide (R_a1.out.then_ hb); replace R_b0 := hide (R_b0.out.then_ hb); replace R_b1 := hide (R_b1.out.then_ hb); replace R_p := hide (R_p.out.then_ hb); replace R_q := hide (R_q.out.then_ hb); replace R_r := hide (R_r.out.then_ hb); replace R_s := hide (R_s.out.then_ hb); replace R_ml := hide (R_ml.out.then_ hb); replace R_nl := hide (R_nl.out.then_ hb); replace R_z0 := hide (R_z0.out.then_ hb); replace R_mh := hide (R_mh.out.then_ hb); replace R_nh := hide (R_nh.out.then_ hb); have U19 : Below V10.heap.size V10 w10 := Below.then_ U18 hb; replace B := hide (Below.then_ B.out hb); have K19 : KeptBut (w.heap.size + 1 + 1) (w.heap.size + 1 + 1) V10.heap.size V10 w10 := KeptBut.below U19; replace R_z1 := hide R_z1; clear hb; have tok7 : True := trivial; clear _t tok6)))
  clear tok7
  clear k_a0 k_a1 k_a2 k_a3 k_a4 k_a5
  clear k_b0 k_b1 k_b2 k_b3 k_b4 k_b5
  clear k_p0 k_p1 k_p2
  clear k_q0 k_q1 k_q2
  clear k_r0 k_r1 k_r2
  clear k_s0 k_s1 k_s2
  replace R_z0 := hide (R_z0.out.le (M := 2 * L + 4) (by omega))
  replace R_z1 := hide (R_z1.out.le (M := 2 * L + 4) (by omega))
  go_wp2
  exact bodyPost_ret (v := .agg #[.bool x_z0.s, .slice x_z0.A x_z0.n x_z0.c, .slice x_z0.B x_z0.m x_z0.d, .bool x_z1.s, .slice x_z1.A x_z1.n x_z1.c, .slice x_z1.B x_z1.m x_z1.d]) (by simp [results, Tryz.results12, go_sem, c_r00 _ U19, c_r01 _ U19, c_r02 _ U19, c_r03 _ U19, c_r04 _ U19, c_r05 _ U19]) rfl (RetSN.box B.out (by omega) (c_r00 _ U19) (c_r01 _ U19) (c_r02 _ U19) (c_r03 _ U19) (c_r04 _ U19) (c_r05 _ U19) R_z0.out R_z1.out)

set_option maxHeartbeats 4000000 in
theorem rscale_any {w : World} {Bd : Nat} {L : Nat} (gL : L ≤ 30000000) {a0 : Rc} {q_a0 : Rat} {a1 : Rc} {q_a1 : Rat} {r : Rc} {q_r : Rat} (h_a0 : Rq w Bd L a0 q_a0) (h_a1 : Rq w Bd L a1 q_a1) (h_r : Rq w Bd L r q_r) (hB : Bd ≤ w.heap.size) {l h : Rat} (hl : rlo (q_a0 * q_r) (q_a1 * q_r) = l) (hh : rhi (q_a0 * q_r) (q_a1 * q_r) = h) :
    Calls Tryz.prog 14 #[.agg #[.bool a0.s, .slice a0.A a0.n a0.c, .slice a0.B a0.m a0.d, .bool a1.s, .slice a1.A a1.n a1.c, .slice a1.B a1.m a1.d], .agg #[.bool r.s, .slice r.A r.n r.c, .slice r.B r.m r.d]] w (RetSN w (2 * L + 3) l h) := by
  obtain ⟨p, hp⟩ : ∃ l, q_a0 * q_r = l := ⟨_, rfl⟩
  obtain ⟨q, hq⟩ : ∃ h, q_a1 * q_r = h := ⟨_, rfl⟩
  rw [hp, hq] at hl hh
  replace hl := hide hl
  replace hh := hide hh
  replace hp := hide hp
  replace hq := hide hq
  have gL2 : L + L + 2 ≤ 100000000 := by omega
  replace gL2 := hide gL2
  obtain ⟨W, hW⟩ : ∃ W, W = (((w.alloc (.cells #[.bool a0.s, .slice a0.A a0.n a0.c, .slice a0.B a0.m a0.d, .bool a1.s, .slice a1.A a1.n a1.c, .slice a1.B a1.m a1.d] 29)).alloc (.cells #[.bool r.s, .slice r.A r.n r.c, .slice r.B r.m r.d] 27)).alloc (.cells #[.bool false, .slice none 0 0, .slice none 0 0, .bool false, .slice none 0 0, .slice none 0 0] 29)) := ⟨_, rfl⟩
  have b_a : Box6 W (w.heap.size) (.bool a0.s) (.slice a0.A a0.n a0.c) (.slice a0.B a0.m a0.d) (.bool a1.s) (.slice a1.A a1.n a1.c) (.slice a1.B a1.m a1.d) := by rw [hW]; exact (((Box6.new w _ _ _ _ _ _ rfl).al _).al _)
  have b_r : Box3 W (w.heap.size + 1) (.bool r.s) (.slice r.A r.n r.c) (.slice r.B r.m r.d) := by rw [hW]; exact ((Box3.new _ _ _ _ (by simp)).al _)
  have b_r0 : Box6 W (w.heap.size + 1 + 1) (.bool false) (.slice none 0 0) (.slice none 0 0) (.bool false) (.slice none 0 0) (.slice none 0 0) := by rw [hW]; exact (Box6.new _ _ _ _ _ _ _ (by simp))
  have hwW : Below w.heap.size w W := by rw [hW]; exact ((((Below.refl _ _).alloc (Nat.le_refl _) _).alloc (by simp) _).alloc (by simp; omega) _)
  have R_a0 := hide (h_a0.upto hwW hB)
  clear h_a0
  have R_a1 := hide (h_a1.upto hwW hB)
  clear h_a1
  have R_r := hide (h_r.upto hwW hB)
  clear h_r
  have B := hide hwW
  clear hwW
  clear hB
  have U0 : Below W.heap.size W W := Below.refl _ _
  have c_a0 := b_a.at0 b_a.lt_size (Nat.le_refl _)
  have c_a1 := b_a.at1 b_a.lt_size (Nat.le_refl _)
  have c_a2 := b_a.at2 b_a.lt_size (Nat.le_refl _)
  have c_a3 := b_a.at3 b_a.lt_size (Nat.le_refl _)
  have c_a4 := b_a.at4 b_a.lt_size (Nat.le_refl _)
  have c_a5 := b_a.at5 b_a.lt_size (Nat.le_refl _)
  replace b_a := hide b_a
  have c_r0 := b_r.at0 b_r.lt_size (Nat.le_refl _)
  have c_r1 := b_r.at1 b_r.lt_size (Nat.le_refl _)
  have c_r2 := b_r.at2 b_r.lt_size (Nat.le_refl _)
  replace b_r := hide b_r
  have c_r00 := b_r0.at0 b_r0.lt_size (Nat.le_refl _)
  have c_r01 := b_r0.at1 b_r0.lt_size (Nat.le_refl _)
  have c_r02 := b_r0.at2 b_r0.lt_size (Nat.le_refl _)
  have c_r03 := b_r0.at3 b_r0.lt_size (Nat.le_refl _)
  have c_r04 := b_r0.at4 b_r0.lt_size (Nat.le_refl _)
  have c_r05 := b_r0.at5 b_r0.lt_size (Nat.le_refl _)
  have f_r00 := b_r0.free0 b_r0.lt_size (Nat.le_refl _)
  have f_r01 := b_r0.free1 b_r0.lt_size (Nat.le_refl _)
  have f_r02 := b_r0.free2 b_r0.lt_size (Nat.le_refl _)
  have f_r03 := b_r0.free3 b_r0.lt_size (Nat.le_refl _)
  have f_r04 := b_r0.free4 b_r0.lt_size (Nat.le_refl _)
  have f_r05 := b_r0.free5 b_r0.lt_size (Nat.le_refl _)
  have l_r0 := b_r0.lt b_r0.lt_size (Nat.le_refl _)
  replace b_r0 := hide b_r0
  go_enter Tryz.func14, Tryz.ntmps14
  go_wp2_with fail
  rw [← hW]
  clear hW
  have k_a0 := b_a.out.but0 (g1 := w.heap.size + 1 + 1) (g2 := w.heap.size + 1 + 1) (by omega) (by omega)
  have k_a1 := b_a.out.but1 (g1 := w.heap.size + 1 + 1) (g2 := w.heap.size + 1 + 1) (by omega) (by omega)
  have k_a2 := b_a.out.but2 (g1 := w.heap.size + 1 + 1) (g2 := w.heap.size + 1 + 1) (by omega) (by omega)
  have k_a3 := b_a.out.but3 (g1 := w.heap.size + 1 + 1) (g2 := w.heap.size + 1 + 1) (by omega) (by omega)
  have k_a4 := b_a.out.but4 (g1 := w.heap.size + 1 + 1) (g2 := w.heap.size + 1 + 1) (by omega) (by omega)
  have k_a5 := b_a.out.but5 (g1 := w.heap.size + 1 + 1) (g2 := w.heap.size + 1 + 1) (by omega) (by omega)
  have k_r0 := b_r.out.but0 (g1 := w.heap.size + 1 + 1) (g2 := w.heap.size + 1 + 1) (by omega) (by omega)
  have k_r1 := b_r.out.but1 (g1 := w.heap.size + 1 + 1) (g2 := w.heap.size + 1 + 1) (by omega) (by omega)
  have k_r2 := b_r.out.but2 (g1 := w.heap.size + 1 + 1) (g2 := w.heap.size + 1 + 1) (by omega) (by omega)
  have hd := Below.drw_ W
  replace R_a0 := hide (R_a0.out.then_ hd)
  replace R_a1 := hide (R_a1.out.then_ hd)
  replace R_r := hide (R_r.out.then_ hd)
  have U1 : Below W.heap.size W (W.drew) := Below.then_ U0 hd
  replace B := hide (Below.then_ B.out hd)
  have K1 : KeptBut (w.heap.size + 1 + 1) (w.heap.size + 1 + 1) W.heap.size W (W.drew) := KeptBut.below U1
  clear hd
  have tok1 : True := trivial
  go_region_held3 (fun w' => KeptBut (w.heap.size + 1 + 1) (w.heap.size + 1 + 1) W.heap.size W w') (first | (with_reducible assumption) | (with_reducible exact KeptBut.drw _) | ((repeat (first | (with_reducible refine KeptBut.set0 ?_ _) | (with_reducible refine KeptBut.drew_ ?_))); first | (with_reducible assumption) | (with_reducible exact KeptBut.refl _ _ _ _)))
    (first
      | (go_at_call 29; (have _t := tok1; (with_reducible refine (rmul_q R_a0.out (by omega) R_r.out (by omega) (Nat.le_refl _) hp.out).mono ?_); rintro e w1 ⟨x_p, rfl, R_p, hb⟩; replace R_a0 := hide (R_a0.out.then_ hb); replace R_a1 := hide (R_a1.out.then_ hb); replace R_r := hide (R_r.out.then_ hb); have U2 : Below W.heap.size W w1 := Below.then_ U1 hb; replace B := hide (Below.then_ B.out hb); have K2 : KeptBut (w.heap.size + 1 + 1) (w.heap.size + 1 + 1) W.heap.size W w1 := KeptBut.below U2; replace R_p := hide R_p; clear hb; have tok2 : True := trivial; clear _t tok1))
      | (go_at_call 29; (have _t := tok2; (with_reducible refine (rmul_q R_a1.out (by omega) R_r.out (by omega) (Nat.le_refl _) hq.out).mono ?_); rintro e w2 ⟨x_q, rfl, R_q, hb⟩; replace R_a0 := hide (R_a0.out.then_ hb); replace R_a1 := hide (R_a1.out.then_ hb); replace R_r := hide (R_r.out.then_ hb); replace R_p := hide (R_p.out.then_ hb); have U3 : Below W.heap.size W w2 := Below.then_ U2 hb; replace B := hide (Below.then_ B.out hb); have K3 : KeptBut (w.heap.size + 1 + 1) (w.heap.size + 1 + 1) W.heap.size W w2 := KeptBut.below U3; replace R_q := hide R_q; clear hb; have tok3 : True := trivial; clear _t tok2))
      | (go_at_call 6; (have _t := tok3; (with_reducible refine (rsof_any gL2.out R_p.out.rq R_q.out.rq (Nat.le_refl _) hl.out hh.out).mono ?_); rintro e w3 ⟨x_z0, x_z1, rfl, R_z0, R_z1, hb⟩; replace R_a0 := hide (R_a0.out.then_ hb); replace R_a1 := hide (R_a1.out.then_ hb); replace R_r := hide (R_r.out.then_ hb); replace R_p := hide (R_p.out.then_ hb); replace R_q := hide (R_q.out.then_ hb); have U4 : Below W.heap.size W w3 := Below.then_ U3 hb; replace B := hide (Below.then_ B.out hb); have K4 : KeptBut (w.heap.size + 1 + 1) (w.heap.size + 1 + 1) W.heap.size W w3 := KeptBut.below U4; replace R_z0 := hide R_z0; replace R_z1 := hide R_z1; clear hb; have tok4 : True := trivial; clear _t tok3)))
  clear tok4
  clear k_a0 k_a1 k_a2 k_a3 k_a4 k_a5
  clear k_r0 k_r1 k_r2
  replace R_z0 := hide (R_z0.out.le (M := 2 * L + 3) (by omega))
  replace R_z1 := hide (R_z1.out.le (M := 2 * L + 3) (by omega))
  go_wp2
  exact bodyPost_ret (v := .agg #[.bool x_z0.s, .slice x_z0.A x_z0.n x_z0.c, .slice x_z0.B x_z0.m x_z0.d, .bool x_z1.s, .slice x_z1.A x_z1.n x_z1.c, .slice x_z1.B x_z1.m x_z1.d]) (by simp [results, Tryz.results14, go_sem, c_r00 _ U4, c_r01 _ U4, c_r02 _ U4, c_r03 _ U4, c_r04 _ U4, c_r05 _ U4]) rfl (RetSN.box B.out (by omega) (c_r00 _ U4) (c_r01 _ U4) (c_r02 _ U4) (c_r03 _ U4) (c_r04 _ U4) (c_r05 _ U4) R_z0.out R_z1.out)

end Go.Proofs.YtogafnfpncbgiaaGreat

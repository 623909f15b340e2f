/-
  Hull, Order, Meet of span.
-/
import Derived.Test.YtogafnfpncbgiaaSpanC
namespace Go.Proofs.Ytogafnfpncbgiaa
open Go.RowKit


set_option maxHeartbeats 4000000 in
theorem hull_any {w : World} {Bd : Nat} {L : Nat} (gL : L ≤ 100000000) {a0 : Rc} {q_a0 : Rat} {a1 : Rc} {q_a1 : Rat} {b0 : Rc} {q_b0 : Rat} {b1 : Rc} {q_b1 : Rat} (h_a0 : Rq w Bd L a0 q_a0) (h_a1 : Rq w Bd L a1 q_a1) (h_b0 : Rq w Bd L b0 q_b0) (h_b1 : Rq w Bd L b1 q_b1) (hB : Bd ≤ w.heap.size) {l h : Rat} (hl : rlo (rlo q_a0 q_a1) (rlo q_b0 q_b1) = l) (hh : rhi (rhi q_a0 q_a1) (rhi q_b0 q_b1) = h) :
    Calls Try.prog 19 #[.agg #[.bool a0.s, .slice a0.A a0.n a0.c, .slice a0.B a0.m a0.d, .bool a1.s, .slice a1.A a1.n a1.c, .slice a1.B a1.m a1.d], .agg #[.bool b0.s, .slice b0.A b0.n b0.c, .slice b0.B b0.m b0.d, .bool b1.s, .slice b1.A b1.n b1.c, .slice b1.B b1.m b1.d]] w (RetSN w (L + 1) l h) := by
  obtain ⟨la, hla⟩ : ∃ l, rlo q_a0 q_a1 = l := ⟨_, rfl⟩
  obtain ⟨ha, hha⟩ : ∃ h, rhi q_a0 q_a1 = h := ⟨_, rfl⟩
  obtain ⟨lb, hlb⟩ : ∃ l, rlo q_b0 q_b1 = l := ⟨_, rfl⟩
  obtain ⟨hb, hhb⟩ : ∃ h, rhi q_b0 q_b1 = h := ⟨_, rfl⟩
  rw [hla, hlb] at hl
  rw [hha, hhb] at hh
  replace hl := hide hl
  replace hh := hide hh
  replace hla := hide hla
  replace hha := hide hha
  replace hlb := hide hlb
  replace hhb := hide hhb
  obtain ⟨W, hW⟩ : ∃ W, W = (((w.alloc (.cells #[.bool a0.s, .slice a0.A a0.n a0.c, .slice a0.B a0.m a0.d, .bool a1.s, .slice a1.A a1.n a1.c, .slice a1.B a1.m a1.d] 29)).alloc (.cells #[.bool b0.s, .slice b0.A b0.n b0.c, .slice b0.B b0.m b0.d, .bool b1.s, .slice b1.A b1.n b1.c, .slice b1.B b1.m b1.d] 29)).alloc (.cells #[.bool false, .slice none 0 0, .slice none 0 0, .bool false, .slice none 0 0, .slice none 0 0] 29)) := ⟨_, rfl⟩
  have b_a : Box6 W (w.heap.size) (.bool a0.s) (.slice a0.A a0.n a0.c) (.slice a0.B a0.m a0.d) (.bool a1.s) (.slice a1.A a1.n a1.c) (.slice a1.B a1.m a1.d) := by rw [hW]; exact (((Box6.new w _ _ _ _ _ _ rfl).al _).al _)
  have b_b : Box6 W (w.heap.size + 1) (.bool b0.s) (.slice b0.A b0.n b0.c) (.slice b0.B b0.m b0.d) (.bool b1.s) (.slice b1.A b1.n b1.c) (.slice b1.B b1.m b1.d) := by rw [hW]; exact ((Box6.new _ _ _ _ _ _ _ (by simp)).al _)
  have b_r0 : Box6 W (w.heap.size + 1 + 1) (.bool false) (.slice none 0 0) (.slice none 0 0) (.bool false) (.slice none 0 0) (.slice none 0 0) := by rw [hW]; exact (Box6.new _ _ _ _ _ _ _ (by simp))
  have hwW : Below w.heap.size w W := by rw [hW]; exact ((((Below.refl _ _).alloc (Nat.le_refl _) _).alloc (by simp) _).alloc (by simp; omega) _)
  have R_a0 := hide (h_a0.upto hwW hB)
  clear h_a0
  have R_a1 := hide (h_a1.upto hwW hB)
  clear h_a1
  have R_b0 := hide (h_b0.upto hwW hB)
  clear h_b0
  have R_b1 := hide (h_b1.upto hwW hB)
  clear h_b1
  have B := hide hwW
  clear hwW
  clear hB
  have U0 : Below W.heap.size W W := Below.refl _ _
  have c_a0 := b_a.at0 b_a.lt_size (Nat.le_refl _)
  have c_a1 := b_a.at1 b_a.lt_size (Nat.le_refl _)
  have c_a2 := b_a.at2 b_a.lt_size (Nat.le_refl _)
  have c_a3 := b_a.at3 b_a.lt_size (Nat.le_refl _)
  have c_a4 := b_a.at4 b_a.lt_size (Nat.le_refl _)
  have c_a5 := b_a.at5 b_a.lt_size (Nat.le_refl _)
  have f_a0 := b_a.free0 b_a.lt_size (Nat.le_refl _)
  have f_a1 := b_a.free1 b_a.lt_size (Nat.le_refl _)
  have f_a2 := b_a.free2 b_a.lt_size (Nat.le_refl _)
  have f_a3 := b_a.free3 b_a.lt_size (Nat.le_refl _)
  have f_a4 := b_a.free4 b_a.lt_size (Nat.le_refl _)
  have f_a5 := b_a.free5 b_a.lt_size (Nat.le_refl _)
  have l_a := b_a.lt b_a.lt_size (Nat.le_refl _)
  replace b_a := hide b_a
  have c_b0 := b_b.at0 b_b.lt_size (Nat.le_refl _)
  have c_b1 := b_b.at1 b_b.lt_size (Nat.le_refl _)
  have c_b2 := b_b.at2 b_b.lt_size (Nat.le_refl _)
  have c_b3 := b_b.at3 b_b.lt_size (Nat.le_refl _)
  have c_b4 := b_b.at4 b_b.lt_size (Nat.le_refl _)
  have c_b5 := b_b.at5 b_b.lt_size (Nat.le_refl _)
  have f_b0 := b_b.free0 b_b.lt_size (Nat.le_refl _)
  have f_b1 := b_b.free1 b_b.lt_size (Nat.le_refl _)
  have f_b2 := b_b.free2 b_b.lt_size (Nat.le_refl _)
  have f_b3 := b_b.free3 b_b.lt_size (Nat.le_refl _)
  have f_b4 := b_b.free4 b_b.lt_size (Nat.le_refl _)
  have f_b5 := b_b.free5 b_b.lt_size (Nat.le_refl _)
  have l_b := b_b.lt b_b.lt_size (Nat.le_refl _)
  replace b_b := hide b_b
  have c_r00 := b_r0.at0 b_r0.lt_size (Nat.le_refl _)
  have c_r01 := b_r0.at1 b_r0.lt_size (Nat.le_refl _)
  have c_r02 := b_r0.at2 b_r0.lt_size (Nat.le_refl _)
  have c_r03 := b_r0.at3 b_r0.lt_size (Nat.le_refl _)
  have c_r04 := b_r0.at4 b_r0.lt_size (Nat.le_refl _)
  have c_r05 := b_r0.at5 b_r0.lt_size (Nat.le_refl _)
  have f_r00 := b_r0.free0 b_r0.lt_size (Nat.le_refl _)
  have f_r01 := b_r0.free1 b_r0.lt_size (Nat.le_refl _)
  have f_r02 := b_r0.free2 b_r0.lt_size (Nat.le_refl _)
  have f_r03 := b_r0.free3 b_r0.lt_size (Nat.le_refl _)
  have f_r04 := b_r0.free4 b_r0.lt_size (Nat.le_refl _)
  have f_r05 := b_r0.free5 b_r0.lt_size (Nat.le_refl _)
  have l_r0 := b_r0.lt b_r0.lt_size (Nat.le_refl _)
  replace b_r0 := hide b_r0
  go_enter Try.func19, Try.ntmps19
  go_wp2_with fail
  rw [← hW]
  clear hW
  refine Code.wp_mono (Q := fun e a' w' => e = .normal ∧ ∃ (x0 x1 y0 y1 : Rc) (v5 v6 v7 v8 : Value), a' = ⟨#[.agg #[.bool a0.s, .slice a0.A a0.n a0.c, .slice a0.B a0.m a0.d, .bool a1.s, .slice a1.A a1.n a1.c, .slice a1.B a1.m a1.d], .agg #[.bool b0.s, .slice b0.A b0.n b0.c, .slice b0.B b0.m b0.d, .bool b1.s, .slice b1.A b1.n b1.c, .slice b1.B b1.m b1.d], (.pointer (some ⟨w.heap.size, 0, none⟩)), (.pointer (some ⟨w.heap.size + 1, 0, none⟩)), (.pointer (some ⟨w.heap.size + 1 + 1, 0, none⟩)), v5, v6, v7, v8, undef, undef, undef, undef, undef, undef, undef, undef, undef, undef, undef, undef], []⟩ ∧ Pair w w' L (w.heap.size) (w.heap.size + 1) x0 x1 y0 y1 (la) (ha) (lb) (hb) ∧ Box6 w' (w.heap.size + 1 + 1) (.bool false) (.slice none 0 0) (.slice none 0 0) (.bool false) (.slice none 0 0) (.slice none 0 0)) ?_ ?_
  rotate_left
  · skip
    have hd := Below.drw_ W
    replace R_a0 := hide (R_a0.out.then_ hd)
    replace R_a1 := hide (R_a1.out.then_ hd)
    replace R_b0 := hide (R_b0.out.then_ hd)
    replace R_b1 := hide (R_b1.out.then_ hd)
    have U1 : Below W.heap.size W (W.drew) := Below.then_ U0 hd
    replace B := hide (Below.then_ B.out hd)
    clear hd
    have tok1 : True := trivial
    go_region_with (first
        | (go_at_call 29; (have _t := tok1; (with_reducible refine (inorder_any gL R_a0.out R_a1.out (Nat.le_refl _) hla.out hha.out).mono ?_); rintro e w1 ⟨x_x0, x_x1, rfl, R_x0, R_x1, hb⟩; replace R_a0 := hide (R_a0.out.then_ hb); replace R_a1 := hide (R_a1.out.then_ hb); replace R_b0 := hide (R_b0.out.then_ hb); replace R_b1 := hide (R_b1.out.then_ hb); have U2 : Below W.heap.size W w1 := Below.then_ U1 hb; replace B := hide (Below.then_ B.out hb); replace R_x0 := hide R_x0; replace R_x1 := hide R_x1; clear hb; have tok2 : True := trivial; clear _t tok1))
        | (go_at_call 29; (have _t := tok2; (with_reducible refine (inorder_any gL R_b0.out R_b1.out (Nat.le_refl _) hlb.out hhb.out).mono ?_); rintro e w2 ⟨x_y0, x_y1, rfl, R_y0, R_y1, hb⟩; replace R_a0 := hide (R_a0.out.then_ hb); replace R_a1 := hide (R_a1.out.then_ hb); replace R_b0 := hide (R_b0.out.then_ hb); replace R_b1 := hide (R_b1.out.then_ hb); replace R_x0 := hide (R_x0.out.then_ hb); replace R_x1 := hide (R_x1.out.then_ hb); have U3 : Below W.heap.size W w2 := Below.then_ U2 hb; replace B := hide (Below.then_ B.out hb); replace R_y0 := hide R_y0; replace R_y1 := hide R_y1; clear hb; have tok3 : True := trivial; clear _t tok2)))
    all_goals (refine ⟨rfl, x_x0, x_x1, x_y0, x_y1, _, _, _, _, rfl, Pair.set B.out (Box6.keep b_a.out U3) (Box6.keep b_b.out U3) R_x0.out R_x1.out R_y0.out R_y1.out (by omega) (by omega) (by omega), Pair.keep6 (Box6.keep b_r0.out U3) (by omega) (by omega)⟩)
  rintro e a' w3 ⟨rfl, x0, x1, y0, y1, v5, v6, v7, v8, rfl, hP, hT⟩
  clear R_a0
  clear R_a1
  clear R_b0
  clear R_b1
  clear c_a0 c_a1 c_a2 c_a3 c_a4 c_a5 f_a0 f_a1 f_a2 f_a3 f_a4 f_a5 l_a
  clear b_a
  clear c_b0 c_b1 c_b2 c_b3 c_b4 c_b5 f_b0 f_b1 f_b2 f_b3 f_b4 f_b5 l_b
  clear b_b
  clear c_r00 c_r01 c_r02 c_r03 c_r04 c_r05 f_r00 f_r01 f_r02 f_r03 f_r04 f_r05 l_r0
  clear b_r0
  clear B
  obtain ⟨B, b_a, b_b, R_a0, R_a1, R_b0, R_b1⟩ := hP
  replace B := hide B
  replace R_a0 := hide R_a0
  replace R_a1 := hide R_a1
  replace R_b0 := hide R_b0
  replace R_b1 := hide R_b1
  have b_r0 := hT
  clear hT
  replace b_a := hide b_a
  replace b_b := hide b_b
  replace b_r0 := hide b_r0
  have U1 : Below w3.heap.size w3 w3 := Below.refl _ _
  have c_a0 := b_a.out.at0 b_a.out.lt_size (Nat.le_refl _)
  have c_a1 := b_a.out.at1 b_a.out.lt_size (Nat.le_refl _)
  have c_a2 := b_a.out.at2 b_a.out.lt_size (Nat.le_refl _)
  have c_a3 := b_a.out.at3 b_a.out.lt_size (Nat.le_refl _)
  have c_a4 := b_a.out.at4 b_a.out.lt_size (Nat.le_refl _)
  have c_a5 := b_a.out.at5 b_a.out.lt_size (Nat.le_refl _)
  have f_a0 := b_a.out.free0 b_a.out.lt_size (Nat.le_refl _)
  have f_a1 := b_a.out.free1 b_a.out.lt_size (Nat.le_refl _)
  have f_a2 := b_a.out.free2 b_a.out.lt_size (Nat.le_refl _)
  have f_a3 := b_a.out.free3 b_a.out.lt_size (Nat.le_refl _)
  have f_a4 := b_a.out.free4 b_a.out.lt_size (Nat.le_refl _)
  have f_a5 := b_a.out.free5 b_a.out.lt_size (Nat.le_refl _)
  have l_a := b_a.out.lt b_a.out.lt_size (Nat.le_refl _)
  have c_b0 := b_b.out.at0 b_b.out.lt_size (Nat.le_refl _)
  have c_b1 := b_b.out.at1 b_b.out.lt_size (Nat.le_refl _)
  have c_b2 := b_b.out.at2 b_b.out.lt_size (Nat.le_refl _)
  have c_b3 := b_b.out.at3 b_b.out.lt_size (Nat.le_refl _)
  have c_b4 := b_b.out.at4 b_b.out.lt_size (Nat.le_refl _)
  have c_b5 := b_b.out.at5 b_b.out.lt_size (Nat.le_refl _)
  have f_b0 := b_b.out.free0 b_b.out.lt_size (Nat.le_refl _)
  have f_b1 := b_b.out.free1 b_b.out.lt_size (Nat.le_refl _)
  have f_b2 := b_b.out.free2 b_b.out.lt_size (Nat.le_refl _)
  have f_b3 := b_b.out.free3 b_b.out.lt_size (Nat.le_refl _)
  have f_b4 := b_b.out.free4 b_b.out.lt_size (Nat.le_refl _)
  have f_b5 := b_b.out.free5 b_b.out.lt_size (Nat.le_refl _)
  have l_b := b_b.out.lt b_b.out.lt_size (Nat.le_refl _)
  have c_r00 := b_r0.out.at0 b_r0.out.lt_size (Nat.le_refl _)
  have c_r01 := b_r0.out.at1 b_r0.out.lt_size (Nat.le_refl _)
  have c_r02 := b_r0.out.at2 b_r0.out.lt_size (Nat.le_refl _)
  have c_r03 := b_r0.out.at3 b_r0.out.lt_size (Nat.le_refl _)
  have c_r04 := b_r0.out.at4 b_r0.out.lt_size (Nat.le_refl _)
  have c_r05 := b_r0.out.at5 b_r0.out.lt_size (Nat.le_refl _)
  have f_r00 := b_r0.out.free0 b_r0.out.lt_size (Nat.le_refl _)
  have f_r01 := b_r0.out.free1 b_r0.out.lt_size (Nat.le_refl _)
  have f_r02 := b_r0.out.free2 b_r0.out.lt_size (Nat.le_refl _)
  have f_r03 := b_r0.out.free3 b_r0.out.lt_size (Nat.le_refl _)
  have f_r04 := b_r0.out.free4 b_r0.out.lt_size (Nat.le_refl _)
  have f_r05 := b_r0.out.free5 b_r0.out.lt_size (Nat.le_refl _)
  have l_r0 := b_r0.out.lt b_r0.out.lt_size (Nat.le_refl _)
  go_wp2_with fail
  have k_a0 := b_a.out.but0 (g1 := w.heap.size + 1 + 1) (g2 := w.heap.size + 1 + 1) (by omega) (by omega)
  have k_a1 := b_a.out.but1 (g1 := w.heap.size + 1 + 1) (g2 := w.heap.size + 1 + 1) (by omega) (by omega)
  have k_a2 := b_a.out.but2 (g1 := w.heap.size + 1 + 1) (g2 := w.heap.size + 1 + 1) (by omega) (by omega)
  have k_a3 := b_a.out.but3 (g1 := w.heap.size + 1 + 1) (g2 := w.heap.size + 1 + 1) (by omega) (by omega)
  have k_a4 := b_a.out.but4 (g1 := w.heap.size + 1 + 1) (g2 := w.heap.size + 1 + 1) (by omega) (by omega)
  have k_a5 := b_a.out.but5 (g1 := w.heap.size + 1 + 1) (g2 := w.heap.size + 1 + 1) (by omega) (by omega)
  have k_b0 := b_b.out.but0 (g1 := w.heap.size + 1 + 1) (g2 := w.heap.size + 1 + 1) (by omega) (by omega)
  have k_b1 := b_b.out.but1 (g1 := w.heap.size + 1 + 1) (g2 := w.heap.size + 1 + 1) (by omega) (by omega)
  have k_b2 := b_b.out.but2 (g1 := w.heap.size + 1 + 1) (g2 := w.heap.size + 1 + 1) (by omega) (by omega)
  have k_b3 := b_b.out.but3 (g1 := w.heap.size + 1 + 1) (g2 := w.heap.size + 1 + 1) (by omega) (by omega)
  have k_b4 := b_b.out.but4 (g1 := w.heap.size + 1 + 1) (g2 := w.heap.size + 1 + 1) (by omega) (by omega)
  have k_b5 := b_b.out.but5 (g1 := w.heap.size + 1 + 1) (g2 := w.heap.size + 1 + 1) (by omega) (by omega)
  have hd := Below.drw_ w3
  replace R_a0 := hide (R_a0.out.then_ hd)
  replace R_a1 := hide (R_a1.out.then_ hd)
  replace R_b0 := hide (R_b0.out.then_ hd)
  replace R_b1 := hide (R_b1.out.then_ hd)
  have U2 : Below w3.heap.size w3 (w3.drew) := Below.then_ U1 hd
  replace B := hide (Below.then_ B.out hd)
  have K2 : KeptBut (w.heap.size + 1 + 1) (w.heap.size + 1 + 1) w3.heap.size w3 (w3.drew) := KeptBut.below U2
  clear hd
  have tok1 : True := trivial
  go_region_held3 (fun w' => KeptBut (w.heap.size + 1 + 1) (w.heap.size + 1 + 1) w3.heap.size w3 w') (first | (with_reducible assumption) | (with_reducible exact KeptBut.drw _) | ((repeat (first | (with_reducible refine KeptBut.set0 ?_ _) | (with_reducible refine KeptBut.drew_ ?_))); first | (with_reducible assumption) | (with_reducible exact KeptBut.refl _ _ _ _)))
    (first
      | (go_at_call 42; (have _t := tok1; (with_reducible refine (lesser_any gL R_a0.out R_b0.out (Nat.le_refl _) hl.out).mono ?_); rintro e w4 ⟨x_s0, rfl, R_s0, hb⟩; replace R_a0 := hide (R_a0.out.then_ hb); replace R_a1 := hide (R_a1.out.then_ hb); replace R_b0 := hide (R_b0.out.then_ hb); replace R_b1 := hide (R_b1.out.then_ hb); have U3 : Below w3.heap.size w3 w4 := Below.then_ U2 hb; replace B := hide (Below.then_ B.out hb); have K3 : KeptBut (w.heap.size + 1 + 1) (w.heap.size + 1 + 1) w3.heap.size w3 w4 := KeptBut.below U3; replace R_s0 := hide R_s0; clear hb; have tok2 : True := trivial; clear _t tok1))
      | (go_at_call 41; (have _t := tok2; (with_reducible refine (greater_any gL R_a1.out R_b1.out (Nat.le_refl _) hh.out).mono ?_); rintro e w5 ⟨x_s1, rfl, R_s1, hb⟩; replace R_a0 := hide (R_a0.out.then_ hb); replace R_a1 := hide (R_a1.out.then_ hb); replace R_b0 := hide (R_b0.out.then_ hb); replace R_b1 := hide (R_b1.out.then_ hb); replace R_s0 := hide (R_s0.out.then_ hb); have U4 : Below w3.heap.size w3 w5 := Below.then_ U3 hb; replace B := hide (Below.then_ B.out hb); have K4 : KeptBut (w.heap.size + 1 + 1) (w.heap.size + 1 + 1) w3.heap.size w3 w5 := KeptBut.below U4; replace R_s1 := hide R_s1; clear hb; have tok3 : True := trivial; clear _t tok2))
      | (go_at_call 40; (have _t := tok3; (with_reducible refine (snorm_any gL R_s0.out R_s1.out (Nat.le_refl _)).mono ?_); rintro e w6 ⟨x_t0, x_t1, rfl, R_t0, R_t1, hb⟩; replace R_a0 := hide (R_a0.out.then_ hb); replace R_a1 := hide (R_a1.out.then_ hb); replace R_b0 := hide (R_b0.out.then_ hb); replace R_b1 := hide (R_b1.out.then_ hb); replace R_s0 := hide (R_s0.out.then_ hb); replace R_s1 := hide (R_s1.out.then_ hb); have U5 : Below w3.heap.size w3 w6 := Below.then_ U4 hb; replace B := hide (Below.then_ B.out hb); have K5 : KeptBut (w.heap.size + 1 + 1) (w.heap.size + 1 + 1) w3.heap.size w3 w6 := KeptBut.below U5; replace R_t0 := hide R_t0; replace R_t1 := hide R_t1; clear hb; have tok4 : True := trivial; clear _t tok3)))
  clear tok4
  clear k_a0 k_a1 k_a2 k_a3 k_a4 k_a5
  clear k_b0 k_b1 k_b2 k_b3 k_b4 k_b5
  go_wp2
  exact bodyPost_ret (v := .agg #[.bool x_t0.s, .slice x_t0.A x_t0.n x_t0.c, .slice x_t0.B x_t0.m x_t0.d, .bool x_t1.s, .slice x_t1.A x_t1.n x_t1.c, .slice x_t1.B x_t1.m x_t1.d]) (by simp [results, Try.results19, go_sem, c_r00 _ U5, c_r01 _ U5, c_r02 _ U5, c_r03 _ U5, c_r04 _ U5, c_r05 _ U5]) rfl (RetSN.box B.out (by omega) (c_r00 _ U5) (c_r01 _ U5) (c_r02 _ U5) (c_r03 _ U5) (c_r04 _ U5) (c_r05 _ U5) R_t0.out R_t1.out)

set_option maxHeartbeats 4000000 in
theorem order_lt {w : World} {Bd : Nat} {L : Nat} (gL : L ≤ 100000000) {a0 : Rc} {q_a0 : Rat} {a1 : Rc} {q_a1 : Rat} {b0 : Rc} {q_b0 : Rat} {b1 : Rc} {q_b1 : Rat} (h_a0 : Rq w Bd L a0 q_a0) (h_a1 : Rq w Bd L a1 q_a1) (h_b0 : Rq w Bd L b0 q_b0) (h_b1 : Rq w Bd L b1 q_b1) (hB : Bd ≤ w.heap.size) (h1 : rhi q_a0 q_a1 < rlo q_b0 q_b1) :
    Calls Try.prog 18 #[.agg #[.bool a0.s, .slice a0.A a0.n a0.c, .slice a0.B a0.m a0.d, .bool a1.s, .slice a1.A a1.n a1.c, .slice a1.B a1.m a1.d], .agg #[.bool b0.s, .slice b0.A b0.n b0.c, .slice b0.B b0.m b0.d, .bool b1.s, .slice b1.A b1.n b1.c, .slice b1.B b1.m b1.d]] w (RetB w (.int .i64 (-1))) := by
  obtain ⟨la, hla⟩ : ∃ l, rlo q_a0 q_a1 = l := ⟨_, rfl⟩
  obtain ⟨ha, hha⟩ : ∃ h, rhi q_a0 q_a1 = h := ⟨_, rfl⟩
  obtain ⟨lb, hlb⟩ : ∃ l, rlo q_b0 q_b1 = l := ⟨_, rfl⟩
  obtain ⟨hb, hhb⟩ : ∃ h, rhi q_b0 q_b1 = h := ⟨_, rfl⟩
  rw [hha, hlb] at h1
  obtain ⟨k1, e_k1⟩ : ∃ k, sgn (ha - lb).num = k := ⟨_, rfl⟩
  have hk1 : decide (k1 < 0) = true := by exact decide_eq_true (by rw [← e_k1]; exact cmp_lt.2 h1)
  clear h1
  replace hla := hide hla
  replace hha := hide hha
  replace hlb := hide hlb
  replace hhb := hide hhb
  replace e_k1 := hide e_k1
  replace hk1 := hide hk1
  obtain ⟨W, hW⟩ : ∃ W, W = ((w.alloc (.cells #[.bool a0.s, .slice a0.A a0.n a0.c, .slice a0.B a0.m a0.d, .bool a1.s, .slice a1.A a1.n a1.c, .slice a1.B a1.m a1.d] 29)).alloc (.cells #[.bool b0.s, .slice b0.A b0.n b0.c, .slice b0.B b0.m b0.d, .bool b1.s, .slice b1.A b1.n b1.c, .slice b1.B b1.m b1.d] 29)) := ⟨_, rfl⟩
  have b_a : Box6 W (w.heap.size) (.bool a0.s) (.slice a0.A a0.n a0.c) (.slice a0.B a0.m a0.d) (.bool a1.s) (.slice a1.A a1.n a1.c) (.slice a1.B a1.m a1.d) := by rw [hW]; exact ((Box6.new w _ _ _ _ _ _ rfl).al _)
  have b_b : Box6 W (w.heap.size + 1) (.bool b0.s) (.slice b0.A b0.n b0.c) (.slice b0.B b0.m b0.d) (.bool b1.s) (.slice b1.A b1.n b1.c) (.slice b1.B b1.m b1.d) := by rw [hW]; exact (Box6.new _ _ _ _ _ _ _ (by simp))
  have hwW : Below w.heap.size w W := by rw [hW]; exact (((Below.refl _ _).alloc (Nat.le_refl _) _).alloc (by simp) _)
  have R_a0 := hide (h_a0.upto hwW hB)
  clear h_a0
  have R_a1 := hide (h_a1.upto hwW hB)
  clear h_a1
  have R_b0 := hide (h_b0.upto hwW hB)
  clear h_b0
  have R_b1 := hide (h_b1.upto hwW hB)
  clear h_b1
  have B := hide hwW
  clear hwW
  clear hB
  have U0 : Below W.heap.size W W := Below.refl _ _
  have c_a0 := b_a.at0 b_a.lt_size (Nat.le_refl _)
  have c_a1 := b_a.at1 b_a.lt_size (Nat.le_refl _)
  have c_a2 := b_a.at2 b_a.lt_size (Nat.le_refl _)
  have c_a3 := b_a.at3 b_a.lt_size (Nat.le_refl _)
  have c_a4 := b_a.at4 b_a.lt_size (Nat.le_refl _)
  have c_a5 := b_a.at5 b_a.lt_size (Nat.le_refl _)
  have f_a0 := b_a.free0 b_a.lt_size (Nat.le_refl _)
  have f_a1 := b_a.free1 b_a.lt_size (Nat.le_refl _)
  have f_a2 := b_a.free2 b_a.lt_size (Nat.le_refl _)
  have f_a3 := b_a.free3 b_a.lt_size (Nat.le_refl _)
  have f_a4 := b_a.free4 b_a.lt_size (Nat.le_refl _)
  have f_a5 := b_a.free5 b_a.lt_size (Nat.le_refl _)
  have l_a := b_a.lt b_a.lt_size (Nat.le_refl _)
  replace b_a := hide b_a
  have c_b0 := b_b.at0 b_b.lt_size (Nat.le_refl _)
  have c_b1 := b_b.at1 b_b.lt_size (Nat.le_refl _)
  have c_b2 := b_b.at2 b_b.lt_size (Nat.le_refl _)
  have c_b3 := b_b.at3 b_b.lt_size (Nat.le_refl _)
  have c_b4 := b_b.at4 b_b.lt_size (Nat.le_refl _)
  have c_b5 := b_b.at5 b_b.lt_size (Nat.le_refl _)
  have f_b0 := b_b.free0 b_b.lt_size (Nat.le_refl _)
  have f_b1 := b_b.free1 b_b.lt_size (Nat.le_refl _)
  have f_b2 := b_b.free2 b_b.lt_size (Nat.le_refl _)
  have f_b3 := b_b.free3 b_b.lt_size (Nat.le_refl _)
  have f_b4 := b_b.free4 b_b.lt_size (Nat.le_refl _)
  have f_b5 := b_b.free5 b_b.lt_size (Nat.le_refl _)
  have l_b := b_b.lt b_b.lt_size (Nat.le_refl _)
  replace b_b := hide b_b
  go_enter Try.func18, Try.ntmps18
  go_wp2_with fail
  rw [← hW]
  clear hW
  refine Code.wp_mono (Q := fun e a' w' => e = .normal ∧ ∃ (x0 x1 y0 y1 : Rc) (v5 v6 v7 v8 : Value), a' = ⟨#[.agg #[.bool a0.s, .slice a0.A a0.n a0.c, .slice a0.B a0.m a0.d, .bool a1.s, .slice a1.A a1.n a1.c, .slice a1.B a1.m a1.d], .agg #[.bool b0.s, .slice b0.A b0.n b0.c, .slice b0.B b0.m b0.d, .bool b1.s, .slice b1.A b1.n b1.c, .slice b1.B b1.m b1.d], (.pointer (some ⟨w.heap.size, 0, none⟩)), (.pointer (some ⟨w.heap.size + 1, 0, none⟩)), (.int .i64 0), v5, v6, v7, v8, undef, undef, undef, undef, undef, undef, undef, undef, undef, undef, undef, undef, undef, undef], []⟩ ∧ Pair w w' L (w.heap.size) (w.heap.size + 1) x0 x1 y0 y1 (la) (ha) (lb) (hb)) ?_ ?_
  rotate_left
  · skip
    have hd := Below.drw_ W
    replace R_a0 := hide (R_a0.out.then_ hd)
    replace R_a1 := hide (R_a1.out.then_ hd)
    replace R_b0 := hide (R_b0.out.then_ hd)
    replace R_b1 := hide (R_b1.out.then_ hd)
    have U1 : Below W.heap.size W (W.drew) := Below.then_ U0 hd
    replace B := hide (Below.then_ B.out hd)
    clear hd
    have tok1 : True := trivial
    go_region_with (first
        | (go_at_call 29; (have _t := tok1; (with_reducible refine (inorder_any gL R_a0.out R_a1.out (Nat.le_refl _) hla.out hha.out).mono ?_); rintro e w1 ⟨x_x0, x_x1, rfl, R_x0, R_x1, hb⟩; replace R_a0 := hide (R_a0.out.then_ hb); replace R_a1 := hide (R_a1.out.then_ hb); replace R_b0 := hide (R_b0.out.then_ hb); replace R_b1 := hide (R_b1.out.then_ hb); have U2 : Below W.heap.size W w1 := Below.then_ U1 hb; replace B := hide (Below.then_ B.out hb); replace R_x0 := hide R_x0; replace R_x1 := hide R_x1; clear hb; have tok2 : True := trivial; clear _t tok1))
        | (go_at_call 29; (have _t := tok2; (with_reducible refine (inorder_any gL R_b0.out R_b1.out (Nat.le_refl _) hlb.out hhb.out).mono ?_); rintro e w2 ⟨x_y0, x_y1, rfl, R_y0, R_y1, hb⟩; replace R_a0 := hide (R_a0.out.then_ hb); replace R_a1 := hide (R_a1.out.then_ hb); replace R_b0 := hide (R_b0.out.then_ hb); replace R_b1 := hide (R_b1.out.then_ hb); replace R_x0 := hide (R_x0.out.then_ hb); replace R_x1 := hide (R_x1.out.then_ hb); have U3 : Below W.heap.size W w2 := Below.then_ U2 hb; replace B := hide (Below.then_ B.out hb); replace R_y0 := hide R_y0; replace R_y1 := hide R_y1; clear hb; have tok3 : True := trivial; clear _t tok2)))
    all_goals (refine ⟨rfl, x_x0, x_x1, x_y0, x_y1, _, _, _, _, rfl, Pair.set B.out (Box6.keep b_a.out U3) (Box6.keep b_b.out U3) R_x0.out R_x1.out R_y0.out R_y1.out (by omega) (by omega) (by omega)⟩)
  rintro e a' w3 ⟨rfl, x0, x1, y0, y1, v5, v6, v7, v8, rfl, hP⟩
  clear R_a0
  clear R_a1
  clear R_b0
  clear R_b1
  clear c_a0 c_a1 c_a2 c_a3 c_a4 c_a5 f_a0 f_a1 f_a2 f_a3 f_a4 f_a5 l_a
  clear b_a
  clear c_b0 c_b1 c_b2 c_b3 c_b4 c_b5 f_b0 f_b1 f_b2 f_b3 f_b4 f_b5 l_b
  clear b_b
  clear B
  obtain ⟨B, b_a, b_b, R_a0, R_a1, R_b0, R_b1⟩ := hP
  replace B := hide B
  replace R_a0 := hide R_a0
  replace R_a1 := hide R_a1
  replace R_b0 := hide R_b0
  replace R_b1 := hide R_b1
  replace b_a := hide b_a
  replace b_b := hide b_b
  have U1 : Below w3.heap.size w3 w3 := Below.refl _ _
  have c_a0 := b_a.out.at0 b_a.out.lt_size (Nat.le_refl _)
  have c_a1 := b_a.out.at1 b_a.out.lt_size (Nat.le_refl _)
  have c_a2 := b_a.out.at2 b_a.out.lt_size (Nat.le_refl _)
  have c_a3 := b_a.out.at3 b_a.out.lt_size (Nat.le_refl _)
  have c_a4 := b_a.out.at4 b_a.out.lt_size (Nat.le_refl _)
  have c_a5 := b_a.out.at5 b_a.out.lt_size (Nat.le_refl _)
  have f_a0 := b_a.out.free0 b_a.out.lt_size (Nat.le_refl _)
  have f_a1 := b_a.out.free1 b_a.out.lt_size (Nat.le_refl _)
  have f_a2 := b_a.out.free2 b_a.out.lt_size (Nat.le_refl _)
  have f_a3 := b_a.out.free3 b_a.out.lt_size (Nat.le_refl _)
  have f_a4 := b_a.out.free4 b_a.out.lt_size (Nat.le_refl _)
  have f_a5 := b_a.out.free5 b_a.out.lt_size (Nat.le_refl _)
  have l_a := b_a.out.lt b_a.out.lt_size (Nat.le_refl _)
  have c_b0 := b_b.out.at0 b_b.out.lt_size (Nat.le_refl _)
  have c_b1 := b_b.out.at1 b_b.out.lt_size (Nat.le_refl _)
  have c_b2 := b_b.out.at2 b_b.out.lt_size (Nat.le_refl _)
  have c_b3 := b_b.out.at3 b_b.out.lt_size (Nat.le_refl _)
  have c_b4 := b_b.out.at4 b_b.out.lt_size (Nat.le_refl _)
  have c_b5 := b_b.out.at5 b_b.out.lt_size (Nat.le_refl _)
  have f_b0 := b_b.out.free0 b_b.out.lt_size (Nat.le_refl _)
  have f_b1 := b_b.out.free1 b_b.out.lt_size (Nat.le_refl _)
  have f_b2 := b_b.out.free2 b_b.out.lt_size (Nat.le_refl _)
  have f_b3 := b_b.out.free3 b_b.out.lt_size (Nat.le_refl _)
  have f_b4 := b_b.out.free4 b_b.out.lt_size (Nat.le_refl _)
  have f_b5 := b_b.out.free5 b_b.out.lt_size (Nat.le_refl _)
  have l_b := b_b.out.lt b_b.out.lt_size (Nat.le_refl _)
  go_wp2_with fail
  replace hk1 := hk1.out
  refine (cmp_q R_a1.out (by omega) R_b0.out (by omega) (Nat.le_refl _) e_k1.out).mono ?_
  rintro e w4 ⟨rfl, hb⟩
  replace R_a0 := hide (R_a0.out.then_ hb)
  replace R_a1 := hide (R_a1.out.then_ hb)
  replace R_b0 := hide (R_b0.out.then_ hb)
  replace R_b1 := hide (R_b1.out.then_ hb)
  have U2 : Below w3.heap.size w3 w4 := Below.then_ U1 hb
  replace B := hide (Below.then_ B.out hb)
  clear hb
  go_wp2
  go_ret
  exact ⟨rfl, B.out⟩

set_option maxHeartbeats 4000000 in
theorem order_gt {w : World} {Bd : Nat} {L : Nat} (gL : L ≤ 100000000) {a0 : Rc} {q_a0 : Rat} {a1 : Rc} {q_a1 : Rat} {b0 : Rc} {q_b0 : Rat} {b1 : Rc} {q_b1 : Rat} (h_a0 : Rq w Bd L a0 q_a0) (h_a1 : Rq w Bd L a1 q_a1) (h_b0 : Rq w Bd L b0 q_b0) (h_b1 : Rq w Bd L b1 q_b1) (hB : Bd ≤ w.heap.size) (h1 : ¬ rhi q_a0 q_a1 < rlo q_b0 q_b1) (h2 : rhi q_b0 q_b1 < rlo q_a0 q_a1) :
    Calls Try.prog 18 #[.agg #[.bool a0.s, .slice a0.A a0.n a0.c, .slice a0.B a0.m a0.d, .bool a1.s, .slice a1.A a1.n a1.c, .slice a1.B a1.m a1.d], .agg #[.bool b0.s, .slice b0.A b0.n b0.c, .slice b0.B b0.m b0.d, .bool b1.s, .slice b1.A b1.n b1.c, .slice b1.B b1.m b1.d]] w (RetB w (.int .i64 (1))) := by
  obtain ⟨la, hla⟩ : ∃ l, rlo q_a0 q_a1 = l := ⟨_, rfl⟩
  obtain ⟨ha, hha⟩ : ∃ h, rhi q_a0 q_a1 = h := ⟨_, rfl⟩
  obtain ⟨lb, hlb⟩ : ∃ l, rlo q_b0 q_b1 = l := ⟨_, rfl⟩
  obtain ⟨hb, hhb⟩ : ∃ h, rhi q_b0 q_b1 = h := ⟨_, rfl⟩
  rw [hha, hlb] at h1
  rw [hla, hhb] at h2
  obtain ⟨k1, e_k1⟩ : ∃ k, sgn (ha - lb).num = k := ⟨_, rfl⟩
  have hk1 : decide (k1 < 0) = false := by refine decide_eq_false ?_; rw [← e_k1, cmp_lt]; exact h1
  clear h1
  obtain ⟨k2, e_k2⟩ : ∃ k, sgn (la - hb).num = k := ⟨_, rfl⟩
  have hk2 : decide (0 < k2) = true := by exact decide_eq_true (by rw [← e_k2]; exact cmp_gt.2 h2)
  clear h2
  replace hla := hide hla
  replace hha := hide hha
  replace hlb := hide hlb
  replace hhb := hide hhb
  replace e_k1 := hide e_k1
  replace hk1 := hide hk1
  replace e_k2 := hide e_k2
  replace hk2 := hide hk2
  obtain ⟨W, hW⟩ : ∃ W, W = ((w.alloc (.cells #[.bool a0.s, .slice a0.A a0.n a0.c, .slice a0.B a0.m a0.d, .bool a1.s, .slice a1.A a1.n a1.c, .slice a1.B a1.m a1.d] 29)).alloc (.cells #[.bool b0.s, .slice b0.A b0.n b0.c, .slice b0.B b0.m b0.d, .bool b1.s, .slice b1.A b1.n b1.c, .slice b1.B b1.m b1.d] 29)) := ⟨_, rfl⟩
  have b_a : Box6 W (w.heap.size) (.bool a0.s) (.slice a0.A a0.n a0.c) (.slice a0.B a0.m a0.d) (.bool a1.s) (.slice a1.A a1.n a1.c) (.slice a1.B a1.m a1.d) := by rw [hW]; exact ((Box6.new w _ _ _ _ _ _ rfl).al _)
  have b_b : Box6 W (w.heap.size + 1) (.bool b0.s) (.slice b0.A b0.n b0.c) (.slice b0.B b0.m b0.d) (.bool b1.s) (.slice b1.A b1.n b1.c) (.slice b1.B b1.m b1.d) := by rw [hW]; exact (Box6.new _ _ _ _ _ _ _ (by simp))
  have hwW : Below w.heap.size w W := by rw [hW]; exact (((Below.refl _ _).alloc (Nat.le_refl _) _).alloc (by simp) _)
  have R_a0 := hide (h_a0.upto hwW hB)
  clear h_a0
  have R_a1 := hide (h_a1.upto hwW hB)
  clear h_a1
  have R_b0 := hide (h_b0.upto hwW hB)
  clear h_b0
  have R_b1 := hide (h_b1.upto hwW hB)
  clear h_b1
  have B := hide hwW
  clear hwW
  clear hB
  have U0 : Below W.heap.size W W := Below.refl _ _
  have c_a0 := b_a.at0 b_a.lt_size (Nat.le_refl _)
  have c_a1 := b_a.at1 b_a.lt_size (Nat.le_refl _)
  have c_a2 := b_a.at2 b_a.lt_size (Nat.le_refl _)
  have c_a3 := b_a.at3 b_a.lt_size (Nat.le_refl _)
  have c_a4 := b_a.at4 b_a.lt_size (Nat.le_refl _)
  have c_a5 := b_a.at5 b_a.lt_size (Nat.le_refl _)
  have f_a0 := b_a.free0 b_a.lt_size (Nat.le_refl _)
  have f_a1 := b_a.free1 b_a.lt_size (Nat.le_refl _)
  have f_a2 := b_a.free2 b_a.lt_size (Nat.le_refl _)
  have f_a3 := b_a.free3 b_a.lt_size (Nat.le_refl _)
  have f_a4 := b_a.free4 b_a.lt_size (Nat.le_refl _)
  have f_a5 := b_a.free5 b_a.lt_size (Nat.le_refl _)
  have l_a := b_a.lt b_a.lt_size (Nat.le_refl _)
  replace b_a := hide b_a
  have c_b0 := b_b.at0 b_b.lt_size (Nat.le_refl _)
  have c_b1 := b_b.at1 b_b.lt_size (Nat.le_refl _)
  have c_b2 := b_b.at2 b_b.lt_size (Nat.le_refl _)
  have c_b3 := b_b.at3 b_b.lt_size (Nat.le_refl _)
  have c_b4 := b_b.at4 b_b.lt_size (Nat.le_refl _)
  have c_b5 := b_b.at5 b_b.lt_size (Nat.le_refl _)
  have f_b0 := b_b.free0 b_b.lt_size (Nat.le_refl _)
  have f_b1 := b_b.free1 b_b.lt_size (Nat.le_refl _)
  have f_b2 := b_b.free2 b_b.lt_size (Nat.le_refl _)
  have f_b3 := b_b.free3 b_b.lt_size (Nat.le_refl _)
  have f_b4 := b_b.free4 b_b.lt_size (Nat.le_refl _)
  have f_b5 := b_b.free5 b_b.lt_size (Nat.le_refl _)
  have l_b := b_b.lt b_b.lt_size (Nat.le_refl _)
  replace b_b := hide b_b
  go_enter Try.func18, Try.ntmps18
  go_wp2_with fail
  rw [← hW]
  clear hW
  refine Code.wp_mono (Q := fun e a' w' => e = .normal ∧ ∃ (x0 x1 y0 y1 : Rc) (v5 v6 v7 v8 : Value), a' = ⟨#[.agg #[.bool a0.s, .slice a0.A a0.n a0.c, .slice a0.B a0.m a0.d, .bool a1.s, .slice a1.A a1.n a1.c, .slice a1.B a1.m a1.d], .agg #[.bool b0.s, .slice b0.A b0.n b0.c, .slice b0.B b0.m b0.d, .bool b1.s, .slice b1.A b1.n b1.c, .slice b1.B b1.m b1.d], (.pointer (some ⟨w.heap.size, 0, none⟩)), (.pointer (some ⟨w.heap.size + 1, 0, none⟩)), (.int .i64 0), v5, v6, v7, v8, undef, undef, undef, undef, undef, undef, undef, undef, undef, undef, undef, undef, undef, undef], []⟩ ∧ Pair w w' L (w.heap.size) (w.heap.size + 1) x0 x1 y0 y1 (la) (ha) (lb) (hb)) ?_ ?_
  rotate_left
  · skip
    have hd := Below.drw_ W
    replace R_a0 := hide (R_a0.out.then_ hd)
    replace R_a1 := hide (R_a1.out.then_ hd)
    replace R_b0 := hide (R_b0.out.then_ hd)
    replace R_b1 := hide (R_b1.out.then_ hd)
    have U1 : Below W.heap.size W (W.drew) := Below.then_ U0 hd
    replace B := hide (Below.then_ B.out hd)
    clear hd
    have tok1 : True := trivial
    go_region_with (first
        | (go_at_call 29; (have _t := tok1; (with_reducible refine (inorder_any gL R_a0.out R_a1.out (Nat.le_refl _) hla.out hha.out).mono ?_); rintro e w1 ⟨x_x0, x_x1, rfl, R_x0, R_x1, hb⟩; replace R_a0 := hide (R_a0.out.then_ hb); replace R_a1 := hide (R_a1.out.then_ hb); replace R_b0 := hide (R_b0.out.then_ hb); replace R_b1 := hide (R_b1.out.then_ hb); have U2 : Below W.heap.size W w1 := Below.then_ U1 hb; replace B := hide (Below.then_ B.out hb); replace R_x0 := hide R_x0; replace R_x1 := hide R_x1; clear hb; have tok2 : True := trivial; clear _t tok1))
        | (go_at_call 29; (have _t := tok2; (with_reducible refine (inorder_any gL R_b0.out R_b1.out (Nat.le_refl _) hlb.out hhb.out).mono ?_); rintro e w2 ⟨x_y0, x_y1, rfl, R_y0, R_y1, hb⟩; replace R_a0 := hide (R_a0.out.then_ hb); replace R_a1 := hide (R_a1.out.then_ hb); replace R_b0 := hide (R_b0.out.then_ hb); replace R_b1 := hide (R_b1.out.then_ hb); replace R_x0 := hide (R_x0.out.then_ hb); replace R_x1 := hide (R_x1.out.then_ hb); have U3 : Below W.heap.size W w2 := Below.then_ U2 hb; replace B := hide (Below.then_ B.out hb); replace R_y0 := hide R_y0; replace R_y1 := hide R_y1; clear hb; have tok3 : True := trivial; clear _t tok2)))
    all_goals (refine ⟨rfl, x_x0, x_x1, x_y0, x_y1, _, _, _, _, rfl, Pair.set B.out (Box6.keep b_a.out U3) (Box6.keep b_b.out U3) R_x0.out R_x1.out R_y0.out R_y1.out (by omega) (by omega) (by omega)⟩)
  rintro e a' w3 ⟨rfl, x0, x1, y0, y1, v5, v6, v7, v8, rfl, hP⟩
  clear R_a0
  clear R_a1
  clear R_b0
  clear R_b1
  clear c_a0 c_a1 c_a2 c_a3 c_a4 c_a5 f_a0 f_a1 f_a2 f_a3 f_a4 f_a5 l_a
  clear b_a
  clear c_b0 c_b1 c_b2 c_b3 c_b4 c_b5 f_b0 f_b1 f_b2 f_b3 f_b4 f_b5 l_b
  clear b_b
  clear B
  obtain ⟨B, b_a, b_b, R_a0, R_a1, R_b0, R_b1⟩ := hP
  replace B := hide B
  replace R_a0 := hide R_a0
  replace R_a1 := hide R_a1
  replace R_b0 := hide R_b0
  replace R_b1 := hide R_b1
  replace b_a := hide b_a
  replace b_b := hide b_b
  have U1 : Below w3.heap.size w3 w3 := Below.refl _ _
  have c_a0 := b_a.out.at0 b_a.out.lt_size (Nat.le_refl _)
  have c_a1 := b_a.out.at1 b_a.out.lt_size (Nat.le_refl _)
  have c_a2 := b_a.out.at2 b_a.out.lt_size (Nat.le_refl _)
  have c_a3 := b_a.out.at3 b_a.out.lt_size (Nat.le_refl _)
  have c_a4 := b_a.out.at4 b_a.out.lt_size (Nat.le_refl _)
  have c_a5 := b_a.out.at5 b_a.out.lt_size (Nat.le_refl _)
  have f_a0 := b_a.out.free0 b_a.out.lt_size (Nat.le_refl _)
  have f_a1 := b_a.out.free1 b_a.out.lt_size (Nat.le_refl _)
  have f_a2 := b_a.out.free2 b_a.out.lt_size (Nat.le_refl _)
  have f_a3 := b_a.out.free3 b_a.out.lt_size (Nat.le_refl _)
  have f_a4 := b_a.out.free4 b_a.out.lt_size (Nat.le_refl _)
  have f_a5 := b_a.out.free5 b_a.out.lt_size (Nat.le_refl _)
  have l_a := b_a.out.lt b_a.out.lt_size (Nat.le_refl _)
  have c_b0 := b_b.out.at0 b_b.out.lt_size (Nat.le_refl _)
  have c_b1 := b_b.out.at1 b_b.out.lt_size (Nat.le_refl _)
  have c_b2 := b_b.out.at2 b_b.out.lt_size (Nat.le_refl _)
  have c_b3 := b_b.out.at3 b_b.out.lt_size (Nat.le_refl _)
  have c_b4 := b_b.out.at4 b_b.out.lt_size (Nat.le_refl _)
  have c_b5 := b_b.out.at5 b_b.out.lt_size (Nat.le_refl _)
  have f_b0 := b_b.out.free0 b_b.out.lt_size (Nat.le_refl _)
  have f_b1 := b_b.out.free1 b_b.out.lt_size (Nat.le_refl _)
  have f_b2 := b_b.out.free2 b_b.out.lt_size (Nat.le_refl _)
  have f_b3 := b_b.out.free3 b_b.out.lt_size (Nat.le_refl _)
  have f_b4 := b_b.out.free4 b_b.out.lt_size (Nat.le_refl _)
  have f_b5 := b_b.out.free5 b_b.out.lt_size (Nat.le_refl _)
  have l_b := b_b.out.lt b_b.out.lt_size (Nat.le_refl _)
  go_wp2_with fail
  replace hk1 := hk1.out
  replace hk2 := hk2.out
  refine (cmp_q R_a1.out (by omega) R_b0.out (by omega) (Nat.le_refl _) e_k1.out).mono ?_
  rintro e w4 ⟨rfl, hb⟩
  replace R_a0 := hide (R_a0.out.then_ hb)
  replace R_a1 := hide (R_a1.out.then_ hb)
  replace R_b0 := hide (R_b0.out.then_ hb)
  replace R_b1 := hide (R_b1.out.then_ hb)
  have U2 : Below w3.heap.size w3 w4 := Below.then_ U1 hb
  replace B := hide (Below.then_ B.out hb)
  clear hb
  go_wp2_with fail
  refine (cmp_q R_a0.out (by omega) R_b1.out (by omega) (Nat.le_refl _) e_k2.out).mono ?_
  rintro e w5 ⟨rfl, hb⟩
  replace R_a0 := hide (R_a0.out.then_ hb)
  replace R_a1 := hide (R_a1.out.then_ hb)
  replace R_b0 := hide (R_b0.out.then_ hb)
  replace R_b1 := hide (R_b1.out.then_ hb)
  have U3 : Below w3.heap.size w3 w5 := Below.then_ U2 hb
  replace B := hide (Below.then_ B.out hb)
  clear hb
  go_wp2
  go_ret
  exact ⟨rfl, B.out⟩

set_option maxHeartbeats 4000000 in
theorem order_eq {w : World} {Bd : Nat} {L : Nat} (gL : L ≤ 100000000) {a0 : Rc} {q_a0 : Rat} {a1 : Rc} {q_a1 : Rat} {b0 : Rc} {q_b0 : Rat} {b1 : Rc} {q_b1 : Rat} (h_a0 : Rq w Bd L a0 q_a0) (h_a1 : Rq w Bd L a1 q_a1) (h_b0 : Rq w Bd L b0 q_b0) (h_b1 : Rq w Bd L b1 q_b1) (hB : Bd ≤ w.heap.size) (h1 : ¬ rhi q_a0 q_a1 < rlo q_b0 q_b1) (h2 : ¬ rhi q_b0 q_b1 < rlo q_a0 q_a1) :
    Calls Try.prog 18 #[.agg #[.bool a0.s, .slice a0.A a0.n a0.c, .slice a0.B a0.m a0.d, .bool a1.s, .slice a1.A a1.n a1.c, .slice a1.B a1.m a1.d], .agg #[.bool b0.s, .slice b0.A b0.n b0.c, .slice b0.B b0.m b0.d, .bool b1.s, .slice b1.A b1.n b1.c, .slice b1.B b1.m b1.d]] w (RetB w (.int .i64 (0))) := by
  obtain ⟨la, hla⟩ : ∃ l, rlo q_a0 q_a1 = l := ⟨_, rfl⟩
  obtain ⟨ha, hha⟩ : ∃ h, rhi q_a0 q_a1 = h := ⟨_, rfl⟩
  obtain ⟨lb, hlb⟩ : ∃ l, rlo q_b0 q_b1 = l := ⟨_, rfl⟩
  obtain ⟨hb, hhb⟩ : ∃ h, rhi q_b0 q_b1 = h := ⟨_, rfl⟩
  rw [hha, hlb] at h1
  rw [hla, hhb] at h2
  obtain ⟨k1, e_k1⟩ : ∃ k, sgn (ha - lb).num = k := ⟨_, rfl⟩
  have hk1 : decide (k1 < 0) = false := by refine decide_eq_false ?_; rw [← e_k1, cmp_lt]; exact h1
  clear h1
  obtain ⟨k2, e_k2⟩ : ∃ k, sgn (la - hb).num = k := ⟨_, rfl⟩
  have hk2 : decide (0 < k2) = false := by refine decide_eq_false ?_; rw [← e_k2, cmp_gt]; exact h2
  clear h2
  replace hla := hide hla
  replace hha := hide hha
  replace hlb := hide hlb
  replace hhb := hide hhb
  replace e_k1 := hide e_k1
  replace hk1 := hide hk1
  replace e_k2 := hide e_k2
  replace hk2 := hide hk2
  obtain ⟨W, hW⟩ : ∃ W, W = ((w.alloc (.cells #[.bool a0.s, .slice a0.A a0.n a0.c, .slice a0.B a0.m a0.d, .bool a1.s, .slice a1.A a1.n a1.c, .slice a1.B a1.m a1.d] 29)).alloc (.cells #[.bool b0.s, .slice b0.A b0.n b0.c, .slice b0.B b0.m b0.d, .bool b1.s, .slice b1.A b1.n b1.c, .slice b1.B b1.m b1.d] 29)) := ⟨_, rfl⟩
  have b_a : Box6 W (w.heap.size) (.bool a0.s) (.slice a0.A a0.n a0.c) (.slice a0.B a0.m a0.d) (.bool a1.s) (.slice a1.A a1.n a1.c) (.slice a1.B a1.m a1.d) := by rw [hW]; exact ((Box6.new w _ _ _ _ _ _ rfl).al _)
  have b_b : Box6 W (w.heap.size + 1) (.bool b0.s) (.slice b0.A b0.n b0.c) (.slice b0.B b0.m b0.d) (.bool b1.s) (.slice b1.A b1.n b1.c) (.slice b1.B b1.m b1.d) := by rw [hW]; exact (Box6.new _ _ _ _ _ _ _ (by simp))
  have hwW : Below w.heap.size w W := by rw [hW]; exact (((Below.refl _ _).alloc (Nat.le_refl _) _).alloc (by simp) _)
  have R_a0 := hide (h_a0.upto hwW hB)
  clear h_a0
  have R_a1 := hide (h_a1.upto hwW hB)
  clear h_a1
  have R_b0 := hide (h_b0.upto hwW hB)
  clear h_b0
  have R_b1 := hide (h_b1.upto hwW hB)
  clear h_b1
  have B := hide hwW
  clear hwW
  clear hB
  have U0 : Below W.heap.size W W := Below.refl _ _
  have c_a0 := b_a.at0 b_a.lt_size (Nat.le_refl _)
  have c_a1 := b_a.at1 b_a.lt_size (Nat.le_refl _)
  have c_a2 := b_a.at2 b_a.lt_size (Nat.le_refl _)
  have c_a3 := b_a.at3 b_a.lt_size (Nat.le_refl _)
  have c_a4 := b_a.at4 b_a.lt_size (Nat.le_refl _)
  have c_a5 := b_a.at5 b_a.lt_size (Nat.le_refl _)
  have f_a0 := b_a.free0 b_a.lt_size (Nat.le_refl _)
  have f_a1 := b_a.free1 b_a.lt_size (Nat.le_refl _)
  have f_a2 := b_a.free2 b_a.lt_size (Nat.le_refl _)
  have f_a3 := b_a.free3 b_a.lt_size (Nat.le_refl _)
  have f_a4 := b_a.free4 b_a.lt_size (Nat.le_refl _)
  have f_a5 := b_a.free5 b_a.lt_size (Nat.le_refl _)
  have l_a := b_a.lt b_a.lt_size (Nat.le_refl _)
  replace b_a := hide b_a
  have c_b0 := b_b.at0 b_b.lt_size (Nat.le_refl _)
  have c_b1 := b_b.at1 b_b.lt_size (Nat.le_refl _)
  have c_b2 := b_b.at2 b_b.lt_size (Nat.le_refl _)
  have c_b3 := b_b.at3 b_b.lt_size (Nat.le_refl _)
  have c_b4 := b_b.at4 b_b.lt_size (Nat.le_refl _)
  have c_b5 := b_b.at5 b_b.lt_size (Nat.le_refl _)
  have f_b0 := b_b.free0 b_b.lt_size (Nat.le_refl _)
  have f_b1 := b_b.free1 b_b.lt_size (Nat.le_refl _)
  have f_b2 := b_b.free2 b_b.lt_size (Nat.le_refl _)
  have f_b3 := b_b.free3 b_b.lt_size (Nat.le_refl _)
  have f_b4 := b_b.free4 b_b.lt_size (Nat.le_refl _)
  have f_b5 := b_b.free5 b_b.lt_size (Nat.le_refl _)
  have l_b := b_b.lt b_b.lt_size (Nat.le_refl _)
  replace b_b := hide b_b
  go_enter Try.func18, Try.ntmps18
  go_wp2_with fail
  rw [← hW]
  clear hW
  refine Code.wp_mono (Q := fun e a' w' => e = .normal ∧ ∃ (x0 x1 y0 y1 : Rc) (v5 v6 v7 v8 : Value), a' = ⟨#[.agg #[.bool a0.s, .slice a0.A a0.n a0.c, .slice a0.B a0.m a0.d, .bool a1.s, .slice a1.A a1.n a1.c, .slice a1.B a1.m a1.d], .agg #[.bool b0.s, .slice b0.A b0.n b0.c, .slice b0.B b0.m b0.d, .bool b1.s, .slice b1.A b1.n b1.c, .slice b1.B b1.m b1.d], (.pointer (some ⟨w.heap.size, 0, none⟩)), (.pointer (some ⟨w.heap.size + 1, 0, none⟩)), (.int .i64 0), v5, v6, v7, v8, undef, undef, undef, undef, undef, undef, undef, undef, undef, undef, undef, undef, undef, undef], []⟩ ∧ Pair w w' L (w.heap.size) (w.heap.size + 1) x0 x1 y0 y1 (la) (ha) (lb) (hb)) ?_ ?_
  rotate_left
  · skip
    have hd := Below.drw_ W
    replace R_a0 := hide (R_a0.out.then_ hd)
    replace R_a1 := hide (R_a1.out.then_ hd)
    replace R_b0 := hide (R_b0.out.then_ hd)
    replace R_b1 := hide (R_b1.out.then_ hd)
    have U1 : Below W.heap.size W (W.drew) := Below.then_ U0 hd
    replace B := hide (Below.then_ B.out hd)
    clear hd
    have tok1 : True := trivial
    go_region_with (first
        | (go_at_call 29; (have _t := tok1; (with_reducible refine (inorder_any gL R_a0.out R_a1.out (Nat.le_refl _) hla.out hha.out).mono ?_); rintro e w1 ⟨x_x0, x_x1, rfl, R_x0, R_x1, hb⟩; replace R_a0 := hide (R_a0.out.then_ hb); replace R_a1 := hide (R_a1.out.then_ hb); replace R_b0 := hide (R_b0.out.then_ hb); replace R_b1 := hide (R_b1.out.then_ hb); have U2 : Below W.heap.size W w1 := Below.then_ U1 hb; replace B := hide (Below.then_ B.out hb); replace R_x0 := hide R_x0; replace R_x1 := hide R_x1; clear hb; have tok2 : True := trivial; clear _t tok1))
        | (go_at_call 29; (have _t := tok2; (with_reducible refine (inorder_any gL R_b0.out R_b1.out (Nat.le_refl _) hlb.out hhb.out).mono ?_); rintro e w2 ⟨x_y0, x_y1, rfl, R_y0, R_y1, hb⟩; replace R_a0 := hide (R_a0.out.then_ hb); replace R_a1 := hide (R_a1.out.then_ hb); replace R_b0 := hide (R_b0.out.then_ hb); replace R_b1 := hide (R_b1.out.then_ hb); replace R_x0 := hide (R_x0.out.then_ hb); replace R_x1 := hide (R_x1.out.then_ hb); have U3 : Below W.heap.size W w2 := Below.then_ U2 hb; replace B := hide (Below.then_ B.out hb); replace R_y0 := hide R_y0; replace R_y1 := hide R_y1; clear hb; have tok3 : True := trivial; clear _t tok2)))
    all_goals (refine ⟨rfl, x_x0, x_x1, x_y0, x_y1, _, _, _, _, rfl, Pair.set B.out (Box6.keep b_a.out U3) (Box6.keep b_b.out U3) R_x0.out R_x1.out R_y0.out R_y1.out (by omega) (by omega) (by omega)⟩)
  rintro e a' w3 ⟨rfl, x0, x1, y0, y1, v5, v6, v7, v8, rfl, hP⟩
  clear R_a0
  clear R_a1
  clear R_b0
  clear R_b1
  clear c_a0 c_a1 c_a2 c_a3 c_a4 c_a5 f_a0 f_a1 f_a2 f_a3 f_a4 f_a5 l_a
  clear b_a
  clear c_b0 c_b1 c_b2 c_b3 c_b4 c_b5 f_b0 f_b1 f_b2 f_b3 f_b4 f_b5 l_b
  clear b_b
  clear B
  obtain ⟨B, b_a, b_b, R_a0, R_a1, R_b0, R_b1⟩ := hP
  replace B := hide B
  replace R_a0 := hide R_a0
  replace R_a1 := hide R_a1
  replace R_b0 := hide R_b0
  replace R_b1 := hide R_b1
  replace b_a := hide b_a
  replace b_b := hide b_b
  have U1 : Below w3.heap.size w3 w3 := Below.refl _ _
  have c_a0 := b_a.out.at0 b_a.out.lt_size (Nat.le_refl _)
  have c_a1 := b_a.out.at1 b_a.out.lt_size (Nat.le_refl _)
  have c_a2 := b_a.out.at2 b_a.out.lt_size (Nat.le_refl _)
  have c_a3 := b_a.out.at3 b_a.out.lt_size (Nat.le_refl _)
  have c_a4 := b_a.out.at4 b_a.out.lt_size (Nat.le_refl _)
  have c_a5 := b_a.out.at5 b_a.out.lt_size (Nat.le_refl _)
  have f_a0 := b_a.out.free0 b_a.out.lt_size (Nat.le_refl _)
  have f_a1 := b_a.out.free1 b_a.out.lt_size (Nat.le_refl _)
  have f_a2 := b_a.out.free2 b_a.out.lt_size (Nat.le_refl _)
  have f_a3 := b_a.out.free3 b_a.out.lt_size (Nat.le_refl _)
  have f_a4 := b_a.out.free4 b_a.out.lt_size (Nat.le_refl _)
  have f_a5 := b_a.out.free5 b_a.out.lt_size (Nat.le_refl _)
  have l_a := b_a.out.lt b_a.out.lt_size (Nat.le_refl _)
  have c_b0 := b_b.out.at0 b_b.out.lt_size (Nat.le_refl _)
  have c_b1 := b_b.out.at1 b_b.out.lt_size (Nat.le_refl _)
  have c_b2 := b_b.out.at2 b_b.out.lt_size (Nat.le_refl _)
  have c_b3 := b_b.out.at3 b_b.out.lt_size (Nat.le_refl _)
  have c_b4 := b_b.out.at4 b_b.out.lt_size (Nat.le_refl _)
  have c_b5 := b_b.out.at5 b_b.out.lt_size (Nat.le_refl _)
  have f_b0 := b_b.out.free0 b_b.out.lt_size (Nat.le_refl _)
  have f_b1 := b_b.out.free1 b_b.out.lt_size (Nat.le_refl _)
  have f_b2 := b_b.out.free2 b_b.out.lt_size (Nat.le_refl _)
  have f_b3 := b_b.out.free3 b_b.out.lt_size (Nat.le_refl _)
  have f_b4 := b_b.out.free4 b_b.out.lt_size (Nat.le_refl _)
  have f_b5 := b_b.out.free5 b_b.out.lt_size (Nat.le_refl _)
  have l_b := b_b.out.lt b_b.out.lt_size (Nat.le_refl _)
  go_wp2_with fail
  replace hk1 := hk1.out
  replace hk2 := hk2.out
  refine (cmp_q R_a1.out (by omega) R_b0.out (by omega) (Nat.le_refl _) e_k1.out).mono ?_
  rintro e w4 ⟨rfl, hb⟩
  replace R_a0 := hide (R_a0.out.then_ hb)
  replace R_a1 := hide (R_a1.out.then_ hb)
  replace R_b0 := hide (R_b0.out.then_ hb)
  replace R_b1 := hide (R_b1.out.then_ hb)
  have U2 : Below w3.heap.size w3 w4 := Below.then_ U1 hb
  replace B := hide (Below.then_ B.out hb)
  clear hb
  go_wp2_with fail
  refine (cmp_q R_a0.out (by omega) R_b1.out (by omega) (Nat.le_refl _) e_k2.out).mono ?_
  rintro e w5 ⟨rfl, hb⟩
  replace R_a0 := hide (R_a0.out.then_ hb)
  replace R_a1 := hide (R_a1.out.then_ hb)
  replace R_b0 := hide (R_b0.out.then_ hb)
  replace R_b1 := hide (R_b1.out.then_ hb)
  have U3 : Below w3.heap.size w3 w5 := Below.then_ U2 hb
  replace B := hide (Below.then_ B.out hb)
  clear hb
  go_wp2
  go_ret
  exact ⟨rfl, B.out⟩

/-- the order of two intervals -/
def rord (p q p' q' : Rat) : Int := if rhi p q < rlo p' q' then -1 else if rhi p' q' < rlo p q then 1 else 0
theorem order_any {w : World} {Bd : Nat} {L : Nat} (gL : L ≤ 100000000) {a0 a1 b0 b1 : Rc} {q_a0 q_a1 q_b0 q_b1 : Rat} (h_a0 : Rq w Bd L a0 q_a0) (h_a1 : Rq w Bd L a1 q_a1) (h_b0 : Rq w Bd L b0 q_b0) (h_b1 : Rq w Bd L b1 q_b1) (hB : Bd ≤ w.heap.size) {k : Int} (hk : rord q_a0 q_a1 q_b0 q_b1 = k) :
    Calls Try.prog 18 #[.agg #[.bool a0.s, .slice a0.A a0.n a0.c, .slice a0.B a0.m a0.d, .bool a1.s, .slice a1.A a1.n a1.c, .slice a1.B a1.m a1.d], .agg #[.bool b0.s, .slice b0.A b0.n b0.c, .slice b0.B b0.m b0.d, .bool b1.s, .slice b1.A b1.n b1.c, .slice b1.B b1.m b1.d]] w (RetB w (.int .i64 k)) := by
  unfold rord at hk
  by_cases h1 : rhi q_a0 q_a1 < rlo q_b0 q_b1
  · rw [if_pos h1] at hk; subst hk; exact order_lt gL h_a0 h_a1 h_b0 h_b1 hB h1
  · rw [if_neg h1] at hk
    by_cases h2 : rhi q_b0 q_b1 < rlo q_a0 q_a1
    · rw [if_pos h2] at hk; subst hk; exact order_gt gL h_a0 h_a1 h_b0 h_b1 hB h1 h2
    · rw [if_neg h2] at hk; subst hk; exact order_eq gL h_a0 h_a1 h_b0 h_b1 hB h1 h2

set_option maxHeartbeats 4000000 in
theorem meet_no {w : World} {Bd : Nat} {L : Nat} (gL : L ≤ 100000000) {a0 : Rc} {q_a0 : Rat} {a1 : Rc} {q_a1 : Rat} {b0 : Rc} {q_b0 : Rat} {b1 : Rc} {q_b1 : Rat} (h_a0 : Rq w Bd L a0 q_a0) (h_a1 : Rq w Bd L a1 q_a1) (h_b0 : Rq w Bd L b0 q_b0) (h_b1 : Rq w Bd L b1 q_b1) (hB : Bd ≤ w.heap.size) {k : Int} (hk : rord q_a0 q_a1 q_b0 q_b1 = k) (h0 : k ≠ 0) :
    Calls Try.prog 17 #[.agg #[.bool a0.s, .slice a0.A a0.n a0.c, .slice a0.B a0.m a0.d, .bool a1.s, .slice a1.A a1.n a1.c, .slice a1.B a1.m a1.d], .agg #[.bool b0.s, .slice b0.A b0.n b0.c, .slice b0.B b0.m b0.d, .bool b1.s, .slice b1.A b1.n b1.c, .slice b1.B b1.m b1.d]] w (RetSRB w) := by
  have hn : (k != 0) = true := by simpa using h0
  clear h0
  replace hk := hide hk
  replace hn := hide hn
  obtain ⟨W, hW⟩ : ∃ W, W = (((w.alloc (.cells #[.bool a0.s, .slice a0.A a0.n a0.c, .slice a0.B a0.m a0.d, .bool a1.s, .slice a1.A a1.n a1.c, .slice a1.B a1.m a1.d] 29)).alloc (.cells #[.bool b0.s, .slice b0.A b0.n b0.c, .slice b0.B b0.m b0.d, .bool b1.s, .slice b1.A b1.n b1.c, .slice b1.B b1.m b1.d] 29)).alloc (.cells #[.bool false, .slice none 0 0, .slice none 0 0, .bool false, .slice none 0 0, .slice none 0 0] 29)) := ⟨_, rfl⟩
  have b_a : Box6 W (w.heap.size) (.bool a0.s) (.slice a0.A a0.n a0.c) (.slice a0.B a0.m a0.d) (.bool a1.s) (.slice a1.A a1.n a1.c) (.slice a1.B a1.m a1.d) := by rw [hW]; exact (((Box6.new w _ _ _ _ _ _ rfl).al _).al _)
  have b_b : Box6 W (w.heap.size + 1) (.bool b0.s) (.slice b0.A b0.n b0.c) (.slice b0.B b0.m b0.d) (.bool b1.s) (.slice b1.A b1.n b1.c) (.slice b1.B b1.m b1.d) := by rw [hW]; exact ((Box6.new _ _ _ _ _ _ _ (by simp)).al _)
  have b_r0 : Box6 W (w.heap.size + 1 + 1) (.bool false) (.slice none 0 0) (.slice none 0 0) (.bool false) (.slice none 0 0) (.slice none 0 0) := by rw [hW]; exact (Box6.new _ _ _ _ _ _ _ (by simp))
  have hwW : Below w.heap.size w W := by rw [hW]; exact ((((Below.refl _ _).alloc (Nat.le_refl _) _).alloc (by simp) _).alloc (by simp; omega) _)
  have R_a0 := hide (h_a0.upto hwW hB)
  clear h_a0
  have R_a1 := hide (h_a1.upto hwW hB)
  clear h_a1
  have R_b0 := hide (h_b0.upto hwW hB)
  clear h_b0
  have R_b1 := hide (h_b1.upto hwW hB)
  clear h_b1
  have B := hide hwW
  clear hwW
  clear hB
  have U0 : Below W.heap.size W W := Below.refl _ _
  have c_a0 := b_a.at0 b_a.lt_size (Nat.le_refl _)
  have c_a1 := b_a.at1 b_a.lt_size (Nat.le_refl _)
  have c_a2 := b_a.at2 b_a.lt_size (Nat.le_refl _)
  have c_a3 := b_a.at3 b_a.lt_size (Nat.le_refl _)
  have c_a4 := b_a.at4 b_a.lt_size (Nat.le_refl _)
  have c_a5 := b_a.at5 b_a.lt_size (Nat.le_refl _)
  replace b_a := hide b_a
  have c_b0 := b_b.at0 b_b.lt_size (Nat.le_refl _)
  have c_b1 := b_b.at1 b_b.lt_size (Nat.le_refl _)
  have c_b2 := b_b.at2 b_b.lt_size (Nat.le_refl _)
  have c_b3 := b_b.at3 b_b.lt_size (Nat.le_refl _)
  have c_b4 := b_b.at4 b_b.lt_size (Nat.le_refl _)
  have c_b5 := b_b.at5 b_b.lt_size (Nat.le_refl _)
  replace b_b := hide b_b
  have c_r00 := b_r0.at0 b_r0.lt_size (Nat.le_refl _)
  have c_r01 := b_r0.at1 b_r0.lt_size (Nat.le_refl _)
  have c_r02 := b_r0.at2 b_r0.lt_size (Nat.le_refl _)
  have c_r03 := b_r0.at3 b_r0.lt_size (Nat.le_refl _)
  have c_r04 := b_r0.at4 b_r0.lt_size (Nat.le_refl _)
  have c_r05 := b_r0.at5 b_r0.lt_size (Nat.le_refl _)
  have f_r00 := b_r0.free0 b_r0.lt_size (Nat.le_refl _)
  have f_r01 := b_r0.free1 b_r0.lt_size (Nat.le_refl _)
  have f_r02 := b_r0.free2 b_r0.lt_size (Nat.le_refl _)
  have f_r03 := b_r0.free3 b_r0.lt_size (Nat.le_refl _)
  have f_r04 := b_r0.free4 b_r0.lt_size (Nat.le_refl _)
  have f_r05 := b_r0.free5 b_r0.lt_size (Nat.le_refl _)
  have l_r0 := b_r0.lt b_r0.lt_size (Nat.le_refl _)
  replace b_r0 := hide b_r0
  go_enter Try.func17, Try.ntmps17
  go_wp2_with fail
  rw [← hW]
  clear hW
  refine (order_any gL R_a0.out R_a1.out R_b0.out R_b1.out (Nat.le_refl _) hk.out).mono ?_
  rintro e w1 ⟨rfl, hb⟩
  replace R_a0 := hide (R_a0.out.then_ hb)
  replace R_a1 := hide (R_a1.out.then_ hb)
  replace R_b0 := hide (R_b0.out.then_ hb)
  replace R_b1 := hide (R_b1.out.then_ hb)
  have U1 : Below W.heap.size W w1 := Below.then_ U0 hb
  replace B := hide (Below.then_ B.out hb)
  clear hb
  replace hn := hn.out
  go_wp2
  exact bodyPost_ret (v := .tuple #[.agg #[.bool false, .slice none 0 0, .slice none 0 0, .bool false, .slice none 0 0, .slice none 0 0], .bool false]) (by simp [results, Try.results17, go_sem, c_r00 _ U1, c_r01 _ U1, c_r02 _ U1, c_r03 _ U1, c_r04 _ U1, c_r05 _ U1]) rfl ⟨rfl, (((((B.out.setCell (by simp; omega) _).setCell (by simp; omega) _).setCell (by simp; omega) _).setCell (by simp; omega) _).setCell (by simp; omega) _).setCell (by simp; omega) _⟩

set_option maxHeartbeats 4000000 in
theorem meet_yes {w : World} {Bd : Nat} {L : Nat} (gL : L ≤ 100000000) {a0 : Rc} {q_a0 : Rat} {a1 : Rc} {q_a1 : Rat} {b0 : Rc} {q_b0 : Rat} {b1 : Rc} {q_b1 : Rat} (h_a0 : Rq w Bd L a0 q_a0) (h_a1 : Rq w Bd L a1 q_a1) (h_b0 : Rq w Bd L b0 q_b0) (h_b1 : Rq w Bd L b1 q_b1) (hB : Bd ≤ w.heap.size) (hk : rord q_a0 q_a1 q_b0 q_b1 = 0) {l h : Rat} (hl : rhi (rlo q_a0 q_a1) (rlo q_b0 q_b1) = l) (hh : rlo (rhi q_a0 q_a1) (rhi q_b0 q_b1) = h) :
    Calls Try.prog 17 #[.agg #[.bool a0.s, .slice a0.A a0.n a0.c, .slice a0.B a0.m a0.d, .bool a1.s, .slice a1.A a1.n a1.c, .slice a1.B a1.m a1.d], .agg #[.bool b0.s, .slice b0.A b0.n b0.c, .slice b0.B b0.m b0.d, .bool b1.s, .slice b1.A b1.n b1.c, .slice b1.B b1.m b1.d]] w (RetSNB w (L + 1) l h) := by
  obtain ⟨la, hla⟩ : ∃ l, rlo q_a0 q_a1 = l := ⟨_, rfl⟩
  obtain ⟨ha, hha⟩ : ∃ h, rhi q_a0 q_a1 = h := ⟨_, rfl⟩
  obtain ⟨lb, hlb⟩ : ∃ l, rlo q_b0 q_b1 = l := ⟨_, rfl⟩
  obtain ⟨hb, hhb⟩ : ∃ h, rhi q_b0 q_b1 = h := ⟨_, rfl⟩
  rw [hla, hlb] at hl
  rw [hha, hhb] at hh
  replace hk := hide hk
  replace hl := hide hl
  replace hh := hide hh
  replace hla := hide hla
  replace hha := hide hha
  replace hlb := hide hlb
  replace hhb := hide hhb
  obtain ⟨W, hW⟩ : ∃ W, W = (((w.alloc (.cells #[.bool a0.s, .slice a0.A a0.n a0.c, .slice a0.B a0.m a0.d, .bool a1.s, .slice a1.A a1.n a1.c, .slice a1.B a1.m a1.d] 29)).alloc (.cells #[.bool b0.s, .slice b0.A b0.n b0.c, .slice b0.B b0.m b0.d, .bool b1.s, .slice b1.A b1.n b1.c, .slice b1.B b1.m b1.d] 29)).alloc (.cells #[.bool false, .slice none 0 0, .slice none 0 0, .bool false, .slice none 0 0, .slice none 0 0] 29)) := ⟨_, rfl⟩
  have b_a : Box6 W (w.heap.size) (.bool a0.s) (.slice a0.A a0.n a0.c) (.slice a0.B a0.m a0.d) (.bool a1.s) (.slice a1.A a1.n a1.c) (.slice a1.B a1.m a1.d) := by rw [hW]; exact (((Box6.new w _ _ _ _ _ _ rfl).al _).al _)
  have b_b : Box6 W (w.heap.size + 1) (.bool b0.s) (.slice b0.A b0.n b0.c) (.slice b0.B b0.m b0.d) (.bool b1.s) (.slice b1.A b1.n b1.c) (.slice b1.B b1.m b1.d) := by rw [hW]; exact ((Box6.new _ _ _ _ _ _ _ (by simp)).al _)
  have b_r0 : Box6 W (w.heap.size + 1 + 1) (.bool false) (.slice none 0 0) (.slice none 0 0) (.bool false) (.slice none 0 0) (.slice none 0 0) := by rw [hW]; exact (Box6.new _ _ _ _ _ _ _ (by simp))
  have hwW : Below w.heap.size w W := by rw [hW]; exact ((((Below.refl _ _).alloc (Nat.le_refl _) _).alloc (by simp) _).alloc (by simp; omega) _)
  have R_a0 := hide (h_a0.upto hwW hB)
  clear h_a0
  have R_a1 := hide (h_a1.upto hwW hB)
  clear h_a1
  have R_b0 := hide (h_b0.upto hwW hB)
  clear h_b0
  have R_b1 := hide (h_b1.upto hwW hB)
  clear h_b1
  have B := hide hwW
  clear hwW
  clear hB
  have U0 : Below W.heap.size W W := Below.refl _ _
  have c_a0 := b_a.at0 b_a.lt_size (Nat.le_refl _)
  have c_a1 := b_a.at1 b_a.lt_size (Nat.le_refl _)
  have c_a2 := b_a.at2 b_a.lt_size (Nat.le_refl _)
  have c_a3 := b_a.at3 b_a.lt_size (Nat.le_refl _)
  have c_a4 := b_a.at4 b_a.lt_size (Nat.le_refl _)
  have c_a5 := b_a.at5 b_a.lt_size (Nat.le_refl _)
  have f_a0 := b_a.free0 b_a.lt_size (Nat.le_refl _)
  have f_a1 := b_a.free1 b_a.lt_size (Nat.le_refl _)
  have f_a2 := b_a.free2 b_a.lt_size (Nat.le_refl _)
  have f_a3 := b_a.free3 b_a.lt_size (Nat.le_refl _)
  have f_a4 := b_a.free4 b_a.lt_size (Nat.le_refl _)
  have f_a5 := b_a.free5 b_a.lt_size (Nat.le_refl _)
  have l_a := b_a.lt b_a.lt_size (Nat.le_refl _)
  replace b_a := hide b_a
  have c_b0 := b_b.at0 b_b.lt_size (Nat.le_refl _)
  have c_b1 := b_b.at1 b_b.lt_size (Nat.le_refl _)
  have c_b2 := b_b.at2 b_b.lt_size (Nat.le_refl _)
  have c_b3 := b_b.at3 b_b.lt_size (Nat.le_refl _)
  have c_b4 := b_b.at4 b_b.lt_size (Nat.le_refl _)
  have c_b5 := b_b.at5 b_b.lt_size (Nat.le_refl _)
  have f_b0 := b_b.free0 b_b.lt_size (Nat.le_refl _)
  have f_b1 := b_b.free1 b_b.lt_size (Nat.le_refl _)
  have f_b2 := b_b.free2 b_b.lt_size (Nat.le_refl _)
  have f_b3 := b_b.free3 b_b.lt_size (Nat.le_refl _)
  have f_b4 := b_b.free4 b_b.lt_size (Nat.le_refl _)
  have f_b5 := b_b.free5 b_b.lt_size (Nat.le_refl _)
  have l_b := b_b.lt b_b.lt_size (Nat.le_refl _)
  replace b_b := hide b_b
  have c_r00 := b_r0.at0 b_r0.lt_size (Nat.le_refl _)
  have c_r01 := b_r0.at1 b_r0.lt_size (Nat.le_refl _)
  have c_r02 := b_r0.at2 b_r0.lt_size (Nat.le_refl _)
  have c_r03 := b_r0.at3 b_r0.lt_size (Nat.le_refl _)
  have c_r04 := b_r0.at4 b_r0.lt_size (Nat.le_refl _)
  have c_r05 := b_r0.at5 b_r0.lt_size (Nat.le_refl _)
  have f_r00 := b_r0.free0 b_r0.lt_size (Nat.le_refl _)
  have f_r01 := b_r0.free1 b_r0.lt_size (Nat.le_refl _)
  have f_r02 := b_r0.free2 b_r0.lt_size (Nat.le_refl _)
  have f_r03 := b_r0.free3 b_r0.lt_size (Nat.le_refl _)
  have f_r04 := b_r0.free4 b_r0.lt_size (Nat.le_refl _)
  have f_r05 := b_r0.free5 b_r0.lt_size (Nat.le_refl _)
  have l_r0 := b_r0.lt b_r0.lt_size (Nat.le_refl _)
  replace b_r0 := hide b_r0
  go_enter Try.func17, Try.ntmps17
  go_wp2_with fail
  rw [← hW]
  clear hW
  refine (order_any gL R_a0.out R_a1.out R_b0.out R_b1.out (Nat.le_refl _) hk.out).mono ?_
  rintro e w1 ⟨rfl, hb⟩
  replace R_a0 := hide (R_a0.out.then_ hb)
  replace R_a1 := hide (R_a1.out.then_ hb)
  replace R_b0 := hide (R_b0.out.then_ hb)
  replace R_b1 := hide (R_b1.out.then_ hb)
  have U1 : Below W.heap.size W w1 := Below.then_ U0 hb
  replace B := hide (Below.then_ B.out hb)
  clear hb
  go_wp2_with fail
  refine Code.wp_mono (Q := fun e a' w' => e = .normal ∧ ∃ (x0 x1 y0 y1 : Rc) (v11 v12 v13 v14 : Value), a' = ⟨#[.agg #[.bool a0.s, .slice a0.A a0.n a0.c, .slice a0.B a0.m a0.d, .bool a1.s, .slice a1.A a1.n a1.c, .slice a1.B a1.m a1.d], .agg #[.bool b0.s, .slice b0.A b0.n b0.c, .slice b0.B b0.m b0.d, .bool b1.s, .slice b1.A b1.n b1.c, .slice b1.B b1.m b1.d], (.pointer (some ⟨w.heap.size, 0, none⟩)), (.pointer (some ⟨w.heap.size + 1, 0, none⟩)), (.pointer (some ⟨w.heap.size + 1 + 1, 0, none⟩)), .bool false, .agg #[.bool a0.s, .slice a0.A a0.n a0.c, .slice a0.B a0.m a0.d, .bool a1.s, .slice a1.A a1.n a1.c, .slice a1.B a1.m a1.d], .agg #[.bool b0.s, .slice b0.A b0.n b0.c, .slice b0.B b0.m b0.d, .bool b1.s, .slice b1.A b1.n b1.c, .slice b1.B b1.m b1.d], (.int .i64 0), .bool false, undef, v11, v12, v13, v14, undef, undef, undef, undef, undef, undef, undef, undef, undef, undef, undef, undef], []⟩ ∧ Pair w w' L (w.heap.size) (w.heap.size + 1) x0 x1 y0 y1 (la) (ha) (lb) (hb) ∧ Box6 w' (w.heap.size + 1 + 1) (.bool false) (.slice none 0 0) (.slice none 0 0) (.bool false) (.slice none 0 0) (.slice none 0 0)) ?_ ?_
  rotate_left
  · skip
    have hd := Below.drw_ w1
    replace R_a0 := hide (R_a0.out.then_ hd)
    replace R_a1 := hide (R_a1.out.then_ hd)
    replace R_b0 := hide (R_b0.out.then_ hd)
    replace R_b1 := hide (R_b1.out.then_ hd)
    have U2 : Below W.heap.size W (w1.drew) := Below.then_ U1 hd
    replace B := hide (Below.then_ B.out hd)
    clear hd
    have tok1 : True := trivial
    go_region_with (first
        | (go_at_call 29; (have _t := tok1; (with_reducible refine (inorder_any gL R_a0.out R_a1.out (Nat.le_refl _) hla.out hha.out).mono ?_); rintro e w2 ⟨x_x0, x_x1, rfl, R_x0, R_x1, hb⟩; replace R_a0 := hide (R_a0.out.then_ hb); replace R_a1 := hide (R_a1.out.then_ hb); replace R_b0 := hide (R_b0.out.then_ hb); replace R_b1 := hide (R_b1.out.then_ hb); have U3 : Below W.heap.size W w2 := Below.then_ U2 hb; replace B := hide (Below.then_ B.out hb); replace R_x0 := hide R_x0; replace R_x1 := hide R_x1; clear hb; have tok2 : True := trivial; clear _t tok1))
        | (go_at_call 29; (have _t := tok2; (with_reducible refine (inorder_any gL R_b0.out R_b1.out (Nat.le_refl _) hlb.out hhb.out).mono ?_); rintro e w3 ⟨x_y0, x_y1, rfl, R_y0, R_y1, hb⟩; replace R_a0 := hide (R_a0.out.then_ hb); replace R_a1 := hide (R_a1.out.then_ hb); replace R_b0 := hide (R_b0.out.then_ hb); replace R_b1 := hide (R_b1.out.then_ hb); replace R_x0 := hide (R_x0.out.then_ hb); replace R_x1 := hide (R_x1.out.then_ hb); have U4 : Below W.heap.size W w3 := Below.then_ U3 hb; replace B := hide (Below.then_ B.out hb); replace R_y0 := hide R_y0; replace R_y1 := hide R_y1; clear hb; have tok3 : True := trivial; clear _t tok2)))
    all_goals (refine ⟨rfl, x_x0, x_x1, x_y0, x_y1, _, _, _, _, rfl, Pair.set B.out (Box6.keep b_a.out U4) (Box6.keep b_b.out U4) R_x0.out R_x1.out R_y0.out R_y1.out (by omega) (by omega) (by omega), Pair.keep6 (Box6.keep b_r0.out U4) (by omega) (by omega)⟩)
  rintro e a' w4 ⟨rfl, x0, x1, y0, y1, v11, v12, v13, v14, rfl, hP, hT⟩
  clear R_a0
  clear R_a1
  clear R_b0
  clear R_b1
  clear c_a0 c_a1 c_a2 c_a3 c_a4 c_a5 f_a0 f_a1 f_a2 f_a3 f_a4 f_a5 l_a
  clear b_a
  clear c_b0 c_b1 c_b2 c_b3 c_b4 c_b5 f_b0 f_b1 f_b2 f_b3 f_b4 f_b5 l_b
  clear b_b
  clear c_r00 c_r01 c_r02 c_r03 c_r04 c_r05 f_r00 f_r01 f_r02 f_r03 f_r04 f_r05 l_r0
  clear b_r0
  clear B
  obtain ⟨B, b_a, b_b, R_a0, R_a1, R_b0, R_b1⟩ := hP
  replace B := hide B
  replace R_a0 := hide R_a0
  replace R_a1 := hide R_a1
  replace R_b0 := hide R_b0
  replace R_b1 := hide R_b1
  have b_r0 := hT
  clear hT
  replace b_a := hide b_a
  replace b_b := hide b_b
  replace b_r0 := hide b_r0
  have U2 : Below w4.heap.size w4 w4 := Below.refl _ _
  have c_a0 := b_a.out.at0 b_a.out.lt_size (Nat.le_refl _)
  have c_a1 := b_a.out.at1 b_a.out.lt_size (Nat.le_refl _)
  have c_a2 := b_a.out.at2 b_a.out.lt_size (Nat.le_refl _)
  have c_a3 := b_a.out.at3 b_a.out.lt_size (Nat.le_refl _)
  have c_a4 := b_a.out.at4 b_a.out.lt_size (Nat.le_refl _)
  have c_a5 := b_a.out.at5 b_a.out.lt_size (Nat.le_refl _)
  have f_a0 := b_a.out.free0 b_a.out.lt_size (Nat.le_refl _)
  have f_a1 := b_a.out.free1 b_a.out.lt_size (Nat.le_refl _)
  have f_a2 := b_a.out.free2 b_a.out.lt_size (Nat.le_refl _)
  have f_a3 := b_a.out.free3 b_a.out.lt_size (Nat.le_refl _)
  have f_a4 := b_a.out.free4 b_a.out.lt_size (Nat.le_refl _)
  have f_a5 := b_a.out.free5 b_a.out.lt_size (Nat.le_refl _)
  have l_a := b_a.out.lt b_a.out.lt_size (Nat.le_refl _)
  have c_b0 := b_b.out.at0 b_b.out.lt_size (Nat.le_refl _)
  have c_b1 := b_b.out.at1 b_b.out.lt_size (Nat.le_refl _)
  have c_b2 := b_b.out.at2 b_b.out.lt_size (Nat.le_refl _)
  have c_b3 := b_b.out.at3 b_b.out.lt_size (Nat.le_refl _)
  have c_b4 := b_b.out.at4 b_b.out.lt_size (Nat.le_refl _)
  have c_b5 := b_b.out.at5 b_b.out.lt_size (Nat.le_refl _)
  have f_b0 := b_b.out.free0 b_b.out.lt_size (Nat.le_refl _)
  have f_b1 := b_b.out.free1 b_b.out.lt_size (Nat.le_refl _)
  have f_b2 := b_b.out.free2 b_b.out.lt_size (Nat.le_refl _)
  have f_b3 := b_b.out.free3 b_b.out.lt_size (Nat.le_refl _)
  have f_b4 := b_b.out.free4 b_b.out.lt_size (Nat.le_refl _)
  have f_b5 := b_b.out.free5 b_b.out.lt_size (Nat.le_refl _)
  have l_b := b_b.out.lt b_b.out.lt_size (Nat.le_refl _)
  have c_r00 := b_r0.out.at0 b_r0.out.lt_size (Nat.le_refl _)
  have c_r01 := b_r0.out.at1 b_r0.out.lt_size (Nat.le_refl _)
  have c_r02 := b_r0.out.at2 b_r0.out.lt_size (Nat.le_refl _)
  have c_r03 := b_r0.out.at3 b_r0.out.lt_size (Nat.le_refl _)
  have c_r04 := b_r0.out.at4 b_r0.out.lt_size (Nat.le_refl _)
  have c_r05 := b_r0.out.at5 b_r0.out.lt_size (Nat.le_refl _)
  have f_r00 := b_r0.out.free0 b_r0.out.lt_size (Nat.le_refl _)
  have f_r01 := b_r0.out.free1 b_r0.out.lt_size (Nat.le_refl _)
  have f_r02 := b_r0.out.free2 b_r0.out.lt_size (Nat.le_refl _)
  have f_r03 := b_r0.out.free3 b_r0.out.lt_size (Nat.le_refl _)
  have f_r04 := b_r0.out.free4 b_r0.out.lt_size (Nat.le_refl _)
  have f_r05 := b_r0.out.free5 b_r0.out.lt_size (Nat.le_refl _)
  have l_r0 := b_r0.out.lt b_r0.out.lt_size (Nat.le_refl _)
  go_wp2_with fail
  have k_a0 := b_a.out.but0 (g1 := w.heap.size + 1 + 1) (g2 := w.heap.size + 1 + 1) (by omega) (by omega)
  have k_a1 := b_a.out.but1 (g1 := w.heap.size + 1 + 1) (g2 := w.heap.size + 1 + 1) (by omega) (by omega)
  have k_a2 := b_a.out.but2 (g1 := w.heap.size + 1 + 1) (g2 := w.heap.size + 1 + 1) (by omega) (by omega)
  have k_a3 := b_a.out.but3 (g1 := w.heap.size + 1 + 1) (g2 := w.heap.size + 1 + 1) (by omega) (by omega)
  have k_a4 := b_a.out.but4 (g1 := w.heap.size + 1 + 1) (g2 := w.heap.size + 1 + 1) (by omega) (by omega)
  have k_a5 := b_a.out.but5 (g1 := w.heap.size + 1 + 1) (g2 := w.heap.size + 1 + 1) (by omega) (by omega)
  have k_b0 := b_b.out.but0 (g1 := w.heap.size + 1 + 1) (g2 := w.heap.size + 1 + 1) (by omega) (by omega)
  have k_b1 := b_b.out.but1 (g1 := w.heap.size + 1 + 1) (g2 := w.heap.size + 1 + 1) (by omega) (by omega)
  have k_b2 := b_b.out.but2 (g1 := w.heap.size + 1 + 1) (g2 := w.heap.size + 1 + 1) (by omega) (by omega)
  have k_b3 := b_b.out.but3 (g1 := w.heap.size + 1 + 1) (g2 := w.heap.size + 1 + 1) (by omega) (by omega)
  have k_b4 := b_b.out.but4 (g1 := w.heap.size + 1 + 1) (g2 := w.heap.size + 1 + 1) (by omega) (by omega)
  have k_b5 := b_b.out.but5 (g1 := w.heap.size + 1 + 1) (g2 := w.heap.size + 1 + 1) (by omega) (by omega)
  have hd := Below.drw_ w4
  replace R_a0 := hide (R_a0.out.then_ hd)
  replace R_a1 := hide (R_a1.out.then_ hd)
  replace R_b0 := hide (R_b0.out.then_ hd)
  replace R_b1 := hide (R_b1.out.then_ hd)
  have U3 : Below w4.heap.size w4 (w4.drew) := Below.then_ U2 hd
  replace B := hide (Below.then_ B.out hd)
  have K3 : KeptBut (w.heap.size + 1 + 1) (w.heap.size + 1 + 1) w4.heap.size w4 (w4.drew) := KeptBut.below U3
  clear hd
  have tok1 : True := trivial
  go_region_held3 (fun w' => KeptBut (w.heap.size + 1 + 1) (w.heap.size + 1 + 1) w4.heap.size w4 w') (first | (with_reducible assumption) | (with_reducible exact KeptBut.drw _) | ((repeat (first | (with_reducible refine KeptBut.set0 ?_ _) | (with_reducible refine KeptBut.drew_ ?_))); first | (with_reducible assumption) | (with_reducible exact KeptBut.refl _ _ _ _)))
    (first
      | (go_at_call 41; (have _t := tok1; (with_reducible refine (greater_any gL R_a0.out R_b0.out (Nat.le_refl _) hl.out).mono ?_); rintro e w5 ⟨x_s0, rfl, R_s0, hb⟩; replace R_a0 := hide (R_a0.out.then_ hb); replace R_a1 := hide (R_a1.out.then_ hb); replace R_b0 := hide (R_b0.out.then_ hb); replace R_b1 := hide (R_b1.out.then_ hb); have U4 : Below w4.heap.size w4 w5 := Below.then_ U3 hb; replace B := hide (Below.then_ B.out hb); have K4 : KeptBut (w.heap.size + 1 + 1) (w.heap.size + 1 + 1) w4.heap.size w4 w5 := KeptBut.below U4; replace R_s0 := hide R_s0; clear hb; have tok2 : True := trivial; clear _t tok1))
      | (go_at_call 42; (have _t := tok2; (with_reducible refine (lesser_any gL R_a1.out R_b1.out (Nat.le_refl _) hh.out).mono ?_); rintro e w6 ⟨x_s1, rfl, R_s1, hb⟩; replace R_a0 := hide (R_a0.out.then_ hb); replace R_a1 := hide (R_a1.out.then_ hb); replace R_b0 := hide (R_b0.out.then_ hb); replace R_b1 := hide (R_b1.out.then_ hb); replace R_s0 := hide (R_s0.out.then_ hb); have U5 : Below w4.heap.size w4 w6 := Below.then_ U4 hb; replace B := hide (Below.then_ B.out hb); have K5 : KeptBut (w.heap.size + 1 + 1) (w.heap.size + 1 + 1) w4.heap.size w4 w6 := KeptBut.below U5; replace R_s1 := hide R_s1; clear hb; have tok3 : True := trivial; clear _t tok2))
      | (go_at_call 40; (have _t := tok3; (with_reducible refine (snorm_any gL R_s0.out R_s1.out (Nat.le_refl _)).mono ?_); rintro e w7 ⟨x_t0, x_t1, rfl, R_t0, R_t1, hb⟩; replace R_a0 := hide (R_a0.out.then_ hb); replace R_a1 := hide (R_a1.out.then_ hb); replace R_b0 := hide (R_b0.out.then_ hb); replace R_b1 := hide (R_b1.out.then_ hb); replace R_s0 := hide (R_s0.out.then_ hb); replace R_s1 := hide (R_s1.out.then_ hb); have U6 : Below w4.heap.size w4 w7 := Below.then_ U5 hb; replace B := hide (Below.then_ B.out hb); have K6 : KeptBut (w.heap.size + 1 + 1) (w.heap.size + 1 + 1) w4.heap.size w4 w7 := KeptBut.below U6; replace R_t0 := hide R_t0; replace R_t1 := hide R_t1; clear hb; have tok4 : True := trivial; clear _t tok3)))
  clear tok4
  clear k_a0 k_a1 k_a2 k_a3 k_a4 k_a5
  clear k_b0 k_b1 k_b2 k_b3 k_b4 k_b5
  go_wp2
  exact bodyPost_ret (v := .tuple #[.agg #[.bool x_t0.s, .slice x_t0.A x_t0.n x_t0.c, .slice x_t0.B x_t0.m x_t0.d, .bool x_t1.s, .slice x_t1.A x_t1.n x_t1.c, .slice x_t1.B x_t1.m x_t1.d], .bool true]) (by simp [results, Try.results17, go_sem, c_r00 _ U6, c_r01 _ U6, c_r02 _ U6, c_r03 _ U6, c_r04 _ U6, c_r05 _ U6]) rfl (RetSNB.box B.out (by omega) (c_r00 _ U6) (c_r01 _ U6) (c_r02 _ U6) (c_r03 _ U6) (c_r04 _ U6) (c_r05 _ U6) R_t0.out R_t1.out)

end Go.Proofs.Ytogafnfpncbgiaa

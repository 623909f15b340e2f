/-
  Mul of span.
-/
import Derived.Test.YtogafnfpncbgiaaSpanB
import Derived.Test.YtogafnfpncbgiaaSort
namespace Go.Proofs.Ytogafnfpncbgiaa
open Go.RowKit


/-- four of them -/
def e4 {α : Type} (a b c d : α) : Nat → α := fun k => if k = 0 then a else if k = 1 then b else if k = 2 then c else d
theorem Row4.new (w : World) (a b c d : Rc) {g : Nat} (hg : g = w.heap.size) : Row4 (w.alloc (.cells #[.bool a.s, .slice a.A a.n a.c, .slice a.B a.m a.d, .bool b.s, .slice b.A b.n b.c, .slice b.B b.m b.d, .bool c.s, .slice c.A c.n c.c, .slice c.B c.m c.d, .bool d.s, .slice d.A d.n d.c, .slice d.B d.m d.d] 27)) g (e4 a b c d) := heap_alloc_at _ _ hg
theorem Sr.start {w : World} {g L : Nat} {a b c d : Rc} {p q r s l h : Rat} (ha : Nq w w.heap.size L a p) (hb : Nq w w.heap.size L b q) (hc : Nq w w.heap.size L c r) (hd : Nq w w.heap.size L d s) (hl : mn4 p q r s = l) (hh : mx4 p q r s = h) (hg : g = w.heap.size) :
    Sr (w.alloc (.cells #[.bool a.s, .slice a.A a.n a.c, .slice a.B a.m a.d, .bool b.s, .slice b.A b.n b.c, .slice b.B b.m b.d, .bool c.s, .slice c.A c.n c.c, .slice c.B c.m c.d, .bool d.s, .slice d.A d.n d.c, .slice d.B d.m d.d] 27)) (w.alloc (.cells #[.bool a.s, .slice a.A a.n a.c, .slice a.B a.m a.d, .bool b.s, .slice b.A b.n b.c, .slice b.B b.m b.d, .bool c.s, .slice c.A c.n c.c, .slice c.B c.m c.d, .bool d.s, .slice d.A d.n d.c, .slice d.B d.m d.d] 27)) g L (e4 a b c d) (e4 p q r s) l h := by
  have hb1 : Below g w (w.alloc (.cells #[.bool a.s, .slice a.A a.n a.c, .slice a.B a.m a.d, .bool b.s, .slice b.A b.n b.c, .slice b.B b.m b.d, .bool c.s, .slice c.A c.n c.c, .slice c.B c.m c.d, .bool d.s, .slice d.A d.n d.c, .slice d.B d.m d.d] 27)) := by rw [hg]; exact Below.al_ (Below.refl _ _) _
  refine ⟨Row4.new w a b c d hg, fun k hk => ?_, hl, hh, Below.refl _ _⟩
  rw [← hg] at ha hb hc hd
  obtain rfl | rfl | rfl | rfl : k = 0 ∨ k = 1 ∨ k = 2 ∨ k = 3 := by omega
  · exact ha.below hb1
  · exact hb.below hb1
  · exact hc.below hb1
  · exact hd.below hb1
theorem Nq.more {w : World} {Bd B L : Nat} {x : Rc} {q : Rat} (h : Nq w Bd L x q) (hB : Bd ≤ B) : Nq w B L x q := ⟨h.1, h.2.1.more hB, h.2.2.1.more hB, h.2.2.2⟩
theorem RetSN.next {w w1 w2 : World} {L : Nat} {p q : Rat} {e : Ending} (h : RetSN w L p q e w1) (hb : Below w1.heap.size w1 w2) : RetSN w L p q e w2 := by
  obtain ⟨x, y, rfl, h1, h2, h3⟩ := h
  exact ⟨x, y, rfl, h1.then_ hb, h2.then_ hb, Below.then_ h3 hb⟩

set_option maxHeartbeats 4000000 in
theorem smul_any {w : World} {Bd : Nat} {L : Nat} (gL : L ≤ 40000000) {a0 : Rc} {q_a0 : Rat} {a1 : Rc} {q_a1 : Rat} {b0 : Rc} {q_b0 : Rat} {b1 : Rc} {q_b1 : Rat} (h_a0 : Rq w Bd L a0 q_a0) (h_a1 : Rq w Bd L a1 q_a1) (h_b0 : Rq w Bd L b0 q_b0) (h_b1 : Rq w Bd L b1 q_b1) (hB : Bd ≤ w.heap.size) {l h : Rat} (hl : mn4 (q_a0 * q_b0) (q_a0 * q_b1) (q_a1 * q_b0) (q_a1 * q_b1) = l) (hh : mx4 (q_a0 * q_b0) (q_a0 * q_b1) (q_a1 * q_b0) (q_a1 * q_b1) = h) :
    Calls Try.prog 13 #[.agg #[.bool a0.s, .slice a0.A a0.n a0.c, .slice a0.B a0.m a0.d, .bool a1.s, .slice a1.A a1.n a1.c, .slice a1.B a1.m a1.d], .agg #[.bool b0.s, .slice b0.A b0.n b0.c, .slice b0.B b0.m b0.d, .bool b1.s, .slice b1.A b1.n b1.c, .slice b1.B b1.m b1.d]] w (RetSN w (L + L + 2) l h) := by
  obtain ⟨p0, hp0⟩ : ∃ l, q_a0 * q_b0 = l := ⟨_, rfl⟩
  obtain ⟨p1, hp1⟩ : ∃ l, q_a0 * q_b1 = l := ⟨_, rfl⟩
  obtain ⟨p2, hp2⟩ : ∃ l, q_a1 * q_b0 = l := ⟨_, rfl⟩
  obtain ⟨p3, hp3⟩ : ∃ l, q_a1 * q_b1 = l := ⟨_, rfl⟩
  rw [hp0, hp1, hp2, hp3] at hl hh
  replace hl := hide hl
  replace hh := hide hh
  replace hp0 := hide hp0
  replace hp1 := hide hp1
  replace hp2 := hide hp2
  replace hp3 := hide hp3
  have gL2 : L + L + 2 ≤ 100000000 := by omega
  replace gL2 := hide gL2
  obtain ⟨W, hW⟩ : ∃ W, W = (((w.alloc (.cells #[.bool a0.s, .slice a0.A a0.n a0.c, .slice a0.B a0.m a0.d, .bool a1.s, .slice a1.A a1.n a1.c, .slice a1.B a1.m a1.d] 29)).alloc (.cells #[.bool b0.s, .slice b0.A b0.n b0.c, .slice b0.B b0.m b0.d, .bool b1.s, .slice b1.A b1.n b1.c, .slice b1.B b1.m b1.d] 29)).alloc (.cells #[.bool false, .slice none 0 0, .slice none 0 0, .bool false, .slice none 0 0, .slice none 0 0] 29)) := ⟨_, rfl⟩
  have b_a : Box6 W (w.heap.size) (.bool a0.s) (.slice a0.A a0.n a0.c) (.slice a0.B a0.m a0.d) (.bool a1.s) (.slice a1.A a1.n a1.c) (.slice a1.B a1.m a1.d) := by rw [hW]; exact (((Box6.new w _ _ _ _ _ _ rfl).al _).al _)
  have b_b : Box6 W (w.heap.size + 1) (.bool b0.s) (.slice b0.A b0.n b0.c) (.slice b0.B b0.m b0.d) (.bool b1.s) (.slice b1.A b1.n b1.c) (.slice b1.B b1.m b1.d) := by rw [hW]; exact ((Box6.new _ _ _ _ _ _ _ (by simp)).al _)
  have b_r0 : Box6 W (w.heap.size + 1 + 1) (.bool false) (.slice none 0 0) (.slice none 0 0) (.bool false) (.slice none 0 0) (.slice none 0 0) := by rw [hW]; exact (Box6.new _ _ _ _ _ _ _ (by simp))
  have hwW : Below w.heap.size w W := by rw [hW]; exact ((((Below.refl _ _).alloc (Nat.le_refl _) _).alloc (by simp) _).alloc (by simp; omega) _)
  have R_a0 := hide (h_a0.upto hwW hB)
  clear h_a0
  have R_a1 := hide (h_a1.upto hwW hB)
  clear h_a1
  have R_b0 := hide (h_b0.upto hwW hB)
  clear h_b0
  have R_b1 := hide (h_b1.upto hwW hB)
  clear h_b1
  have B := hide hwW
  clear hwW
  clear hB
  have U0 : Below W.heap.size W W := Below.refl _ _
  have c_a0 := b_a.at0 b_a.lt_size (Nat.le_refl _)
  have c_a1 := b_a.at1 b_a.lt_size (Nat.le_refl _)
  have c_a2 := b_a.at2 b_a.lt_size (Nat.le_refl _)
  have c_a3 := b_a.at3 b_a.lt_size (Nat.le_refl _)
  have c_a4 := b_a.at4 b_a.lt_size (Nat.le_refl _)
  have c_a5 := b_a.at5 b_a.lt_size (Nat.le_refl _)
  replace b_a := hide b_a
  have c_b0 := b_b.at0 b_b.lt_size (Nat.le_refl _)
  have c_b1 := b_b.at1 b_b.lt_size (Nat.le_refl _)
  have c_b2 := b_b.at2 b_b.lt_size (Nat.le_refl _)
  have c_b3 := b_b.at3 b_b.lt_size (Nat.le_refl _)
  have c_b4 := b_b.at4 b_b.lt_size (Nat.le_refl _)
  have c_b5 := b_b.at5 b_b.lt_size (Nat.le_refl _)
  replace b_b := hide b_b
  have c_r00 := b_r0.at0 b_r0.lt_size (Nat.le_refl _)
  have c_r01 := b_r0.at1 b_r0.lt_size (Nat.le_refl _)
  have c_r02 := b_r0.at2 b_r0.lt_size (Nat.le_refl _)
  have c_r03 := b_r0.at3 b_r0.lt_size (Nat.le_refl _)
  have c_r04 := b_r0.at4 b_r0.lt_size (Nat.le_refl _)
  have c_r05 := b_r0.at5 b_r0.lt_size (Nat.le_refl _)
  have f_r00 := b_r0.free0 b_r0.lt_size (Nat.le_refl _)
  have f_r01 := b_r0.free1 b_r0.lt_size (Nat.le_refl _)
  have f_r02 := b_r0.free2 b_r0.lt_size (Nat.le_refl _)
  have f_r03 := b_r0.free3 b_r0.lt_size (Nat.le_refl _)
  have f_r04 := b_r0.free4 b_r0.lt_size (Nat.le_refl _)
  have f_r05 := b_r0.free5 b_r0.lt_size (Nat.le_refl _)
  have l_r0 := b_r0.lt b_r0.lt_size (Nat.le_refl _)
  replace b_r0 := hide b_r0
  go_enter Try.func13, Try.ntmps13
  go_wp2_with fail
  rw [← hW]
  clear hW
  have hd := Below.drw_ W
  replace R_a0 := hide (R_a0.out.then_ hd)
  replace R_a1 := hide (R_a1.out.then_ hd)
  replace R_b0 := hide (R_b0.out.then_ hd)
  replace R_b1 := hide (R_b1.out.then_ hd)
  have U1 : Below W.heap.size W (W.drew) := Below.then_ U0 hd
  replace B := hide (Below.then_ B.out hd)
  clear hd
  have tok1 : True := trivial
  go_region_held3 (fun w' => Below W.heap.size W w') (first | (with_reducible assumption) | (with_reducible exact Below.al_ (by with_reducible assumption) _))
    (first
      | (go_at_call 14; (have _t := tok1; (with_reducible refine (mul_q R_a0.out (by omega) R_b0.out (by omega) (Nat.le_refl _) hp0.out).mono ?_); rintro e w1 ⟨x_s0, rfl, R_s0, hb⟩; replace R_a0 := hide (R_a0.out.then_ hb); replace R_a1 := hide (R_a1.out.then_ hb); replace R_b0 := hide (R_b0.out.then_ hb); replace R_b1 := hide (R_b1.out.then_ hb); have U2 : Below W.heap.size W w1 := Below.then_ U1 hb; replace B := hide (Below.then_ B.out hb); replace R_s0 := hide R_s0; clear hb; have tok2 : True := trivial; clear _t tok1))
      | (go_at_call 14; (have _t := tok2; (with_reducible refine (mul_q R_a0.out (by omega) R_b1.out (by omega) (Nat.le_refl _) hp1.out).mono ?_); rintro e w2 ⟨x_s1, rfl, R_s1, hb⟩; replace R_a0 := hide (R_a0.out.then_ hb); replace R_a1 := hide (R_a1.out.then_ hb); replace R_b0 := hide (R_b0.out.then_ hb); replace R_b1 := hide (R_b1.out.then_ hb); replace R_s0 := hide (R_s0.out.then_ hb); have U3 : Below W.heap.size W w2 := Below.then_ U2 hb; replace B := hide (Below.then_ B.out hb); replace R_s1 := hide R_s1; clear hb; have tok3 : True := trivial; clear _t tok2))
      | (go_at_call 14; (have _t := tok3; (with_reducible refine (mul_q R_a1.out (by omega) R_b0.out (by omega) (Nat.le_refl _) hp2.out).mono ?_); rintro e w3 ⟨x_s2, rfl, R_s2, hb⟩; replace R_a0 := hide (R_a0.out.then_ hb); replace R_a1 := hide (R_a1.out.then_ hb); replace R_b0 := hide (R_b0.out.then_ hb); replace R_b1 := hide (R_b1.out.then_ hb); replace R_s0 := hide (R_s0.out.then_ hb); replace R_s1 := hide (R_s1.out.then_ hb); have U4 : Below W.heap.size W w3 := Below.then_ U3 hb; replace B := hide (Below.then_ B.out hb); replace R_s2 := hide R_s2; clear hb; have tok4 : True := trivial; clear _t tok3))
      | (go_at_call 14; (have _t := tok4; (with_reducible refine (mul_q R_a1.out (by omega) R_b1.out (by omega) (Nat.le_refl _) hp3.out).mono ?_); rintro e w4 ⟨x_s3, rfl, R_s3, hb⟩; replace R_a0 := hide (R_a0.out.then_ hb); replace R_a1 := hide (R_a1.out.then_ hb); replace R_b0 := hide (R_b0.out.then_ hb); replace R_b1 := hide (R_b1.out.then_ hb); replace R_s0 := hide (R_s0.out.then_ hb); replace R_s1 := hide (R_s1.out.then_ hb); replace R_s2 := hide (R_s2.out.then_ hb); have U5 : Below W.heap.size W w4 := Below.then_ U4 hb; replace B := hide (Below.then_ B.out hb); replace R_s3 := hide R_s3; clear hb; have tok5 : True := trivial; clear _t tok4)))
  clear tok5
  have hS := hide (Sr.start R_s0.out R_s1.out R_s2.out R_s3.out hl.out hh.out rfl)
  have hU := Below.al_ U5 (.cells #[.bool x_s0.s, .slice x_s0.A x_s0.n x_s0.c, .slice x_s0.B x_s0.m x_s0.d, .bool x_s1.s, .slice x_s1.A x_s1.n x_s1.c, .slice x_s1.B x_s1.m x_s1.d, .bool x_s2.s, .slice x_s2.A x_s2.n x_s2.c, .slice x_s2.B x_s2.m x_s2.d, .bool x_s3.s, .slice x_s3.A x_s3.n x_s3.c, .slice x_s3.B x_s3.m x_s3.d] 27)
  have hB := hide (Below.al_ B.out (.cells #[.bool x_s0.s, .slice x_s0.A x_s0.n x_s0.c, .slice x_s0.B x_s0.m x_s0.d, .bool x_s1.s, .slice x_s1.A x_s1.n x_s1.c, .slice x_s1.B x_s1.m x_s1.d, .bool x_s2.s, .slice x_s2.A x_s2.n x_s2.c, .slice x_s2.B x_s2.m x_s2.d, .bool x_s3.s, .slice x_s3.A x_s3.n x_s3.c, .slice x_s3.B x_s3.m x_s3.d] 27))
  clear R_a0
  clear R_a1
  clear R_b0
  clear R_b1
  clear R_s0
  clear R_s1
  clear R_s2
  clear R_s3
  have hsz : W.heap.size ≤ w4.heap.size := U5.size
  replace hsz := hide hsz
  have hszw : w.heap.size ≤ w4.heap.size := B.out.size
  replace hszw := hide hszw
  go_wp2_with fail
  generalize w4.heap.size = g at *
  generalize w4.alloc _ = V at *
  refine (sortfunc_any hS.out gL2.out).mono ?_
  rintro e w9 ⟨rfl, E, v, hS9, hO⟩
  have U9 : Below W.heap.size W w9 := hU.trans (hS9.bel.mono hsz.out)
  have B9 := hide (hB.out.trans (hS9.bel.mono hszw.out))
  have N0 := hide ((hS9.num 0 (by omega)).more (Nat.le_of_lt hS9.row.lt))
  have N3 := hide ((hS9.num 3 (by omega)).more (Nat.le_of_lt hS9.row.lt))
  have hO0 := hO.mn.trans hS9.mn
  have hO3 := hO.mx.trans hS9.mx
  rw [hO0] at N0
  rw [hO3] at N3
  have d0 := hS9.row.c0
  have d1 := hS9.row.c1
  have d2 := hS9.row.c2
  have d9 := hS9.row.c9
  have d10 := hS9.row.c10
  have d11 := hS9.row.c11
  have lg := hS9.row.lt
  replace c_r00 := c_r00 _ U9
  replace f_r00 := f_r00 _ U9
  replace c_r01 := c_r01 _ U9
  replace f_r01 := f_r01 _ U9
  replace c_r02 := c_r02 _ U9
  replace f_r02 := f_r02 _ U9
  replace c_r03 := c_r03 _ U9
  replace f_r03 := f_r03 _ U9
  replace c_r04 := c_r04 _ U9
  replace f_r04 := f_r04 _ U9
  replace c_r05 := c_r05 _ U9
  replace f_r05 := f_r05 _ U9
  replace l_r0 := l_r0 _ U9
  clear hS hU hB hO hO0 hO3 hS9 B U5
  clear c_a0 c_a1 c_a2 c_a3 c_a4 c_a5
  clear c_b0 c_b1 c_b2 c_b3 c_b4 c_b5
  go_wp2
  go_region
  go_wp2
  refine bodyPost_ret (v := .agg #[.bool (E 0).s, .slice (E 0).A (E 0).n (E 0).c, .slice (E 0).B (E 0).m (E 0).d, .bool (E 3).s, .slice (E 3).A (E 3).n (E 3).c, .slice (E 3).B (E 3).m (E 3).d]) (by simp [results, Try.results13, go_sem, c_r00, c_r01, c_r02, c_r03, c_r04, c_r05]) rfl ?_
  exact RetSN.next (RetSN.box B9.out (by omega) c_r00 c_r01 c_r02 c_r03 c_r04 c_r05 N0.out N3.out) (Below.drw_ _)

end Go.Proofs.Ytogafnfpncbgiaa

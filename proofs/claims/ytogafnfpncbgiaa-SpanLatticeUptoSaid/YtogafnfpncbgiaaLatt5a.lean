/-
  SpanLattice where the intervals overlap.
-/
import Derived.Test.YtogafnfpncbgiaaMono5a
namespace Go.Proofs.Ytogafnfpncbgiaa
open Go.RowKit


/-- a row of six ratios -/
def Row6 (W : World) (g : Nat) (E : Nat → Rc) : Prop := W.heap[g]? = some (.cells #[.bool (E 0).s, .slice (E 0).A (E 0).n (E 0).c, .slice (E 0).B (E 0).m (E 0).d, .bool (E 1).s, .slice (E 1).A (E 1).n (E 1).c, .slice (E 1).B (E 1).m (E 1).d, .bool (E 2).s, .slice (E 2).A (E 2).n (E 2).c, .slice (E 2).B (E 2).m (E 2).d, .bool (E 3).s, .slice (E 3).A (E 3).n (E 3).c, .slice (E 3).B (E 3).m (E 3).d, .bool (E 4).s, .slice (E 4).A (E 4).n (E 4).c, .slice (E 4).B (E 4).m (E 4).d, .bool (E 5).s, .slice (E 5).A (E 5).n (E 5).c, .slice (E 5).B (E 5).m (E 5).d] 27 (0, 0))
theorem Row6.lt {W : World} {g : Nat} {E : Nat → Rc} (h : Row6 W g E) : g < W.heap.size := (Array.getElem?_eq_some_iff.1 h).1
theorem Row6.keep {W W' : World} {g : Nat} {E : Nat → Rc} (h : Row6 W g E) (hb : Below W.heap.size W W') : Row6 W' g E := (hb.block g h.lt).trans h
def e6 {α : Type} (a b c d e f : α) : Nat → α := fun k => if k = 0 then a else if k = 1 then b else if k = 2 then c else if k = 3 then d else if k = 4 then e else f
theorem Row6.new (w : World) (a b c d e f : Rc) {g : Nat} (hg : g = w.heap.size) : Row6 (w.alloc (.cells #[.bool a.s, .slice a.A a.n a.c, .slice a.B a.m a.d, .bool b.s, .slice b.A b.n b.c, .slice b.B b.m b.d, .bool c.s, .slice c.A c.n c.c, .slice c.B c.m c.d, .bool d.s, .slice d.A d.n d.c, .slice d.B d.m d.d, .bool e.s, .slice e.A e.n e.c, .slice e.B e.m e.d, .bool f.s, .slice f.A f.n f.c, .slice f.B f.m f.d] 27)) g (e6 a b c d e f) := heap_alloc_at _ _ hg
theorem e6_all {P : Rc → Rat → Prop} {a b c d e f : Rc} {p q r s t u : Rat} (h0 : P a p) (h1 : P b q) (h2 : P c r) (h3 : P d s) (h4 : P e t) (h5 : P f u) : ∀ k, k < 6 → P (e6 a b c d e f k) (e6 p q r s t u k) := by
  intro k hk
  obtain rfl | rfl | rfl | rfl | rfl | rfl : k = 0 ∨ k = 1 ∨ k = 2 ∨ k = 3 ∨ k = 4 ∨ k = 5 := by omega
  · exact h0
  · exact h1
  · exact h2
  · exact h3
  · exact h4
  · exact h5
theorem Row6.at0 {W : World} {g : Nat} {E : Nat → Rc} (h : Row6 W g E) {k : Nat} (hk : k < 6) : W.cell? ⟨g, k * 3, none⟩ = some (.bool (E k).s) := by
  obtain rfl | rfl | rfl | rfl | rfl | rfl : k = 0 ∨ k = 1 ∨ k = 2 ∨ k = 3 ∨ k = 4 ∨ k = 5 := by omega
  · rw [cell_of_row W g 0 _ _ _ h]; rfl
  · rw [cell_of_row W g 3 _ _ _ h]; rfl
  · rw [cell_of_row W g 6 _ _ _ h]; rfl
  · rw [cell_of_row W g 9 _ _ _ h]; rfl
  · rw [cell_of_row W g 12 _ _ _ h]; rfl
  · rw [cell_of_row W g 15 _ _ _ h]; rfl
theorem Row6.at1 {W : World} {g : Nat} {E : Nat → Rc} (h : Row6 W g E) {k : Nat} (hk : k < 6) : W.cell? ⟨g, k * 3 + 1, none⟩ = some (.slice (E k).A (E k).n (E k).c) := by
  obtain rfl | rfl | rfl | rfl | rfl | rfl : k = 0 ∨ k = 1 ∨ k = 2 ∨ k = 3 ∨ k = 4 ∨ k = 5 := by omega
  · rw [cell_of_row W g 1 _ _ _ h]; rfl
  · rw [cell_of_row W g 4 _ _ _ h]; rfl
  · rw [cell_of_row W g 7 _ _ _ h]; rfl
  · rw [cell_of_row W g 10 _ _ _ h]; rfl
  · rw [cell_of_row W g 13 _ _ _ h]; rfl
  · rw [cell_of_row W g 16 _ _ _ h]; rfl
theorem Row6.at2 {W : World} {g : Nat} {E : Nat → Rc} (h : Row6 W g E) {k : Nat} (hk : k < 6) : W.cell? ⟨g, k * 3 + 2, none⟩ = some (.slice (E k).B (E k).m (E k).d) := by
  obtain rfl | rfl | rfl | rfl | rfl | rfl : k = 0 ∨ k = 1 ∨ k = 2 ∨ k = 3 ∨ k = 4 ∨ k = 5 := by omega
  · rw [cell_of_row W g 2 _ _ _ h]; rfl
  · rw [cell_of_row W g 5 _ _ _ h]; rfl
  · rw [cell_of_row W g 8 _ _ _ h]; rfl
  · rw [cell_of_row W g 11 _ _ _ h]; rfl
  · rw [cell_of_row W g 14 _ _ _ h]; rfl
  · rw [cell_of_row W g 17 _ _ _ h]; rfl
theorem rord_neg (p q p' q' : Rat) : rord p' q' p q = -rord p q p' q' := by
  have h1 := rlo_le_rhi p q
  have h2 := rlo_le_rhi p' q'
  unfold rord
  split <;> split <;> first | rfl | (exfalso; grind)
theorem meet_has {p q p' q' : Rat} (hk : rord p q p' q' = 0) (x : Rat) : rhas (rhi (rlo p q) (rlo p' q')) (rlo (rhi p q) (rhi p' q')) x ↔ rhas p q x ∧ rhas p' q' x := by
  have h1 := rlo_le_rhi p q
  have h2 := rlo_le_rhi p' q'
  unfold rord at hk
  split at hk
  · omega
  · split at hk
    · omega
    · have o : rhi (rlo p q) (rlo p' q') ≤ rlo (rhi p q) (rhi p' q') := rhi_le (le_rlo h1 (by grind)) (le_rlo (by grind) h2)
      unfold rhas
      rw [rlo_of_le o, rhi_of_le o]
      constructor
      · rintro ⟨a, b⟩
        exact ⟨⟨Rat.le_trans (le_rhi_l _ _) a, Rat.le_trans b (rlo_le_l _ _)⟩, Rat.le_trans (le_rhi_r _ _) a, Rat.le_trans b (rlo_le_r _ _)⟩
      · rintro ⟨⟨a, b⟩, c, d⟩
        exact ⟨rhi_le a c, le_rlo b d⟩
theorem meet_none {p q p' q' : Rat} (hk : rord p q p' q' ≠ 0) (x : Rat) : ¬ (rhas p q x ∧ rhas p' q' x) := by
  rintro ⟨⟨a, b⟩, c, d⟩
  refine hk ?_
  unfold rord
  rw [if_neg (by grind), if_neg (by grind)]
theorem meet_in {p q p' q' : Rat} (hk : rord p q p' q' = 0) : rin (rhi (rlo p q) (rlo p' q')) (rlo (rhi p q) (rhi p' q')) p q ∧ rin (rhi (rlo p q) (rlo p' q')) (rlo (rhi p q) (rhi p' q')) p' q' := by
  have a := (meet_has hk (rhi (rlo p q) (rlo p' q'))).1 ⟨rlo_le_l _ _, le_rhi_l _ _⟩
  have b := (meet_has hk (rlo (rhi p q) (rhi p' q'))).1 ⟨rlo_le_r _ _, le_rhi_r _ _⟩
  exact ⟨⟨a.1, b.1⟩, a.2, b.2⟩
theorem hull_has {p q p' q' x : Rat} (h : rhas p q x ∨ rhas p' q' x) : rhas (rlo (rlo p q) (rlo p' q')) (rhi (rhi p q) (rhi p' q')) x := by
  have o : rlo (rlo p q) (rlo p' q') ≤ rhi (rhi p q) (rhi p' q') := Rat.le_trans (rlo_le_l _ _) (Rat.le_trans (rlo_le_rhi p q) (le_rhi_l _ _))
  unfold rhas
  rw [rlo_of_le o, rhi_of_le o]
  rcases h with ⟨a, b⟩ | ⟨a, b⟩
  · exact ⟨Rat.le_trans (rlo_le_l _ _) a, Rat.le_trans b (le_rhi_l _ _)⟩
  · exact ⟨Rat.le_trans (rlo_le_r _ _) a, Rat.le_trans b (le_rhi_r _ _)⟩
theorem hull_in (p q p' q' : Rat) : rin p q (rlo (rlo p q) (rlo p' q')) (rhi (rhi p q) (rhi p' q')) ∧ rin p' q' (rlo (rlo p q) (rlo p' q')) (rhi (rhi p q) (rhi p' q')) :=
  ⟨⟨hull_has (Or.inl ⟨rlo_le_l _ _, le_rhi_l _ _⟩), hull_has (Or.inl ⟨rlo_le_r _ _, le_rhi_r _ _⟩)⟩, hull_has (Or.inr ⟨rlo_le_l _ _, le_rhi_l _ _⟩), hull_has (Or.inr ⟨rlo_le_r _ _, le_rhi_r _ _⟩)⟩

set_option maxHeartbeats 20000000 in
theorem latt_ok {w : World} {Bd : Nat}  {a0 : Rc} {q_a0 : Rat} {a1 : Rc} {q_a1 : Rat} {b0 : Rc} {q_b0 : Rat} {b1 : Rc} {q_b1 : Rat} {r : Rc} {q_r : Rat} {n : Nat} (h_a0 : Rq w Bd 1048576 a0 q_a0) (h_a1 : Rq w Bd 1048576 a1 q_a1) (h_b0 : Rq w Bd 1048576 b0 q_b0) (h_b1 : Rq w Bd 1048576 b1 q_b1) (h_r : Rq w Bd 1048576 r q_r) (hB : Bd ≤ w.heap.size) (hk : rord q_a0 q_a1 q_b0 q_b1 = 0) (hn : n < 256) :
    Calls Try.prog 4 #[.agg #[.bool a0.s, .slice a0.A a0.n a0.c, .slice a0.B a0.m a0.d, .bool a1.s, .slice a1.A a1.n a1.c, .slice a1.B a1.m a1.d], .agg #[.bool b0.s, .slice b0.A b0.n b0.c, .slice b0.B b0.m b0.d, .bool b1.s, .slice b1.A b1.n b1.c, .slice b1.B b1.m b1.d], .agg #[.bool r.s, .slice r.A r.n r.c, .slice r.B r.m r.d], .int .u8 (n : Int)] w (RetB w (.bool true)) := by
  have hk2 : rord q_b0 q_b1 q_a0 q_a1 = 0 := by rw [rord_neg]; omega
  obtain ⟨la, hla⟩ : ∃ l, rlo q_a0 q_a1 = l := ⟨_, rfl⟩
  obtain ⟨ha, hha⟩ : ∃ l, rhi q_a0 q_a1 = l := ⟨_, rfl⟩
  obtain ⟨s, hs⟩ : ∃ s, Rat.divInt (n : Int) 255 = s := ⟨_, rfl⟩
  obtain ⟨x0, hx0⟩ : ∃ x, la + s * (ha - la) = x := ⟨_, rfl⟩
  obtain ⟨ml, hml⟩ : ∃ l, rhi (rlo q_a0 q_a1) (rlo q_b0 q_b1) = l := ⟨_, rfl⟩
  obtain ⟨mh, hmh⟩ : ∃ l, rlo (rhi q_a0 q_a1) (rhi q_b0 q_b1) = l := ⟨_, rfl⟩
  have hM : ∀ x, rhas ml mh x ↔ rhas q_a0 q_a1 x ∧ rhas q_b0 q_b1 x := by rw [← hml, ← hmh]; exact meet_has hk
  have wm1 : decide (rin ml mh q_a0 q_a1) = true := by rw [← hml, ← hmh]; exact decide_eq_true (meet_in hk).1
  have wm2 : decide (rin ml mh q_b0 q_b1) = true := by rw [← hml, ← hmh]; exact decide_eq_true (meet_in hk).2
  obtain ⟨ul, hul⟩ : ∃ l, rlo (rlo q_a0 q_a1) (rlo q_b0 q_b1) = l := ⟨_, rfl⟩
  obtain ⟨uh, huh⟩ : ∃ l, rhi (rhi q_a0 q_a1) (rhi q_b0 q_b1) = l := ⟨_, rfl⟩
  have hul2 : rlo (rlo q_b0 q_b1) (rlo q_a0 q_a1) = ul := by rw [rlo_comm]; exact hul
  have huh2 : rhi (rhi q_b0 q_b1) (rhi q_a0 q_a1) = uh := by rw [rhi_comm]; exact huh
  have hU : ∀ x, rhas q_a0 q_a1 x ∨ rhas q_b0 q_b1 x → rhas ul uh x := by rw [← hul, ← huh]; exact fun x => hull_has
  have u1 : decide (rin q_a0 q_a1 ul uh) = true := by rw [← hul, ← huh]; exact decide_eq_true (hull_in _ _ _ _).1
  have u2 : decide (rin q_b0 q_b1 ul uh) = true := by rw [← hul, ← huh]; exact decide_eq_true (hull_in _ _ _ _).2
  replace hla := hide hla
  replace hha := hide hha
  replace hs := hide hs
  replace hx0 := hide hx0
  replace hk2 := hide hk2
  replace hn := hide hn
  replace hml := hide hml
  replace hmh := hide hmh
  replace hM := hide hM
  replace wm1 := hide wm1
  replace wm2 := hide wm2
  replace hul := hide hul
  replace huh := hide huh
  replace hul2 := hide hul2
  replace huh2 := hide huh2
  replace hU := hide hU
  replace u1 := hide u1
  replace u2 := hide u2
  replace hk := hide hk
  obtain ⟨W, hW⟩ : ∃ W, W = (((w.alloc (.cells #[.bool a0.s, .slice a0.A a0.n a0.c, .slice a0.B a0.m a0.d, .bool a1.s, .slice a1.A a1.n a1.c, .slice a1.B a1.m a1.d] 29)).alloc (.cells #[.bool b0.s, .slice b0.A b0.n b0.c, .slice b0.B b0.m b0.d, .bool b1.s, .slice b1.A b1.n b1.c, .slice b1.B b1.m b1.d] 29)).alloc (.cells #[.bool r.s, .slice r.A r.n r.c, .slice r.B r.m r.d] 27)) := ⟨_, rfl⟩
  have b_a : Box6 W (w.heap.size) (.bool a0.s) (.slice a0.A a0.n a0.c) (.slice a0.B a0.m a0.d) (.bool a1.s) (.slice a1.A a1.n a1.c) (.slice a1.B a1.m a1.d) := by rw [hW]; exact (((Box6.new w _ _ _ _ _ _ rfl).al _).al _)
  have b_b : Box6 W (w.heap.size + 1) (.bool b0.s) (.slice b0.A b0.n b0.c) (.slice b0.B b0.m b0.d) (.bool b1.s) (.slice b1.A b1.n b1.c) (.slice b1.B b1.m b1.d) := by rw [hW]; exact ((Box6.new _ _ _ _ _ _ _ (by simp)).al _)
  have b_r : Box3 W (w.heap.size + 1 + 1) (.bool r.s) (.slice r.A r.n r.c) (.slice r.B r.m r.d) := by rw [hW]; exact (Box3.new _ _ _ _ (by simp))
  have hwW : Below w.heap.size w W := by rw [hW]; exact ((((Below.refl _ _).alloc (Nat.le_refl _) _).alloc (by simp) _).alloc (by simp; omega) _)
  have R_a0 := hide (h_a0.upto hwW hB)
  clear h_a0
  have R_a1 := hide (h_a1.upto hwW hB)
  clear h_a1
  have R_b0 := hide (h_b0.upto hwW hB)
  clear h_b0
  have R_b1 := hide (h_b1.upto hwW hB)
  clear h_b1
  have R_r := hide (h_r.upto hwW hB)
  clear h_r
  have B := hide hwW
  clear hwW
  clear hB
  have U0 : Below W.heap.size W W := Below.refl _ _
  have c_a0 := b_a.at0 b_a.lt_size (Nat.le_refl _)
  have c_a1 := b_a.at1 b_a.lt_size (Nat.le_refl _)
  have c_a2 := b_a.at2 b_a.lt_size (Nat.le_refl _)
  have c_a3 := b_a.at3 b_a.lt_size (Nat.le_refl _)
  have c_a4 := b_a.at4 b_a.lt_size (Nat.le_refl _)
  have c_a5 := b_a.at5 b_a.lt_size (Nat.le_refl _)
  replace b_a := hide b_a
  have c_b0 := b_b.at0 b_b.lt_size (Nat.le_refl _)
  have c_b1 := b_b.at1 b_b.lt_size (Nat.le_refl _)
  have c_b2 := b_b.at2 b_b.lt_size (Nat.le_refl _)
  have c_b3 := b_b.at3 b_b.lt_size (Nat.le_refl _)
  have c_b4 := b_b.at4 b_b.lt_size (Nat.le_refl _)
  have c_b5 := b_b.at5 b_b.lt_size (Nat.le_refl _)
  replace b_b := hide b_b
  have c_r0 := b_r.at0 b_r.lt_size (Nat.le_refl _)
  have c_r1 := b_r.at1 b_r.lt_size (Nat.le_refl _)
  have c_r2 := b_r.at2 b_r.lt_size (Nat.le_refl _)
  replace b_r := hide b_r
  go_enter Try.func4, Try.ntmps4
  go_wp2_with fail
  rw [← hW]
  clear hW
  refine (meet_yes (L := 1048576) (by omega) R_a0.out R_a1.out R_b0.out R_b1.out (Nat.le_refl _) hk.out hml.out hmh.out).mono ?_
  rintro e w1 ⟨x_m0, x_m1, rfl, R_m0, R_m1, hb⟩
  replace R_a0 := hide (R_a0.out.then_ hb)
  replace R_a1 := hide (R_a1.out.then_ hb)
  replace R_b0 := hide (R_b0.out.then_ hb)
  replace R_b1 := hide (R_b1.out.then_ hb)
  replace R_r := hide (R_r.out.then_ hb)
  have U1 : Below W.heap.size W w1 := Below.then_ U0 hb
  replace B := hide (Below.then_ B.out hb)
  replace R_m0 := hide R_m0
  replace R_m1 := hide R_m1
  clear hb
  have hbx : Below w1.heap.size w1 (w1.alloc (.cells #[.bool x_m0.s, .slice x_m0.A x_m0.n x_m0.c, .slice x_m0.B x_m0.m x_m0.d, .bool x_m1.s, .slice x_m1.A x_m1.n x_m1.c, .slice x_m1.B x_m1.m x_m1.d] 29)) := ((Below.refl _ _).alloc (Nat.le_refl _) _)
  have Ux := Below.then_ U1 hbx
  go_wp2_with fail
  obtain ⟨V1, hV⟩ : ∃ V, V = (w1.alloc (.cells #[.bool x_m0.s, .slice x_m0.A x_m0.n x_m0.c, .slice x_m0.B x_m0.m x_m0.d, .bool x_m1.s, .slice x_m1.A x_m1.n x_m1.c, .slice x_m1.B x_m1.m x_m1.d] 29)) := ⟨_, rfl⟩
  obtain ⟨g_m, hg_m⟩ : ∃ g, g = w1.heap.size := ⟨_, rfl⟩
  rw [← hV]
  rw [← hV] at hbx Ux
  rw [← hg_m]
  have b_m : Box6 V1 g_m (.bool x_m0.s) (.slice x_m0.A x_m0.n x_m0.c) (.slice x_m0.B x_m0.m x_m0.d) (.bool x_m1.s) (.slice x_m1.A x_m1.n x_m1.c) (.slice x_m1.B x_m1.m x_m1.d) := by rw [hV]; exact (Box6.new _ _ _ _ _ _ _ hg_m)
  clear hV
  have ne_a_m : w.heap.size ≠ g_m := by have := (b_a.out.lt b_a.out.lt_size (Nat.le_refl _)) _ U1; omega
  replace ne_a_m := hide ne_a_m
  have ne_b_m : w.heap.size + 1 ≠ g_m := by have := (b_b.out.lt b_b.out.lt_size (Nat.le_refl _)) _ U1; omega
  replace ne_b_m := hide ne_b_m
  have ne_r_m : w.heap.size + 1 + 1 ≠ g_m := by have := (b_r.out.lt b_r.out.lt_size (Nat.le_refl _)) _ U1; omega
  replace ne_r_m := hide ne_r_m
  have ge_m : w.heap.size ≤ g_m := by have := B.out.size; omega
  replace ge_m := hide ge_m
  clear hg_m
  replace R_a0 := hide (R_a0.out.then_ hbx)
  replace R_a1 := hide (R_a1.out.then_ hbx)
  replace R_b0 := hide (R_b0.out.then_ hbx)
  replace R_b1 := hide (R_b1.out.then_ hbx)
  replace R_r := hide (R_r.out.then_ hbx)
  replace R_m0 := hide (R_m0.out.then_ hbx)
  replace R_m1 := hide (R_m1.out.then_ hbx)
  have U2 : Below W.heap.size W V1 := Below.then_ U1 hbx
  replace B := hide (Below.then_ B.out hbx)
  clear hbx
  replace b_a := hide (Box6.keep b_a.out U2)
  clear c_a0 c_a1 c_a2 c_a3 c_a4 c_a5
  replace b_b := hide (Box6.keep b_b.out U2)
  clear c_b0 c_b1 c_b2 c_b3 c_b4 c_b5
  replace b_r := hide (Box3.keep b_r.out U2)
  clear c_r0 c_r1 c_r2
  replace b_m := hide b_m
  have U3 : Below V1.heap.size V1 V1 := Below.refl _ _
  have c_a0 := b_a.out.at0 b_a.out.lt_size (Nat.le_refl _)
  have c_a1 := b_a.out.at1 b_a.out.lt_size (Nat.le_refl _)
  have c_a2 := b_a.out.at2 b_a.out.lt_size (Nat.le_refl _)
  have c_a3 := b_a.out.at3 b_a.out.lt_size (Nat.le_refl _)
  have c_a4 := b_a.out.at4 b_a.out.lt_size (Nat.le_refl _)
  have c_a5 := b_a.out.at5 b_a.out.lt_size (Nat.le_refl _)
  have c_b0 := b_b.out.at0 b_b.out.lt_size (Nat.le_refl _)
  have c_b1 := b_b.out.at1 b_b.out.lt_size (Nat.le_refl _)
  have c_b2 := b_b.out.at2 b_b.out.lt_size (Nat.le_refl _)
  have c_b3 := b_b.out.at3 b_b.out.lt_size (Nat.le_refl _)
  have c_b4 := b_b.out.at4 b_b.out.lt_size (Nat.le_refl _)
  have c_b5 := b_b.out.at5 b_b.out.lt_size (Nat.le_refl _)
  have c_r0 := b_r.out.at0 b_r.out.lt_size (Nat.le_refl _)
  have c_r1 := b_r.out.at1 b_r.out.lt_size (Nat.le_refl _)
  have c_r2 := b_r.out.at2 b_r.out.lt_size (Nat.le_refl _)
  have c_m0 := b_m.out.at0 b_m.out.lt_size (Nat.le_refl _)
  have c_m1 := b_m.out.at1 b_m.out.lt_size (Nat.le_refl _)
  have c_m2 := b_m.out.at2 b_m.out.lt_size (Nat.le_refl _)
  have c_m3 := b_m.out.at3 b_m.out.lt_size (Nat.le_refl _)
  have c_m4 := b_m.out.at4 b_m.out.lt_size (Nat.le_refl _)
  have c_m5 := b_m.out.at5 b_m.out.lt_size (Nat.le_refl _)
  go_wp2_with fail
  have hd := Below.drw_ V1
  replace R_a0 := hide (R_a0.out.then_ hd)
  replace R_a1 := hide (R_a1.out.then_ hd)
  replace R_b0 := hide (R_b0.out.then_ hd)
  replace R_b1 := hide (R_b1.out.then_ hd)
  replace R_r := hide (R_r.out.then_ hd)
  replace R_m0 := hide (R_m0.out.then_ hd)
  replace R_m1 := hide (R_m1.out.then_ hd)
  have U4 : Below V1.heap.size V1 (V1.drew) := Below.then_ U3 hd
  replace B := hide (Below.then_ B.out hd)
  clear hd
  have tok1 : True := trivial
  go_region_held3 (fun w' => Below V1.heap.size V1 w') (assumption)
    (first
      | (go_at_call 18; (have _t := tok1; (with_reducible refine (order_any (L := 1048576) (by omega) (Rq.le (M := 1048576) R_a0.out (by omega)) (Rq.le (M := 1048576) R_a1.out (by omega)) (Rq.le (M := 1048576) R_b0.out (by omega)) (Rq.le (M := 1048576) R_b1.out (by omega)) (Nat.le_refl _) hk.out).mono ?_); rintro e w2 ⟨rfl, hb⟩; replace R_a0 := hide (R_a0.out.then_ hb); replace R_a1 := hide (R_a1.out.then_ hb); replace R_b0 := hide (R_b0.out.then_ hb); replace R_b1 := hide (R_b1.out.then_ hb); replace R_r := hide (R_r.out.then_ hb); replace R_m0 := hide (R_m0.out.then_ hb); replace R_m1 := hide (R_m1.out.then_ hb); have U5 : Below V1.heap.size V1 w2 := Below.then_ U4 hb; replace B := hide (Below.then_ B.out hb); clear hb; have tok2 : True := trivial; clear _t tok1))
      | (go_at_call 18; (have _t := tok2; (with_reducible refine (order_any (L := 1048576) (by omega) (Rq.le (M := 1048576) R_b0.out (by omega)) (Rq.le (M := 1048576) R_b1.out (by omega)) (Rq.le (M := 1048576) R_a0.out (by omega)) (Rq.le (M := 1048576) R_a1.out (by omega)) (Nat.le_refl _) hk2.out).mono ?_); rintro e w3 ⟨rfl, hb⟩; replace R_a0 := hide (R_a0.out.then_ hb); replace R_a1 := hide (R_a1.out.then_ hb); replace R_b0 := hide (R_b0.out.then_ hb); replace R_b1 := hide (R_b1.out.then_ hb); replace R_r := hide (R_r.out.then_ hb); replace R_m0 := hide (R_m0.out.then_ hb); replace R_m1 := hide (R_m1.out.then_ hb); have U6 : Below V1.heap.size V1 w3 := Below.then_ U5 hb; replace B := hide (Below.then_ B.out hb); clear hb; have tok3 : True := trivial; clear _t tok2))
      | (go_at_call 18; (have _t := tok3; (with_reducible refine (order_any (L := 1048576) (by omega) (Rq.le (M := 1048576) R_a0.out (by omega)) (Rq.le (M := 1048576) R_a1.out (by omega)) (Rq.le (M := 1048576) R_b0.out (by omega)) (Rq.le (M := 1048576) R_b1.out (by omega)) (Nat.le_refl _) hk.out).mono ?_); rintro e w4 ⟨rfl, hb⟩; replace R_a0 := hide (R_a0.out.then_ hb); replace R_a1 := hide (R_a1.out.then_ hb); replace R_b0 := hide (R_b0.out.then_ hb); replace R_b1 := hide (R_b1.out.then_ hb); replace R_r := hide (R_r.out.then_ hb); replace R_m0 := hide (R_m0.out.then_ hb); replace R_m1 := hide (R_m1.out.then_ hb); have U7 : Below V1.heap.size V1 w4 := Below.then_ U6 hb; replace B := hide (Below.then_ B.out hb); clear hb; have tok4 : True := trivial; clear _t tok3)))
  clear tok4
  go_wp2_with fail
  have hd := Below.drw_ w4
  replace R_a0 := hide (R_a0.out.then_ hd)
  replace R_a1 := hide (R_a1.out.then_ hd)
  replace R_b0 := hide (R_b0.out.then_ hd)
  replace R_b1 := hide (R_b1.out.then_ hd)
  replace R_r := hide (R_r.out.then_ hd)
  replace R_m0 := hide (R_m0.out.then_ hd)
  replace R_m1 := hide (R_m1.out.then_ hd)
  have U8 : Below V1.heap.size V1 (w4.drew) := Below.then_ U7 hd
  replace B := hide (Below.then_ B.out hd)
  clear hd
  have tok5 : True := trivial
  go_region_held3 (fun w' => Below V1.heap.size V1 w') (first | (with_reducible assumption) | (with_reducible exact Below.al_ (by with_reducible assumption) _))
    (first
      | (go_at_call 7; (have _t := tok5; (with_reducible refine (between_any (L := 1048576) (by omega) R_a0.out R_a1.out (Nat.le_refl _) hn.out hla.out hha.out hs.out hx0.out).mono ?_); rintro e w5 ⟨x_z, rfl, R_z, hb⟩; replace R_a0 := hide (R_a0.out.then_ hb); replace R_a1 := hide (R_a1.out.then_ hb); replace R_b0 := hide (R_b0.out.then_ hb); replace R_b1 := hide (R_b1.out.then_ hb); replace R_r := hide (R_r.out.then_ hb); replace R_m0 := hide (R_m0.out.then_ hb); replace R_m1 := hide (R_m1.out.then_ hb); have U9 : Below V1.heap.size V1 w5 := Below.then_ U8 hb; replace B := hide (Below.then_ B.out hb); replace R_z := hide R_z; clear hb; have tok6 : True := trivial; clear _t tok5)))
  clear tok6
  have hbx : Below w5.heap.size w5 (w5.alloc (.cells #[.bool r.s, .slice r.A r.n r.c, .slice r.B r.m r.d, .bool a0.s, .slice a0.A a0.n a0.c, .slice a0.B a0.m a0.d, .bool b0.s, .slice b0.A b0.n b0.c, .slice b0.B b0.m b0.d, .bool a1.s, .slice a1.A a1.n a1.c, .slice a1.B a1.m a1.d, .bool b1.s, .slice b1.A b1.n b1.c, .slice b1.B b1.m b1.d, .bool x_z.s, .slice x_z.A x_z.n x_z.c, .slice x_z.B x_z.m x_z.d] 27)) := Below.al_ (Below.refl _ _) _
  have row : Row6 (w5.alloc (.cells #[.bool r.s, .slice r.A r.n r.c, .slice r.B r.m r.d, .bool a0.s, .slice a0.A a0.n a0.c, .slice a0.B a0.m a0.d, .bool b0.s, .slice b0.A b0.n b0.c, .slice b0.B b0.m b0.d, .bool a1.s, .slice a1.A a1.n a1.c, .slice a1.B a1.m a1.d, .bool b1.s, .slice b1.A b1.n b1.c, .slice b1.B b1.m b1.d, .bool x_z.s, .slice x_z.A x_z.n x_z.c, .slice x_z.B x_z.m x_z.d] 27)) w5.heap.size (e6 r a0 b0 a1 b1 x_z) := Row6.new w5 _ _ _ _ _ _ rfl
  go_wp2
  obtain ⟨g, hg⟩ : ∃ g, g = w5.heap.size := ⟨_, rfl⟩
  obtain ⟨V, hV⟩ : ∃ V, V = w5.alloc (.cells #[.bool r.s, .slice r.A r.n r.c, .slice r.B r.m r.d, .bool a0.s, .slice a0.A a0.n a0.c, .slice a0.B a0.m a0.d, .bool b0.s, .slice b0.A b0.n b0.c, .slice b0.B b0.m b0.d, .bool a1.s, .slice a1.A a1.n a1.c, .slice a1.B a1.m a1.d, .bool b1.s, .slice b1.A b1.n b1.c, .slice b1.B b1.m b1.d, .bool x_z.s, .slice x_z.A x_z.n x_z.c, .slice x_z.B x_z.m x_z.d] 27) := ⟨_, rfl⟩
  rw [← hg, ← hV] at row
  rw [← hV] at hbx
  rw [← hg, ← hV]
  clear hg hV
  replace R_a0 := hide (R_a0.out.then_ hbx)
  replace R_a1 := hide (R_a1.out.then_ hbx)
  replace R_b0 := hide (R_b0.out.then_ hbx)
  replace R_b1 := hide (R_b1.out.then_ hbx)
  replace R_r := hide (R_r.out.then_ hbx)
  replace R_m0 := hide (R_m0.out.then_ hbx)
  replace R_m1 := hide (R_m1.out.then_ hbx)
  replace R_z := hide (R_z.out.then_ hbx)
  have U10 : Below V1.heap.size V1 V := Below.then_ U9 hbx
  replace B := hide (Below.then_ B.out hbx)
  clear hbx
  replace b_a := hide (Box6.keep b_a.out U10)
  clear c_a0 c_a1 c_a2 c_a3 c_a4 c_a5
  replace b_b := hide (Box6.keep b_b.out U10)
  clear c_b0 c_b1 c_b2 c_b3 c_b4 c_b5
  replace b_r := hide (Box3.keep b_r.out U10)
  clear c_r0 c_r1 c_r2
  replace b_m := hide (Box6.keep b_m.out U10)
  clear c_m0 c_m1 c_m2 c_m3 c_m4 c_m5
  have U11 : Below V.heap.size V V := Below.refl _ _
  have c_a0 := b_a.out.at0 b_a.out.lt_size (Nat.le_refl _)
  have c_a1 := b_a.out.at1 b_a.out.lt_size (Nat.le_refl _)
  have c_a2 := b_a.out.at2 b_a.out.lt_size (Nat.le_refl _)
  have c_a3 := b_a.out.at3 b_a.out.lt_size (Nat.le_refl _)
  have c_a4 := b_a.out.at4 b_a.out.lt_size (Nat.le_refl _)
  have c_a5 := b_a.out.at5 b_a.out.lt_size (Nat.le_refl _)
  have c_b0 := b_b.out.at0 b_b.out.lt_size (Nat.le_refl _)
  have c_b1 := b_b.out.at1 b_b.out.lt_size (Nat.le_refl _)
  have c_b2 := b_b.out.at2 b_b.out.lt_size (Nat.le_refl _)
  have c_b3 := b_b.out.at3 b_b.out.lt_size (Nat.le_refl _)
  have c_b4 := b_b.out.at4 b_b.out.lt_size (Nat.le_refl _)
  have c_b5 := b_b.out.at5 b_b.out.lt_size (Nat.le_refl _)
  have c_r0 := b_r.out.at0 b_r.out.lt_size (Nat.le_refl _)
  have c_r1 := b_r.out.at1 b_r.out.lt_size (Nat.le_refl _)
  have c_r2 := b_r.out.at2 b_r.out.lt_size (Nat.le_refl _)
  have c_m0 := b_m.out.at0 b_m.out.lt_size (Nat.le_refl _)
  have c_m1 := b_m.out.at1 b_m.out.lt_size (Nat.le_refl _)
  have c_m2 := b_m.out.at2 b_m.out.lt_size (Nat.le_refl _)
  have c_m3 := b_m.out.at3 b_m.out.lt_size (Nat.le_refl _)
  have c_m4 := b_m.out.at4 b_m.out.lt_size (Nat.le_refl _)
  have c_m5 := b_m.out.at5 b_m.out.lt_size (Nat.le_refl _)
  have rows : ∀ k, k < 6 → Rq V V.heap.size 3145748 (e6 r a0 b0 a1 b1 x_z k) (e6 q_r q_a0 q_b0 q_a1 q_b1 x0 k) := e6_all (P := fun x q => Rq V V.heap.size 3145748 x q) ((R_r.out).le (M := 3145748) (by omega)) ((R_a0.out).le (M := 3145748) (by omega)) ((R_b0.out).le (M := 3145748) (by omega)) ((R_a1.out).le (M := 3145748) (by omega)) ((R_b1.out).le (M := 3145748) (by omega)) ((Nq.rq R_z.out).le (M := 3145748) (by omega))
  generalize e6 r a0 b0 a1 b1 x_z = E at row rows
  generalize e6 q_r q_a0 q_b0 q_a1 q_b1 x0 = vv at rows
  replace row := hide row
  replace rows := hide rows
  clear R_r R_z
  go_loopw [49] (fun i wr => ∃ k : Nat, k ≤ 6 ∧ i = .int .i64 k ∧ Below V.heap.size V wr) (fun i _ => 6 - (intOf i).toNat)
  case atStart => exact ⟨0, by omega, rfl, Below.refl _ _⟩
  case round =>
    obtain ⟨k, hk6, rfl, hV⟩ := hrel
    by_cases hkl : k < 6
    · skip
      replace R_a0 := hide (R_a0.out.then_ hV)
      replace R_a1 := hide (R_a1.out.then_ hV)
      replace R_b0 := hide (R_b0.out.then_ hV)
      replace R_b1 := hide (R_b1.out.then_ hV)
      replace R_m0 := hide (R_m0.out.then_ hV)
      replace R_m1 := hide (R_m1.out.then_ hV)
      replace B := hide (Below.then_ B.out hV)
      have U99 : Below V.heap.size V wr := hV
      have hrow := row.out.keep hV
      have d0 := hrow.at0 hkl
      have d1 := hrow.at1 hkl
      have d2 := hrow.at2 hkl
      have lg := hrow.lt
      have R_x := hide ((rows.out k hkl).then_ hV)
      have i0 : (0 : Int) ≤ (k : Int) := by omega
      have i1 : (k : Int) < 6 := by omega
      generalize E k = x at R_x d0 d1 d2
      generalize vv k = xq at R_x
      clear hrow
      have hbx : Below wr.heap.size wr (wr.alloc (.cells #[.bool x.s, .slice x.A x.n x.c, .slice x.B x.m x.d] 27)) := ((Below.refl _ _).alloc (Nat.le_refl _) _)
      have Ux := Below.then_ U99 hbx
      go_wp2_with fail
      obtain ⟨V11, hV⟩ : ∃ V, V = (wr.alloc (.cells #[.bool x.s, .slice x.A x.n x.c, .slice x.B x.m x.d] 27)) := ⟨_, rfl⟩
      obtain ⟨g_x, hg_x⟩ : ∃ g, g = wr.heap.size := ⟨_, rfl⟩
      rw [← hV]
      rw [← hV] at hbx Ux
      rw [← hg_x]
      have b_x : Box3 V11 g_x (.bool x.s) (.slice x.A x.n x.c) (.slice x.B x.m x.d) := by rw [hV]; exact (Box3.new _ _ _ _ hg_x)
      clear hV
      have ne_a_x : w.heap.size ≠ g_x := by have := (b_a.out.lt b_a.out.lt_size (Nat.le_refl _)) _ U99; omega
      replace ne_a_x := hide ne_a_x
      have ne_b_x : w.heap.size + 1 ≠ g_x := by have := (b_b.out.lt b_b.out.lt_size (Nat.le_refl _)) _ U99; omega
      replace ne_b_x := hide ne_b_x
      have ne_r_x : w.heap.size + 1 + 1 ≠ g_x := by have := (b_r.out.lt b_r.out.lt_size (Nat.le_refl _)) _ U99; omega
      replace ne_r_x := hide ne_r_x
      have ne_m_x : g_m ≠ g_x := by have := (b_m.out.lt b_m.out.lt_size (Nat.le_refl _)) _ U99; omega
      replace ne_m_x := hide ne_m_x
      have ge_x : w.heap.size ≤ g_x := by have := B.out.size; omega
      replace ge_x := hide ge_x
      clear hg_x
      replace R_a0 := hide (R_a0.out.then_ hbx)
      replace R_a1 := hide (R_a1.out.then_ hbx)
      replace R_b0 := hide (R_b0.out.then_ hbx)
      replace R_b1 := hide (R_b1.out.then_ hbx)
      replace R_m0 := hide (R_m0.out.then_ hbx)
      replace R_m1 := hide (R_m1.out.then_ hbx)
      replace R_x := hide (R_x.out.then_ hbx)
      have U12 : Below V.heap.size V V11 := Below.then_ U99 hbx
      replace B := hide (Below.then_ B.out hbx)
      clear hbx
      replace b_a := hide (Box6.keep b_a.out U12)
      clear c_a0 c_a1 c_a2 c_a3 c_a4 c_a5
      replace b_b := hide (Box6.keep b_b.out U12)
      clear c_b0 c_b1 c_b2 c_b3 c_b4 c_b5
      replace b_r := hide (Box3.keep b_r.out U12)
      clear c_r0 c_r1 c_r2
      replace b_m := hide (Box6.keep b_m.out U12)
      clear c_m0 c_m1 c_m2 c_m3 c_m4 c_m5
      replace b_x := hide b_x
      have U13 : Below V11.heap.size V11 V11 := Below.refl _ _
      have c_a0 := b_a.out.at0 b_a.out.lt_size (Nat.le_refl _)
      have c_a1 := b_a.out.at1 b_a.out.lt_size (Nat.le_refl _)
      have c_a2 := b_a.out.at2 b_a.out.lt_size (Nat.le_refl _)
      have c_a3 := b_a.out.at3 b_a.out.lt_size (Nat.le_refl _)
      have c_a4 := b_a.out.at4 b_a.out.lt_size (Nat.le_refl _)
      have c_a5 := b_a.out.at5 b_a.out.lt_size (Nat.le_refl _)
      have c_b0 := b_b.out.at0 b_b.out.lt_size (Nat.le_refl _)
      have c_b1 := b_b.out.at1 b_b.out.lt_size (Nat.le_refl _)
      have c_b2 := b_b.out.at2 b_b.out.lt_size (Nat.le_refl _)
      have c_b3 := b_b.out.at3 b_b.out.lt_size (Nat.le_refl _)
      have c_b4 := b_b.out.at4 b_b.out.lt_size (Nat.le_refl _)
      have c_b5 := b_b.out.at5 b_b.out.lt_size (Nat.le_refl _)
      have c_r0 := b_r.out.at0 b_r.out.lt_size (Nat.le_refl _)
      have c_r1 := b_r.out.at1 b_r.out.lt_size (Nat.le_refl _)
      have c_r2 := b_r.out.at2 b_r.out.lt_size (Nat.le_refl _)
      have c_m0 := b_m.out.at0 b_m.out.lt_size (Nat.le_refl _)
      have c_m1 := b_m.out.at1 b_m.out.lt_size (Nat.le_refl _)
      have c_m2 := b_m.out.at2 b_m.out.lt_size (Nat.le_refl _)
      have c_m3 := b_m.out.at3 b_m.out.lt_size (Nat.le_refl _)
      have c_m4 := b_m.out.at4 b_m.out.lt_size (Nat.le_refl _)
      have c_m5 := b_m.out.at5 b_m.out.lt_size (Nat.le_refl _)
      have c_x0 := b_x.out.at0 b_x.out.lt_size (Nat.le_refl _)
      have c_x1 := b_x.out.at1 b_x.out.lt_size (Nat.le_refl _)
      have c_x2 := b_x.out.at2 b_x.out.lt_size (Nat.le_refl _)
      clear d0 d1 d2 lg
      have hbv : Below V.heap.size V V11 := Ux
      by_cases hA : rhas q_a0 q_a1 xq
      · by_cases hB : rhas q_b0 q_b1 xq
        · skip
          have eA : decide (rhas q_a0 q_a1 xq) = true := decide_eq_true hA
          have eB : decide (rhas q_b0 q_b1 xq) = true := decide_eq_true hB
          have eM : decide (rhas ml mh xq) = true := decide_eq_true ((hM.out xq).2 ⟨hA, hB⟩)
          have eU : decide (rhas ul uh xq) = true := decide_eq_true (hU.out xq (Or.inl hA))
          clear hA hB
          replace eA := hide eA
          replace eB := hide eB
          replace eM := hide eM
          replace eU := hide eU
          have hd := Below.drw_ V11
          replace R_a0 := hide (R_a0.out.then_ hd)
          replace R_a1 := hide (R_a1.out.then_ hd)
          replace R_b0 := hide (R_b0.out.then_ hd)
          replace R_b1 := hide (R_b1.out.then_ hd)
          replace R_m0 := hide (R_m0.out.then_ hd)
          replace R_m1 := hide (R_m1.out.then_ hd)
          replace R_x := hide (R_x.out.then_ hd)
          have U14 : Below V11.heap.size V11 (V11.drew) := Below.then_ U13 hd
          replace B := hide (Below.then_ B.out hd)
          clear hd
          have tok7 : True := trivial
          go_region_held3 (fun w' => Below V11.heap.size V11 w') (assumption)
            (first
              | (go_at_call 8; (have _t := tok7; (with_reducible refine (has_any (L := 3145748) (by omega) (Rq.le (M := 3145748) (Nq.rq R_m0.out) (by omega)) (Rq.le (M := 3145748) (Nq.rq R_m1.out) (by omega)) (Rq.le (M := 3145748) R_x.out (by omega)) (Nat.le_refl _) eM.out).mono ?_); rintro e w6 ⟨rfl, hb⟩; replace R_a0 := hide (R_a0.out.then_ hb); replace R_a1 := hide (R_a1.out.then_ hb); replace R_b0 := hide (R_b0.out.then_ hb); replace R_b1 := hide (R_b1.out.then_ hb); replace R_m0 := hide (R_m0.out.then_ hb); replace R_m1 := hide (R_m1.out.then_ hb); replace R_x := hide (R_x.out.then_ hb); have U15 : Below V11.heap.size V11 w6 := Below.then_ U14 hb; replace B := hide (Below.then_ B.out hb); clear hb; have tok8 : True := trivial; clear _t tok7))
              | (go_at_call 8; (have _t := tok8; (with_reducible refine (has_any (L := 3145748) (by omega) (Rq.le (M := 3145748) R_a0.out (by omega)) (Rq.le (M := 3145748) R_a1.out (by omega)) (Rq.le (M := 3145748) R_x.out (by omega)) (Nat.le_refl _) eA.out).mono ?_); rintro e w7 ⟨rfl, hb⟩; replace R_a0 := hide (R_a0.out.then_ hb); replace R_a1 := hide (R_a1.out.then_ hb); replace R_b0 := hide (R_b0.out.then_ hb); replace R_b1 := hide (R_b1.out.then_ hb); replace R_m0 := hide (R_m0.out.then_ hb); replace R_m1 := hide (R_m1.out.then_ hb); replace R_x := hide (R_x.out.then_ hb); have U16 : Below V11.heap.size V11 w7 := Below.then_ U15 hb; replace B := hide (Below.then_ B.out hb); clear hb; have tok9 : True := trivial; clear _t tok8))
              | (go_at_call 8; (have _t := tok9; (with_reducible refine (has_any (L := 3145748) (by omega) (Rq.le (M := 3145748) R_b0.out (by omega)) (Rq.le (M := 3145748) R_b1.out (by omega)) (Rq.le (M := 3145748) R_x.out (by omega)) (Nat.le_refl _) eB.out).mono ?_); rintro e w8 ⟨rfl, hb⟩; replace R_a0 := hide (R_a0.out.then_ hb); replace R_a1 := hide (R_a1.out.then_ hb); replace R_b0 := hide (R_b0.out.then_ hb); replace R_b1 := hide (R_b1.out.then_ hb); replace R_m0 := hide (R_m0.out.then_ hb); replace R_m1 := hide (R_m1.out.then_ hb); replace R_x := hide (R_x.out.then_ hb); have U17 : Below V11.heap.size V11 w8 := Below.then_ U16 hb; replace B := hide (Below.then_ B.out hb); clear hb; have tok10 : True := trivial; clear _t tok9)))
          clear tok10
          go_wp2_with fail
          have hd := Below.drw_ w8
          replace R_a0 := hide (R_a0.out.then_ hd)
          replace R_a1 := hide (R_a1.out.then_ hd)
          replace R_b0 := hide (R_b0.out.then_ hd)
          replace R_b1 := hide (R_b1.out.then_ hd)
          replace R_m0 := hide (R_m0.out.then_ hd)
          replace R_m1 := hide (R_m1.out.then_ hd)
          replace R_x := hide (R_x.out.then_ hd)
          have U18 : Below V11.heap.size V11 (w8.drew) := Below.then_ U17 hd
          replace B := hide (Below.then_ B.out hd)
          clear hd
          refine region_seq (S := fun w' => Below V11.heap.size V11 w') [(true, 0), (true, 1), (false, 2), (true, 3), (true, 4), (true, 5), (false, 6), (true, 7), (true, 8), (true, 9), (true, 10), (true, 12), (false, 11), (false, 13), (true, 14), (true, 15)] (by kernel_rfl) (by kernel_rfl) (by kernel_rfl) (by decide) U18 ?_
          simp only [List.map_cons, List.map_nil, List.getElem?_toArray, List.getElem?_cons_succ, List.getElem?_cons_zero]
          repeat (first | ((with_reducible refine seq_take (v := ?_) ?_ ?_ ?_); rotate_left; (exact rfl); (focus (intro w' hSw; go_simp; try with_reducible rfl)); (try simp only [Act.put, List.setIfInBounds_toArray, List.set_cons_zero, List.set_cons_succ])) | ((with_reducible refine seq_pass ?_ ?_); (exact rfl); (try simp only [Act.put, List.setIfInBounds_toArray, List.set_cons_zero, List.set_cons_succ])))
          (with_reducible refine seq_call ?_ (fun K hK => ?_))
          (exact rfl)
          go_simp
          refine (has_any (L := 3145748) (by omega) (Rq.le (M := 3145748) R_a0.out (by omega)) (Rq.le (M := 3145748) R_a1.out (by omega)) (Rq.le (M := 3145748) R_x.out (by omega)) (Nat.le_refl _) eA.out).mono ?_
          rintro e w9 ⟨rfl, hb⟩
          replace R_a0 := hide (R_a0.out.then_ hb)
          replace R_a1 := hide (R_a1.out.then_ hb)
          replace R_b0 := hide (R_b0.out.then_ hb)
          replace R_b1 := hide (R_b1.out.then_ hb)
          replace R_m0 := hide (R_m0.out.then_ hb)
          replace R_m1 := hide (R_m1.out.then_ hb)
          replace R_x := hide (R_x.out.then_ hb)
          have U19 : Below V11.heap.size V11 w9 := Below.then_ U18 hb
          replace B := hide (Below.then_ B.out hb)
          clear hb
          refine hK.out _ _ U19 ?_
          clear hK K
          (try simp only [Act.put, List.setIfInBounds_toArray, List.set_cons_zero, List.set_cons_succ])
          repeat (first | ((with_reducible refine seq_take (v := ?_) ?_ ?_ ?_); rotate_left; (exact rfl); (focus (intro w' hSw; go_simp; try with_reducible rfl)); (try simp only [Act.put, List.setIfInBounds_toArray, List.set_cons_zero, List.set_cons_succ])) | ((with_reducible refine seq_pass ?_ ?_); (exact rfl); (try simp only [Act.put, List.setIfInBounds_toArray, List.set_cons_zero, List.set_cons_succ])))
          (with_reducible refine seq_idle ?_ U19 ?_)
          (exact rfl)
          (try simp only [Act.put, List.setIfInBounds_toArray, List.set_cons_zero, List.set_cons_succ])
          repeat (first | ((with_reducible refine seq_take (v := ?_) ?_ ?_ ?_); rotate_left; (exact rfl); (focus (intro w' hSw; go_simp; try with_reducible rfl)); (try simp only [Act.put, List.setIfInBounds_toArray, List.set_cons_zero, List.set_cons_succ])) | ((with_reducible refine seq_pass ?_ ?_); (exact rfl); (try simp only [Act.put, List.setIfInBounds_toArray, List.set_cons_zero, List.set_cons_succ])))
          (with_reducible refine seq_call ?_ (fun K hK => ?_))
          (exact rfl)
          go_simp
          refine (hull_any (L := 1048576) (by omega) (Rq.le (M := 1048576) R_a0.out (by omega)) (Rq.le (M := 1048576) R_a1.out (by omega)) (Rq.le (M := 1048576) R_b0.out (by omega)) (Rq.le (M := 1048576) R_b1.out (by omega)) (Nat.le_refl _) hul.out huh.out).mono ?_
          rintro e w10 ⟨x_h0, x_h1, rfl, R_h0, R_h1, hb⟩
          replace R_a0 := hide (R_a0.out.then_ hb)
          replace R_a1 := hide (R_a1.out.then_ hb)
          replace R_b0 := hide (R_b0.out.then_ hb)
          replace R_b1 := hide (R_b1.out.then_ hb)
          replace R_m0 := hide (R_m0.out.then_ hb)
          replace R_m1 := hide (R_m1.out.then_ hb)
          replace R_x := hide (R_x.out.then_ hb)
          have U20 : Below V11.heap.size V11 w10 := Below.then_ U19 hb
          replace B := hide (Below.then_ B.out hb)
          replace R_h0 := hide R_h0
          replace R_h1 := hide R_h1
          clear hb
          refine hK.out _ _ U20 ?_
          clear hK K
          (try simp only [Act.put, List.setIfInBounds_toArray, List.set_cons_zero, List.set_cons_succ])
          repeat (first | ((with_reducible refine seq_take (v := ?_) ?_ ?_ ?_); rotate_left; (exact rfl); (focus (intro w' hSw; go_simp; try with_reducible rfl)); (try simp only [Act.put, List.setIfInBounds_toArray, List.set_cons_zero, List.set_cons_succ])) | ((with_reducible refine seq_pass ?_ ?_); (exact rfl); (try simp only [Act.put, List.setIfInBounds_toArray, List.set_cons_zero, List.set_cons_succ])))
          (with_reducible refine seq_call ?_ (fun K hK => ?_))
          (exact rfl)
          go_simp
          refine (has_any (L := 3145748) (by omega) (Rq.le (M := 3145748) (Nq.rq R_h0.out) (by omega)) (Rq.le (M := 3145748) (Nq.rq R_h1.out) (by omega)) (Rq.le (M := 3145748) R_x.out (by omega)) (Nat.le_refl _) eU.out).mono ?_
          rintro e w11 ⟨rfl, hb⟩
          replace R_a0 := hide (R_a0.out.then_ hb)
          replace R_a1 := hide (R_a1.out.then_ hb)
          replace R_b0 := hide (R_b0.out.then_ hb)
          replace R_b1 := hide (R_b1.out.then_ hb)
          replace R_m0 := hide (R_m0.out.then_ hb)
          replace R_m1 := hide (R_m1.out.then_ hb)
          replace R_x := hide (R_x.out.then_ hb)
          replace R_h0 := hide (R_h0.out.then_ hb)
          replace R_h1 := hide (R_h1.out.then_ hb)
          have U21 : Below V11.heap.size V11 w11 := Below.then_ U20 hb
          replace B := hide (Below.then_ B.out hb)
          clear hb
          refine hK.out _ _ U21 ?_
          clear hK K
          (try simp only [Act.put, List.setIfInBounds_toArray, List.set_cons_zero, List.set_cons_succ])
          repeat (first | ((with_reducible refine seq_take (v := ?_) ?_ ?_ ?_); rotate_left; (exact rfl); (focus (intro w' hSw; go_simp; try with_reducible rfl)); (try simp only [Act.put, List.setIfInBounds_toArray, List.set_cons_zero, List.set_cons_succ])) | ((with_reducible refine seq_pass ?_ ?_); (exact rfl); (try simp only [Act.put, List.setIfInBounds_toArray, List.set_cons_zero, List.set_cons_succ])))
          refine seq_done ?_
          go_wp2
          go_roundw
          case rel => exact ⟨k + 1, by omega, by go_num, Below.then_ hbv U21⟩
          case measure => simp [intOf]; omega
        · skip
          have eA : decide (rhas q_a0 q_a1 xq) = true := decide_eq_true hA
          have eB : decide (rhas q_b0 q_b1 xq) = false := decide_eq_false hB
          have eM : decide (rhas ml mh xq) = false := decide_eq_false (fun h => hB ((hM.out xq).1 h).2)
          have eU : decide (rhas ul uh xq) = true := decide_eq_true (hU.out xq (Or.inl hA))
          clear hA hB
          replace eA := hide eA
          replace eB := hide eB
          replace eM := hide eM
          replace eU := hide eU
          have hd := Below.drw_ V11
          replace R_a0 := hide (R_a0.out.then_ hd)
          replace R_a1 := hide (R_a1.out.then_ hd)
          replace R_b0 := hide (R_b0.out.then_ hd)
          replace R_b1 := hide (R_b1.out.then_ hd)
          replace R_m0 := hide (R_m0.out.then_ hd)
          replace R_m1 := hide (R_m1.out.then_ hd)
          replace R_x := hide (R_x.out.then_ hd)
          have U14 : Below V11.heap.size V11 (V11.drew) := Below.then_ U13 hd
          replace B := hide (Below.then_ B.out hd)
          clear hd
          have tok7 : True := trivial
          go_region_held3 (fun w' => Below V11.heap.size V11 w') (assumption)
            (first
              | (go_at_call 8; (have _t := tok7; (with_reducible refine (has_any (L := 3145748) (by omega) (Rq.le (M := 3145748) (Nq.rq R_m0.out) (by omega)) (Rq.le (M := 3145748) (Nq.rq R_m1.out) (by omega)) (Rq.le (M := 3145748) R_x.out (by omega)) (Nat.le_refl _) eM.out).mono ?_); rintro e w6 ⟨rfl, hb⟩; replace R_a0 := hide (R_a0.out.then_ hb); replace R_a1 := hide (R_a1.out.then_ hb); replace R_b0 := hide (R_b0.out.then_ hb); replace R_b1 := hide (R_b1.out.then_ hb); replace R_m0 := hide (R_m0.out.then_ hb); replace R_m1 := hide (R_m1.out.then_ hb); replace R_x := hide (R_x.out.then_ hb); have U15 : Below V11.heap.size V11 w6 := Below.then_ U14 hb; replace B := hide (Below.then_ B.out hb); clear hb; have tok8 : True := trivial; clear _t tok7))
              | (go_at_call 8; (have _t := tok8; (with_reducible refine (has_any (L := 3145748) (by omega) (Rq.le (M := 3145748) R_a0.out (by omega)) (Rq.le (M := 3145748) R_a1.out (by omega)) (Rq.le (M := 3145748) R_x.out (by omega)) (Nat.le_refl _) eA.out).mono ?_); rintro e w7 ⟨rfl, hb⟩; replace R_a0 := hide (R_a0.out.then_ hb); replace R_a1 := hide (R_a1.out.then_ hb); replace R_b0 := hide (R_b0.out.then_ hb); replace R_b1 := hide (R_b1.out.then_ hb); replace R_m0 := hide (R_m0.out.then_ hb); replace R_m1 := hide (R_m1.out.then_ hb); replace R_x := hide (R_x.out.then_ hb); have U16 : Below V11.heap.size V11 w7 := Below.then_ U15 hb; replace B := hide (Below.then_ B.out hb); clear hb; have tok9 : True := trivial; clear _t tok8))
              | (go_at_call 8; (have _t := tok9; (with_reducible refine (has_any (L := 3145748) (by omega) (Rq.le (M := 3145748) R_b0.out (by omega)) (Rq.le (M := 3145748) R_b1.out (by omega)) (Rq.le (M := 3145748) R_x.out (by omega)) (Nat.le_refl _) eB.out).mono ?_); rintro e w8 ⟨rfl, hb⟩; replace R_a0 := hide (R_a0.out.then_ hb); replace R_a1 := hide (R_a1.out.then_ hb); replace R_b0 := hide (R_b0.out.then_ hb); replace R_b1 := hide (R_b1.out.then_ hb); replace R_m0 := hide (R_m0.out.then_ hb); replace R_m1 := hide (R_m1.out.then_ hb); replace R_x := hide (R_x.out.then_ hb); have U17 : Below V11.heap.size V11 w8 := Below.then_ U16 hb; replace B := hide (Below.then_ B.out hb); clear hb; have tok10 : True := trivial; clear _t tok9)))
          clear tok10
          go_wp2_with fail
          have hd := Below.drw_ w8
          replace R_a0 := hide (R_a0.out.then_ hd)
          replace R_a1 := hide (R_a1.out.then_ hd)
          replace R_b0 := hide (R_b0.out.then_ hd)
          replace R_b1 := hide (R_b1.out.then_ hd)
          replace R_m0 := hide (R_m0.out.then_ hd)
          replace R_m1 := hide (R_m1.out.then_ hd)
          replace R_x := hide (R_x.out.then_ hd)
          have U18 : Below V11.heap.size V11 (w8.drew) := Below.then_ U17 hd
          replace B := hide (Below.then_ B.out hd)
          clear hd
          refine region_seq (S := fun w' => Below V11.heap.size V11 w') [(true, 0), (true, 1), (false, 2), (true, 3), (true, 4), (true, 5), (false, 6), (true, 7), (true, 8), (true, 9), (true, 10), (true, 12), (false, 11), (false, 13), (true, 14), (true, 15)] (by kernel_rfl) (by kernel_rfl) (by kernel_rfl) (by decide) U18 ?_
          simp only [List.map_cons, List.map_nil, List.getElem?_toArray, List.getElem?_cons_succ, List.getElem?_cons_zero]
          repeat (first | ((with_reducible refine seq_take (v := ?_) ?_ ?_ ?_); rotate_left; (exact rfl); (focus (intro w' hSw; go_simp; try with_reducible rfl)); (try simp only [Act.put, List.setIfInBounds_toArray, List.set_cons_zero, List.set_cons_succ])) | ((with_reducible refine seq_pass ?_ ?_); (exact rfl); (try simp only [Act.put, List.setIfInBounds_toArray, List.set_cons_zero, List.set_cons_succ])))
          (with_reducible refine seq_call ?_ (fun K hK => ?_))
          (exact rfl)
          go_simp
          refine (has_any (L := 3145748) (by omega) (Rq.le (M := 3145748) R_a0.out (by omega)) (Rq.le (M := 3145748) R_a1.out (by omega)) (Rq.le (M := 3145748) R_x.out (by omega)) (Nat.le_refl _) eA.out).mono ?_
          rintro e w9 ⟨rfl, hb⟩
          replace R_a0 := hide (R_a0.out.then_ hb)
          replace R_a1 := hide (R_a1.out.then_ hb)
          replace R_b0 := hide (R_b0.out.then_ hb)
          replace R_b1 := hide (R_b1.out.then_ hb)
          replace R_m0 := hide (R_m0.out.then_ hb)
          replace R_m1 := hide (R_m1.out.then_ hb)
          replace R_x := hide (R_x.out.then_ hb)
          have U19 : Below V11.heap.size V11 w9 := Below.then_ U18 hb
          replace B := hide (Below.then_ B.out hb)
          clear hb
          refine hK.out _ _ U19 ?_
          clear hK K
          (try simp only [Act.put, List.setIfInBounds_toArray, List.set_cons_zero, List.set_cons_succ])
          repeat (first | ((with_reducible refine seq_take (v := ?_) ?_ ?_ ?_); rotate_left; (exact rfl); (focus (intro w' hSw; go_simp; try with_reducible rfl)); (try simp only [Act.put, List.setIfInBounds_toArray, List.set_cons_zero, List.set_cons_succ])) | ((with_reducible refine seq_pass ?_ ?_); (exact rfl); (try simp only [Act.put, List.setIfInBounds_toArray, List.set_cons_zero, List.set_cons_succ])))
          (with_reducible refine seq_idle ?_ U19 ?_)
          (exact rfl)
          (try simp only [Act.put, List.setIfInBounds_toArray, List.set_cons_zero, List.set_cons_succ])
          repeat (first | ((with_reducible refine seq_take (v := ?_) ?_ ?_ ?_); rotate_left; (exact rfl); (focus (intro w' hSw; go_simp; try with_reducible rfl)); (try simp only [Act.put, List.setIfInBounds_toArray, List.set_cons_zero, List.set_cons_succ])) | ((with_reducible refine seq_pass ?_ ?_); (exact rfl); (try simp only [Act.put, List.setIfInBounds_toArray, List.set_cons_zero, List.set_cons_succ])))
          (with_reducible refine seq_call ?_ (fun K hK => ?_))
          (exact rfl)
          go_simp
          refine (hull_any (L := 1048576) (by omega) (Rq.le (M := 1048576) R_a0.out (by omega)) (Rq.le (M := 1048576) R_a1.out (by omega)) (Rq.le (M := 1048576) R_b0.out (by omega)) (Rq.le (M := 1048576) R_b1.out (by omega)) (Nat.le_refl _) hul.out huh.out).mono ?_
          rintro e w10 ⟨x_h0, x_h1, rfl, R_h0, R_h1, hb⟩
          replace R_a0 := hide (R_a0.out.then_ hb)
          replace R_a1 := hide (R_a1.out.then_ hb)
          replace R_b0 := hide (R_b0.out.then_ hb)
          replace R_b1 := hide (R_b1.out.then_ hb)
          replace R_m0 := hide (R_m0.out.then_ hb)
          replace R_m1 := hide (R_m1.out.then_ hb)
          replace R_x := hide (R_x.out.then_ hb)
          have U20 : Below V11.heap.size V11 w10 := Below.then_ U19 hb
          replace B := hide (Below.then_ B.out hb)
          replace R_h0 := hide R_h0
          replace R_h1 := hide R_h1
          clear hb
          refine hK.out _ _ U20 ?_
          clear hK K
          (try simp only [Act.put, List.setIfInBounds_toArray, List.set_cons_zero, List.set_cons_succ])
          repeat (first | ((with_reducible refine seq_take (v := ?_) ?_ ?_ ?_); rotate_left; (exact rfl); (focus (intro w' hSw; go_simp; try with_reducible rfl)); (try simp only [Act.put, List.setIfInBounds_toArray, List.set_cons_zero, List.set_cons_succ])) | ((with_reducible refine seq_pass ?_ ?_); (exact rfl); (try simp only [Act.put, List.setIfInBounds_toArray, List.set_cons_zero, List.set_cons_succ])))
          (with_reducible refine seq_call ?_ (fun K hK => ?_))
          (exact rfl)
          go_simp
          refine (has_any (L := 3145748) (by omega) (Rq.le (M := 3145748) (Nq.rq R_h0.out) (by omega)) (Rq.le (M := 3145748) (Nq.rq R_h1.out) (by omega)) (Rq.le (M := 3145748) R_x.out (by omega)) (Nat.le_refl _) eU.out).mono ?_
          rintro e w11 ⟨rfl, hb⟩
          replace R_a0 := hide (R_a0.out.then_ hb)
          replace R_a1 := hide (R_a1.out.then_ hb)
          replace R_b0 := hide (R_b0.out.then_ hb)
          replace R_b1 := hide (R_b1.out.then_ hb)
          replace R_m0 := hide (R_m0.out.then_ hb)
          replace R_m1 := hide (R_m1.out.then_ hb)
          replace R_x := hide (R_x.out.then_ hb)
          replace R_h0 := hide (R_h0.out.then_ hb)
          replace R_h1 := hide (R_h1.out.then_ hb)
          have U21 : Below V11.heap.size V11 w11 := Below.then_ U20 hb
          replace B := hide (Below.then_ B.out hb)
          clear hb
          refine hK.out _ _ U21 ?_
          clear hK K
          (try simp only [Act.put, List.setIfInBounds_toArray, List.set_cons_zero, List.set_cons_succ])
          repeat (first | ((with_reducible refine seq_take (v := ?_) ?_ ?_ ?_); rotate_left; (exact rfl); (focus (intro w' hSw; go_simp; try with_reducible rfl)); (try simp only [Act.put, List.setIfInBounds_toArray, List.set_cons_zero, List.set_cons_succ])) | ((with_reducible refine seq_pass ?_ ?_); (exact rfl); (try simp only [Act.put, List.setIfInBounds_toArray, List.set_cons_zero, List.set_cons_succ])))
          refine seq_done ?_
          go_wp2
          go_roundw
          case rel => exact ⟨k + 1, by omega, by go_num, Below.then_ hbv U21⟩
          case measure => simp [intOf]; omega
      · by_cases hB : rhas q_b0 q_b1 xq
        · skip
          have eA : decide (rhas q_a0 q_a1 xq) = false := decide_eq_false hA
          have eB : decide (rhas q_b0 q_b1 xq) = true := decide_eq_true hB
          have eM : decide (rhas ml mh xq) = false := decide_eq_false (fun h => hA ((hM.out xq).1 h).1)
          have eU : decide (rhas ul uh xq) = true := decide_eq_true (hU.out xq (Or.inr hB))
          clear hA hB
          replace eA := hide eA
          replace eB := hide eB
          replace eM := hide eM
          replace eU := hide eU
          have hd := Below.drw_ V11
          replace R_a0 := hide (R_a0.out.then_ hd)
          replace R_a1 := hide (R_a1.out.then_ hd)
          replace R_b0 := hide (R_b0.out.then_ hd)
          replace R_b1 := hide (R_b1.out.then_ hd)
          replace R_m0 := hide (R_m0.out.then_ hd)
          replace R_m1 := hide (R_m1.out.then_ hd)
          replace R_x := hide (R_x.out.then_ hd)
          have U14 : Below V11.heap.size V11 (V11.drew) := Below.then_ U13 hd
          replace B := hide (Below.then_ B.out hd)
          clear hd
          refine region_seq (S := fun w' => Below V11.heap.size V11 w') [(true, 0), (true, 1), (true, 2), (true, 3), (true, 6), (true, 7), (false, 4), (true, 5), (false, 8), (true, 9), (true, 10), (true, 11), (false, 12), (true, 13), (true, 14)] (by kernel_rfl) (by kernel_rfl) (by kernel_rfl) (by decide) U14 ?_
          simp only [List.map_cons, List.map_nil, List.getElem?_toArray, List.getElem?_cons_succ, List.getElem?_cons_zero]
          repeat (first | ((with_reducible refine seq_take (v := ?_) ?_ ?_ ?_); rotate_left; (exact rfl); (focus (intro w' hSw; go_simp; try with_reducible rfl)); (try simp only [Act.put, List.setIfInBounds_toArray, List.set_cons_zero, List.set_cons_succ])) | ((with_reducible refine seq_pass ?_ ?_); (exact rfl); (try simp only [Act.put, List.setIfInBounds_toArray, List.set_cons_zero, List.set_cons_succ])))
          (with_reducible refine seq_call ?_ (fun K hK => ?_))
          (exact rfl)
          go_simp
          refine (has_any (L := 3145748) (by omega) (Rq.le (M := 3145748) (Nq.rq R_m0.out) (by omega)) (Rq.le (M := 3145748) (Nq.rq R_m1.out) (by omega)) (Rq.le (M := 3145748) R_x.out (by omega)) (Nat.le_refl _) eM.out).mono ?_
          rintro e w6 ⟨rfl, hb⟩
          replace R_a0 := hide (R_a0.out.then_ hb)
          replace R_a1 := hide (R_a1.out.then_ hb)
          replace R_b0 := hide (R_b0.out.then_ hb)
          replace R_b1 := hide (R_b1.out.then_ hb)
          replace R_m0 := hide (R_m0.out.then_ hb)
          replace R_m1 := hide (R_m1.out.then_ hb)
          replace R_x := hide (R_x.out.then_ hb)
          have U15 : Below V11.heap.size V11 w6 := Below.then_ U14 hb
          replace B := hide (Below.then_ B.out hb)
          clear hb
          refine hK.out _ _ U15 ?_
          clear hK K
          (try simp only [Act.put, List.setIfInBounds_toArray, List.set_cons_zero, List.set_cons_succ])
          repeat (first | ((with_reducible refine seq_take (v := ?_) ?_ ?_ ?_); rotate_left; (exact rfl); (focus (intro w' hSw; go_simp; try with_reducible rfl)); (try simp only [Act.put, List.setIfInBounds_toArray, List.set_cons_zero, List.set_cons_succ])) | ((with_reducible refine seq_pass ?_ ?_); (exact rfl); (try simp only [Act.put, List.setIfInBounds_toArray, List.set_cons_zero, List.set_cons_succ])))
          (with_reducible refine seq_call ?_ (fun K hK => ?_))
          (exact rfl)
          go_simp
          refine (has_any (L := 3145748) (by omega) (Rq.le (M := 3145748) R_a0.out (by omega)) (Rq.le (M := 3145748) R_a1.out (by omega)) (Rq.le (M := 3145748) R_x.out (by omega)) (Nat.le_refl _) eA.out).mono ?_
          rintro e w7 ⟨rfl, hb⟩
          replace R_a0 := hide (R_a0.out.then_ hb)
          replace R_a1 := hide (R_a1.out.then_ hb)
          replace R_b0 := hide (R_b0.out.then_ hb)
          replace R_b1 := hide (R_b1.out.then_ hb)
          replace R_m0 := hide (R_m0.out.then_ hb)
          replace R_m1 := hide (R_m1.out.then_ hb)
          replace R_x := hide (R_x.out.then_ hb)
          have U16 : Below V11.heap.size V11 w7 := Below.then_ U15 hb
          replace B := hide (Below.then_ B.out hb)
          clear hb
          refine hK.out _ _ U16 ?_
          clear hK K
          (try simp only [Act.put, List.setIfInBounds_toArray, List.set_cons_zero, List.set_cons_succ])
          repeat (first | ((with_reducible refine seq_take (v := ?_) ?_ ?_ ?_); rotate_left; (exact rfl); (focus (intro w' hSw; go_simp; try with_reducible rfl)); (try simp only [Act.put, List.setIfInBounds_toArray, List.set_cons_zero, List.set_cons_succ])) | ((with_reducible refine seq_pass ?_ ?_); (exact rfl); (try simp only [Act.put, List.setIfInBounds_toArray, List.set_cons_zero, List.set_cons_succ])))
          (with_reducible refine seq_idle ?_ U16 ?_)
          (exact rfl)
          (try simp only [Act.put, List.setIfInBounds_toArray, List.set_cons_zero, List.set_cons_succ])
          repeat (first | ((with_reducible refine seq_take (v := ?_) ?_ ?_ ?_); rotate_left; (exact rfl); (focus (intro w' hSw; go_simp; try with_reducible rfl)); (try simp only [Act.put, List.setIfInBounds_toArray, List.set_cons_zero, List.set_cons_succ])) | ((with_reducible refine seq_pass ?_ ?_); (exact rfl); (try simp only [Act.put, List.setIfInBounds_toArray, List.set_cons_zero, List.set_cons_succ])))
          refine seq_done ?_
          go_wp2_with fail
          have hd := Below.drw_ w7
          replace R_a0 := hide (R_a0.out.then_ hd)
          replace R_a1 := hide (R_a1.out.then_ hd)
          replace R_b0 := hide (R_b0.out.then_ hd)
          replace R_b1 := hide (R_b1.out.then_ hd)
          replace R_m0 := hide (R_m0.out.then_ hd)
          replace R_m1 := hide (R_m1.out.then_ hd)
          replace R_x := hide (R_x.out.then_ hd)
          have U17 : Below V11.heap.size V11 (w7.drew) := Below.then_ U16 hd
          replace B := hide (Below.then_ B.out hd)
          clear hd
          have tok7 : True := trivial
          go_region_held3 (fun w' => Below V11.heap.size V11 w') (assumption)
            (first
              | (go_at_call 8; (have _t := tok7; (with_reducible refine (has_any (L := 3145748) (by omega) (Rq.le (M := 3145748) R_a0.out (by omega)) (Rq.le (M := 3145748) R_a1.out (by omega)) (Rq.le (M := 3145748) R_x.out (by omega)) (Nat.le_refl _) eA.out).mono ?_); rintro e w8 ⟨rfl, hb⟩; replace R_a0 := hide (R_a0.out.then_ hb); replace R_a1 := hide (R_a1.out.then_ hb); replace R_b0 := hide (R_b0.out.then_ hb); replace R_b1 := hide (R_b1.out.then_ hb); replace R_m0 := hide (R_m0.out.then_ hb); replace R_m1 := hide (R_m1.out.then_ hb); replace R_x := hide (R_x.out.then_ hb); have U18 : Below V11.heap.size V11 w8 := Below.then_ U17 hb; replace B := hide (Below.then_ B.out hb); clear hb; have tok8 : True := trivial; clear _t tok7))
              | (go_at_call 8; (have _t := tok8; (with_reducible refine (has_any (L := 3145748) (by omega) (Rq.le (M := 3145748) R_b0.out (by omega)) (Rq.le (M := 3145748) R_b1.out (by omega)) (Rq.le (M := 3145748) R_x.out (by omega)) (Nat.le_refl _) eB.out).mono ?_); rintro e w9 ⟨rfl, hb⟩; replace R_a0 := hide (R_a0.out.then_ hb); replace R_a1 := hide (R_a1.out.then_ hb); replace R_b0 := hide (R_b0.out.then_ hb); replace R_b1 := hide (R_b1.out.then_ hb); replace R_m0 := hide (R_m0.out.then_ hb); replace R_m1 := hide (R_m1.out.then_ hb); replace R_x := hide (R_x.out.then_ hb); have U19 : Below V11.heap.size V11 w9 := Below.then_ U18 hb; replace B := hide (Below.then_ B.out hb); clear hb; have tok9 : True := trivial; clear _t tok8))
              | (go_at_call 19; (have _t := tok9; (with_reducible refine (hull_any (L := 1048576) (by omega) (Rq.le (M := 1048576) R_a0.out (by omega)) (Rq.le (M := 1048576) R_a1.out (by omega)) (Rq.le (M := 1048576) R_b0.out (by omega)) (Rq.le (M := 1048576) R_b1.out (by omega)) (Nat.le_refl _) hul.out huh.out).mono ?_); rintro e w10 ⟨x_h0, x_h1, rfl, R_h0, R_h1, hb⟩; replace R_a0 := hide (R_a0.out.then_ hb); replace R_a1 := hide (R_a1.out.then_ hb); replace R_b0 := hide (R_b0.out.then_ hb); replace R_b1 := hide (R_b1.out.then_ hb); replace R_m0 := hide (R_m0.out.then_ hb); replace R_m1 := hide (R_m1.out.then_ hb); replace R_x := hide (R_x.out.then_ hb); have U20 : Below V11.heap.size V11 w10 := Below.then_ U19 hb; replace B := hide (Below.then_ B.out hb); replace R_h0 := hide R_h0; replace R_h1 := hide R_h1; clear hb; have tok10 : True := trivial; clear _t tok9))
              | (go_at_call 8; (have _t := tok10; (with_reducible refine (has_any (L := 3145748) (by omega) (Rq.le (M := 3145748) (Nq.rq R_h0.out) (by omega)) (Rq.le (M := 3145748) (Nq.rq R_h1.out) (by omega)) (Rq.le (M := 3145748) R_x.out (by omega)) (Nat.le_refl _) eU.out).mono ?_); rintro e w11 ⟨rfl, hb⟩; replace R_a0 := hide (R_a0.out.then_ hb); replace R_a1 := hide (R_a1.out.then_ hb); replace R_b0 := hide (R_b0.out.then_ hb); replace R_b1 := hide (R_b1.out.then_ hb); replace R_m0 := hide (R_m0.out.then_ hb); replace R_m1 := hide (R_m1.out.then_ hb); replace R_x := hide (R_x.out.then_ hb); replace R_h0 := hide (R_h0.out.then_ hb); replace R_h1 := hide (R_h1.out.then_ hb); have U21 : Below V11.heap.size V11 w11 := Below.then_ U20 hb; replace B := hide (Below.then_ B.out hb); clear hb; have tok11 : True := trivial; clear _t tok10)))
          clear tok11
          go_wp2
          go_roundw
          case rel => exact ⟨k + 1, by omega, by go_num, Below.then_ hbv U21⟩
          case measure => simp [intOf]; omega
        · skip
          have eA : decide (rhas q_a0 q_a1 xq) = false := decide_eq_false hA
          have eB : decide (rhas q_b0 q_b1 xq) = false := decide_eq_false hB
          have eM : decide (rhas ml mh xq) = false := decide_eq_false (fun h => hA ((hM.out xq).1 h).1)
          clear hA hB
          replace eA := hide eA
          replace eB := hide eB
          replace eM := hide eM
          have hd := Below.drw_ V11
          replace R_a0 := hide (R_a0.out.then_ hd)
          replace R_a1 := hide (R_a1.out.then_ hd)
          replace R_b0 := hide (R_b0.out.then_ hd)
          replace R_b1 := hide (R_b1.out.then_ hd)
          replace R_m0 := hide (R_m0.out.then_ hd)
          replace R_m1 := hide (R_m1.out.then_ hd)
          replace R_x := hide (R_x.out.then_ hd)
          have U14 : Below V11.heap.size V11 (V11.drew) := Below.then_ U13 hd
          replace B := hide (Below.then_ B.out hd)
          clear hd
          refine region_seq (S := fun w' => Below V11.heap.size V11 w') [(true, 0), (true, 1), (true, 2), (true, 3), (true, 6), (true, 7), (false, 4), (true, 5), (false, 8), (true, 9), (true, 10), (true, 11), (false, 12), (true, 13), (true, 14)] (by kernel_rfl) (by kernel_rfl) (by kernel_rfl) (by decide) U14 ?_
          simp only [List.map_cons, List.map_nil, List.getElem?_toArray, List.getElem?_cons_succ, List.getElem?_cons_zero]
          repeat (first | ((with_reducible refine seq_take (v := ?_) ?_ ?_ ?_); rotate_left; (exact rfl); (focus (intro w' hSw; go_simp; try with_reducible rfl)); (try simp only [Act.put, List.setIfInBounds_toArray, List.set_cons_zero, List.set_cons_succ])) | ((with_reducible refine seq_pass ?_ ?_); (exact rfl); (try simp only [Act.put, List.setIfInBounds_toArray, List.set_cons_zero, List.set_cons_succ])))
          (with_reducible refine seq_call ?_ (fun K hK => ?_))
          (exact rfl)
          go_simp
          refine (has_any (L := 3145748) (by omega) (Rq.le (M := 3145748) (Nq.rq R_m0.out) (by omega)) (Rq.le (M := 3145748) (Nq.rq R_m1.out) (by omega)) (Rq.le (M := 3145748) R_x.out (by omega)) (Nat.le_refl _) eM.out).mono ?_
          rintro e w6 ⟨rfl, hb⟩
          replace R_a0 := hide (R_a0.out.then_ hb)
          replace R_a1 := hide (R_a1.out.then_ hb)
          replace R_b0 := hide (R_b0.out.then_ hb)
          replace R_b1 := hide (R_b1.out.then_ hb)
          replace R_m0 := hide (R_m0.out.then_ hb)
          replace R_m1 := hide (R_m1.out.then_ hb)
          replace R_x := hide (R_x.out.then_ hb)
          have U15 : Below V11.heap.size V11 w6 := Below.then_ U14 hb
          replace B := hide (Below.then_ B.out hb)
          clear hb
          refine hK.out _ _ U15 ?_
          clear hK K
          (try simp only [Act.put, List.setIfInBounds_toArray, List.set_cons_zero, List.set_cons_succ])
          repeat (first | ((with_reducible refine seq_take (v := ?_) ?_ ?_ ?_); rotate_left; (exact rfl); (focus (intro w' hSw; go_simp; try with_reducible rfl)); (try simp only [Act.put, List.setIfInBounds_toArray, List.set_cons_zero, List.set_cons_succ])) | ((with_reducible refine seq_pass ?_ ?_); (exact rfl); (try simp only [Act.put, List.setIfInBounds_toArray, List.set_cons_zero, List.set_cons_succ])))
          (with_reducible refine seq_call ?_ (fun K hK => ?_))
          (exact rfl)
          go_simp
          refine (has_any (L := 3145748) (by omega) (Rq.le (M := 3145748) R_a0.out (by omega)) (Rq.le (M := 3145748) R_a1.out (by omega)) (Rq.le (M := 3145748) R_x.out (by omega)) (Nat.le_refl _) eA.out).mono ?_
          rintro e w7 ⟨rfl, hb⟩
          replace R_a0 := hide (R_a0.out.then_ hb)
          replace R_a1 := hide (R_a1.out.then_ hb)
          replace R_b0 := hide (R_b0.out.then_ hb)
          replace R_b1 := hide (R_b1.out.then_ hb)
          replace R_m0 := hide (R_m0.out.then_ hb)
          replace R_m1 := hide (R_m1.out.then_ hb)
          replace R_x := hide (R_x.out.then_ hb)
          have U16 : Below V11.heap.size V11 w7 := Below.then_ U15 hb
          replace B := hide (Below.then_ B.out hb)
          clear hb
          refine hK.out _ _ U16 ?_
          clear hK K
          (try simp only [Act.put, List.setIfInBounds_toArray, List.set_cons_zero, List.set_cons_succ])
          repeat (first | ((with_reducible refine seq_take (v := ?_) ?_ ?_ ?_); rotate_left; (exact rfl); (focus (intro w' hSw; go_simp; try with_reducible rfl)); (try simp only [Act.put, List.setIfInBounds_toArray, List.set_cons_zero, List.set_cons_succ])) | ((with_reducible refine seq_pass ?_ ?_); (exact rfl); (try simp only [Act.put, List.setIfInBounds_toArray, List.set_cons_zero, List.set_cons_succ])))
          (with_reducible refine seq_idle ?_ U16 ?_)
          (exact rfl)
          (try simp only [Act.put, List.setIfInBounds_toArray, List.set_cons_zero, List.set_cons_succ])
          repeat (first | ((with_reducible refine seq_take (v := ?_) ?_ ?_ ?_); rotate_left; (exact rfl); (focus (intro w' hSw; go_simp; try with_reducible rfl)); (try simp only [Act.put, List.setIfInBounds_toArray, List.set_cons_zero, List.set_cons_succ])) | ((with_reducible refine seq_pass ?_ ?_); (exact rfl); (try simp only [Act.put, List.setIfInBounds_toArray, List.set_cons_zero, List.set_cons_succ])))
          refine seq_done ?_
          go_wp2_with fail
          have hd := Below.drw_ w7
          replace R_a0 := hide (R_a0.out.then_ hd)
          replace R_a1 := hide (R_a1.out.then_ hd)
          replace R_b0 := hide (R_b0.out.then_ hd)
          replace R_b1 := hide (R_b1.out.then_ hd)
          replace R_m0 := hide (R_m0.out.then_ hd)
          replace R_m1 := hide (R_m1.out.then_ hd)
          replace R_x := hide (R_x.out.then_ hd)
          have U17 : Below V11.heap.size V11 (w7.drew) := Below.then_ U16 hd
          replace B := hide (Below.then_ B.out hd)
          clear hd
          refine region_seq (S := fun w' => Below V11.heap.size V11 w') [(true, 0), (true, 1), (false, 2), (true, 3), (true, 4), (true, 5), (false, 6), (true, 7), (true, 8), (true, 9), (true, 10), (true, 12), (false, 11), (false, 13), (true, 14), (true, 15)] (by kernel_rfl) (by kernel_rfl) (by kernel_rfl) (by decide) U17 ?_
          simp only [List.map_cons, List.map_nil, List.getElem?_toArray, List.getElem?_cons_succ, List.getElem?_cons_zero]
          repeat (first | ((with_reducible refine seq_take (v := ?_) ?_ ?_ ?_); rotate_left; (exact rfl); (focus (intro w' hSw; go_simp; try with_reducible rfl)); (try simp only [Act.put, List.setIfInBounds_toArray, List.set_cons_zero, List.set_cons_succ])) | ((with_reducible refine seq_pass ?_ ?_); (exact rfl); (try simp only [Act.put, List.setIfInBounds_toArray, List.set_cons_zero, List.set_cons_succ])))
          (with_reducible refine seq_call ?_ (fun K hK => ?_))
          (exact rfl)
          go_simp
          refine (has_any (L := 3145748) (by omega) (Rq.le (M := 3145748) R_a0.out (by omega)) (Rq.le (M := 3145748) R_a1.out (by omega)) (Rq.le (M := 3145748) R_x.out (by omega)) (Nat.le_refl _) eA.out).mono ?_
          rintro e w8 ⟨rfl, hb⟩
          replace R_a0 := hide (R_a0.out.then_ hb)
          replace R_a1 := hide (R_a1.out.then_ hb)
          replace R_b0 := hide (R_b0.out.then_ hb)
          replace R_b1 := hide (R_b1.out.then_ hb)
          replace R_m0 := hide (R_m0.out.then_ hb)
          replace R_m1 := hide (R_m1.out.then_ hb)
          replace R_x := hide (R_x.out.then_ hb)
          have U18 : Below V11.heap.size V11 w8 := Below.then_ U17 hb
          replace B := hide (Below.then_ B.out hb)
          clear hb
          refine hK.out _ _ U18 ?_
          clear hK K
          (try simp only [Act.put, List.setIfInBounds_toArray, List.set_cons_zero, List.set_cons_succ])
          repeat (first | ((with_reducible refine seq_take (v := ?_) ?_ ?_ ?_); rotate_left; (exact rfl); (focus (intro w' hSw; go_simp; try with_reducible rfl)); (try simp only [Act.put, List.setIfInBounds_toArray, List.set_cons_zero, List.set_cons_succ])) | ((with_reducible refine seq_pass ?_ ?_); (exact rfl); (try simp only [Act.put, List.setIfInBounds_toArray, List.set_cons_zero, List.set_cons_succ])))
          (with_reducible refine seq_call ?_ (fun K hK => ?_))
          (exact rfl)
          go_simp
          refine (has_any (L := 3145748) (by omega) (Rq.le (M := 3145748) R_b0.out (by omega)) (Rq.le (M := 3145748) R_b1.out (by omega)) (Rq.le (M := 3145748) R_x.out (by omega)) (Nat.le_refl _) eB.out).mono ?_
          rintro e w9 ⟨rfl, hb⟩
          replace R_a0 := hide (R_a0.out.then_ hb)
          replace R_a1 := hide (R_a1.out.then_ hb)
          replace R_b0 := hide (R_b0.out.then_ hb)
          replace R_b1 := hide (R_b1.out.then_ hb)
          replace R_m0 := hide (R_m0.out.then_ hb)
          replace R_m1 := hide (R_m1.out.then_ hb)
          replace R_x := hide (R_x.out.then_ hb)
          have U19 : Below V11.heap.size V11 w9 := Below.then_ U18 hb
          replace B := hide (Below.then_ B.out hb)
          clear hb
          refine hK.out _ _ U19 ?_
          clear hK K
          (try simp only [Act.put, List.setIfInBounds_toArray, List.set_cons_zero, List.set_cons_succ])
          repeat (first | ((with_reducible refine seq_take (v := ?_) ?_ ?_ ?_); rotate_left; (exact rfl); (focus (intro w' hSw; go_simp; try with_reducible rfl)); (try simp only [Act.put, List.setIfInBounds_toArray, List.set_cons_zero, List.set_cons_succ])) | ((with_reducible refine seq_pass ?_ ?_); (exact rfl); (try simp only [Act.put, List.setIfInBounds_toArray, List.set_cons_zero, List.set_cons_succ])))
          (with_reducible refine seq_idle ?_ U19 ?_)
          (exact rfl)
          (try simp only [Act.put, List.setIfInBounds_toArray, List.set_cons_zero, List.set_cons_succ])
          repeat (first | ((with_reducible refine seq_take (v := ?_) ?_ ?_ ?_); rotate_left; (exact rfl); (focus (intro w' hSw; go_simp; try with_reducible rfl)); (try simp only [Act.put, List.setIfInBounds_toArray, List.set_cons_zero, List.set_cons_succ])) | ((with_reducible refine seq_pass ?_ ?_); (exact rfl); (try simp only [Act.put, List.setIfInBounds_toArray, List.set_cons_zero, List.set_cons_succ])))
          (with_reducible refine seq_idle ?_ U19 ?_)
          (exact rfl)
          (try simp only [Act.put, List.setIfInBounds_toArray, List.set_cons_zero, List.set_cons_succ])
          repeat (first | ((with_reducible refine seq_take (v := ?_) ?_ ?_ ?_); rotate_left; (exact rfl); (focus (intro w' hSw; go_simp; try with_reducible rfl)); (try simp only [Act.put, List.setIfInBounds_toArray, List.set_cons_zero, List.set_cons_succ])) | ((with_reducible refine seq_pass ?_ ?_); (exact rfl); (try simp only [Act.put, List.setIfInBounds_toArray, List.set_cons_zero, List.set_cons_succ])))
          refine seq_done ?_
          go_wp2
          go_roundw
          case rel => exact ⟨k + 1, by omega, by go_num, Below.then_ hbv U19⟩
          case measure => simp [intOf]; omega
    · skip
      obtain rfl : k = 6 := by omega
      clear hkl hk6
      replace R_a0 := hide (R_a0.out.then_ hV)
      replace R_a1 := hide (R_a1.out.then_ hV)
      replace R_b0 := hide (R_b0.out.then_ hV)
      replace R_b1 := hide (R_b1.out.then_ hV)
      replace R_m0 := hide (R_m0.out.then_ hV)
      replace R_m1 := hide (R_m1.out.then_ hV)
      replace B := hide (Below.then_ B.out hV)
      have U99 : Below V.heap.size V wr := hV
      simp only [show ((6 : Nat) : Int) = 6 from rfl]
      go_wp2_with fail
      refine (within_any (L := 1048577) (by omega) (Rq.le (M := 1048577) (Nq.rq R_m0.out) (by omega)) (Rq.le (M := 1048577) (Nq.rq R_m1.out) (by omega)) (Rq.le (M := 1048577) R_a0.out (by omega)) (Rq.le (M := 1048577) R_a1.out (by omega)) (Nat.le_refl _) wm1.out).mono ?_
      rintro e w6 ⟨rfl, hb⟩
      replace R_a0 := hide (R_a0.out.then_ hb)
      replace R_a1 := hide (R_a1.out.then_ hb)
      replace R_b0 := hide (R_b0.out.then_ hb)
      replace R_b1 := hide (R_b1.out.then_ hb)
      replace R_m0 := hide (R_m0.out.then_ hb)
      replace R_m1 := hide (R_m1.out.then_ hb)
      have U12 : Below V.heap.size V w6 := Below.then_ U99 hb
      replace B := hide (Below.then_ B.out hb)
      clear hb
      go_wp2_with fail
      refine (within_any (L := 1048577) (by omega) (Rq.le (M := 1048577) (Nq.rq R_m0.out) (by omega)) (Rq.le (M := 1048577) (Nq.rq R_m1.out) (by omega)) (Rq.le (M := 1048577) R_b0.out (by omega)) (Rq.le (M := 1048577) R_b1.out (by omega)) (Nat.le_refl _) wm2.out).mono ?_
      rintro e w7 ⟨rfl, hb⟩
      replace R_a0 := hide (R_a0.out.then_ hb)
      replace R_a1 := hide (R_a1.out.then_ hb)
      replace R_b0 := hide (R_b0.out.then_ hb)
      replace R_b1 := hide (R_b1.out.then_ hb)
      replace R_m0 := hide (R_m0.out.then_ hb)
      replace R_m1 := hide (R_m1.out.then_ hb)
      have U13 : Below V.heap.size V w7 := Below.then_ U12 hb
      replace B := hide (Below.then_ B.out hb)
      clear hb
      go_wp2_with fail
      have hd := Below.drw_ w7
      replace R_a0 := hide (R_a0.out.then_ hd)
      replace R_a1 := hide (R_a1.out.then_ hd)
      replace R_b0 := hide (R_b0.out.then_ hd)
      replace R_b1 := hide (R_b1.out.then_ hd)
      replace R_m0 := hide (R_m0.out.then_ hd)
      replace R_m1 := hide (R_m1.out.then_ hd)
      have U14 : Below V.heap.size V (w7.drew) := Below.then_ U13 hd
      replace B := hide (Below.then_ B.out hd)
      clear hd
      have tok7 : True := trivial
      go_region_held3 (fun w' => Below V.heap.size V w') (assumption)
        (first
          | (go_at_call 19; (have _t := tok7; (with_reducible refine (hull_any (L := 1048576) (by omega) (Rq.le (M := 1048576) R_a0.out (by omega)) (Rq.le (M := 1048576) R_a1.out (by omega)) (Rq.le (M := 1048576) R_b0.out (by omega)) (Rq.le (M := 1048576) R_b1.out (by omega)) (Nat.le_refl _) hul.out huh.out).mono ?_); rintro e w8 ⟨x_h0, x_h1, rfl, R_h0, R_h1, hb⟩; replace R_a0 := hide (R_a0.out.then_ hb); replace R_a1 := hide (R_a1.out.then_ hb); replace R_b0 := hide (R_b0.out.then_ hb); replace R_b1 := hide (R_b1.out.then_ hb); replace R_m0 := hide (R_m0.out.then_ hb); replace R_m1 := hide (R_m1.out.then_ hb); have U15 : Below V.heap.size V w8 := Below.then_ U14 hb; replace B := hide (Below.then_ B.out hb); replace R_h0 := hide R_h0; replace R_h1 := hide R_h1; clear hb; have tok8 : True := trivial; clear _t tok7))
          | (go_at_call 20; (have _t := tok8; (with_reducible refine (within_any (L := 1048577) (by omega) (Rq.le (M := 1048577) R_a0.out (by omega)) (Rq.le (M := 1048577) R_a1.out (by omega)) (Rq.le (M := 1048577) (Nq.rq R_h0.out) (by omega)) (Rq.le (M := 1048577) (Nq.rq R_h1.out) (by omega)) (Nat.le_refl _) u1.out).mono ?_); rintro e w9 ⟨rfl, hb⟩; replace R_a0 := hide (R_a0.out.then_ hb); replace R_a1 := hide (R_a1.out.then_ hb); replace R_b0 := hide (R_b0.out.then_ hb); replace R_b1 := hide (R_b1.out.then_ hb); replace R_m0 := hide (R_m0.out.then_ hb); replace R_m1 := hide (R_m1.out.then_ hb); replace R_h0 := hide (R_h0.out.then_ hb); replace R_h1 := hide (R_h1.out.then_ hb); have U16 : Below V.heap.size V w9 := Below.then_ U15 hb; replace B := hide (Below.then_ B.out hb); clear hb; have tok9 : True := trivial; clear _t tok8; clear R_h0; clear R_h1))
          | (go_at_call 19; (have _t := tok9; (with_reducible refine (hull_any (L := 1048576) (by omega) (Rq.le (M := 1048576) R_a0.out (by omega)) (Rq.le (M := 1048576) R_a1.out (by omega)) (Rq.le (M := 1048576) R_b0.out (by omega)) (Rq.le (M := 1048576) R_b1.out (by omega)) (Nat.le_refl _) hul.out huh.out).mono ?_); rintro e w10 ⟨x_h0, x_h1, rfl, R_h0, R_h1, hb⟩; replace R_a0 := hide (R_a0.out.then_ hb); replace R_a1 := hide (R_a1.out.then_ hb); replace R_b0 := hide (R_b0.out.then_ hb); replace R_b1 := hide (R_b1.out.then_ hb); replace R_m0 := hide (R_m0.out.then_ hb); replace R_m1 := hide (R_m1.out.then_ hb); have U17 : Below V.heap.size V w10 := Below.then_ U16 hb; replace B := hide (Below.then_ B.out hb); replace R_h0 := hide R_h0; replace R_h1 := hide R_h1; clear hb; have tok10 : True := trivial; clear _t tok9))
          | (go_at_call 20; (have _t := tok10; (with_reducible refine (within_any (L := 1048577) (by omega) (Rq.le (M := 1048577) R_b0.out (by omega)) (Rq.le (M := 1048577) R_b1.out (by omega)) (Rq.le (M := 1048577) (Nq.rq R_h0.out) (by omega)) (Rq.le (M := 1048577) (Nq.rq R_h1.out) (by omega)) (Nat.le_refl _) u2.out).mono ?_); rintro e w11 ⟨rfl, hb⟩; replace R_a0 := hide (R_a0.out.then_ hb); replace R_a1 := hide (R_a1.out.then_ hb); replace R_b0 := hide (R_b0.out.then_ hb); replace R_b1 := hide (R_b1.out.then_ hb); replace R_m0 := hide (R_m0.out.then_ hb); replace R_m1 := hide (R_m1.out.then_ hb); replace R_h0 := hide (R_h0.out.then_ hb); replace R_h1 := hide (R_h1.out.then_ hb); have U18 : Below V.heap.size V w11 := Below.then_ U17 hb; replace B := hide (Below.then_ B.out hb); clear hb; have tok11 : True := trivial; clear _t tok10; clear R_h0; clear R_h1))
          | (go_at_call 19; (have _t := tok11; (with_reducible refine (hull_any (L := 1048576) (by omega) (Rq.le (M := 1048576) R_a0.out (by omega)) (Rq.le (M := 1048576) R_a1.out (by omega)) (Rq.le (M := 1048576) R_b0.out (by omega)) (Rq.le (M := 1048576) R_b1.out (by omega)) (Nat.le_refl _) hul.out huh.out).mono ?_); rintro e w12 ⟨x_h0, x_h1, rfl, R_h0, R_h1, hb⟩; replace R_a0 := hide (R_a0.out.then_ hb); replace R_a1 := hide (R_a1.out.then_ hb); replace R_b0 := hide (R_b0.out.then_ hb); replace R_b1 := hide (R_b1.out.then_ hb); replace R_m0 := hide (R_m0.out.then_ hb); replace R_m1 := hide (R_m1.out.then_ hb); have U19 : Below V.heap.size V w12 := Below.then_ U18 hb; replace B := hide (Below.then_ B.out hb); replace R_h0 := hide R_h0; replace R_h1 := hide R_h1; clear hb; have tok12 : True := trivial; clear _t tok11))
          | (go_at_call 19; (have _t := tok12; (with_reducible refine (hull_any (L := 1048576) (by omega) (Rq.le (M := 1048576) R_b0.out (by omega)) (Rq.le (M := 1048576) R_b1.out (by omega)) (Rq.le (M := 1048576) R_a0.out (by omega)) (Rq.le (M := 1048576) R_a1.out (by omega)) (Nat.le_refl _) hul2.out huh2.out).mono ?_); rintro e w13 ⟨x_i0, x_i1, rfl, R_i0, R_i1, hb⟩; replace R_a0 := hide (R_a0.out.then_ hb); replace R_a1 := hide (R_a1.out.then_ hb); replace R_b0 := hide (R_b0.out.then_ hb); replace R_b1 := hide (R_b1.out.then_ hb); replace R_m0 := hide (R_m0.out.then_ hb); replace R_m1 := hide (R_m1.out.then_ hb); replace R_h0 := hide (R_h0.out.then_ hb); replace R_h1 := hide (R_h1.out.then_ hb); have U20 : Below V.heap.size V w13 := Below.then_ U19 hb; replace B := hide (Below.then_ B.out hb); replace R_i0 := hide R_i0; replace R_i1 := hide R_i1; clear hb; have tok13 : True := trivial; clear _t tok12))
          | (go_at_call 21; (have _t := tok13; (with_reducible refine (same_s (L := 1048577) (by omega) (R_h0.out.le (M := 1048577) (by omega)) (R_h1.out.le (M := 1048577) (by omega)) (R_i0.out.le (M := 1048577) (by omega)) (R_i1.out.le (M := 1048577) (by omega)) (Nat.le_refl _) rfl rfl).mono ?_); rintro e w14 ⟨rfl, hb⟩; replace R_a0 := hide (R_a0.out.then_ hb); replace R_a1 := hide (R_a1.out.then_ hb); replace R_b0 := hide (R_b0.out.then_ hb); replace R_b1 := hide (R_b1.out.then_ hb); replace R_m0 := hide (R_m0.out.then_ hb); replace R_m1 := hide (R_m1.out.then_ hb); replace R_h0 := hide (R_h0.out.then_ hb); replace R_h1 := hide (R_h1.out.then_ hb); replace R_i0 := hide (R_i0.out.then_ hb); replace R_i1 := hide (R_i1.out.then_ hb); have U21 : Below V.heap.size V w14 := Below.then_ U20 hb; replace B := hide (Below.then_ B.out hb); clear hb; have tok14 : True := trivial; clear _t tok13; clear R_h0; clear R_h1; clear R_i0; clear R_i1))
          | (go_at_call 16; (have _t := tok14; (with_reducible refine (awake_s).mono ?_); rintro e w15 ⟨rfl, hb⟩; replace R_a0 := hide (R_a0.out.then_ hb); replace R_a1 := hide (R_a1.out.then_ hb); replace R_b0 := hide (R_b0.out.then_ hb); replace R_b1 := hide (R_b1.out.then_ hb); replace R_m0 := hide (R_m0.out.then_ hb); replace R_m1 := hide (R_m1.out.then_ hb); have U22 : Below V.heap.size V w15 := Below.then_ U21 hb; replace B := hide (Below.then_ B.out hb); clear hb; have tok15 : True := trivial; clear _t tok14)))
      clear tok15
      go_wp2
      go_ret
      exact ⟨rfl, B.out⟩

end Go.Proofs.Ytogafnfpncbgiaa

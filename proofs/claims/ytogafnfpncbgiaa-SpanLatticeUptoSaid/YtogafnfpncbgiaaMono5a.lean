/-
  SpanMonotone: two of its ways.
-/
import Derived.Test.YtogafnfpncbgiaaEncl5
import Derived.Test.YtogafnfpncbgiaaSeq
namespace Go.Proofs.Ytogafnfpncbgiaa
open Go.RowKit


theorem rin_refl (p q : Rat) : rin p q p q := by unfold rin rhas rlo rhi; split <;> grind
theorem rin_ends {p q p' q' : Rat} (h : rin p q p' q') : rlo p' q' ≤ rlo p q ∧ rhi p q ≤ rhi p' q' := by
  obtain ⟨⟨h1, h2⟩, h3, h4⟩ := h
  exact ⟨le_rlo h1 h3, rhi_le h2 h4⟩
theorem rin_of_ends {p q p' q' : Rat} (h1 : rlo p' q' ≤ rlo p q) (h2 : rhi p q ≤ rhi p' q') : rin p q p' q' :=
  ⟨⟨Rat.le_trans h1 (rlo_le_l _ _), Rat.le_trans (le_rhi_l _ _) h2⟩, Rat.le_trans h1 (rlo_le_r _ _), Rat.le_trans (le_rhi_r _ _) h2⟩
theorem rin_trans {p q p' q' r s : Rat} (h : rin p q p' q') (k : rin p' q' r s) : rin p q r s := by
  obtain ⟨a, b⟩ := rin_ends h
  obtain ⟨c, d⟩ := rin_ends k
  exact rin_of_ends (Rat.le_trans c a) (Rat.le_trans b d)
/-- of spans in order -/
theorem rin_of {p q p' q' : Rat} (h1 : p' ≤ p) (h2 : q ≤ q') (h3 : p ≤ q) : rin p q p' q' := by
  refine rin_of_ends ?_ ?_
  · rw [rlo_of_le h3]; exact Rat.le_trans (rlo_le_l _ _) h1
  · rw [rhi_of_le h3]; exact Rat.le_trans h2 (le_rhi_r _ _)
theorem mn4_le_mx4 (a b c d : Rat) : mn4 a b c d ≤ mx4 a b c d := by
  unfold mn4 mx4
  exact Rat.le_trans (rlo_le_l _ _) (Rat.le_trans (rlo_le_rhi _ _) (le_rhi_l _ _))
theorem mul_rin {p q p' q' r s : Rat} (h : rin p q p' q') : rin (mn4 (p * r) (p * s) (q * r) (q * s)) (mx4 (p * r) (p * s) (q * r) (q * s)) (mn4 (p' * r) (p' * s) (q' * r) (q' * s)) (mx4 (p' * r) (p' * s) (q' * r) (q' * s)) := by
  obtain ⟨⟨h1, h2⟩, h3, h4⟩ := h
  obtain ⟨a1, a2⟩ := box_in h1 h2 (rlo_le_l r s) (le_rhi_l r s)
  obtain ⟨b1, b2⟩ := box_in h1 h2 (rlo_le_r r s) (le_rhi_r r s)
  obtain ⟨c1, c2⟩ := box_in h3 h4 (rlo_le_l r s) (le_rhi_l r s)
  obtain ⟨d1, d2⟩ := box_in h3 h4 (rlo_le_r r s) (le_rhi_r r s)
  exact rin_of (le_rlo (le_rlo a1 b1) (le_rlo c1 d1)) (rhi_le (rhi_le a2 b2) (rhi_le c2 d2)) (mn4_le_mx4 _ _ _ _)

set_option maxHeartbeats 4000000 in
theorem mono_fxx {w : World} {Bd : Nat}  {a0 : Rc} {q_a0 : Rat} {a1 : Rc} {q_a1 : Rat} {b0 : Rc} {q_b0 : Rat} {b1 : Rc} {q_b1 : Rat} {c0 : Rc} {q_c0 : Rat} {c1 : Rc} {q_c1 : Rat} (h_a0 : Rq w Bd 1048576 a0 q_a0) (h_a1 : Rq w Bd 1048576 a1 q_a1) (h_b0 : Rq w Bd 1048576 b0 q_b0) (h_b1 : Rq w Bd 1048576 b1 q_b1) (h_c0 : Rq w Bd 1048576 c0 q_c0) (h_c1 : Rq w Bd 1048576 c1 q_c1) (hB : Bd ≤ w.heap.size) (h1 : ¬ rin q_a0 q_a1 q_b0 q_b1) :
    Calls Try.prog 6 #[.agg #[.bool a0.s, .slice a0.A a0.n a0.c, .slice a0.B a0.m a0.d, .bool a1.s, .slice a1.A a1.n a1.c, .slice a1.B a1.m a1.d], .agg #[.bool b0.s, .slice b0.A b0.n b0.c, .slice b0.B b0.m b0.d, .bool b1.s, .slice b1.A b1.n b1.c, .slice b1.B b1.m b1.d], .agg #[.bool c0.s, .slice c0.A c0.n c0.c, .slice c0.B c0.m c0.d, .bool c1.s, .slice c1.A c1.n c1.c, .slice c1.B c1.m c1.d]] w (RetB w (.bool true)) := by
  have d0 : decide (rin q_a0 q_a1 q_a0 q_a1) = true := decide_eq_true (rin_refl _ _)
  have d1 : decide (rin q_a0 q_a1 q_b0 q_b1) = false := decide_eq_false h1
  clear h1
  replace d0 := hide d0
  replace d1 := hide d1
  obtain ⟨W, hW⟩ : ∃ W, W = (((w.alloc (.cells #[.bool a0.s, .slice a0.A a0.n a0.c, .slice a0.B a0.m a0.d, .bool a1.s, .slice a1.A a1.n a1.c, .slice a1.B a1.m a1.d] 29)).alloc (.cells #[.bool b0.s, .slice b0.A b0.n b0.c, .slice b0.B b0.m b0.d, .bool b1.s, .slice b1.A b1.n b1.c, .slice b1.B b1.m b1.d] 29)).alloc (.cells #[.bool c0.s, .slice c0.A c0.n c0.c, .slice c0.B c0.m c0.d, .bool c1.s, .slice c1.A c1.n c1.c, .slice c1.B c1.m c1.d] 29)) := ⟨_, rfl⟩
  have b_a : Box6 W (w.heap.size) (.bool a0.s) (.slice a0.A a0.n a0.c) (.slice a0.B a0.m a0.d) (.bool a1.s) (.slice a1.A a1.n a1.c) (.slice a1.B a1.m a1.d) := by rw [hW]; exact (((Box6.new w _ _ _ _ _ _ rfl).al _).al _)
  have b_b : Box6 W (w.heap.size + 1) (.bool b0.s) (.slice b0.A b0.n b0.c) (.slice b0.B b0.m b0.d) (.bool b1.s) (.slice b1.A b1.n b1.c) (.slice b1.B b1.m b1.d) := by rw [hW]; exact ((Box6.new _ _ _ _ _ _ _ (by simp)).al _)
  have b_c : Box6 W (w.heap.size + 1 + 1) (.bool c0.s) (.slice c0.A c0.n c0.c) (.slice c0.B c0.m c0.d) (.bool c1.s) (.slice c1.A c1.n c1.c) (.slice c1.B c1.m c1.d) := by rw [hW]; exact (Box6.new _ _ _ _ _ _ _ (by simp))
  have hwW : Below w.heap.size w W := by rw [hW]; exact ((((Below.refl _ _).alloc (Nat.le_refl _) _).alloc (by simp) _).alloc (by simp; omega) _)
  have R_a0 := hide (h_a0.upto hwW hB)
  clear h_a0
  have R_a1 := hide (h_a1.upto hwW hB)
  clear h_a1
  have R_b0 := hide (h_b0.upto hwW hB)
  clear h_b0
  have R_b1 := hide (h_b1.upto hwW hB)
  clear h_b1
  have R_c0 := hide (h_c0.upto hwW hB)
  clear h_c0
  have R_c1 := hide (h_c1.upto hwW hB)
  clear h_c1
  have B := hide hwW
  clear hwW
  clear hB
  have U0 : Below W.heap.size W W := Below.refl _ _
  have c_a0 := b_a.at0 b_a.lt_size (Nat.le_refl _)
  have c_a1 := b_a.at1 b_a.lt_size (Nat.le_refl _)
  have c_a2 := b_a.at2 b_a.lt_size (Nat.le_refl _)
  have c_a3 := b_a.at3 b_a.lt_size (Nat.le_refl _)
  have c_a4 := b_a.at4 b_a.lt_size (Nat.le_refl _)
  have c_a5 := b_a.at5 b_a.lt_size (Nat.le_refl _)
  replace b_a := hide b_a
  have c_b0 := b_b.at0 b_b.lt_size (Nat.le_refl _)
  have c_b1 := b_b.at1 b_b.lt_size (Nat.le_refl _)
  have c_b2 := b_b.at2 b_b.lt_size (Nat.le_refl _)
  have c_b3 := b_b.at3 b_b.lt_size (Nat.le_refl _)
  have c_b4 := b_b.at4 b_b.lt_size (Nat.le_refl _)
  have c_b5 := b_b.at5 b_b.lt_size (Nat.le_refl _)
  replace b_b := hide b_b
  have c_c0 := b_c.at0 b_c.lt_size (Nat.le_refl _)
  have c_c1 := b_c.at1 b_c.lt_size (Nat.le_refl _)
  have c_c2 := b_c.at2 b_c.lt_size (Nat.le_refl _)
  have c_c3 := b_c.at3 b_c.lt_size (Nat.le_refl _)
  have c_c4 := b_c.at4 b_c.lt_size (Nat.le_refl _)
  have c_c5 := b_c.at5 b_c.lt_size (Nat.le_refl _)
  replace b_c := hide b_c
  go_enter Try.func6, Try.ntmps6
  go_wp2_with fail
  rw [← hW]
  clear hW
  have hd := Below.drw_ W
  replace R_a0 := hide (R_a0.out.then_ hd)
  replace R_a1 := hide (R_a1.out.then_ hd)
  replace R_b0 := hide (R_b0.out.then_ hd)
  replace R_b1 := hide (R_b1.out.then_ hd)
  replace R_c0 := hide (R_c0.out.then_ hd)
  replace R_c1 := hide (R_c1.out.then_ hd)
  have U1 : Below W.heap.size W (W.drew) := Below.then_ U0 hd
  replace B := hide (Below.then_ B.out hd)
  clear hd
  refine region_seq (S := fun w' => Below W.heap.size W w') [(true, 0), (true, 1), (false, 2), (true, 3), (true, 4), (true, 5), (true, 6), (false, 7), (true, 8), (true, 9), (true, 10), (false, 11), (true, 12), (true, 13), (true, 14), (true, 15), (true, 16), (true, 17), (true, 19), (true, 20), (true, 21), (true, 22), (false, 18), (false, 23), (false, 24), (true, 25), (true, 26), (true, 27)] (by kernel_rfl) (by kernel_rfl) (by kernel_rfl) (by decide) U1 ?_
  simp only [List.map_cons, List.map_nil, List.getElem?_toArray, List.getElem?_cons_succ, List.getElem?_cons_zero]
  repeat (first | ((with_reducible refine seq_take (v := ?_) ?_ ?_ ?_); rotate_left; (exact rfl); (focus (intro w' hSw; go_simp; try with_reducible rfl)); (try simp only [Act.put, List.setIfInBounds_toArray, List.set_cons_zero, List.set_cons_succ])) | ((with_reducible refine seq_pass ?_ ?_); (exact rfl); (try simp only [Act.put, List.setIfInBounds_toArray, List.set_cons_zero, List.set_cons_succ])))
  (with_reducible refine seq_call ?_ (fun K hK => ?_))
  (exact rfl)
  go_simp
  refine (within_any (L := 1048576) (by omega) (Rq.le (M := 1048576) R_a0.out (by omega)) (Rq.le (M := 1048576) R_a1.out (by omega)) (Rq.le (M := 1048576) R_a0.out (by omega)) (Rq.le (M := 1048576) R_a1.out (by omega)) (Nat.le_refl _) d0.out).mono ?_
  rintro e w1 ⟨rfl, hb⟩
  replace R_a0 := hide (R_a0.out.then_ hb)
  replace R_a1 := hide (R_a1.out.then_ hb)
  replace R_b0 := hide (R_b0.out.then_ hb)
  replace R_b1 := hide (R_b1.out.then_ hb)
  replace R_c0 := hide (R_c0.out.then_ hb)
  replace R_c1 := hide (R_c1.out.then_ hb)
  have U2 : Below W.heap.size W w1 := Below.then_ U1 hb
  replace B := hide (Below.then_ B.out hb)
  clear hb
  refine hK.out _ _ U2 ?_
  clear hK K
  (try simp only [Act.put, List.setIfInBounds_toArray, List.set_cons_zero, List.set_cons_succ])
  repeat (first | ((with_reducible refine seq_take (v := ?_) ?_ ?_ ?_); rotate_left; (exact rfl); (focus (intro w' hSw; go_simp; try with_reducible rfl)); (try simp only [Act.put, List.setIfInBounds_toArray, List.set_cons_zero, List.set_cons_succ])) | ((with_reducible refine seq_pass ?_ ?_); (exact rfl); (try simp only [Act.put, List.setIfInBounds_toArray, List.set_cons_zero, List.set_cons_succ])))
  (with_reducible refine seq_call ?_ (fun K hK => ?_))
  (exact rfl)
  go_simp
  refine (within_any (L := 1048576) (by omega) (Rq.le (M := 1048576) R_a0.out (by omega)) (Rq.le (M := 1048576) R_a1.out (by omega)) (Rq.le (M := 1048576) R_b0.out (by omega)) (Rq.le (M := 1048576) R_b1.out (by omega)) (Nat.le_refl _) d1.out).mono ?_
  rintro e w2 ⟨rfl, hb⟩
  replace R_a0 := hide (R_a0.out.then_ hb)
  replace R_a1 := hide (R_a1.out.then_ hb)
  replace R_b0 := hide (R_b0.out.then_ hb)
  replace R_b1 := hide (R_b1.out.then_ hb)
  replace R_c0 := hide (R_c0.out.then_ hb)
  replace R_c1 := hide (R_c1.out.then_ hb)
  have U3 : Below W.heap.size W w2 := Below.then_ U2 hb
  replace B := hide (Below.then_ B.out hb)
  clear hb
  refine hK.out _ _ U3 ?_
  clear hK K
  (try simp only [Act.put, List.setIfInBounds_toArray, List.set_cons_zero, List.set_cons_succ])
  repeat (first | ((with_reducible refine seq_take (v := ?_) ?_ ?_ ?_); rotate_left; (exact rfl); (focus (intro w' hSw; go_simp; try with_reducible rfl)); (try simp only [Act.put, List.setIfInBounds_toArray, List.set_cons_zero, List.set_cons_succ])) | ((with_reducible refine seq_pass ?_ ?_); (exact rfl); (try simp only [Act.put, List.setIfInBounds_toArray, List.set_cons_zero, List.set_cons_succ])))
  (with_reducible refine seq_idle ?_ U3 ?_)
  (exact rfl)
  (try simp only [Act.put, List.setIfInBounds_toArray, List.set_cons_zero, List.set_cons_succ])
  repeat (first | ((with_reducible refine seq_take (v := ?_) ?_ ?_ ?_); rotate_left; (exact rfl); (focus (intro w' hSw; go_simp; try with_reducible rfl)); (try simp only [Act.put, List.setIfInBounds_toArray, List.set_cons_zero, List.set_cons_succ])) | ((with_reducible refine seq_pass ?_ ?_); (exact rfl); (try simp only [Act.put, List.setIfInBounds_toArray, List.set_cons_zero, List.set_cons_succ])))
  (with_reducible refine seq_idle ?_ U3 ?_)
  (exact rfl)
  (try simp only [Act.put, List.setIfInBounds_toArray, List.set_cons_zero, List.set_cons_succ])
  repeat (first | ((with_reducible refine seq_take (v := ?_) ?_ ?_ ?_); rotate_left; (exact rfl); (focus (intro w' hSw; go_simp; try with_reducible rfl)); (try simp only [Act.put, List.setIfInBounds_toArray, List.set_cons_zero, List.set_cons_succ])) | ((with_reducible refine seq_pass ?_ ?_); (exact rfl); (try simp only [Act.put, List.setIfInBounds_toArray, List.set_cons_zero, List.set_cons_succ])))
  (with_reducible refine seq_idle ?_ U3 ?_)
  (exact rfl)
  (try simp only [Act.put, List.setIfInBounds_toArray, List.set_cons_zero, List.set_cons_succ])
  repeat (first | ((with_reducible refine seq_take (v := ?_) ?_ ?_ ?_); rotate_left; (exact rfl); (focus (intro w' hSw; go_simp; try with_reducible rfl)); (try simp only [Act.put, List.setIfInBounds_toArray, List.set_cons_zero, List.set_cons_succ])) | ((with_reducible refine seq_pass ?_ ?_); (exact rfl); (try simp only [Act.put, List.setIfInBounds_toArray, List.set_cons_zero, List.set_cons_succ])))
  (with_reducible refine seq_idle ?_ U3 ?_)
  (exact rfl)
  (try simp only [Act.put, List.setIfInBounds_toArray, List.set_cons_zero, List.set_cons_succ])
  repeat (first | ((with_reducible refine seq_take (v := ?_) ?_ ?_ ?_); rotate_left; (exact rfl); (focus (intro w' hSw; go_simp; try with_reducible rfl)); (try simp only [Act.put, List.setIfInBounds_toArray, List.set_cons_zero, List.set_cons_succ])) | ((with_reducible refine seq_pass ?_ ?_); (exact rfl); (try simp only [Act.put, List.setIfInBounds_toArray, List.set_cons_zero, List.set_cons_succ])))
  refine seq_done ?_
  go_wp2_with fail
  refine (within_any (L := 1048576) (by omega) (Rq.le (M := 1048576) R_a0.out (by omega)) (Rq.le (M := 1048576) R_a1.out (by omega)) (Rq.le (M := 1048576) R_b0.out (by omega)) (Rq.le (M := 1048576) R_b1.out (by omega)) (Nat.le_refl _) d1.out).mono ?_
  rintro e w3 ⟨rfl, hb⟩
  replace R_a0 := hide (R_a0.out.then_ hb)
  replace R_a1 := hide (R_a1.out.then_ hb)
  replace R_b0 := hide (R_b0.out.then_ hb)
  replace R_b1 := hide (R_b1.out.then_ hb)
  replace R_c0 := hide (R_c0.out.then_ hb)
  replace R_c1 := hide (R_c1.out.then_ hb)
  have U4 : Below W.heap.size W w3 := Below.then_ U3 hb
  replace B := hide (Below.then_ B.out hb)
  clear hb
  go_wp2_with fail
  refine (within_any (L := 1048576) (by omega) (Rq.le (M := 1048576) R_a0.out (by omega)) (Rq.le (M := 1048576) R_a1.out (by omega)) (Rq.le (M := 1048576) R_b0.out (by omega)) (Rq.le (M := 1048576) R_b1.out (by omega)) (Nat.le_refl _) d1.out).mono ?_
  rintro e w4 ⟨rfl, hb⟩
  replace R_a0 := hide (R_a0.out.then_ hb)
  replace R_a1 := hide (R_a1.out.then_ hb)
  replace R_b0 := hide (R_b0.out.then_ hb)
  replace R_b1 := hide (R_b1.out.then_ hb)
  replace R_c0 := hide (R_c0.out.then_ hb)
  replace R_c1 := hide (R_c1.out.then_ hb)
  have U5 : Below W.heap.size W w4 := Below.then_ U4 hb
  replace B := hide (Below.then_ B.out hb)
  clear hb
  go_wp2_with fail
  refine (awake_s).mono ?_
  rintro e w5 ⟨rfl, hb⟩
  replace R_a0 := hide (R_a0.out.then_ hb)
  replace R_a1 := hide (R_a1.out.then_ hb)
  replace R_b0 := hide (R_b0.out.then_ hb)
  replace R_b1 := hide (R_b1.out.then_ hb)
  replace R_c0 := hide (R_c0.out.then_ hb)
  replace R_c1 := hide (R_c1.out.then_ hb)
  have U6 : Below W.heap.size W w5 := Below.then_ U5 hb
  replace B := hide (Below.then_ B.out hb)
  clear hb
  go_wp2
  go_ret
  exact ⟨rfl, B.out⟩

set_option maxHeartbeats 4000000 in
theorem mono_ttt {w : World} {Bd : Nat}  {a0 : Rc} {q_a0 : Rat} {a1 : Rc} {q_a1 : Rat} {b0 : Rc} {q_b0 : Rat} {b1 : Rc} {q_b1 : Rat} {c0 : Rc} {q_c0 : Rat} {c1 : Rc} {q_c1 : Rat} (h_a0 : Rq w Bd 1048576 a0 q_a0) (h_a1 : Rq w Bd 1048576 a1 q_a1) (h_b0 : Rq w Bd 1048576 b0 q_b0) (h_b1 : Rq w Bd 1048576 b1 q_b1) (h_c0 : Rq w Bd 1048576 c0 q_c0) (h_c1 : Rq w Bd 1048576 c1 q_c1) (hB : Bd ≤ w.heap.size) (h1 : rin q_a0 q_a1 q_b0 q_b1) (h2 : rin q_b0 q_b1 q_a0 q_a1) (h3 : rin q_b0 q_b1 q_c0 q_c1) :
    Calls Try.prog 6 #[.agg #[.bool a0.s, .slice a0.A a0.n a0.c, .slice a0.B a0.m a0.d, .bool a1.s, .slice a1.A a1.n a1.c, .slice a1.B a1.m a1.d], .agg #[.bool b0.s, .slice b0.A b0.n b0.c, .slice b0.B b0.m b0.d, .bool b1.s, .slice b1.A b1.n b1.c, .slice b1.B b1.m b1.d], .agg #[.bool c0.s, .slice c0.A c0.n c0.c, .slice c0.B c0.m c0.d, .bool c1.s, .slice c1.A c1.n c1.c, .slice c1.B c1.m c1.d]] w (RetB w (.bool true)) := by
  have d0 : decide (rin q_a0 q_a1 q_a0 q_a1) = true := decide_eq_true (rin_refl _ _)
  have d1 : decide (rin q_a0 q_a1 q_b0 q_b1) = true := decide_eq_true h1
  have d2 : decide (rin q_b0 q_b1 q_a0 q_a1) = true := decide_eq_true h2
  have d3 : decide (rin q_b0 q_b1 q_c0 q_c1) = true := decide_eq_true h3
  have d4 : decide (rin q_a0 q_a1 q_c0 q_c1) = true := decide_eq_true (rin_trans h1 h3)
  obtain ⟨la, hla⟩ : ∃ l, rlo q_a0 q_a1 = l := ⟨_, rfl⟩
  obtain ⟨ha, hha⟩ : ∃ h, rhi q_a0 q_a1 = h := ⟨_, rfl⟩
  have oa : la ≤ ha := by rw [← hla, ← hha]; exact rlo_le_rhi _ _
  obtain ⟨lb, hlb⟩ : ∃ l, rlo q_b0 q_b1 = l := ⟨_, rfl⟩
  obtain ⟨hb, hhb⟩ : ∃ h, rhi q_b0 q_b1 = h := ⟨_, rfl⟩
  have ob : lb ≤ hb := by rw [← hlb, ← hhb]; exact rlo_le_rhi _ _
  obtain ⟨lc, hlc⟩ : ∃ l, rlo q_c0 q_c1 = l := ⟨_, rfl⟩
  obtain ⟨hc, hhc⟩ : ∃ h, rhi q_c0 q_c1 = h := ⟨_, rfl⟩
  have oc : lc ≤ hc := by rw [← hlc, ← hhc]; exact rlo_le_rhi _ _
  obtain ⟨i0, i1⟩ := rin_ends h1
  rw [hla, hlb] at i0
  rw [hha, hhb] at i1
  obtain ⟨k0, k1⟩ := rin_ends h2
  rw [hla, hlb] at k0
  rw [hha, hhb] at k1
  have s0 : la = lb := by grind
  have s1 : ha = hb := by grind
  clear k0 k1
  obtain ⟨apl, hapl⟩ : ∃ d, la + lc = d := ⟨_, rfl⟩
  obtain ⟨aph, haph⟩ : ∃ d, ha + hc = d := ⟨_, rfl⟩
  have eapl : rlo q_a0 q_a1 + rlo q_c0 q_c1 = apl := by rw [hla, hlc]; exact hapl
  have eaph : rhi q_a0 q_a1 + rhi q_c0 q_c1 = aph := by rw [hha, hhc]; exact haph
  obtain ⟨aml, haml⟩ : ∃ d, la - hc = d := ⟨_, rfl⟩
  obtain ⟨amh, hamh⟩ : ∃ d, ha - lc = d := ⟨_, rfl⟩
  have eaml : rlo q_a0 q_a1 - rhi q_c0 q_c1 = aml := by rw [hla, hhc]; exact haml
  have eamh : rhi q_a0 q_a1 - rlo q_c0 q_c1 = amh := by rw [hha, hlc]; exact hamh
  obtain ⟨atl, hatl⟩ : ∃ d, mn4 (q_a0 * q_c0) (q_a0 * q_c1) (q_a1 * q_c0) (q_a1 * q_c1) = d := ⟨_, rfl⟩
  obtain ⟨ath, hath⟩ : ∃ d, mx4 (q_a0 * q_c0) (q_a0 * q_c1) (q_a1 * q_c0) (q_a1 * q_c1) = d := ⟨_, rfl⟩
  obtain ⟨bpl, hbpl⟩ : ∃ d, lb + lc = d := ⟨_, rfl⟩
  obtain ⟨bph, hbph⟩ : ∃ d, hb + hc = d := ⟨_, rfl⟩
  have ebpl : rlo q_b0 q_b1 + rlo q_c0 q_c1 = bpl := by rw [hlb, hlc]; exact hbpl
  have ebph : rhi q_b0 q_b1 + rhi q_c0 q_c1 = bph := by rw [hhb, hhc]; exact hbph
  obtain ⟨bml, hbml⟩ : ∃ d, lb - hc = d := ⟨_, rfl⟩
  obtain ⟨bmh, hbmh⟩ : ∃ d, hb - lc = d := ⟨_, rfl⟩
  have ebml : rlo q_b0 q_b1 - rhi q_c0 q_c1 = bml := by rw [hlb, hhc]; exact hbml
  have ebmh : rhi q_b0 q_b1 - rlo q_c0 q_c1 = bmh := by rw [hhb, hlc]; exact hbmh
  obtain ⟨btl, hbtl⟩ : ∃ d, mn4 (q_b0 * q_c0) (q_b0 * q_c1) (q_b1 * q_c0) (q_b1 * q_c1) = d := ⟨_, rfl⟩
  obtain ⟨bth, hbth⟩ : ∃ d, mx4 (q_b0 * q_c0) (q_b0 * q_c1) (q_b1 * q_c0) (q_b1 * q_c1) = d := ⟨_, rfl⟩
  have inp : decide (rin apl aph bpl bph) = true := decide_eq_true (rin_of (by grind) (by grind) (by grind))
  have inm : decide (rin aml amh bml bmh) = true := decide_eq_true (rin_of (by grind) (by grind) (by grind))
  have int : decide (rin atl ath btl bth) = true := by rw [← hatl, ← hath, ← hbtl, ← hbth]; exact decide_eq_true (mul_rin h1)
  clear i0 i1 oa ob oc h1 h2 h3 hapl haph haml hamh hbpl hbph hbml hbmh
  replace d0 := hide d0
  replace d1 := hide d1
  replace d2 := hide d2
  replace d3 := hide d3
  replace d4 := hide d4
  replace s0 := hide s0
  replace s1 := hide s1
  replace eapl := hide eapl
  replace eaph := hide eaph
  replace eaml := hide eaml
  replace eamh := hide eamh
  replace hatl := hide hatl
  replace hath := hide hath
  replace ebpl := hide ebpl
  replace ebph := hide ebph
  replace ebml := hide ebml
  replace ebmh := hide ebmh
  replace hbtl := hide hbtl
  replace hbth := hide hbth
  replace inp := hide inp
  replace inm := hide inm
  replace int := hide int
  replace hla := hide hla
  replace hha := hide hha
  replace hlb := hide hlb
  replace hhb := hide hhb
  replace hlc := hide hlc
  replace hhc := hide hhc
  obtain ⟨W, hW⟩ : ∃ W, W = (((w.alloc (.cells #[.bool a0.s, .slice a0.A a0.n a0.c, .slice a0.B a0.m a0.d, .bool a1.s, .slice a1.A a1.n a1.c, .slice a1.B a1.m a1.d] 29)).alloc (.cells #[.bool b0.s, .slice b0.A b0.n b0.c, .slice b0.B b0.m b0.d, .bool b1.s, .slice b1.A b1.n b1.c, .slice b1.B b1.m b1.d] 29)).alloc (.cells #[.bool c0.s, .slice c0.A c0.n c0.c, .slice c0.B c0.m c0.d, .bool c1.s, .slice c1.A c1.n c1.c, .slice c1.B c1.m c1.d] 29)) := ⟨_, rfl⟩
  have b_a : Box6 W (w.heap.size) (.bool a0.s) (.slice a0.A a0.n a0.c) (.slice a0.B a0.m a0.d) (.bool a1.s) (.slice a1.A a1.n a1.c) (.slice a1.B a1.m a1.d) := by rw [hW]; exact (((Box6.new w _ _ _ _ _ _ rfl).al _).al _)
  have b_b : Box6 W (w.heap.size + 1) (.bool b0.s) (.slice b0.A b0.n b0.c) (.slice b0.B b0.m b0.d) (.bool b1.s) (.slice b1.A b1.n b1.c) (.slice b1.B b1.m b1.d) := by rw [hW]; exact ((Box6.new _ _ _ _ _ _ _ (by simp)).al _)
  have b_c : Box6 W (w.heap.size + 1 + 1) (.bool c0.s) (.slice c0.A c0.n c0.c) (.slice c0.B c0.m c0.d) (.bool c1.s) (.slice c1.A c1.n c1.c) (.slice c1.B c1.m c1.d) := by rw [hW]; exact (Box6.new _ _ _ _ _ _ _ (by simp))
  have hwW : Below w.heap.size w W := by rw [hW]; exact ((((Below.refl _ _).alloc (Nat.le_refl _) _).alloc (by simp) _).alloc (by simp; omega) _)
  have R_a0 := hide (h_a0.upto hwW hB)
  clear h_a0
  have R_a1 := hide (h_a1.upto hwW hB)
  clear h_a1
  have R_b0 := hide (h_b0.upto hwW hB)
  clear h_b0
  have R_b1 := hide (h_b1.upto hwW hB)
  clear h_b1
  have R_c0 := hide (h_c0.upto hwW hB)
  clear h_c0
  have R_c1 := hide (h_c1.upto hwW hB)
  clear h_c1
  have B := hide hwW
  clear hwW
  clear hB
  have U0 : Below W.heap.size W W := Below.refl _ _
  have c_a0 := b_a.at0 b_a.lt_size (Nat.le_refl _)
  have c_a1 := b_a.at1 b_a.lt_size (Nat.le_refl _)
  have c_a2 := b_a.at2 b_a.lt_size (Nat.le_refl _)
  have c_a3 := b_a.at3 b_a.lt_size (Nat.le_refl _)
  have c_a4 := b_a.at4 b_a.lt_size (Nat.le_refl _)
  have c_a5 := b_a.at5 b_a.lt_size (Nat.le_refl _)
  replace b_a := hide b_a
  have c_b0 := b_b.at0 b_b.lt_size (Nat.le_refl _)
  have c_b1 := b_b.at1 b_b.lt_size (Nat.le_refl _)
  have c_b2 := b_b.at2 b_b.lt_size (Nat.le_refl _)
  have c_b3 := b_b.at3 b_b.lt_size (Nat.le_refl _)
  have c_b4 := b_b.at4 b_b.lt_size (Nat.le_refl _)
  have c_b5 := b_b.at5 b_b.lt_size (Nat.le_refl _)
  replace b_b := hide b_b
  have c_c0 := b_c.at0 b_c.lt_size (Nat.le_refl _)
  have c_c1 := b_c.at1 b_c.lt_size (Nat.le_refl _)
  have c_c2 := b_c.at2 b_c.lt_size (Nat.le_refl _)
  have c_c3 := b_c.at3 b_c.lt_size (Nat.le_refl _)
  have c_c4 := b_c.at4 b_c.lt_size (Nat.le_refl _)
  have c_c5 := b_c.at5 b_c.lt_size (Nat.le_refl _)
  replace b_c := hide b_c
  go_enter Try.func6, Try.ntmps6
  go_wp2_with fail
  rw [← hW]
  clear hW
  have hd := Below.drw_ W
  replace R_a0 := hide (R_a0.out.then_ hd)
  replace R_a1 := hide (R_a1.out.then_ hd)
  replace R_b0 := hide (R_b0.out.then_ hd)
  replace R_b1 := hide (R_b1.out.then_ hd)
  replace R_c0 := hide (R_c0.out.then_ hd)
  replace R_c1 := hide (R_c1.out.then_ hd)
  have U1 : Below W.heap.size W (W.drew) := Below.then_ U0 hd
  replace B := hide (Below.then_ B.out hd)
  clear hd
  have tok1 : True := trivial
  go_region_held3 (fun w' => Below W.heap.size W w') (assumption)
    (first
      | (go_at_call 20; (have _t := tok1; (with_reducible refine (within_any (L := 1048576) (by omega) (Rq.le (M := 1048576) R_a0.out (by omega)) (Rq.le (M := 1048576) R_a1.out (by omega)) (Rq.le (M := 1048576) R_a0.out (by omega)) (Rq.le (M := 1048576) R_a1.out (by omega)) (Nat.le_refl _) d0.out).mono ?_); rintro e w1 ⟨rfl, hb⟩; replace R_a0 := hide (R_a0.out.then_ hb); replace R_a1 := hide (R_a1.out.then_ hb); replace R_b0 := hide (R_b0.out.then_ hb); replace R_b1 := hide (R_b1.out.then_ hb); replace R_c0 := hide (R_c0.out.then_ hb); replace R_c1 := hide (R_c1.out.then_ hb); have U2 : Below W.heap.size W w1 := Below.then_ U1 hb; replace B := hide (Below.then_ B.out hb); clear hb; have tok2 : True := trivial; clear _t tok1))
      | (go_at_call 20; (have _t := tok2; (with_reducible refine (within_any (L := 1048576) (by omega) (Rq.le (M := 1048576) R_a0.out (by omega)) (Rq.le (M := 1048576) R_a1.out (by omega)) (Rq.le (M := 1048576) R_b0.out (by omega)) (Rq.le (M := 1048576) R_b1.out (by omega)) (Nat.le_refl _) d1.out).mono ?_); rintro e w2 ⟨rfl, hb⟩; replace R_a0 := hide (R_a0.out.then_ hb); replace R_a1 := hide (R_a1.out.then_ hb); replace R_b0 := hide (R_b0.out.then_ hb); replace R_b1 := hide (R_b1.out.then_ hb); replace R_c0 := hide (R_c0.out.then_ hb); replace R_c1 := hide (R_c1.out.then_ hb); have U3 : Below W.heap.size W w2 := Below.then_ U2 hb; replace B := hide (Below.then_ B.out hb); clear hb; have tok3 : True := trivial; clear _t tok2))
      | (go_at_call 20; (have _t := tok3; (with_reducible refine (within_any (L := 1048576) (by omega) (Rq.le (M := 1048576) R_b0.out (by omega)) (Rq.le (M := 1048576) R_b1.out (by omega)) (Rq.le (M := 1048576) R_a0.out (by omega)) (Rq.le (M := 1048576) R_a1.out (by omega)) (Nat.le_refl _) d2.out).mono ?_); rintro e w3 ⟨rfl, hb⟩; replace R_a0 := hide (R_a0.out.then_ hb); replace R_a1 := hide (R_a1.out.then_ hb); replace R_b0 := hide (R_b0.out.then_ hb); replace R_b1 := hide (R_b1.out.then_ hb); replace R_c0 := hide (R_c0.out.then_ hb); replace R_c1 := hide (R_c1.out.then_ hb); have U4 : Below W.heap.size W w3 := Below.then_ U3 hb; replace B := hide (Below.then_ B.out hb); clear hb; have tok4 : True := trivial; clear _t tok3))
      | (go_at_call 27; (have _t := tok4; (with_reducible refine (sof_any (L := 1048576) (by omega) (Rq.le (M := 1048576) R_a0.out (by omega)) (Rq.le (M := 1048576) R_a1.out (by omega)) (Nat.le_refl _) hla.out hha.out).mono ?_); rintro e w4 ⟨x_x0, x_x1, rfl, R_x0, R_x1, hb⟩; replace R_a0 := hide (R_a0.out.then_ hb); replace R_a1 := hide (R_a1.out.then_ hb); replace R_b0 := hide (R_b0.out.then_ hb); replace R_b1 := hide (R_b1.out.then_ hb); replace R_c0 := hide (R_c0.out.then_ hb); replace R_c1 := hide (R_c1.out.then_ hb); have U5 : Below W.heap.size W w4 := Below.then_ U4 hb; replace B := hide (Below.then_ B.out hb); replace R_x0 := hide R_x0; replace R_x1 := hide R_x1; clear hb; have tok5 : True := trivial; clear _t tok4))
      | (go_at_call 27; (have _t := tok5; (with_reducible refine (sof_any (L := 1048576) (by omega) (Rq.le (M := 1048576) R_b0.out (by omega)) (Rq.le (M := 1048576) R_b1.out (by omega)) (Nat.le_refl _) hlb.out hhb.out).mono ?_); rintro e w5 ⟨x_y0, x_y1, rfl, R_y0, R_y1, hb⟩; replace R_a0 := hide (R_a0.out.then_ hb); replace R_a1 := hide (R_a1.out.then_ hb); replace R_b0 := hide (R_b0.out.then_ hb); replace R_b1 := hide (R_b1.out.then_ hb); replace R_c0 := hide (R_c0.out.then_ hb); replace R_c1 := hide (R_c1.out.then_ hb); replace R_x0 := hide (R_x0.out.then_ hb); replace R_x1 := hide (R_x1.out.then_ hb); have U6 : Below W.heap.size W w5 := Below.then_ U5 hb; replace B := hide (Below.then_ B.out hb); replace R_y0 := hide R_y0; replace R_y1 := hide R_y1; clear hb; have tok6 : True := trivial; clear _t tok5))
      | (go_at_call 21; (have _t := tok6; (with_reducible refine (same_s (L := 1048577) (by omega) (R_x0.out.le (M := 1048577) (by omega)) (R_x1.out.le (M := 1048577) (by omega)) (R_y0.out.le (M := 1048577) (by omega)) (R_y1.out.le (M := 1048577) (by omega)) (Nat.le_refl _) s0.out s1.out).mono ?_); rintro e w6 ⟨rfl, hb⟩; replace R_a0 := hide (R_a0.out.then_ hb); replace R_a1 := hide (R_a1.out.then_ hb); replace R_b0 := hide (R_b0.out.then_ hb); replace R_b1 := hide (R_b1.out.then_ hb); replace R_c0 := hide (R_c0.out.then_ hb); replace R_c1 := hide (R_c1.out.then_ hb); replace R_x0 := hide (R_x0.out.then_ hb); replace R_x1 := hide (R_x1.out.then_ hb); replace R_y0 := hide (R_y0.out.then_ hb); replace R_y1 := hide (R_y1.out.then_ hb); have U7 : Below W.heap.size W w6 := Below.then_ U6 hb; replace B := hide (Below.then_ B.out hb); clear hb; have tok7 : True := trivial; clear _t tok6; clear R_x0; clear R_x1; clear R_y0; clear R_y1)))
  clear tok7
  go_wp2_with fail
  refine (within_any (L := 1048576) (by omega) (Rq.le (M := 1048576) R_a0.out (by omega)) (Rq.le (M := 1048576) R_a1.out (by omega)) (Rq.le (M := 1048576) R_b0.out (by omega)) (Rq.le (M := 1048576) R_b1.out (by omega)) (Nat.le_refl _) d1.out).mono ?_
  rintro e w7 ⟨rfl, hb⟩
  replace R_a0 := hide (R_a0.out.then_ hb)
  replace R_a1 := hide (R_a1.out.then_ hb)
  replace R_b0 := hide (R_b0.out.then_ hb)
  replace R_b1 := hide (R_b1.out.then_ hb)
  replace R_c0 := hide (R_c0.out.then_ hb)
  replace R_c1 := hide (R_c1.out.then_ hb)
  have U8 : Below W.heap.size W w7 := Below.then_ U7 hb
  replace B := hide (Below.then_ B.out hb)
  clear hb
  go_wp2_with fail
  refine (within_any (L := 1048576) (by omega) (Rq.le (M := 1048576) R_b0.out (by omega)) (Rq.le (M := 1048576) R_b1.out (by omega)) (Rq.le (M := 1048576) R_c0.out (by omega)) (Rq.le (M := 1048576) R_c1.out (by omega)) (Nat.le_refl _) d3.out).mono ?_
  rintro e w8 ⟨rfl, hb⟩
  replace R_a0 := hide (R_a0.out.then_ hb)
  replace R_a1 := hide (R_a1.out.then_ hb)
  replace R_b0 := hide (R_b0.out.then_ hb)
  replace R_b1 := hide (R_b1.out.then_ hb)
  replace R_c0 := hide (R_c0.out.then_ hb)
  replace R_c1 := hide (R_c1.out.then_ hb)
  have U9 : Below W.heap.size W w8 := Below.then_ U8 hb
  replace B := hide (Below.then_ B.out hb)
  clear hb
  go_wp2_with fail
  refine (within_any (L := 1048576) (by omega) (Rq.le (M := 1048576) R_a0.out (by omega)) (Rq.le (M := 1048576) R_a1.out (by omega)) (Rq.le (M := 1048576) R_c0.out (by omega)) (Rq.le (M := 1048576) R_c1.out (by omega)) (Nat.le_refl _) d4.out).mono ?_
  rintro e w9 ⟨rfl, hb⟩
  replace R_a0 := hide (R_a0.out.then_ hb)
  replace R_a1 := hide (R_a1.out.then_ hb)
  replace R_b0 := hide (R_b0.out.then_ hb)
  replace R_b1 := hide (R_b1.out.then_ hb)
  replace R_c0 := hide (R_c0.out.then_ hb)
  replace R_c1 := hide (R_c1.out.then_ hb)
  have U10 : Below W.heap.size W w9 := Below.then_ U9 hb
  replace B := hide (Below.then_ B.out hb)
  clear hb
  go_wp2_with fail
  refine (within_any (L := 1048576) (by omega) (Rq.le (M := 1048576) R_a0.out (by omega)) (Rq.le (M := 1048576) R_a1.out (by omega)) (Rq.le (M := 1048576) R_b0.out (by omega)) (Rq.le (M := 1048576) R_b1.out (by omega)) (Nat.le_refl _) d1.out).mono ?_
  rintro e w10 ⟨rfl, hb⟩
  replace R_a0 := hide (R_a0.out.then_ hb)
  replace R_a1 := hide (R_a1.out.then_ hb)
  replace R_b0 := hide (R_b0.out.then_ hb)
  replace R_b1 := hide (R_b1.out.then_ hb)
  replace R_c0 := hide (R_c0.out.then_ hb)
  replace R_c1 := hide (R_c1.out.then_ hb)
  have U11 : Below W.heap.size W w10 := Below.then_ U10 hb
  replace B := hide (Below.then_ B.out hb)
  clear hb
  go_wp2_with fail
  have hd := Below.drw_ w10
  replace R_a0 := hide (R_a0.out.then_ hd)
  replace R_a1 := hide (R_a1.out.then_ hd)
  replace R_b0 := hide (R_b0.out.then_ hd)
  replace R_b1 := hide (R_b1.out.then_ hd)
  replace R_c0 := hide (R_c0.out.then_ hd)
  replace R_c1 := hide (R_c1.out.then_ hd)
  have U12 : Below W.heap.size W (w10.drew) := Below.then_ U11 hd
  replace B := hide (Below.then_ B.out hd)
  clear hd
  have tok8 : True := trivial
  go_region_held3 (fun w' => Below W.heap.size W w') (assumption)
    (first
      | (go_at_call 9; (have _t := tok8; (with_reducible refine (sadd_any (L := 1048576) (by omega) (Rq.le (M := 1048576) R_a0.out (by omega)) (Rq.le (M := 1048576) R_a1.out (by omega)) (Rq.le (M := 1048576) R_c0.out (by omega)) (Rq.le (M := 1048576) R_c1.out (by omega)) (Nat.le_refl _) eapl.out eaph.out).mono ?_); rintro e w11 ⟨x_ap0, x_ap1, rfl, R_ap0, R_ap1, hb⟩; replace R_a0 := hide (R_a0.out.then_ hb); replace R_a1 := hide (R_a1.out.then_ hb); replace R_b0 := hide (R_b0.out.then_ hb); replace R_b1 := hide (R_b1.out.then_ hb); replace R_c0 := hide (R_c0.out.then_ hb); replace R_c1 := hide (R_c1.out.then_ hb); have U13 : Below W.heap.size W w11 := Below.then_ U12 hb; replace B := hide (Below.then_ B.out hb); replace R_ap0 := hide R_ap0; replace R_ap1 := hide R_ap1; clear hb; have tok9 : True := trivial; clear _t tok8))
      | (go_at_call 9; (have _t := tok9; (with_reducible refine (sadd_any (L := 1048576) (by omega) (Rq.le (M := 1048576) R_b0.out (by omega)) (Rq.le (M := 1048576) R_b1.out (by omega)) (Rq.le (M := 1048576) R_c0.out (by omega)) (Rq.le (M := 1048576) R_c1.out (by omega)) (Nat.le_refl _) ebpl.out ebph.out).mono ?_); rintro e w12 ⟨x_bp0, x_bp1, rfl, R_bp0, R_bp1, hb⟩; replace R_a0 := hide (R_a0.out.then_ hb); replace R_a1 := hide (R_a1.out.then_ hb); replace R_b0 := hide (R_b0.out.then_ hb); replace R_b1 := hide (R_b1.out.then_ hb); replace R_c0 := hide (R_c0.out.then_ hb); replace R_c1 := hide (R_c1.out.then_ hb); replace R_ap0 := hide (R_ap0.out.then_ hb); replace R_ap1 := hide (R_ap1.out.then_ hb); have U14 : Below W.heap.size W w12 := Below.then_ U13 hb; replace B := hide (Below.then_ B.out hb); replace R_bp0 := hide R_bp0; replace R_bp1 := hide R_bp1; clear hb; have tok10 : True := trivial; clear _t tok9))
      | (go_at_call 20; (have _t := tok10; (with_reducible refine (within_any (L := 2097155) (by omega) (Rq.le (M := 2097155) (Nq.rq R_ap0.out) (by omega)) (Rq.le (M := 2097155) (Nq.rq R_ap1.out) (by omega)) (Rq.le (M := 2097155) (Nq.rq R_bp0.out) (by omega)) (Rq.le (M := 2097155) (Nq.rq R_bp1.out) (by omega)) (Nat.le_refl _) inp.out).mono ?_); rintro e w13 ⟨rfl, hb⟩; replace R_a0 := hide (R_a0.out.then_ hb); replace R_a1 := hide (R_a1.out.then_ hb); replace R_b0 := hide (R_b0.out.then_ hb); replace R_b1 := hide (R_b1.out.then_ hb); replace R_c0 := hide (R_c0.out.then_ hb); replace R_c1 := hide (R_c1.out.then_ hb); replace R_ap0 := hide (R_ap0.out.then_ hb); replace R_ap1 := hide (R_ap1.out.then_ hb); replace R_bp0 := hide (R_bp0.out.then_ hb); replace R_bp1 := hide (R_bp1.out.then_ hb); have U15 : Below W.heap.size W w13 := Below.then_ U14 hb; replace B := hide (Below.then_ B.out hb); clear hb; have tok11 : True := trivial; clear _t tok10; clear R_ap0; clear R_ap1; clear R_bp0; clear R_bp1))
      | (go_at_call 11; (have _t := tok11; (with_reducible refine (ssub_any (L := 1048576) (by omega) (Rq.le (M := 1048576) R_a0.out (by omega)) (Rq.le (M := 1048576) R_a1.out (by omega)) (Rq.le (M := 1048576) R_c0.out (by omega)) (Rq.le (M := 1048576) R_c1.out (by omega)) (Nat.le_refl _) eaml.out eamh.out).mono ?_); rintro e w14 ⟨x_am0, x_am1, rfl, R_am0, R_am1, hb⟩; replace R_a0 := hide (R_a0.out.then_ hb); replace R_a1 := hide (R_a1.out.then_ hb); replace R_b0 := hide (R_b0.out.then_ hb); replace R_b1 := hide (R_b1.out.then_ hb); replace R_c0 := hide (R_c0.out.then_ hb); replace R_c1 := hide (R_c1.out.then_ hb); have U16 : Below W.heap.size W w14 := Below.then_ U15 hb; replace B := hide (Below.then_ B.out hb); replace R_am0 := hide R_am0; replace R_am1 := hide R_am1; clear hb; have tok12 : True := trivial; clear _t tok11))
      | (go_at_call 11; (have _t := tok12; (with_reducible refine (ssub_any (L := 1048576) (by omega) (Rq.le (M := 1048576) R_b0.out (by omega)) (Rq.le (M := 1048576) R_b1.out (by omega)) (Rq.le (M := 1048576) R_c0.out (by omega)) (Rq.le (M := 1048576) R_c1.out (by omega)) (Nat.le_refl _) ebml.out ebmh.out).mono ?_); rintro e w15 ⟨x_bm0, x_bm1, rfl, R_bm0, R_bm1, hb⟩; replace R_a0 := hide (R_a0.out.then_ hb); replace R_a1 := hide (R_a1.out.then_ hb); replace R_b0 := hide (R_b0.out.then_ hb); replace R_b1 := hide (R_b1.out.then_ hb); replace R_c0 := hide (R_c0.out.then_ hb); replace R_c1 := hide (R_c1.out.then_ hb); replace R_am0 := hide (R_am0.out.then_ hb); replace R_am1 := hide (R_am1.out.then_ hb); have U17 : Below W.heap.size W w15 := Below.then_ U16 hb; replace B := hide (Below.then_ B.out hb); replace R_bm0 := hide R_bm0; replace R_bm1 := hide R_bm1; clear hb; have tok13 : True := trivial; clear _t tok12))
      | (go_at_call 20; (have _t := tok13; (with_reducible refine (within_any (L := 2097155) (by omega) (Rq.le (M := 2097155) (Nq.rq R_am0.out) (by omega)) (Rq.le (M := 2097155) (Nq.rq R_am1.out) (by omega)) (Rq.le (M := 2097155) (Nq.rq R_bm0.out) (by omega)) (Rq.le (M := 2097155) (Nq.rq R_bm1.out) (by omega)) (Nat.le_refl _) inm.out).mono ?_); rintro e w16 ⟨rfl, hb⟩; replace R_a0 := hide (R_a0.out.then_ hb); replace R_a1 := hide (R_a1.out.then_ hb); replace R_b0 := hide (R_b0.out.then_ hb); replace R_b1 := hide (R_b1.out.then_ hb); replace R_c0 := hide (R_c0.out.then_ hb); replace R_c1 := hide (R_c1.out.then_ hb); replace R_am0 := hide (R_am0.out.then_ hb); replace R_am1 := hide (R_am1.out.then_ hb); replace R_bm0 := hide (R_bm0.out.then_ hb); replace R_bm1 := hide (R_bm1.out.then_ hb); have U18 : Below W.heap.size W w16 := Below.then_ U17 hb; replace B := hide (Below.then_ B.out hb); clear hb; have tok14 : True := trivial; clear _t tok13; clear R_am0; clear R_am1; clear R_bm0; clear R_bm1))
      | (go_at_call 13; (have _t := tok14; (with_reducible refine (smul_any (L := 1048576) (by omega) (Rq.le (M := 1048576) R_a0.out (by omega)) (Rq.le (M := 1048576) R_a1.out (by omega)) (Rq.le (M := 1048576) R_c0.out (by omega)) (Rq.le (M := 1048576) R_c1.out (by omega)) (Nat.le_refl _) hatl.out hath.out).mono ?_); rintro e w17 ⟨x_at0, x_at1, rfl, R_at0, R_at1, hb⟩; replace R_a0 := hide (R_a0.out.then_ hb); replace R_a1 := hide (R_a1.out.then_ hb); replace R_b0 := hide (R_b0.out.then_ hb); replace R_b1 := hide (R_b1.out.then_ hb); replace R_c0 := hide (R_c0.out.then_ hb); replace R_c1 := hide (R_c1.out.then_ hb); have U19 : Below W.heap.size W w17 := Below.then_ U18 hb; replace B := hide (Below.then_ B.out hb); replace R_at0 := hide R_at0; replace R_at1 := hide R_at1; clear hb; have tok15 : True := trivial; clear _t tok14))
      | (go_at_call 13; (have _t := tok15; (with_reducible refine (smul_any (L := 1048576) (by omega) (Rq.le (M := 1048576) R_b0.out (by omega)) (Rq.le (M := 1048576) R_b1.out (by omega)) (Rq.le (M := 1048576) R_c0.out (by omega)) (Rq.le (M := 1048576) R_c1.out (by omega)) (Nat.le_refl _) hbtl.out hbth.out).mono ?_); rintro e w18 ⟨x_bt0, x_bt1, rfl, R_bt0, R_bt1, hb⟩; replace R_a0 := hide (R_a0.out.then_ hb); replace R_a1 := hide (R_a1.out.then_ hb); replace R_b0 := hide (R_b0.out.then_ hb); replace R_b1 := hide (R_b1.out.then_ hb); replace R_c0 := hide (R_c0.out.then_ hb); replace R_c1 := hide (R_c1.out.then_ hb); replace R_at0 := hide (R_at0.out.then_ hb); replace R_at1 := hide (R_at1.out.then_ hb); have U20 : Below W.heap.size W w18 := Below.then_ U19 hb; replace B := hide (Below.then_ B.out hb); replace R_bt0 := hide R_bt0; replace R_bt1 := hide R_bt1; clear hb; have tok16 : True := trivial; clear _t tok15))
      | (go_at_call 20; (have _t := tok16; (with_reducible refine (within_any (L := 2097154) (by omega) (Rq.le (M := 2097154) (Nq.rq R_at0.out) (by omega)) (Rq.le (M := 2097154) (Nq.rq R_at1.out) (by omega)) (Rq.le (M := 2097154) (Nq.rq R_bt0.out) (by omega)) (Rq.le (M := 2097154) (Nq.rq R_bt1.out) (by omega)) (Nat.le_refl _) int.out).mono ?_); rintro e w19 ⟨rfl, hb⟩; replace R_a0 := hide (R_a0.out.then_ hb); replace R_a1 := hide (R_a1.out.then_ hb); replace R_b0 := hide (R_b0.out.then_ hb); replace R_b1 := hide (R_b1.out.then_ hb); replace R_c0 := hide (R_c0.out.then_ hb); replace R_c1 := hide (R_c1.out.then_ hb); replace R_at0 := hide (R_at0.out.then_ hb); replace R_at1 := hide (R_at1.out.then_ hb); replace R_bt0 := hide (R_bt0.out.then_ hb); replace R_bt1 := hide (R_bt1.out.then_ hb); have U21 : Below W.heap.size W w19 := Below.then_ U20 hb; replace B := hide (Below.then_ B.out hb); clear hb; have tok17 : True := trivial; clear _t tok16; clear R_at0; clear R_at1; clear R_bt0; clear R_bt1))
      | (go_at_call 16; (have _t := tok17; (with_reducible refine (awake_s).mono ?_); rintro e w20 ⟨rfl, hb⟩; replace R_a0 := hide (R_a0.out.then_ hb); replace R_a1 := hide (R_a1.out.then_ hb); replace R_b0 := hide (R_b0.out.then_ hb); replace R_b1 := hide (R_b1.out.then_ hb); replace R_c0 := hide (R_c0.out.then_ hb); replace R_c1 := hide (R_c1.out.then_ hb); have U22 : Below W.heap.size W w20 := Below.then_ U21 hb; replace B := hide (Below.then_ B.out hb); clear hb; have tok18 : True := trivial; clear _t tok17)))
  clear tok18
  go_wp2
  go_ret
  exact ⟨rfl, B.out⟩

end Go.Proofs.Ytogafnfpncbgiaa

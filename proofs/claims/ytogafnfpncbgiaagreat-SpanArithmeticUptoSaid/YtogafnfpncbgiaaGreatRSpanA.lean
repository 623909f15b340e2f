/-
  The reference of span: lesser, greater, Of, norm.
-/
import Derived.Test.YtogafnfpncbgiaaGreatSpanA
namespace Go.Proofs.YtogafnfpncbgiaaGreat
open Go.RowKit


theorem cmp_ge {p q : Rat} : 0 ≤ sgn (p - q).num ↔ q ≤ p := by
  have h := cmp_lt (p := p) (q := q)
  rw [← Rat.not_lt, ← h]
  omega

set_option maxHeartbeats 4000000 in
theorem rless_1 {w : World} {Bd : Nat} {L : Nat} (gL : L ≤ 100000000) {a : Rc} {q_a : Rat} {b : Rc} {q_b : Rat} (h_a : Rq w Bd L a q_a) (h_b : Rq w Bd L b q_b) (hB : Bd ≤ w.heap.size) (h : q_a ≤ q_b) :
    Calls Tryz.prog 19 #[.agg #[.bool a.s, .slice a.A a.n a.c, .slice a.B a.m a.d], .agg #[.bool b.s, .slice b.A b.n b.c, .slice b.B b.m b.d]] w (RetN w (L + 1) q_a) := by
  obtain ⟨k, e_k⟩ : ∃ k, sgn (q_a - q_b).num = k := ⟨_, rfl⟩
  have hk : decide (k ≤ 0) = true := by exact decide_eq_true (by rw [← e_k]; exact cmp_le.2 h)
  replace e_k := hide e_k
  replace hk := hide hk
  clear h
  obtain ⟨W, hW⟩ : ∃ W, W = (((w.alloc (.cells #[.bool a.s, .slice a.A a.n a.c, .slice a.B a.m a.d] 27)).alloc (.cells #[.bool b.s, .slice b.A b.n b.c, .slice b.B b.m b.d] 27)).alloc (.cells #[.bool false, .slice none 0 0, .slice none 0 0] 27)) := ⟨_, rfl⟩
  have b_a : Box3 W (w.heap.size) (.bool a.s) (.slice a.A a.n a.c) (.slice a.B a.m a.d) := by rw [hW]; exact (((Box3.new w _ _ _ rfl).al _).al _)
  have b_b : Box3 W (w.heap.size + 1) (.bool b.s) (.slice b.A b.n b.c) (.slice b.B b.m b.d) := by rw [hW]; exact ((Box3.new _ _ _ _ (by simp)).al _)
  have b_r0 : Box3 W (w.heap.size + 1 + 1) (.bool false) (.slice none 0 0) (.slice none 0 0) := by rw [hW]; exact (Box3.new _ _ _ _ (by simp))
  have hwW : Below w.heap.size w W := by rw [hW]; exact ((((Below.refl _ _).alloc (Nat.le_refl _) _).alloc (by simp) _).alloc (by simp; omega) _)
  have R_a := hide (h_a.upto hwW hB)
  clear h_a
  have R_b := hide (h_b.upto hwW hB)
  clear h_b
  have B := hide hwW
  clear hwW
  clear hB
  have U0 : Below W.heap.size W W := Below.refl _ _
  have c_a0 := b_a.at0 b_a.lt_size (Nat.le_refl _)
  have c_a1 := b_a.at1 b_a.lt_size (Nat.le_refl _)
  have c_a2 := b_a.at2 b_a.lt_size (Nat.le_refl _)
  replace b_a := hide b_a
  have c_b0 := b_b.at0 b_b.lt_size (Nat.le_refl _)
  have c_b1 := b_b.at1 b_b.lt_size (Nat.le_refl _)
  have c_b2 := b_b.at2 b_b.lt_size (Nat.le_refl _)
  replace b_b := hide b_b
  have c_r00 := b_r0.at0 b_r0.lt_size (Nat.le_refl _)
  have c_r01 := b_r0.at1 b_r0.lt_size (Nat.le_refl _)
  have c_r02 := b_r0.at2 b_r0.lt_size (Nat.le_refl _)
  have f_r00 := b_r0.free0 b_r0.lt_size (Nat.le_refl _)
  have f_r01 := b_r0.free1 b_r0.lt_size (Nat.le_refl _)
  have f_r02 := b_r0.free2 b_r0.lt_size (Nat.le_refl _)
  have l_r0 := b_r0.lt b_r0.lt_size (Nat.le_refl _)
  replace b_r0 := hide b_r0
  go_enter Tryz.func19, Tryz.ntmps19
  go_wp2_with fail
  rw [← hW]
  clear hW
  refine (rcmp_q R_a.out (by omega) R_b.out (by omega) (Nat.le_refl _) e_k.out).mono ?_
  rintro e w1 ⟨rfl, hb⟩
  replace R_a := hide (R_a.out.then_ hb)
  replace R_b := hide (R_b.out.then_ hb)
  have U1 : Below W.heap.size W w1 := Below.then_ U0 hb
  replace B := hide (Below.then_ B.out hb)
  clear hb
  replace hk := hk.out
  go_wp2_with fail
  refine (rnorm_q R_a.out (by omega) (Nat.le_refl _) rfl).mono ?_
  rintro e w2 ⟨x_n, rfl, R_n, hb⟩
  replace R_a := hide (R_a.out.then_ hb)
  replace R_b := hide (R_b.out.then_ hb)
  have U2 : Below W.heap.size W w2 := Below.then_ U1 hb
  replace B := hide (Below.then_ B.out hb)
  replace R_n := hide R_n
  clear hb
  go_wp2
  exact bodyPost_ret (v := .agg #[.bool x_n.s, .slice x_n.A x_n.n x_n.c, .slice x_n.B x_n.m x_n.d]) (by simp [results, Tryz.results19, go_sem, c_r00 _ U2, c_r01 _ U2, c_r02 _ U2]) rfl (RetN.box B.out (by omega) (c_r00 _ U2) (c_r01 _ U2) (c_r02 _ U2) R_n.out)

set_option maxHeartbeats 4000000 in
theorem rless_2 {w : World} {Bd : Nat} {L : Nat} (gL : L ≤ 100000000) {a : Rc} {q_a : Rat} {b : Rc} {q_b : Rat} (h_a : Rq w Bd L a q_a) (h_b : Rq w Bd L b q_b) (hB : Bd ≤ w.heap.size) (h : ¬ q_a ≤ q_b) :
    Calls Tryz.prog 19 #[.agg #[.bool a.s, .slice a.A a.n a.c, .slice a.B a.m a.d], .agg #[.bool b.s, .slice b.A b.n b.c, .slice b.B b.m b.d]] w (RetN w (L + 1) q_b) := by
  obtain ⟨k, e_k⟩ : ∃ k, sgn (q_a - q_b).num = k := ⟨_, rfl⟩
  have hk : decide (k ≤ 0) = false := by refine decide_eq_false ?_; rw [← e_k, cmp_le]; exact h
  replace e_k := hide e_k
  replace hk := hide hk
  clear h
  obtain ⟨W, hW⟩ : ∃ W, W = (((w.alloc (.cells #[.bool a.s, .slice a.A a.n a.c, .slice a.B a.m a.d] 27)).alloc (.cells #[.bool b.s, .slice b.A b.n b.c, .slice b.B b.m b.d] 27)).alloc (.cells #[.bool false, .slice none 0 0, .slice none 0 0] 27)) := ⟨_, rfl⟩
  have b_a : Box3 W (w.heap.size) (.bool a.s) (.slice a.A a.n a.c) (.slice a.B a.m a.d) := by rw [hW]; exact (((Box3.new w _ _ _ rfl).al _).al _)
  have b_b : Box3 W (w.heap.size + 1) (.bool b.s) (.slice b.A b.n b.c) (.slice b.B b.m b.d) := by rw [hW]; exact ((Box3.new _ _ _ _ (by simp)).al _)
  have b_r0 : Box3 W (w.heap.size + 1 + 1) (.bool false) (.slice none 0 0) (.slice none 0 0) := by rw [hW]; exact (Box3.new _ _ _ _ (by simp))
  have hwW : Below w.heap.size w W := by rw [hW]; exact ((((Below.refl _ _).alloc (Nat.le_refl _) _).alloc (by simp) _).alloc (by simp; omega) _)
  have R_a := hide (h_a.upto hwW hB)
  clear h_a
  have R_b := hide (h_b.upto hwW hB)
  clear h_b
  have B := hide hwW
  clear hwW
  clear hB
  have U0 : Below W.heap.size W W := Below.refl _ _
  have c_a0 := b_a.at0 b_a.lt_size (Nat.le_refl _)
  have c_a1 := b_a.at1 b_a.lt_size (Nat.le_refl _)
  have c_a2 := b_a.at2 b_a.lt_size (Nat.le_refl _)
  replace b_a := hide b_a
  have c_b0 := b_b.at0 b_b.lt_size (Nat.le_refl _)
  have c_b1 := b_b.at1 b_b.lt_size (Nat.le_refl _)
  have c_b2 := b_b.at2 b_b.lt_size (Nat.le_refl _)
  replace b_b := hide b_b
  have c_r00 := b_r0.at0 b_r0.lt_size (Nat.le_refl _)
  have c_r01 := b_r0.at1 b_r0.lt_size (Nat.le_refl _)
  have c_r02 := b_r0.at2 b_r0.lt_size (Nat.le_refl _)
  have f_r00 := b_r0.free0 b_r0.lt_size (Nat.le_refl _)
  have f_r01 := b_r0.free1 b_r0.lt_size (Nat.le_refl _)
  have f_r02 := b_r0.free2 b_r0.lt_size (Nat.le_refl _)
  have l_r0 := b_r0.lt b_r0.lt_size (Nat.le_refl _)
  replace b_r0 := hide b_r0
  go_enter Tryz.func19, Tryz.ntmps19
  go_wp2_with fail
  rw [← hW]
  clear hW
  refine (rcmp_q R_a.out (by omega) R_b.out (by omega) (Nat.le_refl _) e_k.out).mono ?_
  rintro e w1 ⟨rfl, hb⟩
  replace R_a := hide (R_a.out.then_ hb)
  replace R_b := hide (R_b.out.then_ hb)
  have U1 : Below W.heap.size W w1 := Below.then_ U0 hb
  replace B := hide (Below.then_ B.out hb)
  clear hb
  replace hk := hk.out
  go_wp2_with fail
  refine (rnorm_q R_b.out (by omega) (Nat.le_refl _) rfl).mono ?_
  rintro e w2 ⟨x_n, rfl, R_n, hb⟩
  replace R_a := hide (R_a.out.then_ hb)
  replace R_b := hide (R_b.out.then_ hb)
  have U2 : Below W.heap.size W w2 := Below.then_ U1 hb
  replace B := hide (Below.then_ B.out hb)
  replace R_n := hide R_n
  clear hb
  go_wp2
  exact bodyPost_ret (v := .agg #[.bool x_n.s, .slice x_n.A x_n.n x_n.c, .slice x_n.B x_n.m x_n.d]) (by simp [results, Tryz.results19, go_sem, c_r00 _ U2, c_r01 _ U2, c_r02 _ U2]) rfl (RetN.box B.out (by omega) (c_r00 _ U2) (c_r01 _ U2) (c_r02 _ U2) R_n.out)

theorem rless_any {w : World} {Bd : Nat} {L : Nat} (gL : L ≤ 100000000) {a b : Rc} {q_a q_b : Rat} (h_a : Rq w Bd L a q_a) (h_b : Rq w Bd L b q_b) (hB : Bd ≤ w.heap.size) {r : Rat} (hr : rlo q_a q_b = r) : Calls Tryz.prog 19 #[.agg #[.bool a.s, .slice a.A a.n a.c, .slice a.B a.m a.d], .agg #[.bool b.s, .slice b.A b.n b.c, .slice b.B b.m b.d]] w (RetN w (L + 1) r) := by
  subst hr
  by_cases hc : q_a ≤ q_b
  · rw [rlo_of_le hc]; exact rless_1 gL h_a h_b hB hc
  · rw [rlo_of_lt (Rat.not_le.1 hc)]; exact rless_2 gL h_a h_b hB hc

set_option maxHeartbeats 4000000 in
theorem rgreat_1 {w : World} {Bd : Nat} {L : Nat} (gL : L ≤ 100000000) {a : Rc} {q_a : Rat} {b : Rc} {q_b : Rat} (h_a : Rq w Bd L a q_a) (h_b : Rq w Bd L b q_b) (hB : Bd ≤ w.heap.size) (h : q_b ≤ q_a) :
    Calls Tryz.prog 20 #[.agg #[.bool a.s, .slice a.A a.n a.c, .slice a.B a.m a.d], .agg #[.bool b.s, .slice b.A b.n b.c, .slice b.B b.m b.d]] w (RetN w (L + 1) q_a) := by
  obtain ⟨k, e_k⟩ : ∃ k, sgn (q_a - q_b).num = k := ⟨_, rfl⟩
  have hk : decide (0 ≤ k) = true := by exact decide_eq_true (by rw [← e_k]; exact cmp_ge.2 h)
  replace e_k := hide e_k
  replace hk := hide hk
  clear h
  obtain ⟨W, hW⟩ : ∃ W, W = (((w.alloc (.cells #[.bool a.s, .slice a.A a.n a.c, .slice a.B a.m a.d] 27)).alloc (.cells #[.bool b.s, .slice b.A b.n b.c, .slice b.B b.m b.d] 27)).alloc (.cells #[.bool false, .slice none 0 0, .slice none 0 0] 27)) := ⟨_, rfl⟩
  have b_a : Box3 W (w.heap.size) (.bool a.s) (.slice a.A a.n a.c) (.slice a.B a.m a.d) := by rw [hW]; exact (((Box3.new w _ _ _ rfl).al _).al _)
  have b_b : Box3 W (w.heap.size + 1) (.bool b.s) (.slice b.A b.n b.c) (.slice b.B b.m b.d) := by rw [hW]; exact ((Box3.new _ _ _ _ (by simp)).al _)
  have b_r0 : Box3 W (w.heap.size + 1 + 1) (.bool false) (.slice none 0 0) (.slice none 0 0) := by rw [hW]; exact (Box3.new _ _ _ _ (by simp))
  have hwW : Below w.heap.size w W := by rw [hW]; exact ((((Below.refl _ _).alloc (Nat.le_refl _) _).alloc (by simp) _).alloc (by simp; omega) _)
  have R_a := hide (h_a.upto hwW hB)
  clear h_a
  have R_b := hide (h_b.upto hwW hB)
  clear h_b
  have B := hide hwW
  clear hwW
  clear hB
  have U0 : Below W.heap.size W W := Below.refl _ _
  have c_a0 := b_a.at0 b_a.lt_size (Nat.le_refl _)
  have c_a1 := b_a.at1 b_a.lt_size (Nat.le_refl _)
  have c_a2 := b_a.at2 b_a.lt_size (Nat.le_refl _)
  replace b_a := hide b_a
  have c_b0 := b_b.at0 b_b.lt_size (Nat.le_refl _)
  have c_b1 := b_b.at1 b_b.lt_size (Nat.le_refl _)
  have c_b2 := b_b.at2 b_b.lt_size (Nat.le_refl _)
  replace b_b := hide b_b
  have c_r00 := b_r0.at0 b_r0.lt_size (Nat.le_refl _)
  have c_r01 := b_r0.at1 b_r0.lt_size (Nat.le_refl _)
  have c_r02 := b_r0.at2 b_r0.lt_size (Nat.le_refl _)
  have f_r00 := b_r0.free0 b_r0.lt_size (Nat.le_refl _)
  have f_r01 := b_r0.free1 b_r0.lt_size (Nat.le_refl _)
  have f_r02 := b_r0.free2 b_r0.lt_size (Nat.le_refl _)
  have l_r0 := b_r0.lt b_r0.lt_size (Nat.le_refl _)
  replace b_r0 := hide b_r0
  go_enter Tryz.func20, Tryz.ntmps20
  go_wp2_with fail
  rw [← hW]
  clear hW
  refine (rcmp_q R_a.out (by omega) R_b.out (by omega) (Nat.le_refl _) e_k.out).mono ?_
  rintro e w1 ⟨rfl, hb⟩
  replace R_a := hide (R_a.out.then_ hb)
  replace R_b := hide (R_b.out.then_ hb)
  have U1 : Below W.heap.size W w1 := Below.then_ U0 hb
  replace B := hide (Below.then_ B.out hb)
  clear hb
  replace hk := hk.out
  go_wp2_with fail
  refine (rnorm_q R_a.out (by omega) (Nat.le_refl _) rfl).mono ?_
  rintro e w2 ⟨x_n, rfl, R_n, hb⟩
  replace R_a := hide (R_a.out.then_ hb)
  replace R_b := hide (R_b.out.then_ hb)
  have U2 : Below W.heap.size W w2 := Below.then_ U1 hb
  replace B := hide (Below.then_ B.out hb)
  replace R_n := hide R_n
  clear hb
  go_wp2
  exact bodyPost_ret (v := .agg #[.bool x_n.s, .slice x_n.A x_n.n x_n.c, .slice x_n.B x_n.m x_n.d]) (by simp [results, Tryz.results20, go_sem, c_r00 _ U2, c_r01 _ U2, c_r02 _ U2]) rfl (RetN.box B.out (by omega) (c_r00 _ U2) (c_r01 _ U2) (c_r02 _ U2) R_n.out)

set_option maxHeartbeats 4000000 in
theorem rgreat_2 {w : World} {Bd : Nat} {L : Nat} (gL : L ≤ 100000000) {a : Rc} {q_a : Rat} {b : Rc} {q_b : Rat} (h_a : Rq w Bd L a q_a) (h_b : Rq w Bd L b q_b) (hB : Bd ≤ w.heap.size) (h : ¬ q_b ≤ q_a) :
    Calls Tryz.prog 20 #[.agg #[.bool a.s, .slice a.A a.n a.c, .slice a.B a.m a.d], .agg #[.bool b.s, .slice b.A b.n b.c, .slice b.B b.m b.d]] w (RetN w (L + 1) q_b) := by
  obtain ⟨k, e_k⟩ : ∃ k, sgn (q_a - q_b).num = k := ⟨_, rfl⟩
  have hk : decide (0 ≤ k) = false := by refine decide_eq_false ?_; rw [← e_k, cmp_ge]; exact h
  replace e_k := hide e_k
  replace hk := hide hk
  clear h
  obtain ⟨W, hW⟩ : ∃ W, W = (((w.alloc (.cells #[.bool a.s, .slice a.A a.n a.c, .slice a.B a.m a.d] 27)).alloc (.cells #[.bool b.s, .slice b.A b.n b.c, .slice b.B b.m b.d] 27)).alloc (.cells #[.bool false, .slice none 0 0, .slice none 0 0] 27)) := ⟨_, rfl⟩
  have b_a : Box3 W (w.heap.size) (.bool a.s) (.slice a.A a.n a.c) (.slice a.B a.m a.d) := by rw [hW]; exact (((Box3.new w _ _ _ rfl).al _).al _)
  have b_b : Box3 W (w.heap.size + 1) (.bool b.s) (.slice b.A b.n b.c) (.slice b.B b.m b.d) := by rw [hW]; exact ((Box3.new _ _ _ _ (by simp)).al _)
  have b_r0 : Box3 W (w.heap.size + 1 + 1) (.bool false) (.slice none 0 0) (.slice none 0 0) := by rw [hW]; exact (Box3.new _ _ _ _ (by simp))
  have hwW : Below w.heap.size w W := by rw [hW]; exact ((((Below.refl _ _).alloc (Nat.le_refl _) _).alloc (by simp) _).alloc (by simp; omega) _)
  have R_a := hide (h_a.upto hwW hB)
  clear h_a
  have R_b := hide (h_b.upto hwW hB)
  clear h_b
  have B := hide hwW
  clear hwW
  clear hB
  have U0 : Below W.heap.size W W := Below.refl _ _
  have c_a0 := b_a.at0 b_a.lt_size (Nat.le_refl _)
  have c_a1 := b_a.at1 b_a.lt_size (Nat.le_refl _)
  have c_a2 := b_a.at2 b_a.lt_size (Nat.le_refl _)
  replace b_a := hide b_a
  have c_b0 := b_b.at0 b_b.lt_size (Nat.le_refl _)
  have c_b1 := b_b.at1 b_b.lt_size (Nat.le_refl _)
  have c_b2 := b_b.at2 b_b.lt_size (Nat.le_refl _)
  replace b_b := hide b_b
  have c_r00 := b_r0.at0 b_r0.lt_size (Nat.le_refl _)
  have c_r01 := b_r0.at1 b_r0.lt_size (Nat.le_refl _)
  have c_r02 := b_r0.at2 b_r0.lt_size (Nat.le_refl _)
  have f_r00 := b_r0.free0 b_r0.lt_size (Nat.le_refl _)
  have f_r01 := b_r0.free1 b_r0.lt_size (Nat.le_refl _)
  have f_r02 := b_r0.free2 b_r0.lt_size (Nat.le_refl _)
  have l_r0 := b_r0.lt b_r0.lt_size (Nat.le_refl _)
  replace b_r0 := hide b_r0
  go_enter Tryz.func20, Tryz.ntmps20
  go_wp2_with fail
  rw [← hW]
  clear hW
  refine (rcmp_q R_a.out (by omega) R_b.out (by omega) (Nat.le_refl _) e_k.out).mono ?_
  rintro e w1 ⟨rfl, hb⟩
  replace R_a := hide (R_a.out.then_ hb)
  replace R_b := hide (R_b.out.then_ hb)
  have U1 : Below W.heap.size W w1 := Below.then_ U0 hb
  replace B := hide (Below.then_ B.out hb)
  clear hb
  replace hk := hk.out
  go_wp2_with fail
  refine (rnorm_q R_b.out (by omega) (Nat.le_refl _) rfl).mono ?_
  rintro e w2 ⟨x_n, rfl, R_n, hb⟩
  replace R_a := hide (R_a.out.then_ hb)
  replace R_b := hide (R_b.out.then_ hb)
  have U2 : Below W.heap.size W w2 := Below.then_ U1 hb
  replace B := hide (Below.then_ B.out hb)
  replace R_n := hide R_n
  clear hb
  go_wp2
  exact bodyPost_ret (v := .agg #[.bool x_n.s, .slice x_n.A x_n.n x_n.c, .slice x_n.B x_n.m x_n.d]) (by simp [results, Tryz.results20, go_sem, c_r00 _ U2, c_r01 _ U2, c_r02 _ U2]) rfl (RetN.box B.out (by omega) (c_r00 _ U2) (c_r01 _ U2) (c_r02 _ U2) R_n.out)

theorem rgreat_any {w : World} {Bd : Nat} {L : Nat} (gL : L ≤ 100000000) {a b : Rc} {q_a q_b : Rat} (h_a : Rq w Bd L a q_a) (h_b : Rq w Bd L b q_b) (hB : Bd ≤ w.heap.size) {r : Rat} (hr : rhi q_a q_b = r) : Calls Tryz.prog 20 #[.agg #[.bool a.s, .slice a.A a.n a.c, .slice a.B a.m a.d], .agg #[.bool b.s, .slice b.A b.n b.c, .slice b.B b.m b.d]] w (RetN w (L + 1) r) := by
  subst hr
  by_cases hc : q_b ≤ q_a
  · rw [rhi_ge hc]; exact rgreat_1 gL h_a h_b hB hc
  · rw [rhi_of_le (Rat.le_of_lt (Rat.not_le.1 hc))]; exact rgreat_2 gL h_a h_b hB hc

set_option maxHeartbeats 4000000 in
theorem rsof_any {w : World} {Bd : Nat} {L : Nat} (gL : L ≤ 100000000) {a : Rc} {q_a : Rat} {b : Rc} {q_b : Rat} (h_a : Rq w Bd L a q_a) (h_b : Rq w Bd L b q_b) (hB : Bd ≤ w.heap.size) {l h : Rat} (hl : rlo q_a q_b = l) (hh : rhi q_a q_b = h) :
    Calls Tryz.prog 6 #[.agg #[.bool a.s, .slice a.A a.n a.c, .slice a.B a.m a.d], .agg #[.bool b.s, .slice b.A b.n b.c, .slice b.B b.m b.d]] w (RetSN w (L + 1) l h) := by
  replace hl := hide hl
  replace hh := hide hh
  have gL1 : L ≤ 100000000 := gL
  replace gL1 := hide gL1
  obtain ⟨W, hW⟩ : ∃ W, W = (((w.alloc (.cells #[.bool a.s, .slice a.A a.n a.c, .slice a.B a.m a.d] 27)).alloc (.cells #[.bool b.s, .slice b.A b.n b.c, .slice b.B b.m b.d] 27)).alloc (.cells #[.bool false, .slice none 0 0, .slice none 0 0, .bool false, .slice none 0 0, .slice none 0 0] 29)) := ⟨_, rfl⟩
  have b_a : Box3 W (w.heap.size) (.bool a.s) (.slice a.A a.n a.c) (.slice a.B a.m a.d) := by rw [hW]; exact (((Box3.new w _ _ _ rfl).al _).al _)
  have b_b : Box3 W (w.heap.size + 1) (.bool b.s) (.slice b.A b.n b.c) (.slice b.B b.m b.d) := by rw [hW]; exact ((Box3.new _ _ _ _ (by simp)).al _)
  have b_r0 : Box6 W (w.heap.size + 1 + 1) (.bool false) (.slice none 0 0) (.slice none 0 0) (.bool false) (.slice none 0 0) (.slice none 0 0) := by rw [hW]; exact (Box6.new _ _ _ _ _ _ _ (by simp))
  have hwW : Below w.heap.size w W := by rw [hW]; exact ((((Below.refl _ _).alloc (Nat.le_refl _) _).alloc (by simp) _).alloc (by simp; omega) _)
  have R_a := hide (h_a.upto hwW hB)
  clear h_a
  have R_b := hide (h_b.upto hwW hB)
  clear h_b
  have B := hide hwW
  clear hwW
  clear hB
  have U0 : Below W.heap.size W W := Below.refl _ _
  have c_a0 := b_a.at0 b_a.lt_size (Nat.le_refl _)
  have c_a1 := b_a.at1 b_a.lt_size (Nat.le_refl _)
  have c_a2 := b_a.at2 b_a.lt_size (Nat.le_refl _)
  replace b_a := hide b_a
  have c_b0 := b_b.at0 b_b.lt_size (Nat.le_refl _)
  have c_b1 := b_b.at1 b_b.lt_size (Nat.le_refl _)
  have c_b2 := b_b.at2 b_b.lt_size (Nat.le_refl _)
  replace b_b := hide b_b
  have c_r00 := b_r0.at0 b_r0.lt_size (Nat.le_refl _)
  have c_r01 := b_r0.at1 b_r0.lt_size (Nat.le_refl _)
  have c_r02 := b_r0.at2 b_r0.lt_size (Nat.le_refl _)
  have c_r03 := b_r0.at3 b_r0.lt_size (Nat.le_refl _)
  have c_r04 := b_r0.at4 b_r0.lt_size (Nat.le_refl _)
  have c_r05 := b_r0.at5 b_r0.lt_size (Nat.le_refl _)
  have f_r00 := b_r0.free0 b_r0.lt_size (Nat.le_refl _)
  have f_r01 := b_r0.free1 b_r0.lt_size (Nat.le_refl _)
  have f_r02 := b_r0.free2 b_r0.lt_size (Nat.le_refl _)
  have f_r03 := b_r0.free3 b_r0.lt_size (Nat.le_refl _)
  have f_r04 := b_r0.free4 b_r0.lt_size (Nat.le_refl _)
  have f_r05 := b_r0.free5 b_r0.lt_size (Nat.le_refl _)
  have l_r0 := b_r0.lt b_r0.lt_size (Nat.le_refl _)
  replace b_r0 := hide b_r0
  go_enter Tryz.func6, Tryz.ntmps6
  go_wp2_with fail
  rw [← hW]
  clear hW
  have k_a0 := b_a.out.but0 (g1 := w.heap.size + 1 + 1) (g2 := w.heap.size + 1 + 1) (by omega) (by omega)
  have k_a1 := b_a.out.but1 (g1 := w.heap.size + 1 + 1) (g2 := w.heap.size + 1 + 1) (by omega) (by omega)
  have k_a2 := b_a.out.but2 (g1 := w.heap.size + 1 + 1) (g2 := w.heap.size + 1 + 1) (by omega) (by omega)
  have k_b0 := b_b.out.but0 (g1 := w.heap.size + 1 + 1) (g2 := w.heap.size + 1 + 1) (by omega) (by omega)
  have k_b1 := b_b.out.but1 (g1 := w.heap.size + 1 + 1) (g2 := w.heap.size + 1 + 1) (by omega) (by omega)
  have k_b2 := b_b.out.but2 (g1 := w.heap.size + 1 + 1) (g2 := w.heap.size + 1 + 1) (by omega) (by omega)
  have hd := Below.drw_ W
  replace R_a := hide (R_a.out.then_ hd)
  replace R_b := hide (R_b.out.then_ hd)
  have U1 : Below W.heap.size W (W.drew) := Below.then_ U0 hd
  replace B := hide (Below.then_ B.out hd)
  have K1 : KeptBut (w.heap.size + 1 + 1) (w.heap.size + 1 + 1) W.heap.size W (W.drew) := KeptBut.below U1
  clear hd
  have tok1 : True := trivial
  go_region_held3 (fun w' => KeptBut (w.heap.size + 1 + 1) (w.heap.size + 1 + 1) W.heap.size W w') (first | (with_reducible assumption) | (with_reducible exact KeptBut.drw _) | ((repeat (first | (with_reducible refine KeptBut.set0 ?_ _) | (with_reducible refine KeptBut.drew_ ?_))); first | (with_reducible assumption) | (with_reducible exact KeptBut.refl _ _ _ _)))
    (first
      | (go_at_call 19; (have _t := tok1; (with_reducible refine (rless_any gL R_a.out R_b.out (Nat.le_refl _) hl.out).mono ?_); rintro e w1 ⟨x_s0, rfl, R_s0, hb⟩; replace R_a := hide (R_a.out.then_ hb); replace R_b := hide (R_b.out.then_ hb); have U2 : Below W.heap.size W w1 := Below.then_ U1 hb; replace B := hide (Below.then_ B.out hb); have K2 : KeptBut (w.heap.size + 1 + 1) (w.heap.size + 1 + 1) W.heap.size W w1 := KeptBut.below U2; replace R_s0 := hide R_s0; clear hb; have tok2 : True := trivial; clear _t tok1))
      | (go_at_call 20; (have _t := tok2; (with_reducible refine (rgreat_any gL R_a.out R_b.out (Nat.le_refl _) hh.out).mono ?_); rintro e w2 ⟨x_s1, rfl, R_s1, hb⟩; replace R_a := hide (R_a.out.then_ hb); replace R_b := hide (R_b.out.then_ hb); replace R_s0 := hide (R_s0.out.then_ hb); have U3 : Below W.heap.size W w2 := Below.then_ U2 hb; replace B := hide (Below.then_ B.out hb); have K3 : KeptBut (w.heap.size + 1 + 1) (w.heap.size + 1 + 1) W.heap.size W w2 := KeptBut.below U3; replace R_s1 := hide R_s1; clear hb; have tok3 : True := trivial; clear _t tok2)))
  clear tok3
  clear k_a0 k_a1 k_a2
  clear k_b0 k_b1 k_b2
  go_wp2
  exact bodyPost_ret (v := .agg #[.bool x_s0.s, .slice x_s0.A x_s0.n x_s0.c, .slice x_s0.B x_s0.m x_s0.d, .bool x_s1.s, .slice x_s1.A x_s1.n x_s1.c, .slice x_s1.B x_s1.m x_s1.d]) (by simp [results, Tryz.results6, go_sem, c_r00 _ U3, c_r01 _ U3, c_r02 _ U3, c_r03 _ U3, c_r04 _ U3, c_r05 _ U3]) rfl (RetSN.box B.out (by omega) (c_r00 _ U3) (c_r01 _ U3) (c_r02 _ U3) (c_r03 _ U3) (c_r04 _ U3) (c_r05 _ U3) R_s0.out R_s1.out)

set_option maxHeartbeats 4000000 in
theorem rsnorm_any {w : World} {Bd : Nat} {L : Nat} (gL : L ≤ 100000000) {a0 : Rc} {q_a0 : Rat} {a1 : Rc} {q_a1 : Rat} (h_a0 : Rq w Bd L a0 q_a0) (h_a1 : Rq w Bd L a1 q_a1) (hB : Bd ≤ w.heap.size) {l h : Rat} (hl : rlo q_a0 q_a1 = l) (hh : rhi q_a0 q_a1 = h) :
    Calls Tryz.prog 22 #[.agg #[.bool a0.s, .slice a0.A a0.n a0.c, .slice a0.B a0.m a0.d, .bool a1.s, .slice a1.A a1.n a1.c, .slice a1.B a1.m a1.d]] w (RetSN w (L + 1) l h) := by
  replace hl := hide hl
  replace hh := hide hh
  obtain ⟨W, hW⟩ : ∃ W, W = ((w.alloc (.cells #[.bool a0.s, .slice a0.A a0.n a0.c, .slice a0.B a0.m a0.d, .bool a1.s, .slice a1.A a1.n a1.c, .slice a1.B a1.m a1.d] 29)).alloc (.cells #[.bool false, .slice none 0 0, .slice none 0 0, .bool false, .slice none 0 0, .slice none 0 0] 29)) := ⟨_, rfl⟩
  have b_a : Box6 W (w.heap.size) (.bool a0.s) (.slice a0.A a0.n a0.c) (.slice a0.B a0.m a0.d) (.bool a1.s) (.slice a1.A a1.n a1.c) (.slice a1.B a1.m a1.d) := by rw [hW]; exact ((Box6.new w _ _ _ _ _ _ rfl).al _)
  have b_r0 : Box6 W (w.heap.size + 1) (.bool false) (.slice none 0 0) (.slice none 0 0) (.bool false) (.slice none 0 0) (.slice none 0 0) := by rw [hW]; exact (Box6.new _ _ _ _ _ _ _ (by simp))
  have hwW : Below w.heap.size w W := by rw [hW]; exact (((Below.refl _ _).alloc (Nat.le_refl _) _).alloc (by simp) _)
  have R_a0 := hide (h_a0.upto hwW hB)
  clear h_a0
  have R_a1 := hide (h_a1.upto hwW hB)
  clear h_a1
  have B := hide hwW
  clear hwW
  clear hB
  have U0 : Below W.heap.size W W := Below.refl _ _
  have c_a0 := b_a.at0 b_a.lt_size (Nat.le_refl _)
  have c_a1 := b_a.at1 b_a.lt_size (Nat.le_refl _)
  have c_a2 := b_a.at2 b_a.lt_size (Nat.le_refl _)
  have c_a3 := b_a.at3 b_a.lt_size (Nat.le_refl _)
  have c_a4 := b_a.at4 b_a.lt_size (Nat.le_refl _)
  have c_a5 := b_a.at5 b_a.lt_size (Nat.le_refl _)
  replace b_a := hide b_a
  have c_r00 := b_r0.at0 b_r0.lt_size (Nat.le_refl _)
  have c_r01 := b_r0.at1 b_r0.lt_size (Nat.le_refl _)
  have c_r02 := b_r0.at2 b_r0.lt_size (Nat.le_refl _)
  have c_r03 := b_r0.at3 b_r0.lt_size (Nat.le_refl _)
  have c_r04 := b_r0.at4 b_r0.lt_size (Nat.le_refl _)
  have c_r05 := b_r0.at5 b_r0.lt_size (Nat.le_refl _)
  have f_r00 := b_r0.free0 b_r0.lt_size (Nat.le_refl _)
  have f_r01 := b_r0.free1 b_r0.lt_size (Nat.le_refl _)
  have f_r02 := b_r0.free2 b_r0.lt_size (Nat.le_refl _)
  have f_r03 := b_r0.free3 b_r0.lt_size (Nat.le_refl _)
  have f_r04 := b_r0.free4 b_r0.lt_size (Nat.le_refl _)
  have f_r05 := b_r0.free5 b_r0.lt_size (Nat.le_refl _)
  have l_r0 := b_r0.lt b_r0.lt_size (Nat.le_refl _)
  replace b_r0 := hide b_r0
  go_enter Tryz.func22, Tryz.ntmps22
  go_wp2_with fail
  rw [← hW]
  clear hW
  refine (rsof_any gL R_a0.out R_a1.out (Nat.le_refl _) hl.out hh.out).mono ?_
  rintro e w1 ⟨x_s0, x_s1, rfl, R_s0, R_s1, hb⟩
  replace R_a0 := hide (R_a0.out.then_ hb)
  replace R_a1 := hide (R_a1.out.then_ hb)
  have U1 : Below W.heap.size W w1 := Below.then_ U0 hb
  replace B := hide (Below.then_ B.out hb)
  replace R_s0 := hide R_s0
  replace R_s1 := hide R_s1
  clear hb
  go_wp2
  exact bodyPost_ret (v := .agg #[.bool x_s0.s, .slice x_s0.A x_s0.n x_s0.c, .slice x_s0.B x_s0.m x_s0.d, .bool x_s1.s, .slice x_s1.A x_s1.n x_s1.c, .slice x_s1.B x_s1.m x_s1.d]) (by simp [results, Tryz.results22, go_sem, c_r00 _ U1, c_r01 _ U1, c_r02 _ U1, c_r03 _ U1, c_r04 _ U1, c_r05 _ U1]) rfl (RetSN.box B.out (by omega) (c_r00 _ U1) (c_r01 _ U1) (c_r02 _ U1) (c_r03 _ U1) (c_r04 _ U1) (c_r05 _ U1) R_s0.out R_s1.out)

end Go.Proofs.YtogafnfpncbgiaaGreat

/-
  inOrder, norm, lesser, greater, Of of span.
-/
import Derived.Test.YtogafnfpncbgiaaSpan
namespace Go.Proofs.Ytogafnfpncbgiaa
open Go.RowKit


/-- the lesser, the greater of two numbers -/
def rlo (p q : Rat) : Rat := if q < p then q else p
def rhi (p q : Rat) : Rat := if q < p then p else q
theorem rlo_of_lt {p q : Rat} (h : q < p) : rlo p q = q := if_pos h
theorem rhi_of_lt {p q : Rat} (h : q < p) : rhi p q = p := if_pos h
theorem rlo_of_le {p q : Rat} (h : p ≤ q) : rlo p q = p := if_neg (Rat.not_lt.2 h)
theorem rhi_of_le {p q : Rat} (h : p ≤ q) : rhi p q = q := if_neg (Rat.not_lt.2 h)
theorem rlo_le_rhi (p q : Rat) : rlo p q ≤ rhi p q := by unfold rlo rhi; split <;> grind
theorem cmp_gt {p q : Rat} : 0 < sgn (p - q).num ↔ q < p := by
  constructor
  · intro h
    refine Rat.not_le.1 fun h2 => ?_
    have := sgn_le h2
    omega
  · intro h
    have h1 := sgn_lt h
    have e : (q - p).num = -(p - q).num := by rw [← Rat.neg_num, Rat.neg_sub]
    rw [e] at h1
    unfold sgn at *
    rw [Int.sign_neg] at h1
    omega
theorem cmp_lt {p q : Rat} : sgn (p - q).num < 0 ↔ p < q := by
  rw [← cmp_gt (p := q) (q := p)]
  have e : (q - p).num = -(p - q).num := by rw [← Rat.neg_num, Rat.neg_sub]
  rw [e]
  unfold sgn
  rw [Int.sign_neg]
  omega
theorem cmp_le {p q : Rat} : sgn (p - q).num ≤ 0 ↔ p ≤ q := by
  have h := cmp_gt (p := p) (q := q)
  rw [← Rat.not_lt, ← h]
  omega
theorem cmp_eq {p q : Rat} : sgn (p - q).num = 0 ↔ p = q := by
  have h1 := cmp_gt (p := p) (q := q)
  have h2 := cmp_lt (p := p) (q := q)
  constructor
  · intro h
    have a : ¬ q < p := fun x => by have := h1.2 x; omega
    have b : ¬ p < q := fun x => by have := h2.2 x; omega
    grind
  · rintro rfl
    rw [Rat.sub_self]
    rfl

theorem rhi_ge {p q : Rat} (h : q ≤ p) : rhi p q = p := by unfold rhi; split <;> grind

set_option maxHeartbeats 4000000 in
theorem inorder_gt {w : World} {Bd : Nat} {L : Nat} (gL : L ≤ 100000000) {a0 : Rc} {q_a0 : Rat} {a1 : Rc} {q_a1 : Rat} (h_a0 : Rq w Bd L a0 q_a0) (h_a1 : Rq w Bd L a1 q_a1) (hB : Bd ≤ w.heap.size) (h : q_a1 < q_a0) :
    Calls Try.prog 29 #[.agg #[.bool a0.s, .slice a0.A a0.n a0.c, .slice a0.B a0.m a0.d, .bool a1.s, .slice a1.A a1.n a1.c, .slice a1.B a1.m a1.d]] w (RetS w L (q_a1) (q_a0)) := by
  obtain ⟨k, e_k⟩ : ∃ k, sgn (q_a0 - q_a1).num = k := ⟨_, rfl⟩
  have hk : decide (0 < k) = true := by exact decide_eq_true (by rw [← e_k]; exact cmp_gt.2 h)
  replace e_k := hide e_k
  replace hk := hide hk
  clear h
  obtain ⟨W, hW⟩ : ∃ W, W = ((w.alloc (.cells #[.bool a0.s, .slice a0.A a0.n a0.c, .slice a0.B a0.m a0.d, .bool a1.s, .slice a1.A a1.n a1.c, .slice a1.B a1.m a1.d] 29)).alloc (.cells #[.bool false, .slice none 0 0, .slice none 0 0, .bool false, .slice none 0 0, .slice none 0 0] 29)) := ⟨_, rfl⟩
  have b_a : Box6 W (w.heap.size) (.bool a0.s) (.slice a0.A a0.n a0.c) (.slice a0.B a0.m a0.d) (.bool a1.s) (.slice a1.A a1.n a1.c) (.slice a1.B a1.m a1.d) := by rw [hW]; exact ((Box6.new w _ _ _ _ _ _ rfl).al _)
  have b_r0 : Box6 W (w.heap.size + 1) (.bool false) (.slice none 0 0) (.slice none 0 0) (.bool false) (.slice none 0 0) (.slice none 0 0) := by rw [hW]; exact (Box6.new _ _ _ _ _ _ _ (by simp))
  have hwW : Below w.heap.size w W := by rw [hW]; exact (((Below.refl _ _).alloc (Nat.le_refl _) _).alloc (by simp) _)
  have R_a0 := hide (h_a0.upto hwW hB)
  clear h_a0
  have R_a1 := hide (h_a1.upto hwW hB)
  clear h_a1
  have B := hide hwW
  clear hwW
  clear hB
  have U0 : Below W.heap.size W W := Below.refl _ _
  have c_a0 := b_a.at0 b_a.lt_size (Nat.le_refl _)
  have c_a1 := b_a.at1 b_a.lt_size (Nat.le_refl _)
  have c_a2 := b_a.at2 b_a.lt_size (Nat.le_refl _)
  have c_a3 := b_a.at3 b_a.lt_size (Nat.le_refl _)
  have c_a4 := b_a.at4 b_a.lt_size (Nat.le_refl _)
  have c_a5 := b_a.at5 b_a.lt_size (Nat.le_refl _)
  replace b_a := hide b_a
  have c_r00 := b_r0.at0 b_r0.lt_size (Nat.le_refl _)
  have c_r01 := b_r0.at1 b_r0.lt_size (Nat.le_refl _)
  have c_r02 := b_r0.at2 b_r0.lt_size (Nat.le_refl _)
  have c_r03 := b_r0.at3 b_r0.lt_size (Nat.le_refl _)
  have c_r04 := b_r0.at4 b_r0.lt_size (Nat.le_refl _)
  have c_r05 := b_r0.at5 b_r0.lt_size (Nat.le_refl _)
  have f_r00 := b_r0.free0 b_r0.lt_size (Nat.le_refl _)
  have f_r01 := b_r0.free1 b_r0.lt_size (Nat.le_refl _)
  have f_r02 := b_r0.free2 b_r0.lt_size (Nat.le_refl _)
  have f_r03 := b_r0.free3 b_r0.lt_size (Nat.le_refl _)
  have f_r04 := b_r0.free4 b_r0.lt_size (Nat.le_refl _)
  have f_r05 := b_r0.free5 b_r0.lt_size (Nat.le_refl _)
  have l_r0 := b_r0.lt b_r0.lt_size (Nat.le_refl _)
  replace b_r0 := hide b_r0
  go_enter Try.func29, Try.ntmps29
  go_wp2_with fail
  rw [← hW]
  clear hW
  refine (cmp_q R_a0.out (by omega) R_a1.out (by omega) (Nat.le_refl _) e_k.out).mono ?_
  rintro e w1 ⟨rfl, hb⟩
  replace R_a0 := hide (R_a0.out.then_ hb)
  replace R_a1 := hide (R_a1.out.then_ hb)
  have U1 : Below W.heap.size W w1 := Below.then_ U0 hb
  replace B := hide (Below.then_ B.out hb)
  clear hb
  replace hk := hk.out
  go_wp2
  exact bodyPost_ret (v := .agg #[.bool a1.s, .slice a1.A a1.n a1.c, .slice a1.B a1.m a1.d, .bool a0.s, .slice a0.A a0.n a0.c, .slice a0.B a0.m a0.d]) (by simp [results, Try.results29, go_sem, c_r00 _ U1, c_r01 _ U1, c_r02 _ U1, c_r03 _ U1, c_r04 _ U1, c_r05 _ U1]) rfl (RetS.box B.out (by omega) (c_r00 _ U1) (c_r01 _ U1) (c_r02 _ U1) (c_r03 _ U1) (c_r04 _ U1) (c_r05 _ U1) R_a1.out R_a0.out)

set_option maxHeartbeats 4000000 in
theorem inorder_le {w : World} {Bd : Nat} {L : Nat} (gL : L ≤ 100000000) {a0 : Rc} {q_a0 : Rat} {a1 : Rc} {q_a1 : Rat} (h_a0 : Rq w Bd L a0 q_a0) (h_a1 : Rq w Bd L a1 q_a1) (hB : Bd ≤ w.heap.size) (h : q_a0 ≤ q_a1) :
    Calls Try.prog 29 #[.agg #[.bool a0.s, .slice a0.A a0.n a0.c, .slice a0.B a0.m a0.d, .bool a1.s, .slice a1.A a1.n a1.c, .slice a1.B a1.m a1.d]] w (RetS w L (q_a0) (q_a1)) := by
  obtain ⟨k, e_k⟩ : ∃ k, sgn (q_a0 - q_a1).num = k := ⟨_, rfl⟩
  have hk : decide (0 < k) = false := by refine decide_eq_false ?_; rw [← e_k, cmp_gt]; exact Rat.not_lt.2 h
  replace e_k := hide e_k
  replace hk := hide hk
  clear h
  obtain ⟨W, hW⟩ : ∃ W, W = ((w.alloc (.cells #[.bool a0.s, .slice a0.A a0.n a0.c, .slice a0.B a0.m a0.d, .bool a1.s, .slice a1.A a1.n a1.c, .slice a1.B a1.m a1.d] 29)).alloc (.cells #[.bool false, .slice none 0 0, .slice none 0 0, .bool false, .slice none 0 0, .slice none 0 0] 29)) := ⟨_, rfl⟩
  have b_a : Box6 W (w.heap.size) (.bool a0.s) (.slice a0.A a0.n a0.c) (.slice a0.B a0.m a0.d) (.bool a1.s) (.slice a1.A a1.n a1.c) (.slice a1.B a1.m a1.d) := by rw [hW]; exact ((Box6.new w _ _ _ _ _ _ rfl).al _)
  have b_r0 : Box6 W (w.heap.size + 1) (.bool false) (.slice none 0 0) (.slice none 0 0) (.bool false) (.slice none 0 0) (.slice none 0 0) := by rw [hW]; exact (Box6.new _ _ _ _ _ _ _ (by simp))
  have hwW : Below w.heap.size w W := by rw [hW]; exact (((Below.refl _ _).alloc (Nat.le_refl _) _).alloc (by simp) _)
  have R_a0 := hide (h_a0.upto hwW hB)
  clear h_a0
  have R_a1 := hide (h_a1.upto hwW hB)
  clear h_a1
  have B := hide hwW
  clear hwW
  clear hB
  have U0 : Below W.heap.size W W := Below.refl _ _
  have c_a0 := b_a.at0 b_a.lt_size (Nat.le_refl _)
  have c_a1 := b_a.at1 b_a.lt_size (Nat.le_refl _)
  have c_a2 := b_a.at2 b_a.lt_size (Nat.le_refl _)
  have c_a3 := b_a.at3 b_a.lt_size (Nat.le_refl _)
  have c_a4 := b_a.at4 b_a.lt_size (Nat.le_refl _)
  have c_a5 := b_a.at5 b_a.lt_size (Nat.le_refl _)
  replace b_a := hide b_a
  have c_r00 := b_r0.at0 b_r0.lt_size (Nat.le_refl _)
  have c_r01 := b_r0.at1 b_r0.lt_size (Nat.le_refl _)
  have c_r02 := b_r0.at2 b_r0.lt_size (Nat.le_refl _)
  have c_r03 := b_r0.at3 b_r0.lt_size (Nat.le_refl _)
  have c_r04 := b_r0.at4 b_r0.lt_size (Nat.le_refl _)
  have c_r05 := b_r0.at5 b_r0.lt_size (Nat.le_refl _)
  have f_r00 := b_r0.free0 b_r0.lt_size (Nat.le_refl _)
  have f_r01 := b_r0.free1 b_r0.lt_size (Nat.le_refl _)
  have f_r02 := b_r0.free2 b_r0.lt_size (Nat.le_refl _)
  have f_r03 := b_r0.free3 b_r0.lt_size (Nat.le_refl _)
  have f_r04 := b_r0.free4 b_r0.lt_size (Nat.le_refl _)
  have f_r05 := b_r0.free5 b_r0.lt_size (Nat.le_refl _)
  have l_r0 := b_r0.lt b_r0.lt_size (Nat.le_refl _)
  replace b_r0 := hide b_r0
  go_enter Try.func29, Try.ntmps29
  go_wp2_with fail
  rw [← hW]
  clear hW
  refine (cmp_q R_a0.out (by omega) R_a1.out (by omega) (Nat.le_refl _) e_k.out).mono ?_
  rintro e w1 ⟨rfl, hb⟩
  replace R_a0 := hide (R_a0.out.then_ hb)
  replace R_a1 := hide (R_a1.out.then_ hb)
  have U1 : Below W.heap.size W w1 := Below.then_ U0 hb
  replace B := hide (Below.then_ B.out hb)
  clear hb
  replace hk := hk.out
  go_wp2
  exact bodyPost_ret (v := .agg #[.bool a0.s, .slice a0.A a0.n a0.c, .slice a0.B a0.m a0.d, .bool a1.s, .slice a1.A a1.n a1.c, .slice a1.B a1.m a1.d]) (by simp [results, Try.results29, go_sem, c_r00 _ U1, c_r01 _ U1, c_r02 _ U1, c_r03 _ U1, c_r04 _ U1, c_r05 _ U1]) rfl (RetS.box B.out (by omega) (c_r00 _ U1) (c_r01 _ U1) (c_r02 _ U1) (c_r03 _ U1) (c_r04 _ U1) (c_r05 _ U1) R_a0.out R_a1.out)

theorem inorder_any {w : World} {Bd : Nat} {L : Nat} (gL : L ≤ 100000000) {a0 : Rc} {q_a0 : Rat} {a1 : Rc} {q_a1 : Rat} (h_a0 : Rq w Bd L a0 q_a0) (h_a1 : Rq w Bd L a1 q_a1) (hB : Bd ≤ w.heap.size) {l h : Rat} (hl : rlo q_a0 q_a1 = l) (hh : rhi q_a0 q_a1 = h) : Calls Try.prog 29 #[.agg #[.bool a0.s, .slice a0.A a0.n a0.c, .slice a0.B a0.m a0.d, .bool a1.s, .slice a1.A a1.n a1.c, .slice a1.B a1.m a1.d]] w (RetS w L l h) := by
  subst hl hh
  by_cases hc : q_a1 < q_a0
  · rw [rlo_of_lt hc, rhi_of_lt hc]; exact inorder_gt gL h_a0 h_a1 hB hc
  · replace hc := Rat.not_lt.1 hc
    rw [rlo_of_le hc, rhi_of_le hc]; exact inorder_le gL h_a0 h_a1 hB hc

set_option maxHeartbeats 4000000 in
theorem inorder_gt_n {w : World} {Bd : Nat} {L : Nat} (gL : L ≤ 100000000) {a0 : Rc} {q_a0 : Rat} {a1 : Rc} {q_a1 : Rat} (h_a0 : Nq w Bd L a0 q_a0) (h_a1 : Nq w Bd L a1 q_a1) (hB : Bd ≤ w.heap.size) (h : q_a1 < q_a0) :
    Calls Try.prog 29 #[.agg #[.bool a0.s, .slice a0.A a0.n a0.c, .slice a0.B a0.m a0.d, .bool a1.s, .slice a1.A a1.n a1.c, .slice a1.B a1.m a1.d]] w (RetSN w L (q_a1) (q_a0)) := by
  obtain ⟨k, e_k⟩ : ∃ k, sgn (q_a0 - q_a1).num = k := ⟨_, rfl⟩
  have hk : decide (0 < k) = true := by exact decide_eq_true (by rw [← e_k]; exact cmp_gt.2 h)
  replace e_k := hide e_k
  replace hk := hide hk
  clear h
  obtain ⟨W, hW⟩ : ∃ W, W = ((w.alloc (.cells #[.bool a0.s, .slice a0.A a0.n a0.c, .slice a0.B a0.m a0.d, .bool a1.s, .slice a1.A a1.n a1.c, .slice a1.B a1.m a1.d] 29)).alloc (.cells #[.bool false, .slice none 0 0, .slice none 0 0, .bool false, .slice none 0 0, .slice none 0 0] 29)) := ⟨_, rfl⟩
  have b_a : Box6 W (w.heap.size) (.bool a0.s) (.slice a0.A a0.n a0.c) (.slice a0.B a0.m a0.d) (.bool a1.s) (.slice a1.A a1.n a1.c) (.slice a1.B a1.m a1.d) := by rw [hW]; exact ((Box6.new w _ _ _ _ _ _ rfl).al _)
  have b_r0 : Box6 W (w.heap.size + 1) (.bool false) (.slice none 0 0) (.slice none 0 0) (.bool false) (.slice none 0 0) (.slice none 0 0) := by rw [hW]; exact (Box6.new _ _ _ _ _ _ _ (by simp))
  have hwW : Below w.heap.size w W := by rw [hW]; exact (((Below.refl _ _).alloc (Nat.le_refl _) _).alloc (by simp) _)
  have R_a0 := hide (h_a0.upto hwW hB)
  clear h_a0
  have R_a1 := hide (h_a1.upto hwW hB)
  clear h_a1
  have B := hide hwW
  clear hwW
  clear hB
  have U0 : Below W.heap.size W W := Below.refl _ _
  have c_a0 := b_a.at0 b_a.lt_size (Nat.le_refl _)
  have c_a1 := b_a.at1 b_a.lt_size (Nat.le_refl _)
  have c_a2 := b_a.at2 b_a.lt_size (Nat.le_refl _)
  have c_a3 := b_a.at3 b_a.lt_size (Nat.le_refl _)
  have c_a4 := b_a.at4 b_a.lt_size (Nat.le_refl _)
  have c_a5 := b_a.at5 b_a.lt_size (Nat.le_refl _)
  replace b_a := hide b_a
  have c_r00 := b_r0.at0 b_r0.lt_size (Nat.le_refl _)
  have c_r01 := b_r0.at1 b_r0.lt_size (Nat.le_refl _)
  have c_r02 := b_r0.at2 b_r0.lt_size (Nat.le_refl _)
  have c_r03 := b_r0.at3 b_r0.lt_size (Nat.le_refl _)
  have c_r04 := b_r0.at4 b_r0.lt_size (Nat.le_refl _)
  have c_r05 := b_r0.at5 b_r0.lt_size (Nat.le_refl _)
  have f_r00 := b_r0.free0 b_r0.lt_size (Nat.le_refl _)
  have f_r01 := b_r0.free1 b_r0.lt_size (Nat.le_refl _)
  have f_r02 := b_r0.free2 b_r0.lt_size (Nat.le_refl _)
  have f_r03 := b_r0.free3 b_r0.lt_size (Nat.le_refl _)
  have f_r04 := b_r0.free4 b_r0.lt_size (Nat.le_refl _)
  have f_r05 := b_r0.free5 b_r0.lt_size (Nat.le_refl _)
  have l_r0 := b_r0.lt b_r0.lt_size (Nat.le_refl _)
  replace b_r0 := hide b_r0
  go_enter Try.func29, Try.ntmps29
  go_wp2_with fail
  rw [← hW]
  clear hW
  refine (cmp_q R_a0.out.rq (by omega) R_a1.out.rq (by omega) (Nat.le_refl _) e_k.out).mono ?_
  rintro e w1 ⟨rfl, hb⟩
  replace R_a0 := hide (R_a0.out.then_ hb)
  replace R_a1 := hide (R_a1.out.then_ hb)
  have U1 : Below W.heap.size W w1 := Below.then_ U0 hb
  replace B := hide (Below.then_ B.out hb)
  clear hb
  replace hk := hk.out
  go_wp2
  exact bodyPost_ret (v := .agg #[.bool a1.s, .slice a1.A a1.n a1.c, .slice a1.B a1.m a1.d, .bool a0.s, .slice a0.A a0.n a0.c, .slice a0.B a0.m a0.d]) (by simp [results, Try.results29, go_sem, c_r00 _ U1, c_r01 _ U1, c_r02 _ U1, c_r03 _ U1, c_r04 _ U1, c_r05 _ U1]) rfl (RetSN.box B.out (by omega) (c_r00 _ U1) (c_r01 _ U1) (c_r02 _ U1) (c_r03 _ U1) (c_r04 _ U1) (c_r05 _ U1) R_a1.out R_a0.out)

set_option maxHeartbeats 4000000 in
theorem inorder_le_n {w : World} {Bd : Nat} {L : Nat} (gL : L ≤ 100000000) {a0 : Rc} {q_a0 : Rat} {a1 : Rc} {q_a1 : Rat} (h_a0 : Nq w Bd L a0 q_a0) (h_a1 : Nq w Bd L a1 q_a1) (hB : Bd ≤ w.heap.size) (h : q_a0 ≤ q_a1) :
    Calls Try.prog 29 #[.agg #[.bool a0.s, .slice a0.A a0.n a0.c, .slice a0.B a0.m a0.d, .bool a1.s, .slice a1.A a1.n a1.c, .slice a1.B a1.m a1.d]] w (RetSN w L (q_a0) (q_a1)) := by
  obtain ⟨k, e_k⟩ : ∃ k, sgn (q_a0 - q_a1).num = k := ⟨_, rfl⟩
  have hk : decide (0 < k) = false := by refine decide_eq_false ?_; rw [← e_k, cmp_gt]; exact Rat.not_lt.2 h
  replace e_k := hide e_k
  replace hk := hide hk
  clear h
  obtain ⟨W, hW⟩ : ∃ W, W = ((w.alloc (.cells #[.bool a0.s, .slice a0.A a0.n a0.c, .slice a0.B a0.m a0.d, .bool a1.s, .slice a1.A a1.n a1.c, .slice a1.B a1.m a1.d] 29)).alloc (.cells #[.bool false, .slice none 0 0, .slice none 0 0, .bool false, .slice none 0 0, .slice none 0 0] 29)) := ⟨_, rfl⟩
  have b_a : Box6 W (w.heap.size) (.bool a0.s) (.slice a0.A a0.n a0.c) (.slice a0.B a0.m a0.d) (.bool a1.s) (.slice a1.A a1.n a1.c) (.slice a1.B a1.m a1.d) := by rw [hW]; exact ((Box6.new w _ _ _ _ _ _ rfl).al _)
  have b_r0 : Box6 W (w.heap.size + 1) (.bool false) (.slice none 0 0) (.slice none 0 0) (.bool false) (.slice none 0 0) (.slice none 0 0) := by rw [hW]; exact (Box6.new _ _ _ _ _ _ _ (by simp))
  have hwW : Below w.heap.size w W := by rw [hW]; exact (((Below.refl _ _).alloc (Nat.le_refl _) _).alloc (by simp) _)
  have R_a0 := hide (h_a0.upto hwW hB)
  clear h_a0
  have R_a1 := hide (h_a1.upto hwW hB)
  clear h_a1
  have B := hide hwW
  clear hwW
  clear hB
  have U0 : Below W.heap.size W W := Below.refl _ _
  have c_a0 := b_a.at0 b_a.lt_size (Nat.le_refl _)
  have c_a1 := b_a.at1 b_a.lt_size (Nat.le_refl _)
  have c_a2 := b_a.at2 b_a.lt_size (Nat.le_refl _)
  have c_a3 := b_a.at3 b_a.lt_size (Nat.le_refl _)
  have c_a4 := b_a.at4 b_a.lt_size (Nat.le_refl _)
  have c_a5 := b_a.at5 b_a.lt_size (Nat.le_refl _)
  replace b_a := hide b_a
  have c_r00 := b_r0.at0 b_r0.lt_size (Nat.le_refl _)
  have c_r01 := b_r0.at1 b_r0.lt_size (Nat.le_refl _)
  have c_r02 := b_r0.at2 b_r0.lt_size (Nat.le_refl _)
  have c_r03 := b_r0.at3 b_r0.lt_size (Nat.le_refl _)
  have c_r04 := b_r0.at4 b_r0.lt_size (Nat.le_refl _)
  have c_r05 := b_r0.at5 b_r0.lt_size (Nat.le_refl _)
  have f_r00 := b_r0.free0 b_r0.lt_size (Nat.le_refl _)
  have f_r01 := b_r0.free1 b_r0.lt_size (Nat.le_refl _)
  have f_r02 := b_r0.free2 b_r0.lt_size (Nat.le_refl _)
  have f_r03 := b_r0.free3 b_r0.lt_size (Nat.le_refl _)
  have f_r04 := b_r0.free4 b_r0.lt_size (Nat.le_refl _)
  have f_r05 := b_r0.free5 b_r0.lt_size (Nat.le_refl _)
  have l_r0 := b_r0.lt b_r0.lt_size (Nat.le_refl _)
  replace b_r0 := hide b_r0
  go_enter Try.func29, Try.ntmps29
  go_wp2_with fail
  rw [← hW]
  clear hW
  refine (cmp_q R_a0.out.rq (by omega) R_a1.out.rq (by omega) (Nat.le_refl _) e_k.out).mono ?_
  rintro e w1 ⟨rfl, hb⟩
  replace R_a0 := hide (R_a0.out.then_ hb)
  replace R_a1 := hide (R_a1.out.then_ hb)
  have U1 : Below W.heap.size W w1 := Below.then_ U0 hb
  replace B := hide (Below.then_ B.out hb)
  clear hb
  replace hk := hk.out
  go_wp2
  exact bodyPost_ret (v := .agg #[.bool a0.s, .slice a0.A a0.n a0.c, .slice a0.B a0.m a0.d, .bool a1.s, .slice a1.A a1.n a1.c, .slice a1.B a1.m a1.d]) (by simp [results, Try.results29, go_sem, c_r00 _ U1, c_r01 _ U1, c_r02 _ U1, c_r03 _ U1, c_r04 _ U1, c_r05 _ U1]) rfl (RetSN.box B.out (by omega) (c_r00 _ U1) (c_r01 _ U1) (c_r02 _ U1) (c_r03 _ U1) (c_r04 _ U1) (c_r05 _ U1) R_a0.out R_a1.out)

theorem inorder_n {w : World} {Bd : Nat} {L : Nat} (gL : L ≤ 100000000) {a0 : Rc} {q_a0 : Rat} {a1 : Rc} {q_a1 : Rat} (h_a0 : Nq w Bd L a0 q_a0) (h_a1 : Nq w Bd L a1 q_a1) (hB : Bd ≤ w.heap.size) {l h : Rat} (hl : rlo q_a0 q_a1 = l) (hh : rhi q_a0 q_a1 = h) : Calls Try.prog 29 #[.agg #[.bool a0.s, .slice a0.A a0.n a0.c, .slice a0.B a0.m a0.d, .bool a1.s, .slice a1.A a1.n a1.c, .slice a1.B a1.m a1.d]] w (RetSN w L l h) := by
  subst hl hh
  by_cases hc : q_a1 < q_a0
  · rw [rlo_of_lt hc, rhi_of_lt hc]; exact inorder_gt_n gL h_a0 h_a1 hB hc
  · replace hc := Rat.not_lt.1 hc
    rw [rlo_of_le hc, rhi_of_le hc]; exact inorder_le_n gL h_a0 h_a1 hB hc

set_option maxHeartbeats 4000000 in
theorem snorm_any {w : World} {Bd : Nat} {L : Nat} (gL : L ≤ 100000000) {a0 : Rc} {q_a0 : Rat} {a1 : Rc} {q_a1 : Rat} (h_a0 : Rq w Bd L a0 q_a0) (h_a1 : Rq w Bd L a1 q_a1) (hB : Bd ≤ w.heap.size)  :
    Calls Try.prog 40 #[.agg #[.bool a0.s, .slice a0.A a0.n a0.c, .slice a0.B a0.m a0.d, .bool a1.s, .slice a1.A a1.n a1.c, .slice a1.B a1.m a1.d]] w (RetSN w (L + 1) q_a0 q_a1) := by
  obtain ⟨W, hW⟩ : ∃ W, W = ((w.alloc (.cells #[.bool a0.s, .slice a0.A a0.n a0.c, .slice a0.B a0.m a0.d, .bool a1.s, .slice a1.A a1.n a1.c, .slice a1.B a1.m a1.d] 29)).alloc (.cells #[.bool false, .slice none 0 0, .slice none 0 0, .bool false, .slice none 0 0, .slice none 0 0] 29)) := ⟨_, rfl⟩
  have b_a : Box6 W (w.heap.size) (.bool a0.s) (.slice a0.A a0.n a0.c) (.slice a0.B a0.m a0.d) (.bool a1.s) (.slice a1.A a1.n a1.c) (.slice a1.B a1.m a1.d) := by rw [hW]; exact ((Box6.new w _ _ _ _ _ _ rfl).al _)
  have b_r0 : Box6 W (w.heap.size + 1) (.bool false) (.slice none 0 0) (.slice none 0 0) (.bool false) (.slice none 0 0) (.slice none 0 0) := by rw [hW]; exact (Box6.new _ _ _ _ _ _ _ (by simp))
  have hwW : Below w.heap.size w W := by rw [hW]; exact (((Below.refl _ _).alloc (Nat.le_refl _) _).alloc (by simp) _)
  have R_a0 := hide (h_a0.upto hwW hB)
  clear h_a0
  have R_a1 := hide (h_a1.upto hwW hB)
  clear h_a1
  have B := hide hwW
  clear hwW
  clear hB
  have U0 : Below W.heap.size W W := Below.refl _ _
  have c_a0 := b_a.at0 b_a.lt_size (Nat.le_refl _)
  have c_a1 := b_a.at1 b_a.lt_size (Nat.le_refl _)
  have c_a2 := b_a.at2 b_a.lt_size (Nat.le_refl _)
  have c_a3 := b_a.at3 b_a.lt_size (Nat.le_refl _)
  have c_a4 := b_a.at4 b_a.lt_size (Nat.le_refl _)
  have c_a5 := b_a.at5 b_a.lt_size (Nat.le_refl _)
  replace b_a := hide b_a
  have c_r00 := b_r0.at0 b_r0.lt_size (Nat.le_refl _)
  have c_r01 := b_r0.at1 b_r0.lt_size (Nat.le_refl _)
  have c_r02 := b_r0.at2 b_r0.lt_size (Nat.le_refl _)
  have c_r03 := b_r0.at3 b_r0.lt_size (Nat.le_refl _)
  have c_r04 := b_r0.at4 b_r0.lt_size (Nat.le_refl _)
  have c_r05 := b_r0.at5 b_r0.lt_size (Nat.le_refl _)
  have f_r00 := b_r0.free0 b_r0.lt_size (Nat.le_refl _)
  have f_r01 := b_r0.free1 b_r0.lt_size (Nat.le_refl _)
  have f_r02 := b_r0.free2 b_r0.lt_size (Nat.le_refl _)
  have f_r03 := b_r0.free3 b_r0.lt_size (Nat.le_refl _)
  have f_r04 := b_r0.free4 b_r0.lt_size (Nat.le_refl _)
  have f_r05 := b_r0.free5 b_r0.lt_size (Nat.le_refl _)
  have l_r0 := b_r0.lt b_r0.lt_size (Nat.le_refl _)
  replace b_r0 := hide b_r0
  go_enter Try.func40, Try.ntmps40
  go_wp2_with fail
  rw [← hW]
  clear hW
  have k_a0 := b_a.out.but0 (g1 := w.heap.size + 1) (g2 := w.heap.size + 1) (by omega) (by omega)
  have k_a1 := b_a.out.but1 (g1 := w.heap.size + 1) (g2 := w.heap.size + 1) (by omega) (by omega)
  have k_a2 := b_a.out.but2 (g1 := w.heap.size + 1) (g2 := w.heap.size + 1) (by omega) (by omega)
  have k_a3 := b_a.out.but3 (g1 := w.heap.size + 1) (g2 := w.heap.size + 1) (by omega) (by omega)
  have k_a4 := b_a.out.but4 (g1 := w.heap.size + 1) (g2 := w.heap.size + 1) (by omega) (by omega)
  have k_a5 := b_a.out.but5 (g1 := w.heap.size + 1) (g2 := w.heap.size + 1) (by omega) (by omega)
  have hd := Below.drw_ W
  replace R_a0 := hide (R_a0.out.then_ hd)
  replace R_a1 := hide (R_a1.out.then_ hd)
  have U1 : Below W.heap.size W (W.drew) := Below.then_ U0 hd
  replace B := hide (Below.then_ B.out hd)
  have K1 : KeptBut (w.heap.size + 1) (w.heap.size + 1) W.heap.size W (W.drew) := KeptBut.below U1
  clear hd
  have tok1 : True := trivial
  go_region_held3 (fun w' => KeptBut (w.heap.size + 1) (w.heap.size + 1) W.heap.size W w') (first | (with_reducible assumption) | (with_reducible exact KeptBut.drw _) | ((repeat (first | (with_reducible refine KeptBut.set0 ?_ _) | (with_reducible refine KeptBut.drew_ ?_))); first | (with_reducible assumption) | (with_reducible exact KeptBut.refl _ _ _ _)))
    (first
      | (go_at_call 61; (have _t := tok1; (with_reducible refine (norm_q R_a0.out (by omega) (Nat.le_refl _) rfl).mono ?_); rintro e w1 ⟨x_x0, rfl, R_x0, hb⟩; replace R_a0 := hide (R_a0.out.then_ hb); replace R_a1 := hide (R_a1.out.then_ hb); have U2 : Below W.heap.size W w1 := Below.then_ U1 hb; replace B := hide (Below.then_ B.out hb); have K2 : KeptBut (w.heap.size + 1) (w.heap.size + 1) W.heap.size W w1 := KeptBut.below U2; replace R_x0 := hide R_x0; clear hb; have tok2 : True := trivial; clear _t tok1))
      | (go_at_call 61; (have _t := tok2; (with_reducible refine (norm_q R_a1.out (by omega) (Nat.le_refl _) rfl).mono ?_); rintro e w2 ⟨x_x1, rfl, R_x1, hb⟩; replace R_a0 := hide (R_a0.out.then_ hb); replace R_a1 := hide (R_a1.out.then_ hb); replace R_x0 := hide (R_x0.out.then_ hb); have U3 : Below W.heap.size W w2 := Below.then_ U2 hb; replace B := hide (Below.then_ B.out hb); have K3 : KeptBut (w.heap.size + 1) (w.heap.size + 1) W.heap.size W w2 := KeptBut.below U3; replace R_x1 := hide R_x1; clear hb; have tok3 : True := trivial; clear _t tok2)))
  clear tok3
  clear k_a0 k_a1 k_a2 k_a3 k_a4 k_a5
  go_wp2
  exact bodyPost_ret (v := .agg #[.bool x_x0.s, .slice x_x0.A x_x0.n x_x0.c, .slice x_x0.B x_x0.m x_x0.d, .bool x_x1.s, .slice x_x1.A x_x1.n x_x1.c, .slice x_x1.B x_x1.m x_x1.d]) (by simp [results, Try.results40, go_sem, c_r00 _ U3, c_r01 _ U3, c_r02 _ U3, c_r03 _ U3, c_r04 _ U3, c_r05 _ U3]) rfl (RetSN.box B.out (by omega) (c_r00 _ U3) (c_r01 _ U3) (c_r02 _ U3) (c_r03 _ U3) (c_r04 _ U3) (c_r05 _ U3) R_x0.out R_x1.out)

set_option maxHeartbeats 4000000 in
theorem lesser_2 {w : World} {Bd : Nat} {L : Nat} (gL : L ≤ 100000000) {a : Rc} {q_a : Rat} {b : Rc} {q_b : Rat} (h_a : Rq w Bd L a q_a) (h_b : Rq w Bd L b q_b) (hB : Bd ≤ w.heap.size) (h : q_b < q_a) :
    Calls Try.prog 42 #[.agg #[.bool a.s, .slice a.A a.n a.c, .slice a.B a.m a.d], .agg #[.bool b.s, .slice b.A b.n b.c, .slice b.B b.m b.d]] w (RetR w L q_b) := by
  obtain ⟨k, e_k⟩ : ∃ k, sgn (q_a - q_b).num = k := ⟨_, rfl⟩
  have hk : decide (0 < k) = true := by exact decide_eq_true (by rw [← e_k]; exact cmp_gt.2 h)
  replace e_k := hide e_k
  replace hk := hide hk
  clear h
  obtain ⟨W, hW⟩ : ∃ W, W = (((w.alloc (.cells #[.bool a.s, .slice a.A a.n a.c, .slice a.B a.m a.d] 27)).alloc (.cells #[.bool b.s, .slice b.A b.n b.c, .slice b.B b.m b.d] 27)).alloc (.cells #[.bool false, .slice none 0 0, .slice none 0 0] 27)) := ⟨_, rfl⟩
  have b_a : Box3 W (w.heap.size) (.bool a.s) (.slice a.A a.n a.c) (.slice a.B a.m a.d) := by rw [hW]; exact (((Box3.new w _ _ _ rfl).al _).al _)
  have b_b : Box3 W (w.heap.size + 1) (.bool b.s) (.slice b.A b.n b.c) (.slice b.B b.m b.d) := by rw [hW]; exact ((Box3.new _ _ _ _ (by simp)).al _)
  have b_r0 : Box3 W (w.heap.size + 1 + 1) (.bool false) (.slice none 0 0) (.slice none 0 0) := by rw [hW]; exact (Box3.new _ _ _ _ (by simp))
  have hwW : Below w.heap.size w W := by rw [hW]; exact ((((Below.refl _ _).alloc (Nat.le_refl _) _).alloc (by simp) _).alloc (by simp; omega) _)
  have R_a := hide (h_a.upto hwW hB)
  clear h_a
  have R_b := hide (h_b.upto hwW hB)
  clear h_b
  have B := hide hwW
  clear hwW
  clear hB
  have U0 : Below W.heap.size W W := Below.refl _ _
  have c_a0 := b_a.at0 b_a.lt_size (Nat.le_refl _)
  have c_a1 := b_a.at1 b_a.lt_size (Nat.le_refl _)
  have c_a2 := b_a.at2 b_a.lt_size (Nat.le_refl _)
  replace b_a := hide b_a
  have c_b0 := b_b.at0 b_b.lt_size (Nat.le_refl _)
  have c_b1 := b_b.at1 b_b.lt_size (Nat.le_refl _)
  have c_b2 := b_b.at2 b_b.lt_size (Nat.le_refl _)
  replace b_b := hide b_b
  have c_r00 := b_r0.at0 b_r0.lt_size (Nat.le_refl _)
  have c_r01 := b_r0.at1 b_r0.lt_size (Nat.le_refl _)
  have c_r02 := b_r0.at2 b_r0.lt_size (Nat.le_refl _)
  have f_r00 := b_r0.free0 b_r0.lt_size (Nat.le_refl _)
  have f_r01 := b_r0.free1 b_r0.lt_size (Nat.le_refl _)
  have f_r02 := b_r0.free2 b_r0.lt_size (Nat.le_refl _)
  have l_r0 := b_r0.lt b_r0.lt_size (Nat.le_refl _)
  replace b_r0 := hide b_r0
  go_enter Try.func42, Try.ntmps42
  go_wp2_with fail
  rw [← hW]
  clear hW
  refine (cmp_q R_a.out (by omega) R_b.out (by omega) (Nat.le_refl _) e_k.out).mono ?_
  rintro e w1 ⟨rfl, hb⟩
  replace R_a := hide (R_a.out.then_ hb)
  replace R_b := hide (R_b.out.then_ hb)
  have U1 : Below W.heap.size W w1 := Below.then_ U0 hb
  replace B := hide (Below.then_ B.out hb)
  clear hb
  replace hk := hk.out
  go_wp2
  exact bodyPost_ret (v := .agg #[.bool b.s, .slice b.A b.n b.c, .slice b.B b.m b.d]) (by simp [results, Try.results42, go_sem, c_r00 _ U1, c_r01 _ U1, c_r02 _ U1]) rfl (RetR.box B.out (by omega) (c_r00 _ U1) (c_r01 _ U1) (c_r02 _ U1) R_b.out)

set_option maxHeartbeats 4000000 in
theorem lesser_1 {w : World} {Bd : Nat} {L : Nat} (gL : L ≤ 100000000) {a : Rc} {q_a : Rat} {b : Rc} {q_b : Rat} (h_a : Rq w Bd L a q_a) (h_b : Rq w Bd L b q_b) (hB : Bd ≤ w.heap.size) (h : q_a ≤ q_b) :
    Calls Try.prog 42 #[.agg #[.bool a.s, .slice a.A a.n a.c, .slice a.B a.m a.d], .agg #[.bool b.s, .slice b.A b.n b.c, .slice b.B b.m b.d]] w (RetR w L q_a) := by
  obtain ⟨k, e_k⟩ : ∃ k, sgn (q_a - q_b).num = k := ⟨_, rfl⟩
  have hk : decide (0 < k) = false := by refine decide_eq_false ?_; rw [← e_k, cmp_gt]; exact Rat.not_lt.2 h
  replace e_k := hide e_k
  replace hk := hide hk
  clear h
  obtain ⟨W, hW⟩ : ∃ W, W = (((w.alloc (.cells #[.bool a.s, .slice a.A a.n a.c, .slice a.B a.m a.d] 27)).alloc (.cells #[.bool b.s, .slice b.A b.n b.c, .slice b.B b.m b.d] 27)).alloc (.cells #[.bool false, .slice none 0 0, .slice none 0 0] 27)) := ⟨_, rfl⟩
  have b_a : Box3 W (w.heap.size) (.bool a.s) (.slice a.A a.n a.c) (.slice a.B a.m a.d) := by rw [hW]; exact (((Box3.new w _ _ _ rfl).al _).al _)
  have b_b : Box3 W (w.heap.size + 1) (.bool b.s) (.slice b.A b.n b.c) (.slice b.B b.m b.d) := by rw [hW]; exact ((Box3.new _ _ _ _ (by simp)).al _)
  have b_r0 : Box3 W (w.heap.size + 1 + 1) (.bool false) (.slice none 0 0) (.slice none 0 0) := by rw [hW]; exact (Box3.new _ _ _ _ (by simp))
  have hwW : Below w.heap.size w W := by rw [hW]; exact ((((Below.refl _ _).alloc (Nat.le_refl _) _).alloc (by simp) _).alloc (by simp; omega) _)
  have R_a := hide (h_a.upto hwW hB)
  clear h_a
  have R_b := hide (h_b.upto hwW hB)
  clear h_b
  have B := hide hwW
  clear hwW
  clear hB
  have U0 : Below W.heap.size W W := Below.refl _ _
  have c_a0 := b_a.at0 b_a.lt_size (Nat.le_refl _)
  have c_a1 := b_a.at1 b_a.lt_size (Nat.le_refl _)
  have c_a2 := b_a.at2 b_a.lt_size (Nat.le_refl _)
  replace b_a := hide b_a
  have c_b0 := b_b.at0 b_b.lt_size (Nat.le_refl _)
  have c_b1 := b_b.at1 b_b.lt_size (Nat.le_refl _)
  have c_b2 := b_b.at2 b_b.lt_size (Nat.le_refl _)
  replace b_b := hide b_b
  have c_r00 := b_r0.at0 b_r0.lt_size (Nat.le_refl _)
  have c_r01 := b_r0.at1 b_r0.lt_size (Nat.le_refl _)
  have c_r02 := b_r0.at2 b_r0.lt_size (Nat.le_refl _)
  have f_r00 := b_r0.free0 b_r0.lt_size (Nat.le_refl _)
  have f_r01 := b_r0.free1 b_r0.lt_size (Nat.le_refl _)
  have f_r02 := b_r0.free2 b_r0.lt_size (Nat.le_refl _)
  have l_r0 := b_r0.lt b_r0.lt_size (Nat.le_refl _)
  replace b_r0 := hide b_r0
  go_enter Try.func42, Try.ntmps42
  go_wp2_with fail
  rw [← hW]
  clear hW
  refine (cmp_q R_a.out (by omega) R_b.out (by omega) (Nat.le_refl _) e_k.out).mono ?_
  rintro e w1 ⟨rfl, hb⟩
  replace R_a := hide (R_a.out.then_ hb)
  replace R_b := hide (R_b.out.then_ hb)
  have U1 : Below W.heap.size W w1 := Below.then_ U0 hb
  replace B := hide (Below.then_ B.out hb)
  clear hb
  replace hk := hk.out
  go_wp2
  exact bodyPost_ret (v := .agg #[.bool a.s, .slice a.A a.n a.c, .slice a.B a.m a.d]) (by simp [results, Try.results42, go_sem, c_r00 _ U1, c_r01 _ U1, c_r02 _ U1]) rfl (RetR.box B.out (by omega) (c_r00 _ U1) (c_r01 _ U1) (c_r02 _ U1) R_a.out)

theorem lesser_any {w : World} {Bd : Nat} {L : Nat} (gL : L ≤ 100000000) {a b : Rc} {q_a q_b : Rat} (h_a : Rq w Bd L a q_a) (h_b : Rq w Bd L b q_b) (hB : Bd ≤ w.heap.size) {r : Rat} (hr : rlo q_a q_b = r) : Calls Try.prog 42 #[.agg #[.bool a.s, .slice a.A a.n a.c, .slice a.B a.m a.d], .agg #[.bool b.s, .slice b.A b.n b.c, .slice b.B b.m b.d]] w (RetR w L r) := by
  subst hr
  by_cases hc : q_b < q_a
  · rw [rlo_of_lt hc]; exact lesser_2 gL h_a h_b hB hc
  · rw [rlo_of_le (Rat.not_lt.1 hc)]; exact lesser_1 gL h_a h_b hB (Rat.not_lt.1 hc)

set_option maxHeartbeats 4000000 in
theorem greater_2 {w : World} {Bd : Nat} {L : Nat} (gL : L ≤ 100000000) {a : Rc} {q_a : Rat} {b : Rc} {q_b : Rat} (h_a : Rq w Bd L a q_a) (h_b : Rq w Bd L b q_b) (hB : Bd ≤ w.heap.size) (h : q_a < q_b) :
    Calls Try.prog 41 #[.agg #[.bool a.s, .slice a.A a.n a.c, .slice a.B a.m a.d], .agg #[.bool b.s, .slice b.A b.n b.c, .slice b.B b.m b.d]] w (RetR w L q_b) := by
  obtain ⟨k, e_k⟩ : ∃ k, sgn (q_a - q_b).num = k := ⟨_, rfl⟩
  have hk : decide (k < 0) = true := by exact decide_eq_true (by rw [← e_k]; exact cmp_lt.2 h)
  replace e_k := hide e_k
  replace hk := hide hk
  clear h
  obtain ⟨W, hW⟩ : ∃ W, W = (((w.alloc (.cells #[.bool a.s, .slice a.A a.n a.c, .slice a.B a.m a.d] 27)).alloc (.cells #[.bool b.s, .slice b.A b.n b.c, .slice b.B b.m b.d] 27)).alloc (.cells #[.bool false, .slice none 0 0, .slice none 0 0] 27)) := ⟨_, rfl⟩
  have b_a : Box3 W (w.heap.size) (.bool a.s) (.slice a.A a.n a.c) (.slice a.B a.m a.d) := by rw [hW]; exact (((Box3.new w _ _ _ rfl).al _).al _)
  have b_b : Box3 W (w.heap.size + 1) (.bool b.s) (.slice b.A b.n b.c) (.slice b.B b.m b.d) := by rw [hW]; exact ((Box3.new _ _ _ _ (by simp)).al _)
  have b_r0 : Box3 W (w.heap.size + 1 + 1) (.bool false) (.slice none 0 0) (.slice none 0 0) := by rw [hW]; exact (Box3.new _ _ _ _ (by simp))
  have hwW : Below w.heap.size w W := by rw [hW]; exact ((((Below.refl _ _).alloc (Nat.le_refl _) _).alloc (by simp) _).alloc (by simp; omega) _)
  have R_a := hide (h_a.upto hwW hB)
  clear h_a
  have R_b := hide (h_b.upto hwW hB)
  clear h_b
  have B := hide hwW
  clear hwW
  clear hB
  have U0 : Below W.heap.size W W := Below.refl _ _
  have c_a0 := b_a.at0 b_a.lt_size (Nat.le_refl _)
  have c_a1 := b_a.at1 b_a.lt_size (Nat.le_refl _)
  have c_a2 := b_a.at2 b_a.lt_size (Nat.le_refl _)
  replace b_a := hide b_a
  have c_b0 := b_b.at0 b_b.lt_size (Nat.le_refl _)
  have c_b1 := b_b.at1 b_b.lt_size (Nat.le_refl _)
  have c_b2 := b_b.at2 b_b.lt_size (Nat.le_refl _)
  replace b_b := hide b_b
  have c_r00 := b_r0.at0 b_r0.lt_size (Nat.le_refl _)
  have c_r01 := b_r0.at1 b_r0.lt_size (Nat.le_refl _)
  have c_r02 := b_r0.at2 b_r0.lt_size (Nat.le_refl _)
  have f_r00 := b_r0.free0 b_r0.lt_size (Nat.le_refl _)
  have f_r01 := b_r0.free1 b_r0.lt_size (Nat.le_refl _)
  have f_r02 := b_r0.free2 b_r0.lt_size (Nat.le_refl _)
  have l_r0 := b_r0.lt b_r0.lt_size (Nat.le_refl _)
  replace b_r0 := hide b_r0
  go_enter Try.func41, Try.ntmps41
  go_wp2_with fail
  rw [← hW]
  clear hW
  refine (cmp_q R_a.out (by omega) R_b.out (by omega) (Nat.le_refl _) e_k.out).mono ?_
  rintro e w1 ⟨rfl, hb⟩
  replace R_a := hide (R_a.out.then_ hb)
  replace R_b := hide (R_b.out.then_ hb)
  have U1 : Below W.heap.size W w1 := Below.then_ U0 hb
  replace B := hide (Below.then_ B.out hb)
  clear hb
  replace hk := hk.out
  go_wp2
  exact bodyPost_ret (v := .agg #[.bool b.s, .slice b.A b.n b.c, .slice b.B b.m b.d]) (by simp [results, Try.results41, go_sem, c_r00 _ U1, c_r01 _ U1, c_r02 _ U1]) rfl (RetR.box B.out (by omega) (c_r00 _ U1) (c_r01 _ U1) (c_r02 _ U1) R_b.out)

set_option maxHeartbeats 4000000 in
theorem greater_1 {w : World} {Bd : Nat} {L : Nat} (gL : L ≤ 100000000) {a : Rc} {q_a : Rat} {b : Rc} {q_b : Rat} (h_a : Rq w Bd L a q_a) (h_b : Rq w Bd L b q_b) (hB : Bd ≤ w.heap.size) (h : q_b ≤ q_a) :
    Calls Try.prog 41 #[.agg #[.bool a.s, .slice a.A a.n a.c, .slice a.B a.m a.d], .agg #[.bool b.s, .slice b.A b.n b.c, .slice b.B b.m b.d]] w (RetR w L q_a) := by
  obtain ⟨k, e_k⟩ : ∃ k, sgn (q_a - q_b).num = k := ⟨_, rfl⟩
  have hk : decide (k < 0) = false := by refine decide_eq_false ?_; rw [← e_k, cmp_lt]; exact Rat.not_lt.2 h
  replace e_k := hide e_k
  replace hk := hide hk
  clear h
  obtain ⟨W, hW⟩ : ∃ W, W = (((w.alloc (.cells #[.bool a.s, .slice a.A a.n a.c, .slice a.B a.m a.d] 27)).alloc (.cells #[.bool b.s, .slice b.A b.n b.c, .slice b.B b.m b.d] 27)).alloc (.cells #[.bool false, .slice none 0 0, .slice none 0 0] 27)) := ⟨_, rfl⟩
  have b_a : Box3 W (w.heap.size) (.bool a.s) (.slice a.A a.n a.c) (.slice a.B a.m a.d) := by rw [hW]; exact (((Box3.new w _ _ _ rfl).al _).al _)
  have b_b : Box3 W (w.heap.size + 1) (.bool b.s) (.slice b.A b.n b.c) (.slice b.B b.m b.d) := by rw [hW]; exact ((Box3.new _ _ _ _ (by simp)).al _)
  have b_r0 : Box3 W (w.heap.size + 1 + 1) (.bool false) (.slice none 0 0) (.slice none 0 0) := by rw [hW]; exact (Box3.new _ _ _ _ (by simp))
  have hwW : Below w.heap.size w W := by rw [hW]; exact ((((Below.refl _ _).alloc (Nat.le_refl _) _).alloc (by simp) _).alloc (by simp; omega) _)
  have R_a := hide (h_a.upto hwW hB)
  clear h_a
  have R_b := hide (h_b.upto hwW hB)
  clear h_b
  have B := hide hwW
  clear hwW
  clear hB
  have U0 : Below W.heap.size W W := Below.refl _ _
  have c_a0 := b_a.at0 b_a.lt_size (Nat.le_refl _)
  have c_a1 := b_a.at1 b_a.lt_size (Nat.le_refl _)
  have c_a2 := b_a.at2 b_a.lt_size (Nat.le_refl _)
  replace b_a := hide b_a
  have c_b0 := b_b.at0 b_b.lt_size (Nat.le_refl _)
  have c_b1 := b_b.at1 b_b.lt_size (Nat.le_refl _)
  have c_b2 := b_b.at2 b_b.lt_size (Nat.le_refl _)
  replace b_b := hide b_b
  have c_r00 := b_r0.at0 b_r0.lt_size (Nat.le_refl _)
  have c_r01 := b_r0.at1 b_r0.lt_size (Nat.le_refl _)
  have c_r02 := b_r0.at2 b_r0.lt_size (Nat.le_refl _)
  have f_r00 := b_r0.free0 b_r0.lt_size (Nat.le_refl _)
  have f_r01 := b_r0.free1 b_r0.lt_size (Nat.le_refl _)
  have f_r02 := b_r0.free2 b_r0.lt_size (Nat.le_refl _)
  have l_r0 := b_r0.lt b_r0.lt_size (Nat.le_refl _)
  replace b_r0 := hide b_r0
  go_enter Try.func41, Try.ntmps41
  go_wp2_with fail
  rw [← hW]
  clear hW
  refine (cmp_q R_a.out (by omega) R_b.out (by omega) (Nat.le_refl _) e_k.out).mono ?_
  rintro e w1 ⟨rfl, hb⟩
  replace R_a := hide (R_a.out.then_ hb)
  replace R_b := hide (R_b.out.then_ hb)
  have U1 : Below W.heap.size W w1 := Below.then_ U0 hb
  replace B := hide (Below.then_ B.out hb)
  clear hb
  replace hk := hk.out
  go_wp2
  exact bodyPost_ret (v := .agg #[.bool a.s, .slice a.A a.n a.c, .slice a.B a.m a.d]) (by simp [results, Try.results41, go_sem, c_r00 _ U1, c_r01 _ U1, c_r02 _ U1]) rfl (RetR.box B.out (by omega) (c_r00 _ U1) (c_r01 _ U1) (c_r02 _ U1) R_a.out)

theorem greater_any {w : World} {Bd : Nat} {L : Nat} (gL : L ≤ 100000000) {a b : Rc} {q_a q_b : Rat} (h_a : Rq w Bd L a q_a) (h_b : Rq w Bd L b q_b) (hB : Bd ≤ w.heap.size) {r : Rat} (hr : rhi q_a q_b = r) : Calls Try.prog 41 #[.agg #[.bool a.s, .slice a.A a.n a.c, .slice a.B a.m a.d], .agg #[.bool b.s, .slice b.A b.n b.c, .slice b.B b.m b.d]] w (RetR w L r) := by
  subst hr
  by_cases hc : q_a < q_b
  · rw [rhi_of_le (Rat.le_of_lt hc)]; exact greater_2 gL h_a h_b hB hc
  · rw [rhi_ge (Rat.not_lt.1 hc)]; exact greater_1 gL h_a h_b hB (Rat.not_lt.1 hc)

set_option maxHeartbeats 4000000 in
theorem sof_any {w : World} {Bd : Nat} {L : Nat} (gL : L ≤ 100000000) {a : Rc} {q_a : Rat} {b : Rc} {q_b : Rat} (h_a : Rq w Bd L a q_a) (h_b : Rq w Bd L b q_b) (hB : Bd ≤ w.heap.size) {l h : Rat} (hl : rlo q_a q_b = l) (hh : rhi q_a q_b = h) :
    Calls Try.prog 27 #[.agg #[.bool a.s, .slice a.A a.n a.c, .slice a.B a.m a.d], .agg #[.bool b.s, .slice b.A b.n b.c, .slice b.B b.m b.d]] w (RetSN w (L + 1) l h) := by
  replace hl := hide hl
  replace hh := hide hh
  obtain ⟨W, hW⟩ : ∃ W, W = (((w.alloc (.cells #[.bool a.s, .slice a.A a.n a.c, .slice a.B a.m a.d] 27)).alloc (.cells #[.bool b.s, .slice b.A b.n b.c, .slice b.B b.m b.d] 27)).alloc (.cells #[.bool false, .slice none 0 0, .slice none 0 0, .bool false, .slice none 0 0, .slice none 0 0] 29)) := ⟨_, rfl⟩
  have b_a : Box3 W (w.heap.size) (.bool a.s) (.slice a.A a.n a.c) (.slice a.B a.m a.d) := by rw [hW]; exact (((Box3.new w _ _ _ rfl).al _).al _)
  have b_b : Box3 W (w.heap.size + 1) (.bool b.s) (.slice b.A b.n b.c) (.slice b.B b.m b.d) := by rw [hW]; exact ((Box3.new _ _ _ _ (by simp)).al _)
  have b_r0 : Box6 W (w.heap.size + 1 + 1) (.bool false) (.slice none 0 0) (.slice none 0 0) (.bool false) (.slice none 0 0) (.slice none 0 0) := by rw [hW]; exact (Box6.new _ _ _ _ _ _ _ (by simp))
  have hwW : Below w.heap.size w W := by rw [hW]; exact ((((Below.refl _ _).alloc (Nat.le_refl _) _).alloc (by simp) _).alloc (by simp; omega) _)
  have R_a := hide (h_a.upto hwW hB)
  clear h_a
  have R_b := hide (h_b.upto hwW hB)
  clear h_b
  have B := hide hwW
  clear hwW
  clear hB
  have U0 : Below W.heap.size W W := Below.refl _ _
  have c_a0 := b_a.at0 b_a.lt_size (Nat.le_refl _)
  have c_a1 := b_a.at1 b_a.lt_size (Nat.le_refl _)
  have c_a2 := b_a.at2 b_a.lt_size (Nat.le_refl _)
  replace b_a := hide b_a
  have c_b0 := b_b.at0 b_b.lt_size (Nat.le_refl _)
  have c_b1 := b_b.at1 b_b.lt_size (Nat.le_refl _)
  have c_b2 := b_b.at2 b_b.lt_size (Nat.le_refl _)
  replace b_b := hide b_b
  have c_r00 := b_r0.at0 b_r0.lt_size (Nat.le_refl _)
  have c_r01 := b_r0.at1 b_r0.lt_size (Nat.le_refl _)
  have c_r02 := b_r0.at2 b_r0.lt_size (Nat.le_refl _)
  have c_r03 := b_r0.at3 b_r0.lt_size (Nat.le_refl _)
  have c_r04 := b_r0.at4 b_r0.lt_size (Nat.le_refl _)
  have c_r05 := b_r0.at5 b_r0.lt_size (Nat.le_refl _)
  have f_r00 := b_r0.free0 b_r0.lt_size (Nat.le_refl _)
  have f_r01 := b_r0.free1 b_r0.lt_size (Nat.le_refl _)
  have f_r02 := b_r0.free2 b_r0.lt_size (Nat.le_refl _)
  have f_r03 := b_r0.free3 b_r0.lt_size (Nat.le_refl _)
  have f_r04 := b_r0.free4 b_r0.lt_size (Nat.le_refl _)
  have f_r05 := b_r0.free5 b_r0.lt_size (Nat.le_refl _)
  have l_r0 := b_r0.lt b_r0.lt_size (Nat.le_refl _)
  replace b_r0 := hide b_r0
  go_enter Try.func27, Try.ntmps27
  go_wp2_with fail
  rw [← hW]
  clear hW
  refine (inorder_any gL R_a.out R_b.out (Nat.le_refl _) hl.out hh.out).mono ?_
  rintro e w1 ⟨x_x0, x_x1, rfl, R_x0, R_x1, hb⟩
  replace R_a := hide (R_a.out.then_ hb)
  replace R_b := hide (R_b.out.then_ hb)
  have U1 : Below W.heap.size W w1 := Below.then_ U0 hb
  replace B := hide (Below.then_ B.out hb)
  replace R_x0 := hide R_x0
  replace R_x1 := hide R_x1
  clear hb
  go_wp2_with fail
  refine (snorm_any gL R_x0.out R_x1.out (Nat.le_refl _)).mono ?_
  rintro e w2 ⟨x_y0, x_y1, rfl, R_y0, R_y1, hb⟩
  replace R_a := hide (R_a.out.then_ hb)
  replace R_b := hide (R_b.out.then_ hb)
  replace R_x0 := hide (R_x0.out.then_ hb)
  replace R_x1 := hide (R_x1.out.then_ hb)
  have U2 : Below W.heap.size W w2 := Below.then_ U1 hb
  replace B := hide (Below.then_ B.out hb)
  replace R_y0 := hide R_y0
  replace R_y1 := hide R_y1
  clear hb
  go_wp2
  exact bodyPost_ret (v := .agg #[.bool x_y0.s, .slice x_y0.A x_y0.n x_y0.c, .slice x_y0.B x_y0.m x_y0.d, .bool x_y1.s, .slice x_y1.A x_y1.n x_y1.c, .slice x_y1.B x_y1.m x_y1.d]) (by simp [results, Try.results27, go_sem, c_r00 _ U2, c_r01 _ U2, c_r02 _ U2, c_r03 _ U2, c_r04 _ U2, c_r05 _ U2]) rfl (RetSN.box B.out (by omega) (c_r00 _ U2) (c_r01 _ U2) (c_r02 _ U2) (c_r03 _ U2) (c_r04 _ U2) (c_r05 _ U2) R_y0.out R_y1.out)

end Go.Proofs.Ytogafnfpncbgiaa

/-
  same, whole, between of the laws of span.
-/
import Derived.Test.YtogafnfpncbgiaaSpanE
import Derived.Test.YtogafnfpncbgiaaSpanD
import Derived.Test.YtogafnfpncbgiaaTextB
namespace Go.Proofs.Ytogafnfpncbgiaa
open Go.RowKit


theorem print_q {w : World} {Bd L : Nat} {a : Rc} {p : Rat} {s : ByteArray} (ha : Rq w Bd L a p) (ga : L ≤ 400000000) (hB : Bd ≤ w.heap.size) (hs : qstr p = s) : Calls Try.prog 39 #[.agg #[.bool a.s, .slice a.A a.n a.c, .slice a.B a.m a.d]] w (RetB w (.string s)) := by
  obtain ⟨xs, ys, h1, h2, h3, h4, h5⟩ := ha
  rw [← hs]
  exact pprint3_any h1 (by omega) h2 (by omega) hB h5
theorem qstr5 : qstr 5 = ⟨#[53]⟩ := by
  have h1 : (5 : Rat).num = 5 := rfl
  have h2 : (5 : Rat).den = 1 := rfl
  have h3 : zstr 5 = ⟨#[53]⟩ := by unfold zstr; rw [if_neg (by omega), show zmag 5 = 5 from rfl]; simp [dec, ddig]; rfl
  unfold qstr
  rw [if_pos h2, h1]
  exact h3

set_option maxHeartbeats 4000000 in
theorem same_s {w : World} {Bd : Nat} {L : Nat} (_gL : L ≤ 100000000) {a0 : Rc} {q_a0 : Rat} {a1 : Rc} {q_a1 : Rat} {b0 : Rc} {q_b0 : Rat} {b1 : Rc} {q_b1 : Rat} (h_a0 : Nq w Bd L a0 q_a0) (h_a1 : Nq w Bd L a1 q_a1) (h_b0 : Nq w Bd L b0 q_b0) (h_b1 : Nq w Bd L b1 q_b1) (hB : Bd ≤ w.heap.size) (h0 : q_a0 = q_b0) (h1 : q_a1 = q_b1) :
    Calls Try.prog 21 #[.agg #[.bool a0.s, .slice a0.A a0.n a0.c, .slice a0.B a0.m a0.d, .bool a1.s, .slice a1.A a1.n a1.c, .slice a1.B a1.m a1.d], .agg #[.bool b0.s, .slice b0.A b0.n b0.c, .slice b0.B b0.m b0.d, .bool b1.s, .slice b1.A b1.n b1.c, .slice b1.B b1.m b1.d]] w (RetB w (.bool true)) := by
  replace h0 := hide (decide_eq_true h0)
  replace h1 := hide (decide_eq_true h1)
  obtain ⟨W, hW⟩ : ∃ W, W = ((w.alloc (.cells #[.bool a0.s, .slice a0.A a0.n a0.c, .slice a0.B a0.m a0.d, .bool a1.s, .slice a1.A a1.n a1.c, .slice a1.B a1.m a1.d] 29)).alloc (.cells #[.bool b0.s, .slice b0.A b0.n b0.c, .slice b0.B b0.m b0.d, .bool b1.s, .slice b1.A b1.n b1.c, .slice b1.B b1.m b1.d] 29)) := ⟨_, rfl⟩
  have b_a : Box6 W (w.heap.size) (.bool a0.s) (.slice a0.A a0.n a0.c) (.slice a0.B a0.m a0.d) (.bool a1.s) (.slice a1.A a1.n a1.c) (.slice a1.B a1.m a1.d) := by rw [hW]; exact ((Box6.new w _ _ _ _ _ _ rfl).al _)
  have b_b : Box6 W (w.heap.size + 1) (.bool b0.s) (.slice b0.A b0.n b0.c) (.slice b0.B b0.m b0.d) (.bool b1.s) (.slice b1.A b1.n b1.c) (.slice b1.B b1.m b1.d) := by rw [hW]; exact (Box6.new _ _ _ _ _ _ _ (by simp))
  have hwW : Below w.heap.size w W := by rw [hW]; exact (((Below.refl _ _).alloc (Nat.le_refl _) _).alloc (by simp) _)
  have R_a0 := hide (h_a0.upto hwW hB)
  clear h_a0
  have R_a1 := hide (h_a1.upto hwW hB)
  clear h_a1
  have R_b0 := hide (h_b0.upto hwW hB)
  clear h_b0
  have R_b1 := hide (h_b1.upto hwW hB)
  clear h_b1
  have B := hide hwW
  clear hwW
  clear hB
  have U0 : Below W.heap.size W W := Below.refl _ _
  have c_a0 := b_a.at0 b_a.lt_size (Nat.le_refl _)
  have c_a1 := b_a.at1 b_a.lt_size (Nat.le_refl _)
  have c_a2 := b_a.at2 b_a.lt_size (Nat.le_refl _)
  have c_a3 := b_a.at3 b_a.lt_size (Nat.le_refl _)
  have c_a4 := b_a.at4 b_a.lt_size (Nat.le_refl _)
  have c_a5 := b_a.at5 b_a.lt_size (Nat.le_refl _)
  replace b_a := hide b_a
  have c_b0 := b_b.at0 b_b.lt_size (Nat.le_refl _)
  have c_b1 := b_b.at1 b_b.lt_size (Nat.le_refl _)
  have c_b2 := b_b.at2 b_b.lt_size (Nat.le_refl _)
  have c_b3 := b_b.at3 b_b.lt_size (Nat.le_refl _)
  have c_b4 := b_b.at4 b_b.lt_size (Nat.le_refl _)
  have c_b5 := b_b.at5 b_b.lt_size (Nat.le_refl _)
  replace b_b := hide b_b
  go_enter Try.func21, Try.ntmps21
  go_wp2_with fail
  rw [← hW]
  clear hW
  refine (equal_q R_a0.out R_b0.out (Nat.le_refl _) h0.out).mono ?_
  rintro e w1 ⟨rfl, hb⟩
  replace R_a0 := hide (R_a0.out.then_ hb)
  replace R_a1 := hide (R_a1.out.then_ hb)
  replace R_b0 := hide (R_b0.out.then_ hb)
  replace R_b1 := hide (R_b1.out.then_ hb)
  have U1 : Below W.heap.size W w1 := Below.then_ U0 hb
  replace B := hide (Below.then_ B.out hb)
  clear hb
  go_wp2_with fail
  refine (equal_q R_a1.out R_b1.out (Nat.le_refl _) h1.out).mono ?_
  rintro e w2 ⟨rfl, hb⟩
  replace R_a0 := hide (R_a0.out.then_ hb)
  replace R_a1 := hide (R_a1.out.then_ hb)
  replace R_b0 := hide (R_b0.out.then_ hb)
  replace R_b1 := hide (R_b1.out.then_ hb)
  have U2 : Below W.heap.size W w2 := Below.then_ U1 hb
  replace B := hide (Below.then_ B.out hb)
  clear hb
  go_wp2
  go_ret
  exact ⟨rfl, B.out⟩

set_option maxHeartbeats 4000000 in
theorem whole_any {w : World}  {x y : Int}  (hx0 : -9223372036854775808 ≤ x) (hx1 : x ≤ 9223372036854775807) (hy0 : -9223372036854775808 ≤ y) (hy1 : y ≤ 9223372036854775807) {l h : Rat} (hl : rlo (x : Rat) (y : Rat) = l) (hh : rhi (x : Rat) (y : Rat) = h) :
    Calls Try.prog 38 #[.int .i64 x, .int .i64 y] w (RetSN w 3 l h) := by
  replace hx0 := hide hx0
  replace hx1 := hide hx1
  replace hy0 := hide hy0
  replace hy1 := hide hy1
  obtain ⟨p, e_p⟩ : ∃ p, (x : Rat) = p := ⟨_, rfl⟩
  obtain ⟨q, e_q⟩ : ∃ p, (y : Rat) = p := ⟨_, rfl⟩
  rw [e_p, e_q] at hl hh
  have hp : Rat.divInt x 1 = p := by rw [divInt_one]; exact e_p
  replace hp := hide hp
  have hq : Rat.divInt y 1 = q := by rw [divInt_one]; exact e_q
  replace hq := hide hq
  clear e_p e_q
  replace hl := hide hl
  replace hh := hide hh
  obtain ⟨W, hW⟩ : ∃ W, W = (w.alloc (.cells #[.bool false, .slice none 0 0, .slice none 0 0, .bool false, .slice none 0 0, .slice none 0 0] 29)) := ⟨_, rfl⟩
  have b_r0 : Box6 W (w.heap.size) (.bool false) (.slice none 0 0) (.slice none 0 0) (.bool false) (.slice none 0 0) (.slice none 0 0) := by rw [hW]; exact (Box6.new w _ _ _ _ _ _ rfl)
  have hwW : Below w.heap.size w W := by rw [hW]; exact ((Below.refl _ _).alloc (Nat.le_refl _) _)
  have B := hide hwW
  clear hwW
  have U0 : Below W.heap.size W W := Below.refl _ _
  have c_r00 := b_r0.at0 b_r0.lt_size (Nat.le_refl _)
  have c_r01 := b_r0.at1 b_r0.lt_size (Nat.le_refl _)
  have c_r02 := b_r0.at2 b_r0.lt_size (Nat.le_refl _)
  have c_r03 := b_r0.at3 b_r0.lt_size (Nat.le_refl _)
  have c_r04 := b_r0.at4 b_r0.lt_size (Nat.le_refl _)
  have c_r05 := b_r0.at5 b_r0.lt_size (Nat.le_refl _)
  have f_r00 := b_r0.free0 b_r0.lt_size (Nat.le_refl _)
  have f_r01 := b_r0.free1 b_r0.lt_size (Nat.le_refl _)
  have f_r02 := b_r0.free2 b_r0.lt_size (Nat.le_refl _)
  have f_r03 := b_r0.free3 b_r0.lt_size (Nat.le_refl _)
  have f_r04 := b_r0.free4 b_r0.lt_size (Nat.le_refl _)
  have f_r05 := b_r0.free5 b_r0.lt_size (Nat.le_refl _)
  have l_r0 := b_r0.lt b_r0.lt_size (Nat.le_refl _)
  replace b_r0 := hide b_r0
  go_enter Try.func38, Try.ntmps38
  go_wp2_with fail
  rw [← hW]
  clear hW
  refine (of_q hx0.out hx1.out (by omega) (by omega) hp.out (by omega)).mono ?_
  rintro e w1 ⟨x_p, rfl, R_p, hb⟩
  have U1 : Below W.heap.size W w1 := Below.then_ U0 hb
  replace B := hide (Below.then_ B.out hb)
  replace R_p := hide R_p
  clear hb
  have hbx : Below w1.heap.size w1 (w1.alloc (.cells #[.bool x_p.s, .slice x_p.A x_p.n x_p.c, .slice x_p.B x_p.m x_p.d] 27)) := ((Below.refl _ _).alloc (Nat.le_refl _) _)
  have Ux := Below.then_ U1 hbx
  go_wp2_with fail
  obtain ⟨V1, hV⟩ : ∃ V, V = (w1.alloc (.cells #[.bool x_p.s, .slice x_p.A x_p.n x_p.c, .slice x_p.B x_p.m x_p.d] 27)) := ⟨_, rfl⟩
  obtain ⟨g_p, hg_p⟩ : ∃ g, g = w1.heap.size := ⟨_, rfl⟩
  rw [← hV]
  rw [← hV] at hbx Ux
  rw [← hg_p]
  have b_p : Box3 V1 g_p (.bool x_p.s) (.slice x_p.A x_p.n x_p.c) (.slice x_p.B x_p.m x_p.d) := by rw [hV]; exact (Box3.new _ _ _ _ hg_p)
  clear hV
  have ne_p_r0 : g_p ≠ w.heap.size := by have := l_r0 _ U1; omega
  replace ne_p_r0 := hide ne_p_r0
  have ne_r0_p := hide (Ne.symm ne_p_r0.out)
  have ge_p : w.heap.size ≤ g_p := by have := B.out.size; omega
  replace ge_p := hide ge_p
  clear hg_p
  replace R_p := hide (R_p.out.then_ hbx)
  have U2 : Below W.heap.size W V1 := Below.then_ U1 hbx
  replace B := hide (Below.then_ B.out hbx)
  clear hbx
  replace b_r0 := hide (Box6.keep b_r0.out U2)
  clear c_r00 c_r01 c_r02 c_r03 c_r04 c_r05 f_r00 f_r01 f_r02 f_r03 f_r04 f_r05 l_r0
  replace b_p := hide b_p
  have U3 : Below V1.heap.size V1 V1 := Below.refl _ _
  have c_r00 := b_r0.out.at0 b_r0.out.lt_size (Nat.le_refl _)
  have c_r01 := b_r0.out.at1 b_r0.out.lt_size (Nat.le_refl _)
  have c_r02 := b_r0.out.at2 b_r0.out.lt_size (Nat.le_refl _)
  have c_r03 := b_r0.out.at3 b_r0.out.lt_size (Nat.le_refl _)
  have c_r04 := b_r0.out.at4 b_r0.out.lt_size (Nat.le_refl _)
  have c_r05 := b_r0.out.at5 b_r0.out.lt_size (Nat.le_refl _)
  have f_r00 := b_r0.out.free0 b_r0.out.lt_size (Nat.le_refl _)
  have f_r01 := b_r0.out.free1 b_r0.out.lt_size (Nat.le_refl _)
  have f_r02 := b_r0.out.free2 b_r0.out.lt_size (Nat.le_refl _)
  have f_r03 := b_r0.out.free3 b_r0.out.lt_size (Nat.le_refl _)
  have f_r04 := b_r0.out.free4 b_r0.out.lt_size (Nat.le_refl _)
  have f_r05 := b_r0.out.free5 b_r0.out.lt_size (Nat.le_refl _)
  have l_r0 := b_r0.out.lt b_r0.out.lt_size (Nat.le_refl _)
  have c_p0 := b_p.out.at0 b_p.out.lt_size (Nat.le_refl _)
  have c_p1 := b_p.out.at1 b_p.out.lt_size (Nat.le_refl _)
  have c_p2 := b_p.out.at2 b_p.out.lt_size (Nat.le_refl _)
  refine (of_q hy0.out hy1.out (by omega) (by omega) hq.out (by omega)).mono ?_
  rintro e w2 ⟨x_q, rfl, R_q, hb⟩
  replace R_p := hide (R_p.out.then_ hb)
  have U4 : Below V1.heap.size V1 w2 := Below.then_ U3 hb
  replace B := hide (Below.then_ B.out hb)
  replace R_q := hide R_q
  clear hb
  have hbx : Below w2.heap.size w2 (w2.alloc (.cells #[.bool x_q.s, .slice x_q.A x_q.n x_q.c, .slice x_q.B x_q.m x_q.d] 27)) := ((Below.refl _ _).alloc (Nat.le_refl _) _)
  have Ux := Below.then_ U4 hbx
  go_wp2_with fail
  obtain ⟨V4, hV⟩ : ∃ V, V = (w2.alloc (.cells #[.bool x_q.s, .slice x_q.A x_q.n x_q.c, .slice x_q.B x_q.m x_q.d] 27)) := ⟨_, rfl⟩
  obtain ⟨g_q, hg_q⟩ : ∃ g, g = w2.heap.size := ⟨_, rfl⟩
  rw [← hV]
  rw [← hV] at hbx Ux
  rw [← hg_q]
  have b_q : Box3 V4 g_q (.bool x_q.s) (.slice x_q.A x_q.n x_q.c) (.slice x_q.B x_q.m x_q.d) := by rw [hV]; exact (Box3.new _ _ _ _ hg_q)
  clear hV
  have ne_q_r0 : g_q ≠ w.heap.size := by have := l_r0 _ U4; omega
  replace ne_q_r0 := hide ne_q_r0
  have ne_r0_q := hide (Ne.symm ne_q_r0.out)
  have ne_p_q : g_p ≠ g_q := by have := (b_p.out.lt b_p.out.lt_size (Nat.le_refl _)) _ U4; omega
  replace ne_p_q := hide ne_p_q
  have ge_q : w.heap.size ≤ g_q := by have := B.out.size; omega
  replace ge_q := hide ge_q
  clear hg_q
  replace R_p := hide (R_p.out.then_ hbx)
  replace R_q := hide (R_q.out.then_ hbx)
  have U5 : Below V1.heap.size V1 V4 := Below.then_ U4 hbx
  replace B := hide (Below.then_ B.out hbx)
  clear hbx
  replace b_r0 := hide (Box6.keep b_r0.out U5)
  clear c_r00 c_r01 c_r02 c_r03 c_r04 c_r05 f_r00 f_r01 f_r02 f_r03 f_r04 f_r05 l_r0
  replace b_p := hide (Box3.keep b_p.out U5)
  clear c_p0 c_p1 c_p2
  replace b_q := hide b_q
  have U6 : Below V4.heap.size V4 V4 := Below.refl _ _
  have c_r00 := b_r0.out.at0 b_r0.out.lt_size (Nat.le_refl _)
  have c_r01 := b_r0.out.at1 b_r0.out.lt_size (Nat.le_refl _)
  have c_r02 := b_r0.out.at2 b_r0.out.lt_size (Nat.le_refl _)
  have c_r03 := b_r0.out.at3 b_r0.out.lt_size (Nat.le_refl _)
  have c_r04 := b_r0.out.at4 b_r0.out.lt_size (Nat.le_refl _)
  have c_r05 := b_r0.out.at5 b_r0.out.lt_size (Nat.le_refl _)
  have f_r00 := b_r0.out.free0 b_r0.out.lt_size (Nat.le_refl _)
  have f_r01 := b_r0.out.free1 b_r0.out.lt_size (Nat.le_refl _)
  have f_r02 := b_r0.out.free2 b_r0.out.lt_size (Nat.le_refl _)
  have f_r03 := b_r0.out.free3 b_r0.out.lt_size (Nat.le_refl _)
  have f_r04 := b_r0.out.free4 b_r0.out.lt_size (Nat.le_refl _)
  have f_r05 := b_r0.out.free5 b_r0.out.lt_size (Nat.le_refl _)
  have l_r0 := b_r0.out.lt b_r0.out.lt_size (Nat.le_refl _)
  have c_p0 := b_p.out.at0 b_p.out.lt_size (Nat.le_refl _)
  have c_p1 := b_p.out.at1 b_p.out.lt_size (Nat.le_refl _)
  have c_p2 := b_p.out.at2 b_p.out.lt_size (Nat.le_refl _)
  have c_q0 := b_q.out.at0 b_q.out.lt_size (Nat.le_refl _)
  have c_q1 := b_q.out.at1 b_q.out.lt_size (Nat.le_refl _)
  have c_q2 := b_q.out.at2 b_q.out.lt_size (Nat.le_refl _)
  refine (sof_any (L := 2) (by omega) R_p.out.rq R_q.out.rq (Nat.le_refl _) hl.out hh.out).mono ?_
  rintro e w3 ⟨x_s0, x_s1, rfl, R_s0, R_s1, hb⟩
  replace R_p := hide (R_p.out.then_ hb)
  replace R_q := hide (R_q.out.then_ hb)
  have U7 : Below V4.heap.size V4 w3 := Below.then_ U6 hb
  replace B := hide (Below.then_ B.out hb)
  replace R_s0 := hide R_s0
  replace R_s1 := hide R_s1
  clear hb
  go_wp2
  exact bodyPost_ret (v := .agg #[.bool x_s0.s, .slice x_s0.A x_s0.n x_s0.c, .slice x_s0.B x_s0.m x_s0.d, .bool x_s1.s, .slice x_s1.A x_s1.n x_s1.c, .slice x_s1.B x_s1.m x_s1.d]) (by simp [results, Try.results38, go_sem, c_r00 _ U7, c_r01 _ U7, c_r02 _ U7, c_r03 _ U7, c_r04 _ U7, c_r05 _ U7]) rfl (RetSN.box B.out (by omega) (c_r00 _ U7) (c_r01 _ U7) (c_r02 _ U7) (c_r03 _ U7) (c_r04 _ U7) (c_r05 _ U7) R_s0.out R_s1.out)

set_option maxHeartbeats 4000000 in
theorem between_any {w : World} {Bd : Nat} {L : Nat} (gL : L ≤ 1048576) {a0 : Rc} {q_a0 : Rat} {a1 : Rc} {q_a1 : Rat} {n : Nat} (h_a0 : Rq w Bd L a0 q_a0) (h_a1 : Rq w Bd L a1 q_a1) (hB : Bd ≤ w.heap.size) (hn : n < 256) {l h s r : Rat} (hl : rlo q_a0 q_a1 = l) (hh : rhi q_a0 q_a1 = h) (hs : Rat.divInt (n : Int) 255 = s) (hr : l + s * (h - l) = r) :
    Calls Try.prog 7 #[.agg #[.bool a0.s, .slice a0.A a0.n a0.c, .slice a0.B a0.m a0.d, .bool a1.s, .slice a1.A a1.n a1.c, .slice a1.B a1.m a1.d], .int .u8 (n : Int)] w (RetN w (3 * L + 20) r) := by
  obtain ⟨d, hd⟩ : ∃ d, h - l = d := ⟨_, rfl⟩
  rw [hd] at hr
  obtain ⟨t, ht⟩ : ∃ t, s * d = t := ⟨_, rfl⟩
  rw [ht] at hr
  have hw : rhi q_a0 q_a1 - rlo q_a0 q_a1 = d := by rw [hl, hh]; exact hd
  replace hw := hide hw
  have hn0 : -9223372036854775808 ≤ (n : Int) := by omega
  have hn1 : (n : Int) ≤ 9223372036854775807 := by omega
  have hwr : IntKind.i64.wrap (n : Int) = (n : Int) := by rw [IntKind.wrap_i64]; omega
  replace hl := hide hl
  replace hh := hide hh
  replace hs := hide hs
  replace hr := hide hr
  replace ht := hide ht
  replace hn0 := hide hn0
  replace hn1 := hide hn1
  clear hd
  have gL8 : L ≤ 100000000 := by omega
  replace gL8 := hide gL8
  obtain ⟨W, hW⟩ : ∃ W, W = ((w.alloc (.cells #[.bool a0.s, .slice a0.A a0.n a0.c, .slice a0.B a0.m a0.d, .bool a1.s, .slice a1.A a1.n a1.c, .slice a1.B a1.m a1.d] 29)).alloc (.cells #[.bool false, .slice none 0 0, .slice none 0 0] 27)) := ⟨_, rfl⟩
  have b_a : Box6 W (w.heap.size) (.bool a0.s) (.slice a0.A a0.n a0.c) (.slice a0.B a0.m a0.d) (.bool a1.s) (.slice a1.A a1.n a1.c) (.slice a1.B a1.m a1.d) := by rw [hW]; exact ((Box6.new w _ _ _ _ _ _ rfl).al _)
  have b_r0 : Box3 W (w.heap.size + 1) (.bool false) (.slice none 0 0) (.slice none 0 0) := by rw [hW]; exact (Box3.new _ _ _ _ (by simp))
  have hwW : Below w.heap.size w W := by rw [hW]; exact (((Below.refl _ _).alloc (Nat.le_refl _) _).alloc (by simp) _)
  have R_a0 := hide (h_a0.upto hwW hB)
  clear h_a0
  have R_a1 := hide (h_a1.upto hwW hB)
  clear h_a1
  have B := hide hwW
  clear hwW
  clear hB
  have U0 : Below W.heap.size W W := Below.refl _ _
  have c_a0 := b_a.at0 b_a.lt_size (Nat.le_refl _)
  have c_a1 := b_a.at1 b_a.lt_size (Nat.le_refl _)
  have c_a2 := b_a.at2 b_a.lt_size (Nat.le_refl _)
  have c_a3 := b_a.at3 b_a.lt_size (Nat.le_refl _)
  have c_a4 := b_a.at4 b_a.lt_size (Nat.le_refl _)
  have c_a5 := b_a.at5 b_a.lt_size (Nat.le_refl _)
  replace b_a := hide b_a
  have c_r00 := b_r0.at0 b_r0.lt_size (Nat.le_refl _)
  have c_r01 := b_r0.at1 b_r0.lt_size (Nat.le_refl _)
  have c_r02 := b_r0.at2 b_r0.lt_size (Nat.le_refl _)
  have f_r00 := b_r0.free0 b_r0.lt_size (Nat.le_refl _)
  have f_r01 := b_r0.free1 b_r0.lt_size (Nat.le_refl _)
  have f_r02 := b_r0.free2 b_r0.lt_size (Nat.le_refl _)
  have l_r0 := b_r0.lt b_r0.lt_size (Nat.le_refl _)
  replace b_r0 := hide b_r0
  go_enter Try.func7, Try.ntmps7
  go_wp2_with fail
  rw [← hW]
  clear hW
  refine (sof_any gL8.out R_a0.out R_a1.out (Nat.le_refl _) hl.out hh.out).mono ?_
  rintro e w1 ⟨x_b0, x_b1, rfl, R_b0, R_b1, hb⟩
  replace R_a0 := hide (R_a0.out.then_ hb)
  replace R_a1 := hide (R_a1.out.then_ hb)
  have U1 : Below W.heap.size W w1 := Below.then_ U0 hb
  replace B := hide (Below.then_ B.out hb)
  replace R_b0 := hide R_b0
  replace R_b1 := hide R_b1
  clear hb
  have hbx : Below w1.heap.size w1 (w1.alloc (.cells #[.bool x_b0.s, .slice x_b0.A x_b0.n x_b0.c, .slice x_b0.B x_b0.m x_b0.d, .bool x_b1.s, .slice x_b1.A x_b1.n x_b1.c, .slice x_b1.B x_b1.m x_b1.d] 29)) := ((Below.refl _ _).alloc (Nat.le_refl _) _)
  have Ux := Below.then_ U1 hbx
  go_wp2_with fail
  obtain ⟨V1, hV⟩ : ∃ V, V = (w1.alloc (.cells #[.bool x_b0.s, .slice x_b0.A x_b0.n x_b0.c, .slice x_b0.B x_b0.m x_b0.d, .bool x_b1.s, .slice x_b1.A x_b1.n x_b1.c, .slice x_b1.B x_b1.m x_b1.d] 29)) := ⟨_, rfl⟩
  obtain ⟨g_b, hg_b⟩ : ∃ g, g = w1.heap.size := ⟨_, rfl⟩
  rw [← hV]
  rw [← hV] at hbx Ux
  rw [← hg_b]
  have b_b : Box6 V1 g_b (.bool x_b0.s) (.slice x_b0.A x_b0.n x_b0.c) (.slice x_b0.B x_b0.m x_b0.d) (.bool x_b1.s) (.slice x_b1.A x_b1.n x_b1.c) (.slice x_b1.B x_b1.m x_b1.d) := by rw [hV]; exact (Box6.new _ _ _ _ _ _ _ hg_b)
  clear hV
  have ne_b_r0 : g_b ≠ w.heap.size + 1 := by have := l_r0 _ U1; omega
  replace ne_b_r0 := hide ne_b_r0
  have ne_a_b : w.heap.size ≠ g_b := by have := (b_a.out.lt b_a.out.lt_size (Nat.le_refl _)) _ U1; omega
  replace ne_a_b := hide ne_a_b
  have ne_r0_b := hide (Ne.symm ne_b_r0.out)
  have ge_b : w.heap.size ≤ g_b := by have := B.out.size; omega
  replace ge_b := hide ge_b
  clear hg_b
  replace R_a0 := hide (R_a0.out.then_ hbx)
  replace R_a1 := hide (R_a1.out.then_ hbx)
  replace R_b0 := hide (R_b0.out.then_ hbx)
  replace R_b1 := hide (R_b1.out.then_ hbx)
  have U2 : Below W.heap.size W V1 := Below.then_ U1 hbx
  replace B := hide (Below.then_ B.out hbx)
  clear hbx
  replace b_a := hide (Box6.keep b_a.out U2)
  clear c_a0 c_a1 c_a2 c_a3 c_a4 c_a5
  replace b_r0 := hide (Box3.keep b_r0.out U2)
  clear c_r00 c_r01 c_r02 f_r00 f_r01 f_r02 l_r0
  replace b_b := hide b_b
  have U3 : Below V1.heap.size V1 V1 := Below.refl _ _
  have c_a0 := b_a.out.at0 b_a.out.lt_size (Nat.le_refl _)
  have c_a1 := b_a.out.at1 b_a.out.lt_size (Nat.le_refl _)
  have c_a2 := b_a.out.at2 b_a.out.lt_size (Nat.le_refl _)
  have c_a3 := b_a.out.at3 b_a.out.lt_size (Nat.le_refl _)
  have c_a4 := b_a.out.at4 b_a.out.lt_size (Nat.le_refl _)
  have c_a5 := b_a.out.at5 b_a.out.lt_size (Nat.le_refl _)
  have c_r00 := b_r0.out.at0 b_r0.out.lt_size (Nat.le_refl _)
  have c_r01 := b_r0.out.at1 b_r0.out.lt_size (Nat.le_refl _)
  have c_r02 := b_r0.out.at2 b_r0.out.lt_size (Nat.le_refl _)
  have f_r00 := b_r0.out.free0 b_r0.out.lt_size (Nat.le_refl _)
  have f_r01 := b_r0.out.free1 b_r0.out.lt_size (Nat.le_refl _)
  have f_r02 := b_r0.out.free2 b_r0.out.lt_size (Nat.le_refl _)
  have l_r0 := b_r0.out.lt b_r0.out.lt_size (Nat.le_refl _)
  have c_b0 := b_b.out.at0 b_b.out.lt_size (Nat.le_refl _)
  have c_b1 := b_b.out.at1 b_b.out.lt_size (Nat.le_refl _)
  have c_b2 := b_b.out.at2 b_b.out.lt_size (Nat.le_refl _)
  have c_b3 := b_b.out.at3 b_b.out.lt_size (Nat.le_refl _)
  have c_b4 := b_b.out.at4 b_b.out.lt_size (Nat.le_refl _)
  have c_b5 := b_b.out.at5 b_b.out.lt_size (Nat.le_refl _)
  refine (of_q hn0.out hn1.out (by omega) (by omega) hs.out (by omega)).mono ?_
  rintro e w2 ⟨x_s, rfl, R_s, hb⟩
  replace R_a0 := hide (R_a0.out.then_ hb)
  replace R_a1 := hide (R_a1.out.then_ hb)
  replace R_b0 := hide (R_b0.out.then_ hb)
  replace R_b1 := hide (R_b1.out.then_ hb)
  have U4 : Below V1.heap.size V1 w2 := Below.then_ U3 hb
  replace B := hide (Below.then_ B.out hb)
  replace R_s := hide R_s
  clear hb
  have hbx : Below w2.heap.size w2 (w2.alloc (.cells #[.bool x_s.s, .slice x_s.A x_s.n x_s.c, .slice x_s.B x_s.m x_s.d] 27)) := ((Below.refl _ _).alloc (Nat.le_refl _) _)
  have Ux := Below.then_ U4 hbx
  go_wp2_with fail
  obtain ⟨V4, hV⟩ : ∃ V, V = (w2.alloc (.cells #[.bool x_s.s, .slice x_s.A x_s.n x_s.c, .slice x_s.B x_s.m x_s.d] 27)) := ⟨_, rfl⟩
  obtain ⟨g_s, hg_s⟩ : ∃ g, g = w2.heap.size := ⟨_, rfl⟩
  rw [← hV]
  rw [← hV] at hbx Ux
  rw [← hg_s]
  have b_s : Box3 V4 g_s (.bool x_s.s) (.slice x_s.A x_s.n x_s.c) (.slice x_s.B x_s.m x_s.d) := by rw [hV]; exact (Box3.new _ _ _ _ hg_s)
  clear hV
  have ne_s_r0 : g_s ≠ w.heap.size + 1 := by have := l_r0 _ U4; omega
  replace ne_s_r0 := hide ne_s_r0
  have ne_a_s : w.heap.size ≠ g_s := by have := (b_a.out.lt b_a.out.lt_size (Nat.le_refl _)) _ U4; omega
  replace ne_a_s := hide ne_a_s
  have ne_r0_s := hide (Ne.symm ne_s_r0.out)
  have ne_b_s : g_b ≠ g_s := by have := (b_b.out.lt b_b.out.lt_size (Nat.le_refl _)) _ U4; omega
  replace ne_b_s := hide ne_b_s
  have ge_s : w.heap.size ≤ g_s := by have := B.out.size; omega
  replace ge_s := hide ge_s
  clear hg_s
  replace R_a0 := hide (R_a0.out.then_ hbx)
  replace R_a1 := hide (R_a1.out.then_ hbx)
  replace R_b0 := hide (R_b0.out.then_ hbx)
  replace R_b1 := hide (R_b1.out.then_ hbx)
  replace R_s := hide (R_s.out.then_ hbx)
  have U5 : Below V1.heap.size V1 V4 := Below.then_ U4 hbx
  replace B := hide (Below.then_ B.out hbx)
  clear hbx
  replace b_a := hide (Box6.keep b_a.out U5)
  clear c_a0 c_a1 c_a2 c_a3 c_a4 c_a5
  replace b_r0 := hide (Box3.keep b_r0.out U5)
  clear c_r00 c_r01 c_r02 f_r00 f_r01 f_r02 l_r0
  replace b_b := hide (Box6.keep b_b.out U5)
  clear c_b0 c_b1 c_b2 c_b3 c_b4 c_b5
  replace b_s := hide b_s
  have U6 : Below V4.heap.size V4 V4 := Below.refl _ _
  have c_a0 := b_a.out.at0 b_a.out.lt_size (Nat.le_refl _)
  have c_a1 := b_a.out.at1 b_a.out.lt_size (Nat.le_refl _)
  have c_a2 := b_a.out.at2 b_a.out.lt_size (Nat.le_refl _)
  have c_a3 := b_a.out.at3 b_a.out.lt_size (Nat.le_refl _)
  have c_a4 := b_a.out.at4 b_a.out.lt_size (Nat.le_refl _)
  have c_a5 := b_a.out.at5 b_a.out.lt_size (Nat.le_refl _)
  have c_r00 := b_r0.out.at0 b_r0.out.lt_size (Nat.le_refl _)
  have c_r01 := b_r0.out.at1 b_r0.out.lt_size (Nat.le_refl _)
  have c_r02 := b_r0.out.at2 b_r0.out.lt_size (Nat.le_refl _)
  have f_r00 := b_r0.out.free0 b_r0.out.lt_size (Nat.le_refl _)
  have f_r01 := b_r0.out.free1 b_r0.out.lt_size (Nat.le_refl _)
  have f_r02 := b_r0.out.free2 b_r0.out.lt_size (Nat.le_refl _)
  have l_r0 := b_r0.out.lt b_r0.out.lt_size (Nat.le_refl _)
  have c_b0 := b_b.out.at0 b_b.out.lt_size (Nat.le_refl _)
  have c_b1 := b_b.out.at1 b_b.out.lt_size (Nat.le_refl _)
  have c_b2 := b_b.out.at2 b_b.out.lt_size (Nat.le_refl _)
  have c_b3 := b_b.out.at3 b_b.out.lt_size (Nat.le_refl _)
  have c_b4 := b_b.out.at4 b_b.out.lt_size (Nat.le_refl _)
  have c_b5 := b_b.out.at5 b_b.out.lt_size (Nat.le_refl _)
  have c_s0 := b_s.out.at0 b_s.out.lt_size (Nat.le_refl _)
  have c_s1 := b_s.out.at1 b_s.out.lt_size (Nat.le_refl _)
  have c_s2 := b_s.out.at2 b_s.out.lt_size (Nat.le_refl _)
  go_wp2_with fail
  have k_a0 := b_a.out.but0 (g1 := w.heap.size + 1) (g2 := w.heap.size + 1) (by omega) (by omega)
  have k_a1 := b_a.out.but1 (g1 := w.heap.size + 1) (g2 := w.heap.size + 1) (by omega) (by omega)
  have k_a2 := b_a.out.but2 (g1 := w.heap.size + 1) (g2 := w.heap.size + 1) (by omega) (by omega)
  have k_a3 := b_a.out.but3 (g1 := w.heap.size + 1) (g2 := w.heap.size + 1) (by omega) (by omega)
  have k_a4 := b_a.out.but4 (g1 := w.heap.size + 1) (g2 := w.heap.size + 1) (by omega) (by omega)
  have k_a5 := b_a.out.but5 (g1 := w.heap.size + 1) (g2 := w.heap.size + 1) (by omega) (by omega)
  have k_b0 := b_b.out.but0 (g1 := w.heap.size + 1) (g2 := w.heap.size + 1) ne_b_r0.out ne_b_r0.out
  have k_b1 := b_b.out.but1 (g1 := w.heap.size + 1) (g2 := w.heap.size + 1) ne_b_r0.out ne_b_r0.out
  have k_b2 := b_b.out.but2 (g1 := w.heap.size + 1) (g2 := w.heap.size + 1) ne_b_r0.out ne_b_r0.out
  have k_b3 := b_b.out.but3 (g1 := w.heap.size + 1) (g2 := w.heap.size + 1) ne_b_r0.out ne_b_r0.out
  have k_b4 := b_b.out.but4 (g1 := w.heap.size + 1) (g2 := w.heap.size + 1) ne_b_r0.out ne_b_r0.out
  have k_b5 := b_b.out.but5 (g1 := w.heap.size + 1) (g2 := w.heap.size + 1) ne_b_r0.out ne_b_r0.out
  have k_s0 := b_s.out.but0 (g1 := w.heap.size + 1) (g2 := w.heap.size + 1) ne_s_r0.out ne_s_r0.out
  have k_s1 := b_s.out.but1 (g1 := w.heap.size + 1) (g2 := w.heap.size + 1) ne_s_r0.out ne_s_r0.out
  have k_s2 := b_s.out.but2 (g1 := w.heap.size + 1) (g2 := w.heap.size + 1) ne_s_r0.out ne_s_r0.out
  have hd := Below.drw_ V4
  replace R_a0 := hide (R_a0.out.then_ hd)
  replace R_a1 := hide (R_a1.out.then_ hd)
  replace R_b0 := hide (R_b0.out.then_ hd)
  replace R_b1 := hide (R_b1.out.then_ hd)
  replace R_s := hide (R_s.out.then_ hd)
  have U7 : Below V4.heap.size V4 (V4.drew) := Below.then_ U6 hd
  replace B := hide (Below.then_ B.out hd)
  have K7 : KeptBut (w.heap.size + 1) (w.heap.size + 1) V4.heap.size V4 (V4.drew) := KeptBut.below U7
  clear hd
  have tok1 : True := trivial
  go_region_held3 (fun w' => KeptBut (w.heap.size + 1) (w.heap.size + 1) V4.heap.size V4 w') (first | (with_reducible assumption) | (with_reducible exact KeptBut.drw _) | ((repeat (first | (with_reducible refine KeptBut.set0 ?_ _) | (with_reducible refine KeptBut.drew_ ?_))); first | (with_reducible assumption) | (with_reducible exact KeptBut.refl _ _ _ _)))
    (first
      | (go_at_call 22; (have _t := tok1; (with_reducible refine (width_any gL8.out R_a0.out R_a1.out (Nat.le_refl _) hw.out).mono ?_); rintro e w3 ⟨x_d, rfl, R_d, hb⟩; replace R_a0 := hide (R_a0.out.then_ hb); replace R_a1 := hide (R_a1.out.then_ hb); replace R_b0 := hide (R_b0.out.then_ hb); replace R_b1 := hide (R_b1.out.then_ hb); replace R_s := hide (R_s.out.then_ hb); have U8 : Below V4.heap.size V4 w3 := Below.then_ U7 hb; replace B := hide (Below.then_ B.out hb); have K8 : KeptBut (w.heap.size + 1) (w.heap.size + 1) V4.heap.size V4 w3 := KeptBut.below U8; replace R_d := hide R_d; clear hb; have tok2 : True := trivial; clear _t tok1))
      | (go_at_call 14; (have _t := tok2; (with_reducible refine (mul_q R_s.out.rq (by omega) R_d.out.rq (by omega) (Nat.le_refl _) ht.out).mono ?_); rintro e w4 ⟨x_t, rfl, R_t, hb⟩; replace R_a0 := hide (R_a0.out.then_ hb); replace R_a1 := hide (R_a1.out.then_ hb); replace R_b0 := hide (R_b0.out.then_ hb); replace R_b1 := hide (R_b1.out.then_ hb); replace R_s := hide (R_s.out.then_ hb); replace R_d := hide (R_d.out.then_ hb); have U9 : Below V4.heap.size V4 w4 := Below.then_ U8 hb; replace B := hide (Below.then_ B.out hb); have K9 : KeptBut (w.heap.size + 1) (w.heap.size + 1) V4.heap.size V4 w4 := KeptBut.below U9; replace R_t := hide R_t; clear hb; have tok3 : True := trivial; clear _t tok2))
      | (go_at_call 10; (have _t := tok3; (with_reducible refine (add_q R_b0.out.rq (by omega) R_t.out.rq (by omega) (Nat.le_refl _) hr.out).mono ?_); rintro e w5 ⟨x_r, rfl, R_r, hb⟩; replace R_a0 := hide (R_a0.out.then_ hb); replace R_a1 := hide (R_a1.out.then_ hb); replace R_b0 := hide (R_b0.out.then_ hb); replace R_b1 := hide (R_b1.out.then_ hb); replace R_s := hide (R_s.out.then_ hb); replace R_d := hide (R_d.out.then_ hb); replace R_t := hide (R_t.out.then_ hb); have U10 : Below V4.heap.size V4 w5 := Below.then_ U9 hb; replace B := hide (Below.then_ B.out hb); have K10 : KeptBut (w.heap.size + 1) (w.heap.size + 1) V4.heap.size V4 w5 := KeptBut.below U10; replace R_r := hide R_r; clear hb; have tok4 : True := trivial; clear _t tok3)))
  clear tok4
  clear k_a0 k_a1 k_a2 k_a3 k_a4 k_a5
  clear k_b0 k_b1 k_b2 k_b3 k_b4 k_b5
  clear k_s0 k_s1 k_s2
  replace R_r := hide (R_r.out.le (M := 3 * L + 20) (by omega))
  go_wp2
  exact bodyPost_ret (v := .agg #[.bool x_r.s, .slice x_r.A x_r.n x_r.c, .slice x_r.B x_r.m x_r.d]) (by simp [results, Try.results7, go_sem, c_r00 _ U10, c_r01 _ U10, c_r02 _ U10]) rfl (RetN.box B.out (by omega) (c_r00 _ U10) (c_r01 _ U10) (c_r02 _ U10) R_r.out)

end Go.Proofs.Ytogafnfpncbgiaa

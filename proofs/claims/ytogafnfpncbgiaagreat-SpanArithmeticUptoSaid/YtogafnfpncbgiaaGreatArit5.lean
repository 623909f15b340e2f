/-
  SpanArithmetic.
-/
import Derived.Test.YtogafnfpncbgiaaGreatRSpanB
import Derived.Test.YtogafnfpncbgiaaGreatAwake5
namespace Go.Proofs.YtogafnfpncbgiaaGreat
open Go.RowKit


set_option maxHeartbeats 4000000 in
theorem arithmetic_walk {w : World} {Bd : Nat}  {a0 : Rc} {q_a0 : Rat} {a1 : Rc} {q_a1 : Rat} {b0 : Rc} {q_b0 : Rat} {b1 : Rc} {q_b1 : Rat} {r : Rc} {q_r : Rat} (h_a0 : Rq w Bd 1048576 a0 q_a0) (h_a1 : Rq w Bd 1048576 a1 q_a1) (h_b0 : Rq w Bd 1048576 b0 q_b0) (h_b1 : Rq w Bd 1048576 b1 q_b1) (h_r : Rq w Bd 1048576 r q_r) (hB : Bd ≤ w.heap.size)  :
    Calls Tryz.prog 3 #[.agg #[.bool a0.s, .slice a0.A a0.n a0.c, .slice a0.B a0.m a0.d, .bool a1.s, .slice a1.A a1.n a1.c, .slice a1.B a1.m a1.d], .agg #[.bool b0.s, .slice b0.A b0.n b0.c, .slice b0.B b0.m b0.d, .bool b1.s, .slice b1.A b1.n b1.c, .slice b1.B b1.m b1.d], .agg #[.bool r.s, .slice r.A r.n r.c, .slice r.B r.m r.d]] w (RetB w (.bool true)) := by
  obtain ⟨ol, hol⟩ : ∃ d, rlo q_a0 q_r = d := ⟨_, rfl⟩
  replace hol := hide hol
  obtain ⟨oh, hoh⟩ : ∃ d, rhi q_a0 q_r = d := ⟨_, rfl⟩
  replace hoh := hide hoh
  obtain ⟨pl, hpl⟩ : ∃ d, rlo q_a0 q_a1 + rlo q_b0 q_b1 = d := ⟨_, rfl⟩
  replace hpl := hide hpl
  obtain ⟨ph, hph⟩ : ∃ d, rhi q_a0 q_a1 + rhi q_b0 q_b1 = d := ⟨_, rfl⟩
  replace hph := hide hph
  obtain ⟨ml, hml⟩ : ∃ d, rlo q_a0 q_a1 - rhi q_b0 q_b1 = d := ⟨_, rfl⟩
  replace hml := hide hml
  obtain ⟨mh, hmh⟩ : ∃ d, rhi q_a0 q_a1 - rlo q_b0 q_b1 = d := ⟨_, rfl⟩
  replace hmh := hide hmh
  obtain ⟨tl, htl⟩ : ∃ d, mn4 (q_a0 * q_b0) (q_a0 * q_b1) (q_a1 * q_b0) (q_a1 * q_b1) = d := ⟨_, rfl⟩
  replace htl := hide htl
  obtain ⟨th, hth⟩ : ∃ d, mx4 (q_a0 * q_b0) (q_a0 * q_b1) (q_a1 * q_b0) (q_a1 * q_b1) = d := ⟨_, rfl⟩
  replace hth := hide hth
  obtain ⟨sl, hsl⟩ : ∃ d, rlo (q_a0 * q_r) (q_a1 * q_r) = d := ⟨_, rfl⟩
  replace hsl := hide hsl
  obtain ⟨sh, hsh⟩ : ∃ d, rhi (q_a0 * q_r) (q_a1 * q_r) = d := ⟨_, rfl⟩
  replace hsh := hide hsh
  obtain ⟨W, hW⟩ : ∃ W, W = (((w.alloc (.cells #[.bool a0.s, .slice a0.A a0.n a0.c, .slice a0.B a0.m a0.d, .bool a1.s, .slice a1.A a1.n a1.c, .slice a1.B a1.m a1.d] 29)).alloc (.cells #[.bool b0.s, .slice b0.A b0.n b0.c, .slice b0.B b0.m b0.d, .bool b1.s, .slice b1.A b1.n b1.c, .slice b1.B b1.m b1.d] 29)).alloc (.cells #[.bool r.s, .slice r.A r.n r.c, .slice r.B r.m r.d] 27)) := ⟨_, rfl⟩
  have b_a : Box6 W (w.heap.size) (.bool a0.s) (.slice a0.A a0.n a0.c) (.slice a0.B a0.m a0.d) (.bool a1.s) (.slice a1.A a1.n a1.c) (.slice a1.B a1.m a1.d) := by rw [hW]; exact (((Box6.new w _ _ _ _ _ _ rfl).al _).al _)
  have b_b : Box6 W (w.heap.size + 1) (.bool b0.s) (.slice b0.A b0.n b0.c) (.slice b0.B b0.m b0.d) (.bool b1.s) (.slice b1.A b1.n b1.c) (.slice b1.B b1.m b1.d) := by rw [hW]; exact ((Box6.new _ _ _ _ _ _ _ (by simp)).al _)
  have b_r : Box3 W (w.heap.size + 1 + 1) (.bool r.s) (.slice r.A r.n r.c) (.slice r.B r.m r.d) := by rw [hW]; exact (Box3.new _ _ _ _ (by simp))
  have hwW : Below w.heap.size w W := by rw [hW]; exact ((((Below.refl _ _).alloc (Nat.le_refl _) _).alloc (by simp) _).alloc (by simp; omega) _)
  have R_a0 := hide (h_a0.upto hwW hB)
  clear h_a0
  have R_a1 := hide (h_a1.upto hwW hB)
  clear h_a1
  have R_b0 := hide (h_b0.upto hwW hB)
  clear h_b0
  have R_b1 := hide (h_b1.upto hwW hB)
  clear h_b1
  have R_r := hide (h_r.upto hwW hB)
  clear h_r
  have B := hide hwW
  clear hwW
  clear hB
  have U0 : Below W.heap.size W W := Below.refl _ _
  have c_a0 := b_a.at0 b_a.lt_size (Nat.le_refl _)
  have c_a1 := b_a.at1 b_a.lt_size (Nat.le_refl _)
  have c_a2 := b_a.at2 b_a.lt_size (Nat.le_refl _)
  have c_a3 := b_a.at3 b_a.lt_size (Nat.le_refl _)
  have c_a4 := b_a.at4 b_a.lt_size (Nat.le_refl _)
  have c_a5 := b_a.at5 b_a.lt_size (Nat.le_refl _)
  replace b_a := hide b_a
  have c_b0 := b_b.at0 b_b.lt_size (Nat.le_refl _)
  have c_b1 := b_b.at1 b_b.lt_size (Nat.le_refl _)
  have c_b2 := b_b.at2 b_b.lt_size (Nat.le_refl _)
  have c_b3 := b_b.at3 b_b.lt_size (Nat.le_refl _)
  have c_b4 := b_b.at4 b_b.lt_size (Nat.le_refl _)
  have c_b5 := b_b.at5 b_b.lt_size (Nat.le_refl _)
  replace b_b := hide b_b
  have c_r0 := b_r.at0 b_r.lt_size (Nat.le_refl _)
  have c_r1 := b_r.at1 b_r.lt_size (Nat.le_refl _)
  have c_r2 := b_r.at2 b_r.lt_size (Nat.le_refl _)
  replace b_r := hide b_r
  go_enter Tryz.func3, Tryz.ntmps3
  go_wp2_with fail
  rw [← hW]
  clear hW
  go_wp2_with fail
  have hd := Below.drw_ W
  replace R_a0 := hide (R_a0.out.then_ hd)
  replace R_a1 := hide (R_a1.out.then_ hd)
  replace R_b0 := hide (R_b0.out.then_ hd)
  replace R_b1 := hide (R_b1.out.then_ hd)
  replace R_r := hide (R_r.out.then_ hd)
  have U1 : Below W.heap.size W (W.drew) := Below.then_ U0 hd
  replace B := hide (Below.then_ B.out hd)
  clear hd
  have tok1 : True := trivial
  go_region_held3 (fun w' => Below W.heap.size W w') (assumption)
    (first
      | (go_at_call 5; (have _t := tok1; (with_reducible refine (sof_any (L := 1048576) (by omega) (Rq.le (M := 1048576) R_a0.out (by omega)) (Rq.le (M := 1048576) R_r.out (by omega)) (Nat.le_refl _) hol.out hoh.out).mono ?_); rintro e w1 ⟨x_x0, x_x1, rfl, R_x0, R_x1, hb⟩; replace R_a0 := hide (R_a0.out.then_ hb); replace R_a1 := hide (R_a1.out.then_ hb); replace R_b0 := hide (R_b0.out.then_ hb); replace R_b1 := hide (R_b1.out.then_ hb); replace R_r := hide (R_r.out.then_ hb); have U2 : Below W.heap.size W w1 := Below.then_ U1 hb; replace B := hide (Below.then_ B.out hb); replace R_x0 := hide R_x0; replace R_x1 := hide R_x1; clear hb; have tok2 : True := trivial; clear _t tok1))
      | (go_at_call 6; (have _t := tok2; (with_reducible refine (rsof_any (L := 1048576) (by omega) (Rq.le (M := 1048576) R_a0.out (by omega)) (Rq.le (M := 1048576) R_r.out (by omega)) (Nat.le_refl _) hol.out hoh.out).mono ?_); rintro e w2 ⟨x_y0, x_y1, rfl, R_y0, R_y1, hb⟩; replace R_a0 := hide (R_a0.out.then_ hb); replace R_a1 := hide (R_a1.out.then_ hb); replace R_b0 := hide (R_b0.out.then_ hb); replace R_b1 := hide (R_b1.out.then_ hb); replace R_r := hide (R_r.out.then_ hb); replace R_x0 := hide (R_x0.out.then_ hb); replace R_x1 := hide (R_x1.out.then_ hb); have U3 : Below W.heap.size W w2 := Below.then_ U2 hb; replace B := hide (Below.then_ B.out hb); replace R_y0 := hide R_y0; replace R_y1 := hide R_y1; clear hb; have tok3 : True := trivial; clear _t tok2))
      | (go_at_call 4; (have _t := tok3; (with_reducible refine (same_s (L := 1048577) (by omega) (R_x0.out.le (M := 1048577) (by omega)) (R_x1.out.le (M := 1048577) (by omega)) (R_y0.out.le (M := 1048577) (by omega)) (R_y1.out.le (M := 1048577) (by omega)) (Nat.le_refl _) rfl rfl).mono ?_); rintro e w3 ⟨rfl, hb⟩; replace R_a0 := hide (R_a0.out.then_ hb); replace R_a1 := hide (R_a1.out.then_ hb); replace R_b0 := hide (R_b0.out.then_ hb); replace R_b1 := hide (R_b1.out.then_ hb); replace R_r := hide (R_r.out.then_ hb); replace R_x0 := hide (R_x0.out.then_ hb); replace R_x1 := hide (R_x1.out.then_ hb); replace R_y0 := hide (R_y0.out.then_ hb); replace R_y1 := hide (R_y1.out.then_ hb); have U4 : Below W.heap.size W w3 := Below.then_ U3 hb; replace B := hide (Below.then_ B.out hb); clear hb; have tok4 : True := trivial; clear _t tok3; clear R_x0; clear R_x1; clear R_y0; clear R_y1))
      | (go_at_call 7; (have _t := tok4; (with_reducible refine (sadd_any (L := 1048576) (by omega) (Rq.le (M := 1048576) R_a0.out (by omega)) (Rq.le (M := 1048576) R_a1.out (by omega)) (Rq.le (M := 1048576) R_b0.out (by omega)) (Rq.le (M := 1048576) R_b1.out (by omega)) (Nat.le_refl _) hpl.out hph.out).mono ?_); rintro e w4 ⟨x_x0, x_x1, rfl, R_x0, R_x1, hb⟩; replace R_a0 := hide (R_a0.out.then_ hb); replace R_a1 := hide (R_a1.out.then_ hb); replace R_b0 := hide (R_b0.out.then_ hb); replace R_b1 := hide (R_b1.out.then_ hb); replace R_r := hide (R_r.out.then_ hb); have U5 : Below W.heap.size W w4 := Below.then_ U4 hb; replace B := hide (Below.then_ B.out hb); replace R_x0 := hide R_x0; replace R_x1 := hide R_x1; clear hb; have tok5 : True := trivial; clear _t tok4))
      | (go_at_call 8; (have _t := tok5; (with_reducible refine (rsadd_any (L := 1048576) (by omega) (Rq.le (M := 1048576) R_a0.out (by omega)) (Rq.le (M := 1048576) R_a1.out (by omega)) (Rq.le (M := 1048576) R_b0.out (by omega)) (Rq.le (M := 1048576) R_b1.out (by omega)) (Nat.le_refl _) hpl.out hph.out).mono ?_); rintro e w5 ⟨x_y0, x_y1, rfl, R_y0, R_y1, hb⟩; replace R_a0 := hide (R_a0.out.then_ hb); replace R_a1 := hide (R_a1.out.then_ hb); replace R_b0 := hide (R_b0.out.then_ hb); replace R_b1 := hide (R_b1.out.then_ hb); replace R_r := hide (R_r.out.then_ hb); replace R_x0 := hide (R_x0.out.then_ hb); replace R_x1 := hide (R_x1.out.then_ hb); have U6 : Below W.heap.size W w5 := Below.then_ U5 hb; replace B := hide (Below.then_ B.out hb); replace R_y0 := hide R_y0; replace R_y1 := hide R_y1; clear hb; have tok6 : True := trivial; clear _t tok5))
      | (go_at_call 4; (have _t := tok6; (with_reducible refine (same_s (L := 2097158) (by omega) (R_x0.out.le (M := 2097158) (by omega)) (R_x1.out.le (M := 2097158) (by omega)) (R_y0.out.le (M := 2097158) (by omega)) (R_y1.out.le (M := 2097158) (by omega)) (Nat.le_refl _) rfl rfl).mono ?_); rintro e w6 ⟨rfl, hb⟩; replace R_a0 := hide (R_a0.out.then_ hb); replace R_a1 := hide (R_a1.out.then_ hb); replace R_b0 := hide (R_b0.out.then_ hb); replace R_b1 := hide (R_b1.out.then_ hb); replace R_r := hide (R_r.out.then_ hb); replace R_x0 := hide (R_x0.out.then_ hb); replace R_x1 := hide (R_x1.out.then_ hb); replace R_y0 := hide (R_y0.out.then_ hb); replace R_y1 := hide (R_y1.out.then_ hb); have U7 : Below W.heap.size W w6 := Below.then_ U6 hb; replace B := hide (Below.then_ B.out hb); clear hb; have tok7 : True := trivial; clear _t tok6; clear R_x0; clear R_x1; clear R_y0; clear R_y1))
      | (go_at_call 9; (have _t := tok7; (with_reducible refine (ssub_any (L := 1048576) (by omega) (Rq.le (M := 1048576) R_a0.out (by omega)) (Rq.le (M := 1048576) R_a1.out (by omega)) (Rq.le (M := 1048576) R_b0.out (by omega)) (Rq.le (M := 1048576) R_b1.out (by omega)) (Nat.le_refl _) hml.out hmh.out).mono ?_); rintro e w7 ⟨x_x0, x_x1, rfl, R_x0, R_x1, hb⟩; replace R_a0 := hide (R_a0.out.then_ hb); replace R_a1 := hide (R_a1.out.then_ hb); replace R_b0 := hide (R_b0.out.then_ hb); replace R_b1 := hide (R_b1.out.then_ hb); replace R_r := hide (R_r.out.then_ hb); have U8 : Below W.heap.size W w7 := Below.then_ U7 hb; replace B := hide (Below.then_ B.out hb); replace R_x0 := hide R_x0; replace R_x1 := hide R_x1; clear hb; have tok8 : True := trivial; clear _t tok7))
      | (go_at_call 10; (have _t := tok8; (with_reducible refine (rssub_any (L := 1048576) (by omega) (Rq.le (M := 1048576) R_a0.out (by omega)) (Rq.le (M := 1048576) R_a1.out (by omega)) (Rq.le (M := 1048576) R_b0.out (by omega)) (Rq.le (M := 1048576) R_b1.out (by omega)) (Nat.le_refl _) hml.out hmh.out).mono ?_); rintro e w8 ⟨x_y0, x_y1, rfl, R_y0, R_y1, hb⟩; replace R_a0 := hide (R_a0.out.then_ hb); replace R_a1 := hide (R_a1.out.then_ hb); replace R_b0 := hide (R_b0.out.then_ hb); replace R_b1 := hide (R_b1.out.then_ hb); replace R_r := hide (R_r.out.then_ hb); replace R_x0 := hide (R_x0.out.then_ hb); replace R_x1 := hide (R_x1.out.then_ hb); have U9 : Below W.heap.size W w8 := Below.then_ U8 hb; replace B := hide (Below.then_ B.out hb); replace R_y0 := hide R_y0; replace R_y1 := hide R_y1; clear hb; have tok9 : True := trivial; clear _t tok8))
      | (go_at_call 4; (have _t := tok9; (with_reducible refine (same_s (L := 2097158) (by omega) (R_x0.out.le (M := 2097158) (by omega)) (R_x1.out.le (M := 2097158) (by omega)) (R_y0.out.le (M := 2097158) (by omega)) (R_y1.out.le (M := 2097158) (by omega)) (Nat.le_refl _) rfl rfl).mono ?_); rintro e w9 ⟨rfl, hb⟩; replace R_a0 := hide (R_a0.out.then_ hb); replace R_a1 := hide (R_a1.out.then_ hb); replace R_b0 := hide (R_b0.out.then_ hb); replace R_b1 := hide (R_b1.out.then_ hb); replace R_r := hide (R_r.out.then_ hb); replace R_x0 := hide (R_x0.out.then_ hb); replace R_x1 := hide (R_x1.out.then_ hb); replace R_y0 := hide (R_y0.out.then_ hb); replace R_y1 := hide (R_y1.out.then_ hb); have U10 : Below W.heap.size W w9 := Below.then_ U9 hb; replace B := hide (Below.then_ B.out hb); clear hb; have tok10 : True := trivial; clear _t tok9; clear R_x0; clear R_x1; clear R_y0; clear R_y1)))
  clear tok10
  go_wp2_with fail
  have hd := Below.drw_ w9
  replace R_a0 := hide (R_a0.out.then_ hd)
  replace R_a1 := hide (R_a1.out.then_ hd)
  replace R_b0 := hide (R_b0.out.then_ hd)
  replace R_b1 := hide (R_b1.out.then_ hd)
  replace R_r := hide (R_r.out.then_ hd)
  have U11 : Below W.heap.size W (w9.drew) := Below.then_ U10 hd
  replace B := hide (Below.then_ B.out hd)
  clear hd
  have tok11 : True := trivial
  go_region_held3 (fun w' => Below W.heap.size W w') (assumption)
    (first
      | (go_at_call 11; (have _t := tok11; (with_reducible refine (smul_any (L := 1048576) (by omega) (Rq.le (M := 1048576) R_a0.out (by omega)) (Rq.le (M := 1048576) R_a1.out (by omega)) (Rq.le (M := 1048576) R_b0.out (by omega)) (Rq.le (M := 1048576) R_b1.out (by omega)) (Nat.le_refl _) htl.out hth.out).mono ?_); rintro e w10 ⟨x_x0, x_x1, rfl, R_x0, R_x1, hb⟩; replace R_a0 := hide (R_a0.out.then_ hb); replace R_a1 := hide (R_a1.out.then_ hb); replace R_b0 := hide (R_b0.out.then_ hb); replace R_b1 := hide (R_b1.out.then_ hb); replace R_r := hide (R_r.out.then_ hb); have U12 : Below W.heap.size W w10 := Below.then_ U11 hb; replace B := hide (Below.then_ B.out hb); replace R_x0 := hide R_x0; replace R_x1 := hide R_x1; clear hb; have tok12 : True := trivial; clear _t tok11))
      | (go_at_call 12; (have _t := tok12; (with_reducible refine (rsmul_any (L := 1048576) (by omega) (Rq.le (M := 1048576) R_a0.out (by omega)) (Rq.le (M := 1048576) R_a1.out (by omega)) (Rq.le (M := 1048576) R_b0.out (by omega)) (Rq.le (M := 1048576) R_b1.out (by omega)) (Nat.le_refl _) htl.out hth.out).mono ?_); rintro e w11 ⟨x_y0, x_y1, rfl, R_y0, R_y1, hb⟩; replace R_a0 := hide (R_a0.out.then_ hb); replace R_a1 := hide (R_a1.out.then_ hb); replace R_b0 := hide (R_b0.out.then_ hb); replace R_b1 := hide (R_b1.out.then_ hb); replace R_r := hide (R_r.out.then_ hb); replace R_x0 := hide (R_x0.out.then_ hb); replace R_x1 := hide (R_x1.out.then_ hb); have U13 : Below W.heap.size W w11 := Below.then_ U12 hb; replace B := hide (Below.then_ B.out hb); replace R_y0 := hide R_y0; replace R_y1 := hide R_y1; clear hb; have tok13 : True := trivial; clear _t tok12))
      | (go_at_call 4; (have _t := tok13; (with_reducible refine (same_s (L := 2097156) (by omega) (R_x0.out.le (M := 2097156) (by omega)) (R_x1.out.le (M := 2097156) (by omega)) (R_y0.out.le (M := 2097156) (by omega)) (R_y1.out.le (M := 2097156) (by omega)) (Nat.le_refl _) rfl rfl).mono ?_); rintro e w12 ⟨rfl, hb⟩; replace R_a0 := hide (R_a0.out.then_ hb); replace R_a1 := hide (R_a1.out.then_ hb); replace R_b0 := hide (R_b0.out.then_ hb); replace R_b1 := hide (R_b1.out.then_ hb); replace R_r := hide (R_r.out.then_ hb); replace R_x0 := hide (R_x0.out.then_ hb); replace R_x1 := hide (R_x1.out.then_ hb); replace R_y0 := hide (R_y0.out.then_ hb); replace R_y1 := hide (R_y1.out.then_ hb); have U14 : Below W.heap.size W w12 := Below.then_ U13 hb; replace B := hide (Below.then_ B.out hb); clear hb; have tok14 : True := trivial; clear _t tok13; clear R_x0; clear R_x1; clear R_y0; clear R_y1))
      | (go_at_call 13; (have _t := tok14; (with_reducible refine (scale_any (L := 1048576) (by omega) (Rq.le (M := 1048576) R_a0.out (by omega)) (Rq.le (M := 1048576) R_a1.out (by omega)) (Rq.le (M := 1048576) R_r.out (by omega)) (Nat.le_refl _) hsl.out hsh.out).mono ?_); rintro e w13 ⟨x_x0, x_x1, rfl, R_x0, R_x1, hb⟩; replace R_a0 := hide (R_a0.out.then_ hb); replace R_a1 := hide (R_a1.out.then_ hb); replace R_b0 := hide (R_b0.out.then_ hb); replace R_b1 := hide (R_b1.out.then_ hb); replace R_r := hide (R_r.out.then_ hb); have U15 : Below W.heap.size W w13 := Below.then_ U14 hb; replace B := hide (Below.then_ B.out hb); replace R_x0 := hide R_x0; replace R_x1 := hide R_x1; clear hb; have tok15 : True := trivial; clear _t tok14))
      | (go_at_call 14; (have _t := tok15; (with_reducible refine (rscale_any (L := 1048576) (by omega) (Rq.le (M := 1048576) R_a0.out (by omega)) (Rq.le (M := 1048576) R_a1.out (by omega)) (Rq.le (M := 1048576) R_r.out (by omega)) (Nat.le_refl _) hsl.out hsh.out).mono ?_); rintro e w14 ⟨x_y0, x_y1, rfl, R_y0, R_y1, hb⟩; replace R_a0 := hide (R_a0.out.then_ hb); replace R_a1 := hide (R_a1.out.then_ hb); replace R_b0 := hide (R_b0.out.then_ hb); replace R_b1 := hide (R_b1.out.then_ hb); replace R_r := hide (R_r.out.then_ hb); replace R_x0 := hide (R_x0.out.then_ hb); replace R_x1 := hide (R_x1.out.then_ hb); have U16 : Below W.heap.size W w14 := Below.then_ U15 hb; replace B := hide (Below.then_ B.out hb); replace R_y0 := hide R_y0; replace R_y1 := hide R_y1; clear hb; have tok16 : True := trivial; clear _t tok15))
      | (go_at_call 4; (have _t := tok16; (with_reducible refine (same_s (L := 2097155) (by omega) (R_x0.out.le (M := 2097155) (by omega)) (R_x1.out.le (M := 2097155) (by omega)) (R_y0.out.le (M := 2097155) (by omega)) (R_y1.out.le (M := 2097155) (by omega)) (Nat.le_refl _) rfl rfl).mono ?_); rintro e w15 ⟨rfl, hb⟩; replace R_a0 := hide (R_a0.out.then_ hb); replace R_a1 := hide (R_a1.out.then_ hb); replace R_b0 := hide (R_b0.out.then_ hb); replace R_b1 := hide (R_b1.out.then_ hb); replace R_r := hide (R_r.out.then_ hb); replace R_x0 := hide (R_x0.out.then_ hb); replace R_x1 := hide (R_x1.out.then_ hb); replace R_y0 := hide (R_y0.out.then_ hb); replace R_y1 := hide (R_y1.out.then_ hb); have U17 : Below W.heap.size W w15 := Below.then_ U16 hb; replace B := hide (Below.then_ B.out hb); clear hb; have tok17 : True := trivial; clear _t tok16; clear R_x0; clear R_x1; clear R_y0; clear R_y1))
      | (go_at_call 15; (have _t := tok17; (with_reducible refine (awake_s).mono ?_); rintro e w16 ⟨rfl, hb⟩; replace R_a0 := hide (R_a0.out.then_ hb); replace R_a1 := hide (R_a1.out.then_ hb); replace R_b0 := hide (R_b0.out.then_ hb); replace R_b1 := hide (R_b1.out.then_ hb); replace R_r := hide (R_r.out.then_ hb); have U18 : Below W.heap.size W w16 := Below.then_ U17 hb; replace B := hide (Below.then_ B.out hb); clear hb; have tok18 : True := trivial; clear _t tok17)))
  clear tok18
  go_wp2
  go_ret
  exact ⟨rfl, B.out⟩

end Go.Proofs.YtogafnfpncbgiaaGreat

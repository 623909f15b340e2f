/-
  SpanLattice where the first interval lies below.
-/
import Derived.Test.YtogafnfpncbgiaaLatt5a
namespace Go.Proofs.Ytogafnfpncbgiaa
open Go.RowKit


set_option maxHeartbeats 20000000 in
theorem latt_lt {w : World} {Bd : Nat}  {a0 : Rc} {q_a0 : Rat} {a1 : Rc} {q_a1 : Rat} {b0 : Rc} {q_b0 : Rat} {b1 : Rc} {q_b1 : Rat} {r : Rc} {q_r : Rat} {n : Nat} (h_a0 : Rq w Bd 1048576 a0 q_a0) (h_a1 : Rq w Bd 1048576 a1 q_a1) (h_b0 : Rq w Bd 1048576 b0 q_b0) (h_b1 : Rq w Bd 1048576 b1 q_b1) (h_r : Rq w Bd 1048576 r q_r) (hB : Bd ≤ w.heap.size) (hk : rord q_a0 q_a1 q_b0 q_b1 = -1) (hn : n < 256) :
    Calls Try.prog 4 #[.agg #[.bool a0.s, .slice a0.A a0.n a0.c, .slice a0.B a0.m a0.d, .bool a1.s, .slice a1.A a1.n a1.c, .slice a1.B a1.m a1.d], .agg #[.bool b0.s, .slice b0.A b0.n b0.c, .slice b0.B b0.m b0.d, .bool b1.s, .slice b1.A b1.n b1.c, .slice b1.B b1.m b1.d], .agg #[.bool r.s, .slice r.A r.n r.c, .slice r.B r.m r.d], .int .u8 (n : Int)] w (RetB w (.bool true)) := by
  have hk2 : rord q_b0 q_b1 q_a0 q_a1 = 1 := by rw [rord_neg]; omega
  obtain ⟨la, hla⟩ : ∃ l, rlo q_a0 q_a1 = l := ⟨_, rfl⟩
  obtain ⟨ha, hha⟩ : ∃ l, rhi q_a0 q_a1 = l := ⟨_, rfl⟩
  obtain ⟨s, hs⟩ : ∃ s, Rat.divInt (n : Int) 255 = s := ⟨_, rfl⟩
  obtain ⟨x0, hx0⟩ : ∃ x, la + s * (ha - la) = x := ⟨_, rfl⟩
  have hM := meet_none (p := q_a0) (q := q_a1) (p' := q_b0) (q' := q_b1) (by rw [hk]; omega)
  obtain ⟨ul, hul⟩ : ∃ l, rlo (rlo q_a0 q_a1) (rlo q_b0 q_b1) = l := ⟨_, rfl⟩
  obtain ⟨uh, huh⟩ : ∃ l, rhi (rhi q_a0 q_a1) (rhi q_b0 q_b1) = l := ⟨_, rfl⟩
  have hul2 : rlo (rlo q_b0 q_b1) (rlo q_a0 q_a1) = ul := by rw [rlo_comm]; exact hul
  have huh2 : rhi (rhi q_b0 q_b1) (rhi q_a0 q_a1) = uh := by rw [rhi_comm]; exact huh
  have hU : ∀ x, rhas q_a0 q_a1 x ∨ rhas q_b0 q_b1 x → rhas ul uh x := by rw [← hul, ← huh]; exact fun x => hull_has
  have u1 : decide (rin q_a0 q_a1 ul uh) = true := by rw [← hul, ← huh]; exact decide_eq_true (hull_in _ _ _ _).1
  have u2 : decide (rin q_b0 q_b1 ul uh) = true := by rw [← hul, ← huh]; exact decide_eq_true (hull_in _ _ _ _).2
  replace hla := hide hla
  replace hha := hide hha
  replace hs := hide hs
  replace hx0 := hide hx0
  replace hk2 := hide hk2
  replace hn := hide hn
  replace hM := hide hM
  replace hul := hide hul
  replace huh := hide huh
  replace hul2 := hide hul2
  replace huh2 := hide huh2
  replace hU := hide hU
  replace u1 := hide u1
  replace u2 := hide u2
  replace hk := hide hk
  obtain ⟨W, hW⟩ : ∃ W, W = (((w.alloc (.cells #[.bool a0.s, .slice a0.A a0.n a0.c, .slice a0.B a0.m a0.d, .bool a1.s, .slice a1.A a1.n a1.c, .slice a1.B a1.m a1.d] 29)).alloc (.cells #[.bool b0.s, .slice b0.A b0.n b0.c, .slice b0.B b0.m b0.d, .bool b1.s, .slice b1.A b1.n b1.c, .slice b1.B b1.m b1.d] 29)).alloc (.cells #[.bool r.s, .slice r.A r.n r.c, .slice r.B r.m r.d] 27)) := ⟨_, rfl⟩
  have b_a : Box6 W (w.heap.size) (.bool a0.s) (.slice a0.A a0.n a0.c) (.slice a0.B a0.m a0.d) (.bool a1.s) (.slice a1.A a1.n a1.c) (.slice a1.B a1.m a1.d) := by rw [hW]; exact (((Box6.new w _ _ _ _ _ _ rfl).al _).al _)
  have b_b : Box6 W (w.heap.size + 1) (.bool b0.s) (.slice b0.A b0.n b0.c) (.slice b0.B b0.m b0.d) (.bool b1.s) (.slice b1.A b1.n b1.c) (.slice b1.B b1.m b1.d) := by rw [hW]; exact ((Box6.new _ _ _ _ _ _ _ (by simp)).al _)
  have b_r : Box3 W (w.heap.size + 1 + 1) (.bool r.s) (.slice r.A r.n r.c) (.slice r.B r.m r.d) := by rw [hW]; exact (Box3.new _ _ _ _ (by simp))
  have hwW : Below w.heap.size w W := by rw [hW]; exact ((((Below.refl _ _).alloc (Nat.le_refl _) _).alloc (by simp) _).alloc (by simp; omega) _)
  have R_a0 := hide (h_a0.upto hwW hB)
  clear h_a0
  have R_a1 := hide (h_a1.upto hwW hB)
  clear h_a1
  have R_b0 := hide (h_b0.upto hwW hB)
  clear h_b0
  have R_b1 := hide (h_b1.upto hwW hB)
  clear h_b1
  have R_r := hide (h_r.upto hwW hB)
  clear h_r
  have B := hide hwW
  clear hwW
  clear hB
  have U0 : Below W.heap.size W W := Below.refl _ _
  have c_a0 := b_a.at0 b_a.lt_size (Nat.le_refl _)
  have c_a1 := b_a.at1 b_a.lt_size (Nat.le_refl _)
  have c_a2 := b_a.at2 b_a.lt_size (Nat.le_refl _)
  have c_a3 := b_a.at3 b_a.lt_size (Nat.le_refl _)
  have c_a4 := b_a.at4 b_a.lt_size (Nat.le_refl _)
  have c_a5 := b_a.at5 b_a.lt_size (Nat.le_refl _)
  replace b_a := hide b_a
  have c_b0 := b_b.at0 b_b.lt_size (Nat.le_refl _)
  have c_b1 := b_b.at1 b_b.lt_size (Nat.le_refl _)
  have c_b2 := b_b.at2 b_b.lt_size (Nat.le_refl _)
  have c_b3 := b_b.at3 b_b.lt_size (Nat.le_refl _)
  have c_b4 := b_b.at4 b_b.lt_size (Nat.le_refl _)
  have c_b5 := b_b.at5 b_b.lt_size (Nat.le_refl _)
  replace b_b := hide b_b
  have c_r0 := b_r.at0 b_r.lt_size (Nat.le_refl _)
  have c_r1 := b_r.at1 b_r.lt_size (Nat.le_refl _)
  have c_r2 := b_r.at2 b_r.lt_size (Nat.le_refl _)
  replace b_r := hide b_r
  go_enter Try.func4, Try.ntmps4
  go_wp2_with fail
  rw [← hW]
  clear hW
  refine (meet_no (L := 1048576) (by omega) R_a0.out R_a1.out R_b0.out R_b1.out (Nat.le_refl _) hk.out (by omega)).mono ?_
  rintro e w1 ⟨rfl, hb⟩
  replace R_a0 := hide (R_a0.out.then_ hb)
  replace R_a1 := hide (R_a1.out.then_ hb)
  replace R_b0 := hide (R_b0.out.then_ hb)
  replace R_b1 := hide (R_b1.out.then_ hb)
  replace R_r := hide (R_r.out.then_ hb)
  have U1 : Below W.heap.size W w1 := Below.then_ U0 hb
  replace B := hide (Below.then_ B.out hb)
  clear hb
  have hbx : Below w1.heap.size w1 (w1.alloc (.cells #[.bool false, .slice none 0 0, .slice none 0 0, .bool false, .slice none 0 0, .slice none 0 0] 29)) := Below.al_ (Below.refl _ _) _
  go_wp2_with fail
  obtain ⟨V1, hV⟩ : ∃ V, V = (w1.alloc (.cells #[.bool false, .slice none 0 0, .slice none 0 0, .bool false, .slice none 0 0, .slice none 0 0] 29)) := ⟨_, rfl⟩
  rw [← hV]
  rw [← hV] at hbx
  clear hV
  replace R_a0 := hide (R_a0.out.then_ hbx)
  replace R_a1 := hide (R_a1.out.then_ hbx)
  replace R_b0 := hide (R_b0.out.then_ hbx)
  replace R_b1 := hide (R_b1.out.then_ hbx)
  replace R_r := hide (R_r.out.then_ hbx)
  have U2 : Below W.heap.size W V1 := Below.then_ U1 hbx
  replace B := hide (Below.then_ B.out hbx)
  clear hbx
  replace b_a := hide (Box6.keep b_a.out U2)
  clear c_a0 c_a1 c_a2 c_a3 c_a4 c_a5
  replace b_b := hide (Box6.keep b_b.out U2)
  clear c_b0 c_b1 c_b2 c_b3 c_b4 c_b5
  replace b_r := hide (Box3.keep b_r.out U2)
  clear c_r0 c_r1 c_r2
  have U3 : Below V1.heap.size V1 V1 := Below.refl _ _
  have c_a0 := b_a.out.at0 b_a.out.lt_size (Nat.le_refl _)
  have c_a1 := b_a.out.at1 b_a.out.lt_size (Nat.le_refl _)
  have c_a2 := b_a.out.at2 b_a.out.lt_size (Nat.le_refl _)
  have c_a3 := b_a.out.at3 b_a.out.lt_size (Nat.le_refl _)
  have c_a4 := b_a.out.at4 b_a.out.lt_size (Nat.le_refl _)
  have c_a5 := b_a.out.at5 b_a.out.lt_size (Nat.le_refl _)
  have c_b0 := b_b.out.at0 b_b.out.lt_size (Nat.le_refl _)
  have c_b1 := b_b.out.at1 b_b.out.lt_size (Nat.le_refl _)
  have c_b2 := b_b.out.at2 b_b.out.lt_size (Nat.le_refl _)
  have c_b3 := b_b.out.at3 b_b.out.lt_size (Nat.le_refl _)
  have c_b4 := b_b.out.at4 b_b.out.lt_size (Nat.le_refl _)
  have c_b5 := b_b.out.at5 b_b.out.lt_size (Nat.le_refl _)
  have c_r0 := b_r.out.at0 b_r.out.lt_size (Nat.le_refl _)
  have c_r1 := b_r.out.at1 b_r.out.lt_size (Nat.le_refl _)
  have c_r2 := b_r.out.at2 b_r.out.lt_size (Nat.le_refl _)
  go_wp2_with fail
  have hd := Below.drw_ V1
  replace R_a0 := hide (R_a0.out.then_ hd)
  replace R_a1 := hide (R_a1.out.then_ hd)
  replace R_b0 := hide (R_b0.out.then_ hd)
  replace R_b1 := hide (R_b1.out.then_ hd)
  replace R_r := hide (R_r.out.then_ hd)
  have U4 : Below V1.heap.size V1 (V1.drew) := Below.then_ U3 hd
  replace B := hide (Below.then_ B.out hd)
  clear hd
  have tok1 : True := trivial
  go_region_held3 (fun w' => Below V1.heap.size V1 w') (assumption)
    (first
      | (go_at_call 18; (have _t := tok1; (with_reducible refine (order_any (L := 1048576) (by omega) (Rq.le (M := 1048576) R_a0.out (by omega)) (Rq.le (M := 1048576) R_a1.out (by omega)) (Rq.le (M := 1048576) R_b0.out (by omega)) (Rq.le (M := 1048576) R_b1.out (by omega)) (Nat.le_refl _) hk.out).mono ?_); rintro e w2 ⟨rfl, hb⟩; replace R_a0 := hide (R_a0.out.then_ hb); replace R_a1 := hide (R_a1.out.then_ hb); replace R_b0 := hide (R_b0.out.then_ hb); replace R_b1 := hide (R_b1.out.then_ hb); replace R_r := hide (R_r.out.then_ hb); have U5 : Below V1.heap.size V1 w2 := Below.then_ U4 hb; replace B := hide (Below.then_ B.out hb); clear hb; have tok2 : True := trivial; clear _t tok1))
      | (go_at_call 18; (have _t := tok2; (with_reducible refine (order_any (L := 1048576) (by omega) (Rq.le (M := 1048576) R_b0.out (by omega)) (Rq.le (M := 1048576) R_b1.out (by omega)) (Rq.le (M := 1048576) R_a0.out (by omega)) (Rq.le (M := 1048576) R_a1.out (by omega)) (Nat.le_refl _) hk2.out).mono ?_); rintro e w3 ⟨rfl, hb⟩; replace R_a0 := hide (R_a0.out.then_ hb); replace R_a1 := hide (R_a1.out.then_ hb); replace R_b0 := hide (R_b0.out.then_ hb); replace R_b1 := hide (R_b1.out.then_ hb); replace R_r := hide (R_r.out.then_ hb); have U6 : Below V1.heap.size V1 w3 := Below.then_ U5 hb; replace B := hide (Below.then_ B.out hb); clear hb; have tok3 : True := trivial; clear _t tok2))
      | (go_at_call 18; (have _t := tok3; (with_reducible refine (order_any (L := 1048576) (by omega) (Rq.le (M := 1048576) R_a0.out (by omega)) (Rq.le (M := 1048576) R_a1.out (by omega)) (Rq.le (M := 1048576) R_b0.out (by omega)) (Rq.le (M := 1048576) R_b1.out (by omega)) (Nat.le_refl _) hk.out).mono ?_); rintro e w4 ⟨rfl, hb⟩; replace R_a0 := hide (R_a0.out.then_ hb); replace R_a1 := hide (R_a1.out.then_ hb); replace R_b0 := hide (R_b0.out.then_ hb); replace R_b1 := hide (R_b1.out.then_ hb); replace R_r := hide (R_r.out.then_ hb); have U7 : Below V1.heap.size V1 w4 := Below.then_ U6 hb; replace B := hide (Below.then_ B.out hb); clear hb; have tok4 : True := trivial; clear _t tok3)))
  clear tok4
  go_wp2_with fail
  have hd := Below.drw_ w4
  replace R_a0 := hide (R_a0.out.then_ hd)
  replace R_a1 := hide (R_a1.out.then_ hd)
  replace R_b0 := hide (R_b0.out.then_ hd)
  replace R_b1 := hide (R_b1.out.then_ hd)
  replace R_r := hide (R_r.out.then_ hd)
  have U8 : Below V1.heap.size V1 (w4.drew) := Below.then_ U7 hd
  replace B := hide (Below.then_ B.out hd)
  clear hd
  have tok5 : True := trivial
  go_region_held3 (fun w' => Below V1.heap.size V1 w') (first | (with_reducible assumption) | (with_reducible exact Below.al_ (by with_reducible assumption) _))
    (first
      | (go_at_call 7; (have _t := tok5; (with_reducible refine (between_any (L := 1048576) (by omega) R_a0.out R_a1.out (Nat.le_refl _) hn.out hla.out hha.out hs.out hx0.out).mono ?_); rintro e w5 ⟨x_z, rfl, R_z, hb⟩; replace R_a0 := hide (R_a0.out.then_ hb); replace R_a1 := hide (R_a1.out.then_ hb); replace R_b0 := hide (R_b0.out.then_ hb); replace R_b1 := hide (R_b1.out.then_ hb); replace R_r := hide (R_r.out.then_ hb); have U9 : Below V1.heap.size V1 w5 := Below.then_ U8 hb; replace B := hide (Below.then_ B.out hb); replace R_z := hide R_z; clear hb; have tok6 : True := trivial; clear _t tok5)))
  clear tok6
  have hbx : Below w5.heap.size w5 (w5.alloc (.cells #[.bool r.s, .slice r.A r.n r.c, .slice r.B r.m r.d, .bool a0.s, .slice a0.A a0.n a0.c, .slice a0.B a0.m a0.d, .bool b0.s, .slice b0.A b0.n b0.c, .slice b0.B b0.m b0.d, .bool a1.s, .slice a1.A a1.n a1.c, .slice a1.B a1.m a1.d, .bool b1.s, .slice b1.A b1.n b1.c, .slice b1.B b1.m b1.d, .bool x_z.s, .slice x_z.A x_z.n x_z.c, .slice x_z.B x_z.m x_z.d] 27)) := Below.al_ (Below.refl _ _) _
  have row : Row6 (w5.alloc (.cells #[.bool r.s, .slice r.A r.n r.c, .slice r.B r.m r.d, .bool a0.s, .slice a0.A a0.n a0.c, .slice a0.B a0.m a0.d, .bool b0.s, .slice b0.A b0.n b0.c, .slice b0.B b0.m b0.d, .bool a1.s, .slice a1.A a1.n a1.c, .slice a1.B a1.m a1.d, .bool b1.s, .slice b1.A b1.n b1.c, .slice b1.B b1.m b1.d, .bool x_z.s, .slice x_z.A x_z.n x_z.c, .slice x_z.B x_z.m x_z.d] 27)) w5.heap.size (e6 r a0 b0 a1 b1 x_z) := Row6.new w5 _ _ _ _ _ _ rfl
  go_wp2
  obtain ⟨g, hg⟩ : ∃ g, g = w5.heap.size := ⟨_, rfl⟩
  obtain ⟨V, hV⟩ : ∃ V, V = w5.alloc (.cells #[.bool r.s, .slice r.A r.n r.c, .slice r.B r.m r.d, .bool a0.s, .slice a0.A a0.n a0.c, .slice a0.B a0.m a0.d, .bool b0.s, .slice b0.A b0.n b0.c, .slice b0.B b0.m b0.d, .bool a1.s, .slice a1.A a1.n a1.c, .slice a1.B a1.m a1.d, .bool b1.s, .slice b1.A b1.n b1.c, .slice b1.B b1.m b1.d, .bool x_z.s, .slice x_z.A x_z.n x_z.c, .slice x_z.B x_z.m x_z.d] 27) := ⟨_, rfl⟩
  rw [← hg, ← hV] at row
  rw [← hV] at hbx
  rw [← hg, ← hV]
  clear hg hV
  replace R_a0 := hide (R_a0.out.then_ hbx)
  replace R_a1 := hide (R_a1.out.then_ hbx)
  replace R_b0 := hide (R_b0.out.then_ hbx)
  replace R_b1 := hide (R_b1.out.then_ hbx)
  replace R_r := hide (R_r.out.then_ hbx)
  replace R_z := hide (R_z.out.then_ hbx)
  have U10 : Below V1.heap.size V1 V := Below.then_ U9 hbx
  replace B := hide (Below.then_ B.out hbx)
  clear hbx
  replace b_a := hide (Box6.keep b_a.out U10)
  clear c_a0 c_a1 c_a2 c_a3 c_a4 c_a5
  replace b_b := hide (Box6.keep b_b.out U10)
  clear c_b0 c_b1 c_b2 c_b3 c_b4 c_b5
  replace b_r := hide (Box3.keep b_r.out U10)
  clear c_r0 c_r1 c_r2
  have U11 : Below V.heap.size V V := Below.refl _ _
  have c_a0 := b_a.out.at0 b_a.out.lt_size (Nat.le_refl _)
  have c_a1 := b_a.out.at1 b_a.out.lt_size (Nat.le_refl _)
  have c_a2 := b_a.out.at2 b_a.out.lt_size (Nat.le_refl _)
  have c_a3 := b_a.out.at3 b_a.out.lt_size (Nat.le_refl _)
  have c_a4 := b_a.out.at4 b_a.out.lt_size (Nat.le_refl _)
  have c_a5 := b_a.out.at5 b_a.out.lt_size (Nat.le_refl _)
  have c_b0 := b_b.out.at0 b_b.out.lt_size (Nat.le_refl _)
  have c_b1 := b_b.out.at1 b_b.out.lt_size (Nat.le_refl _)
  have c_b2 := b_b.out.at2 b_b.out.lt_size (Nat.le_refl _)
  have c_b3 := b_b.out.at3 b_b.out.lt_size (Nat.le_refl _)
  have c_b4 := b_b.out.at4 b_b.out.lt_size (Nat.le_refl _)
  have c_b5 := b_b.out.at5 b_b.out.lt_size (Nat.le_refl _)
  have c_r0 := b_r.out.at0 b_r.out.lt_size (Nat.le_refl _)
  have c_r1 := b_r.out.at1 b_r.out.lt_size (Nat.le_refl _)
  have c_r2 := b_r.out.at2 b_r.out.lt_size (Nat.le_refl _)
  have rows : ∀ k, k < 6 → Rq V V.heap.size 3145748 (e6 r a0 b0 a1 b1 x_z k) (e6 q_r q_a0 q_b0 q_a1 q_b1 x0 k) := e6_all (P := fun x q => Rq V V.heap.size 3145748 x q) ((R_r.out).le (M := 3145748) (by omega)) ((R_a0.out).le (M := 3145748) (by omega)) ((R_b0.out).le (M := 3145748) (by omega)) ((R_a1.out).le (M := 3145748) (by omega)) ((R_b1.out).le (M := 3145748) (by omega)) ((Nq.rq R_z.out).le (M := 3145748) (by omega))
  generalize e6 r a0 b0 a1 b1 x_z = E at row rows
  generalize e6 q_r q_a0 q_b0 q_a1 q_b1 x0 = vv at rows
  replace row := hide row
  replace rows := hide rows
  clear R_r R_z
  go_loopw [49] (fun i wr => ∃ k : Nat, k ≤ 6 ∧ i = .int .i64 k ∧ Below V.heap.size V wr) (fun i _ => 6 - (intOf i).toNat)
  case atStart => exact ⟨0, by omega, rfl, Below.refl _ _⟩
  case round =>
    obtain ⟨k, hk6, rfl, hV⟩ := hrel
    by_cases hkl : k < 6
    · skip
      replace R_a0 := hide (R_a0.out.then_ hV)
      replace R_a1 := hide (R_a1.out.then_ hV)
      replace R_b0 := hide (R_b0.out.then_ hV)
      replace R_b1 := hide (R_b1.out.then_ hV)
      replace B := hide (Below.then_ B.out hV)
      have U99 : Below V.heap.size V wr := hV
      have hrow := row.out.keep hV
      have d0 := hrow.at0 hkl
      have d1 := hrow.at1 hkl
      have d2 := hrow.at2 hkl
      have lg := hrow.lt
      have R_x := hide ((rows.out k hkl).then_ hV)
      have i0 : (0 : Int) ≤ (k : Int) := by omega
      have i1 : (k : Int) < 6 := by omega
      generalize E k = x at R_x d0 d1 d2
      generalize vv k = xq at R_x
      clear hrow
      have hbx : Below wr.heap.size wr (wr.alloc (.cells #[.bool x.s, .slice x.A x.n x.c, .slice x.B x.m x.d] 27)) := ((Below.refl _ _).alloc (Nat.le_refl _) _)
      have Ux := Below.then_ U99 hbx
      go_wp2_with fail
      obtain ⟨V11, hV⟩ : ∃ V, V = (wr.alloc (.cells #[.bool x.s, .slice x.A x.n x.c, .slice x.B x.m x.d] 27)) := ⟨_, rfl⟩
      obtain ⟨g_x, hg_x⟩ : ∃ g, g = wr.heap.size := ⟨_, rfl⟩
      rw [← hV]
      rw [← hV] at hbx Ux
      rw [← hg_x]
      have b_x : Box3 V11 g_x (.bool x.s) (.slice x.A x.n x.c) (.slice x.B x.m x.d) := by rw [hV]; exact (Box3.new _ _ _ _ hg_x)
      clear hV
      have ne_a_x : w.heap.size ≠ g_x := by have := (b_a.out.lt b_a.out.lt_size (Nat.le_refl _)) _ U99; omega
      replace ne_a_x := hide ne_a_x
      have ne_b_x : w.heap.size + 1 ≠ g_x := by have := (b_b.out.lt b_b.out.lt_size (Nat.le_refl _)) _ U99; omega
      replace ne_b_x := hide ne_b_x
      have ne_r_x : w.heap.size + 1 + 1 ≠ g_x := by have := (b_r.out.lt b_r.out.lt_size (Nat.le_refl _)) _ U99; omega
      replace ne_r_x := hide ne_r_x
      have ge_x : w.heap.size ≤ g_x := by have := B.out.size; omega
      replace ge_x := hide ge_x
      clear hg_x
      replace R_a0 := hide (R_a0.out.then_ hbx)
      replace R_a1 := hide (R_a1.out.then_ hbx)
      replace R_b0 := hide (R_b0.out.then_ hbx)
      replace R_b1 := hide (R_b1.out.then_ hbx)
      replace R_x := hide (R_x.out.then_ hbx)
      have U12 : Below V.heap.size V V11 := Below.then_ U99 hbx
      replace B := hide (Below.then_ B.out hbx)
      clear hbx
      replace b_a := hide (Box6.keep b_a.out U12)
      clear c_a0 c_a1 c_a2 c_a3 c_a4 c_a5
      replace b_b := hide (Box6.keep b_b.out U12)
      clear c_b0 c_b1 c_b2 c_b3 c_b4 c_b5
      replace b_r := hide (Box3.keep b_r.out U12)
      clear c_r0 c_r1 c_r2
      replace b_x := hide b_x
      have U13 : Below V11.heap.size V11 V11 := Below.refl _ _
      have c_a0 := b_a.out.at0 b_a.out.lt_size (Nat.le_refl _)
      have c_a1 := b_a.out.at1 b_a.out.lt_size (Nat.le_refl _)
      have c_a2 := b_a.out.at2 b_a.out.lt_size (Nat.le_refl _)
      have c_a3 := b_a.out.at3 b_a.out.lt_size (Nat.le_refl _)
      have c_a4 := b_a.out.at4 b_a.out.lt_size (Nat.le_refl _)
      have c_a5 := b_a.out.at5 b_a.out.lt_size (Nat.le_refl _)
      have c_b0 := b_b.out.at0 b_b.out.lt_size (Nat.le_refl _)
      have c_b1 := b_b.out.at1 b_b.out.lt_size (Nat.le_refl _)
      have c_b2 := b_b.out.at2 b_b.out.lt_size (Nat.le_refl _)
      have c_b3 := b_b.out.at3 b_b.out.lt_size (Nat.le_refl _)
      have c_b4 := b_b.out.at4 b_b.out.lt_size (Nat.le_refl _)
      have c_b5 := b_b.out.at5 b_b.out.lt_size (Nat.le_refl _)
      have c_r0 := b_r.out.at0 b_r.out.lt_size (Nat.le_refl _)
      have c_r1 := b_r.out.at1 b_r.out.lt_size (Nat.le_refl _)
      have c_r2 := b_r.out.at2 b_r.out.lt_size (Nat.le_refl _)
      have c_x0 := b_x.out.at0 b_x.out.lt_size (Nat.le_refl _)
      have c_x1 := b_x.out.at1 b_x.out.lt_size (Nat.le_refl _)
      have c_x2 := b_x.out.at2 b_x.out.lt_size (Nat.le_refl _)
      clear d0 d1 d2 lg
      have hbv : Below V.heap.size V V11 := Ux
      by_cases hA : rhas q_a0 q_a1 xq
      · by_cases hB : rhas q_b0 q_b1 xq
        · exact absurd ⟨hA, hB⟩ (hM.out xq)
        · skip
          have eA : decide (rhas q_a0 q_a1 xq) = true := decide_eq_true hA
          have eB : decide (rhas q_b0 q_b1 xq) = false := decide_eq_false hB
          have eU : decide (rhas ul uh xq) = true := decide_eq_true (hU.out xq (Or.inl hA))
          clear hA hB
          replace eA := hide eA
          replace eB := hide eB
          replace eU := hide eU
          have hd := Below.drw_ V11
          replace R_a0 := hide (R_a0.out.then_ hd)
          replace R_a1 := hide (R_a1.out.then_ hd)
          replace R_b0 := hide (R_b0.out.then_ hd)
          replace R_b1 := hide (R_b1.out.then_ hd)
          replace R_x := hide (R_x.out.then_ hd)
          have U14 : Below V11.heap.size V11 (V11.drew) := Below.then_ U13 hd
          replace B := hide (Below.then_ B.out hd)
          clear hd
          refine region_seq (S := fun w' => Below V11.heap.size V11 w') [(true, 0), (true, 1), (true, 2), (true, 3), (true, 6), (true, 7), (false, 4), (true, 5), (false, 8), (true, 9), (true, 10), (true, 11), (false, 12), (true, 13), (true, 14)] (by kernel_rfl) (by kernel_rfl) (by kernel_rfl) (by decide) U14 ?_
          simp only [List.map_cons, List.map_nil, List.getElem?_toArray, List.getElem?_cons_succ, List.getElem?_cons_zero]
          repeat (first | ((with_reducible refine seq_take (v := ?_) ?_ ?_ ?_); rotate_left; (exact rfl); (focus (intro w' hSw; go_simp; try with_reducible rfl)); (try simp only [Act.put, List.setIfInBounds_toArray, List.set_cons_zero, List.set_cons_succ])) | ((with_reducible refine seq_pass ?_ ?_); (exact rfl); (try simp only [Act.put, List.setIfInBounds_toArray, List.set_cons_zero, List.set_cons_succ])))
          (with_reducible refine seq_idle ?_ U14 ?_)
          (exact rfl)
          (try simp only [Act.put, List.setIfInBounds_toArray, List.set_cons_zero, List.set_cons_succ])
          repeat (first | ((with_reducible refine seq_take (v := ?_) ?_ ?_ ?_); rotate_left; (exact rfl); (focus (intro w' hSw; go_simp; try with_reducible rfl)); (try simp only [Act.put, List.setIfInBounds_toArray, List.set_cons_zero, List.set_cons_succ])) | ((with_reducible refine seq_pass ?_ ?_); (exact rfl); (try simp only [Act.put, List.setIfInBounds_toArray, List.set_cons_zero, List.set_cons_succ])))
          (with_reducible refine seq_call ?_ (fun K hK => ?_))
          (exact rfl)
          go_simp
          refine (has_any (L := 3145748) (by omega) (Rq.le (M := 3145748) R_a0.out (by omega)) (Rq.le (M := 3145748) R_a1.out (by omega)) (Rq.le (M := 3145748) R_x.out (by omega)) (Nat.le_refl _) eA.out).mono ?_
          rintro e w6 ⟨rfl, hb⟩
          replace R_a0 := hide (R_a0.out.then_ hb)
          replace R_a1 := hide (R_a1.out.then_ hb)
          replace R_b0 := hide (R_b0.out.then_ hb)
          replace R_b1 := hide (R_b1.out.then_ hb)
          replace R_x := hide (R_x.out.then_ hb)
          have U15 : Below V11.heap.size V11 w6 := Below.then_ U14 hb
          replace B := hide (Below.then_ B.out hb)
          clear hb
          refine hK.out _ _ U15 ?_
          clear hK K
          (try simp only [Act.put, List.setIfInBounds_toArray, List.set_cons_zero, List.set_cons_succ])
          repeat (first | ((with_reducible refine seq_take (v := ?_) ?_ ?_ ?_); rotate_left; (exact rfl); (focus (intro w' hSw; go_simp; try with_reducible rfl)); (try simp only [Act.put, List.setIfInBounds_toArray, List.set_cons_zero, List.set_cons_succ])) | ((with_reducible refine seq_pass ?_ ?_); (exact rfl); (try simp only [Act.put, List.setIfInBounds_toArray, List.set_cons_zero, List.set_cons_succ])))
          (with_reducible refine seq_call ?_ (fun K hK => ?_))
          (exact rfl)
          go_simp
          refine (has_any (L := 3145748) (by omega) (Rq.le (M := 3145748) R_b0.out (by omega)) (Rq.le (M := 3145748) R_b1.out (by omega)) (Rq.le (M := 3145748) R_x.out (by omega)) (Nat.le_refl _) eB.out).mono ?_
          rintro e w7 ⟨rfl, hb⟩
          replace R_a0 := hide (R_a0.out.then_ hb)
          replace R_a1 := hide (R_a1.out.then_ hb)
          replace R_b0 := hide (R_b0.out.then_ hb)
          replace R_b1 := hide (R_b1.out.then_ hb)
          replace R_x := hide (R_x.out.then_ hb)
          have U16 : Below V11.heap.size V11 w7 := Below.then_ U15 hb
          replace B := hide (Below.then_ B.out hb)
          clear hb
          refine hK.out _ _ U16 ?_
          clear hK K
          (try simp only [Act.put, List.setIfInBounds_toArray, List.set_cons_zero, List.set_cons_succ])
          repeat (first | ((with_reducible refine seq_take (v := ?_) ?_ ?_ ?_); rotate_left; (exact rfl); (focus (intro w' hSw; go_simp; try with_reducible rfl)); (try simp only [Act.put, List.setIfInBounds_toArray, List.set_cons_zero, List.set_cons_succ])) | ((with_reducible refine seq_pass ?_ ?_); (exact rfl); (try simp only [Act.put, List.setIfInBounds_toArray, List.set_cons_zero, List.set_cons_succ])))
          refine seq_done ?_
          go_wp2_with fail
          have hd := Below.drw_ w7
          replace R_a0 := hide (R_a0.out.then_ hd)
          replace R_a1 := hide (R_a1.out.then_ hd)
          replace R_b0 := hide (R_b0.out.then_ hd)
          replace R_b1 := hide (R_b1.out.then_ hd)
          replace R_x := hide (R_x.out.then_ hd)
          have U17 : Below V11.heap.size V11 (w7.drew) := Below.then_ U16 hd
          replace B := hide (Below.then_ B.out hd)
          clear hd
          refine region_seq (S := fun w' => Below V11.heap.size V11 w') [(true, 0), (true, 1), (false, 2), (true, 3), (true, 4), (true, 5), (false, 6), (true, 7), (true, 8), (true, 9), (true, 10), (true, 12), (false, 11), (false, 13), (true, 14), (true, 15)] (by kernel_rfl) (by kernel_rfl) (by kernel_rfl) (by decide) U17 ?_
          simp only [List.map_cons, List.map_nil, List.getElem?_toArray, List.getElem?_cons_succ, List.getElem?_cons_zero]
          repeat (first | ((with_reducible refine seq_take (v := ?_) ?_ ?_ ?_); rotate_left; (exact rfl); (focus (intro w' hSw; go_simp; try with_reducible rfl)); (try simp only [Act.put, List.setIfInBounds_toArray, List.set_cons_zero, List.set_cons_succ])) | ((with_reducible refine seq_pass ?_ ?_); (exact rfl); (try simp only [Act.put, List.setIfInBounds_toArray, List.set_cons_zero, List.set_cons_succ])))
          (with_reducible refine seq_call ?_ (fun K hK => ?_))
          (exact rfl)
          go_simp
          refine (has_any (L := 3145748) (by omega) (Rq.le (M := 3145748) R_a0.out (by omega)) (Rq.le (M := 3145748) R_a1.out (by omega)) (Rq.le (M := 3145748) R_x.out (by omega)) (Nat.le_refl _) eA.out).mono ?_
          rintro e w8 ⟨rfl, hb⟩
          replace R_a0 := hide (R_a0.out.then_ hb)
          replace R_a1 := hide (R_a1.out.then_ hb)
          replace R_b0 := hide (R_b0.out.then_ hb)
          replace R_b1 := hide (R_b1.out.then_ hb)
          replace R_x := hide (R_x.out.then_ hb)
          have U18 : Below V11.heap.size V11 w8 := Below.then_ U17 hb
          replace B := hide (Below.then_ B.out hb)
          clear hb
          refine hK.out _ _ U18 ?_
          clear hK K
          (try simp only [Act.put, List.setIfInBounds_toArray, List.set_cons_zero, List.set_cons_succ])
          repeat (first | ((with_reducible refine seq_take (v := ?_) ?_ ?_ ?_); rotate_left; (exact rfl); (focus (intro w' hSw; go_simp; try with_reducible rfl)); (try simp only [Act.put, List.setIfInBounds_toArray, List.set_cons_zero, List.set_cons_succ])) | ((with_reducible refine seq_pass ?_ ?_); (exact rfl); (try simp only [Act.put, List.setIfInBounds_toArray, List.set_cons_zero, List.set_cons_succ])))
          (with_reducible refine seq_idle ?_ U18 ?_)
          (exact rfl)
          (try simp only [Act.put, List.setIfInBounds_toArray, List.set_cons_zero, List.set_cons_succ])
          repeat (first | ((with_reducible refine seq_take (v := ?_) ?_ ?_ ?_); rotate_left; (exact rfl); (focus (intro w' hSw; go_simp; try with_reducible rfl)); (try simp only [Act.put, List.setIfInBounds_toArray, List.set_cons_zero, List.set_cons_succ])) | ((with_reducible refine seq_pass ?_ ?_); (exact rfl); (try simp only [Act.put, List.setIfInBounds_toArray, List.set_cons_zero, List.set_cons_succ])))
          (with_reducible refine seq_call ?_ (fun K hK => ?_))
          (exact rfl)
          go_simp
          refine (hull_any (L := 1048576) (by omega) (Rq.le (M := 1048576) R_a0.out (by omega)) (Rq.le (M := 1048576) R_a1.out (by omega)) (Rq.le (M := 1048576) R_b0.out (by omega)) (Rq.le (M := 1048576) R_b1.out (by omega)) (Nat.le_refl _) hul.out huh.out).mono ?_
          rintro e w9 ⟨x_h0, x_h1, rfl, R_h0, R_h1, hb⟩
          replace R_a0 := hide (R_a0.out.then_ hb)
          replace R_a1 := hide (R_a1.out.then_ hb)
          replace R_b0 := hide (R_b0.out.then_ hb)
          replace R_b1 := hide (R_b1.out.then_ hb)
          replace R_x := hide (R_x.out.then_ hb)
          have U19 : Below V11.heap.size V11 w9 := Below.then_ U18 hb
          replace B := hide (Below.then_ B.out hb)
          replace R_h0 := hide R_h0
          replace R_h1 := hide R_h1
          clear hb
          refine hK.out _ _ U19 ?_
          clear hK K
          (try simp only [Act.put, List.setIfInBounds_toArray, List.set_cons_zero, List.set_cons_succ])
          repeat (first | ((with_reducible refine seq_take (v := ?_) ?_ ?_ ?_); rotate_left; (exact rfl); (focus (intro w' hSw; go_simp; try with_reducible rfl)); (try simp only [Act.put, List.setIfInBounds_toArray, List.set_cons_zero, List.set_cons_succ])) | ((with_reducible refine seq_pass ?_ ?_); (exact rfl); (try simp only [Act.put, List.setIfInBounds_toArray, List.set_cons_zero, List.set_cons_succ])))
          (with_reducible refine seq_call ?_ (fun K hK => ?_))
          (exact rfl)
          go_simp
          refine (has_any (L := 3145748) (by omega) (Rq.le (M := 3145748) (Nq.rq R_h0.out) (by omega)) (Rq.le (M := 3145748) (Nq.rq R_h1.out) (by omega)) (Rq.le (M := 3145748) R_x.out (by omega)) (Nat.le_refl _) eU.out).mono ?_
          rintro e w10 ⟨rfl, hb⟩
          replace R_a0 := hide (R_a0.out.then_ hb)
          replace R_a1 := hide (R_a1.out.then_ hb)
          replace R_b0 := hide (R_b0.out.then_ hb)
          replace R_b1 := hide (R_b1.out.then_ hb)
          replace R_x := hide (R_x.out.then_ hb)
          replace R_h0 := hide (R_h0.out.then_ hb)
          replace R_h1 := hide (R_h1.out.then_ hb)
          have U20 : Below V11.heap.size V11 w10 := Below.then_ U19 hb
          replace B := hide (Below.then_ B.out hb)
          clear hb
          refine hK.out _ _ U20 ?_
          clear hK K
          (try simp only [Act.put, List.setIfInBounds_toArray, List.set_cons_zero, List.set_cons_succ])
          repeat (first | ((with_reducible refine seq_take (v := ?_) ?_ ?_ ?_); rotate_left; (exact rfl); (focus (intro w' hSw; go_simp; try with_reducible rfl)); (try simp only [Act.put, List.setIfInBounds_toArray, List.set_cons_zero, List.set_cons_succ])) | ((with_reducible refine seq_pass ?_ ?_); (exact rfl); (try simp only [Act.put, List.setIfInBounds_toArray, List.set_cons_zero, List.set_cons_succ])))
          refine seq_done ?_
          go_wp2
          go_roundw
          case rel => exact ⟨k + 1, by omega, by go_num, Below.then_ hbv U20⟩
          case measure => simp [intOf]; omega
      · by_cases hB : rhas q_b0 q_b1 xq
        · skip
          have eA : decide (rhas q_a0 q_a1 xq) = false := decide_eq_false hA
          have eB : decide (rhas q_b0 q_b1 xq) = true := decide_eq_true hB
          have eU : decide (rhas ul uh xq) = true := decide_eq_true (hU.out xq (Or.inr hB))
          clear hA hB
          replace eA := hide eA
          replace eB := hide eB
          replace eU := hide eU
          have hd := Below.drw_ V11
          replace R_a0 := hide (R_a0.out.then_ hd)
          replace R_a1 := hide (R_a1.out.then_ hd)
          replace R_b0 := hide (R_b0.out.then_ hd)
          replace R_b1 := hide (R_b1.out.then_ hd)
          replace R_x := hide (R_x.out.then_ hd)
          have U14 : Below V11.heap.size V11 (V11.drew) := Below.then_ U13 hd
          replace B := hide (Below.then_ B.out hd)
          clear hd
          refine region_seq (S := fun w' => Below V11.heap.size V11 w') [(true, 0), (true, 1), (true, 2), (true, 3), (true, 6), (true, 7), (false, 4), (true, 5), (false, 8), (true, 9), (true, 10), (true, 11), (false, 12), (true, 13), (true, 14)] (by kernel_rfl) (by kernel_rfl) (by kernel_rfl) (by decide) U14 ?_
          simp only [List.map_cons, List.map_nil, List.getElem?_toArray, List.getElem?_cons_succ, List.getElem?_cons_zero]
          repeat (first | ((with_reducible refine seq_take (v := ?_) ?_ ?_ ?_); rotate_left; (exact rfl); (focus (intro w' hSw; go_simp; try with_reducible rfl)); (try simp only [Act.put, List.setIfInBounds_toArray, List.set_cons_zero, List.set_cons_succ])) | ((with_reducible refine seq_pass ?_ ?_); (exact rfl); (try simp only [Act.put, List.setIfInBounds_toArray, List.set_cons_zero, List.set_cons_succ])))
          (with_reducible refine seq_idle ?_ U14 ?_)
          (exact rfl)
          (try simp only [Act.put, List.setIfInBounds_toArray, List.set_cons_zero, List.set_cons_succ])
          repeat (first | ((with_reducible refine seq_take (v := ?_) ?_ ?_ ?_); rotate_left; (exact rfl); (focus (intro w' hSw; go_simp; try with_reducible rfl)); (try simp only [Act.put, List.setIfInBounds_toArray, List.set_cons_zero, List.set_cons_succ])) | ((with_reducible refine seq_pass ?_ ?_); (exact rfl); (try simp only [Act.put, List.setIfInBounds_toArray, List.set_cons_zero, List.set_cons_succ])))
          (with_reducible refine seq_call ?_ (fun K hK => ?_))
          (exact rfl)
          go_simp
          refine (has_any (L := 3145748) (by omega) (Rq.le (M := 3145748) R_a0.out (by omega)) (Rq.le (M := 3145748) R_a1.out (by omega)) (Rq.le (M := 3145748) R_x.out (by omega)) (Nat.le_refl _) eA.out).mono ?_
          rintro e w6 ⟨rfl, hb⟩
          replace R_a0 := hide (R_a0.out.then_ hb)
          replace R_a1 := hide (R_a1.out.then_ hb)
          replace R_b0 := hide (R_b0.out.then_ hb)
          replace R_b1 := hide (R_b1.out.then_ hb)
          replace R_x := hide (R_x.out.then_ hb)
          have U15 : Below V11.heap.size V11 w6 := Below.then_ U14 hb
          replace B := hide (Below.then_ B.out hb)
          clear hb
          refine hK.out _ _ U15 ?_
          clear hK K
          (try simp only [Act.put, List.setIfInBounds_toArray, List.set_cons_zero, List.set_cons_succ])
          repeat (first | ((with_reducible refine seq_take (v := ?_) ?_ ?_ ?_); rotate_left; (exact rfl); (focus (intro w' hSw; go_simp; try with_reducible rfl)); (try simp only [Act.put, List.setIfInBounds_toArray, List.set_cons_zero, List.set_cons_succ])) | ((with_reducible refine seq_pass ?_ ?_); (exact rfl); (try simp only [Act.put, List.setIfInBounds_toArray, List.set_cons_zero, List.set_cons_succ])))
          (with_reducible refine seq_idle ?_ U15 ?_)
          (exact rfl)
          (try simp only [Act.put, List.setIfInBounds_toArray, List.set_cons_zero, List.set_cons_succ])
          repeat (first | ((with_reducible refine seq_take (v := ?_) ?_ ?_ ?_); rotate_left; (exact rfl); (focus (intro w' hSw; go_simp; try with_reducible rfl)); (try simp only [Act.put, List.setIfInBounds_toArray, List.set_cons_zero, List.set_cons_succ])) | ((with_reducible refine seq_pass ?_ ?_); (exact rfl); (try simp only [Act.put, List.setIfInBounds_toArray, List.set_cons_zero, List.set_cons_succ])))
          refine seq_done ?_
          go_wp2_with fail
          have hd := Below.drw_ w6
          replace R_a0 := hide (R_a0.out.then_ hd)
          replace R_a1 := hide (R_a1.out.then_ hd)
          replace R_b0 := hide (R_b0.out.then_ hd)
          replace R_b1 := hide (R_b1.out.then_ hd)
          replace R_x := hide (R_x.out.then_ hd)
          have U16 : Below V11.heap.size V11 (w6.drew) := Below.then_ U15 hd
          replace B := hide (Below.then_ B.out hd)
          clear hd
          have tok7 : True := trivial
          go_region_held3 (fun w' => Below V11.heap.size V11 w') (assumption)
            (first
              | (go_at_call 8; (have _t := tok7; (with_reducible refine (has_any (L := 3145748) (by omega) (Rq.le (M := 3145748) R_a0.out (by omega)) (Rq.le (M := 3145748) R_a1.out (by omega)) (Rq.le (M := 3145748) R_x.out (by omega)) (Nat.le_refl _) eA.out).mono ?_); rintro e w7 ⟨rfl, hb⟩; replace R_a0 := hide (R_a0.out.then_ hb); replace R_a1 := hide (R_a1.out.then_ hb); replace R_b0 := hide (R_b0.out.then_ hb); replace R_b1 := hide (R_b1.out.then_ hb); replace R_x := hide (R_x.out.then_ hb); have U17 : Below V11.heap.size V11 w7 := Below.then_ U16 hb; replace B := hide (Below.then_ B.out hb); clear hb; have tok8 : True := trivial; clear _t tok7))
              | (go_at_call 8; (have _t := tok8; (with_reducible refine (has_any (L := 3145748) (by omega) (Rq.le (M := 3145748) R_b0.out (by omega)) (Rq.le (M := 3145748) R_b1.out (by omega)) (Rq.le (M := 3145748) R_x.out (by omega)) (Nat.le_refl _) eB.out).mono ?_); rintro e w8 ⟨rfl, hb⟩; replace R_a0 := hide (R_a0.out.then_ hb); replace R_a1 := hide (R_a1.out.then_ hb); replace R_b0 := hide (R_b0.out.then_ hb); replace R_b1 := hide (R_b1.out.then_ hb); replace R_x := hide (R_x.out.then_ hb); have U18 : Below V11.heap.size V11 w8 := Below.then_ U17 hb; replace B := hide (Below.then_ B.out hb); clear hb; have tok9 : True := trivial; clear _t tok8))
              | (go_at_call 19; (have _t := tok9; (with_reducible refine (hull_any (L := 1048576) (by omega) (Rq.le (M := 1048576) R_a0.out (by omega)) (Rq.le (M := 1048576) R_a1.out (by omega)) (Rq.le (M := 1048576) R_b0.out (by omega)) (Rq.le (M := 1048576) R_b1.out (by omega)) (Nat.le_refl _) hul.out huh.out).mono ?_); rintro e w9 ⟨x_h0, x_h1, rfl, R_h0, R_h1, hb⟩; replace R_a0 := hide (R_a0.out.then_ hb); replace R_a1 := hide (R_a1.out.then_ hb); replace R_b0 := hide (R_b0.out.then_ hb); replace R_b1 := hide (R_b1.out.then_ hb); replace R_x := hide (R_x.out.then_ hb); have U19 : Below V11.heap.size V11 w9 := Below.then_ U18 hb; replace B := hide (Below.then_ B.out hb); replace R_h0 := hide R_h0; replace R_h1 := hide R_h1; clear hb; have tok10 : True := trivial; clear _t tok9))
              | (go_at_call 8; (have _t := tok10; (with_reducible refine (has_any (L := 3145748) (by omega) (Rq.le (M := 3145748) (Nq.rq R_h0.out) (by omega)) (Rq.le (M := 3145748) (Nq.rq R_h1.out) (by omega)) (Rq.le (M := 3145748) R_x.out (by omega)) (Nat.le_refl _) eU.out).mono ?_); rintro e w10 ⟨rfl, hb⟩; replace R_a0 := hide (R_a0.out.then_ hb); replace R_a1 := hide (R_a1.out.then_ hb); replace R_b0 := hide (R_b0.out.then_ hb); replace R_b1 := hide (R_b1.out.then_ hb); replace R_x := hide (R_x.out.then_ hb); replace R_h0 := hide (R_h0.out.then_ hb); replace R_h1 := hide (R_h1.out.then_ hb); have U20 : Below V11.heap.size V11 w10 := Below.then_ U19 hb; replace B := hide (Below.then_ B.out hb); clear hb; have tok11 : True := trivial; clear _t tok10)))
          clear tok11
          go_wp2
          go_roundw
          case rel => exact ⟨k + 1, by omega, by go_num, Below.then_ hbv U20⟩
          case measure => simp [intOf]; omega
        · skip
          have eA : decide (rhas q_a0 q_a1 xq) = false := decide_eq_false hA
          have eB : decide (rhas q_b0 q_b1 xq) = false := decide_eq_false hB
          clear hA hB
          replace eA := hide eA
          replace eB := hide eB
          have hd := Below.drw_ V11
          replace R_a0 := hide (R_a0.out.then_ hd)
          replace R_a1 := hide (R_a1.out.then_ hd)
          replace R_b0 := hide (R_b0.out.then_ hd)
          replace R_b1 := hide (R_b1.out.then_ hd)
          replace R_x := hide (R_x.out.then_ hd)
          have U14 : Below V11.heap.size V11 (V11.drew) := Below.then_ U13 hd
          replace B := hide (Below.then_ B.out hd)
          clear hd
          refine region_seq (S := fun w' => Below V11.heap.size V11 w') [(true, 0), (true, 1), (true, 2), (true, 3), (true, 6), (true, 7), (false, 4), (true, 5), (false, 8), (true, 9), (true, 10), (true, 11), (false, 12), (true, 13), (true, 14)] (by kernel_rfl) (by kernel_rfl) (by kernel_rfl) (by decide) U14 ?_
          simp only [List.map_cons, List.map_nil, List.getElem?_toArray, List.getElem?_cons_succ, List.getElem?_cons_zero]
          repeat (first | ((with_reducible refine seq_take (v := ?_) ?_ ?_ ?_); rotate_left; (exact rfl); (focus (intro w' hSw; go_simp; try with_reducible rfl)); (try simp only [Act.put, List.setIfInBounds_toArray, List.set_cons_zero, List.set_cons_succ])) | ((with_reducible refine seq_pass ?_ ?_); (exact rfl); (try simp only [Act.put, List.setIfInBounds_toArray, List.set_cons_zero, List.set_cons_succ])))
          (with_reducible refine seq_idle ?_ U14 ?_)
          (exact rfl)
          (try simp only [Act.put, List.setIfInBounds_toArray, List.set_cons_zero, List.set_cons_succ])
          repeat (first | ((with_reducible refine seq_take (v := ?_) ?_ ?_ ?_); rotate_left; (exact rfl); (focus (intro w' hSw; go_simp; try with_reducible rfl)); (try simp only [Act.put, List.setIfInBounds_toArray, List.set_cons_zero, List.set_cons_succ])) | ((with_reducible refine seq_pass ?_ ?_); (exact rfl); (try simp only [Act.put, List.setIfInBounds_toArray, List.set_cons_zero, List.set_cons_succ])))
          (with_reducible refine seq_call ?_ (fun K hK => ?_))
          (exact rfl)
          go_simp
          refine (has_any (L := 3145748) (by omega) (Rq.le (M := 3145748) R_a0.out (by omega)) (Rq.le (M := 3145748) R_a1.out (by omega)) (Rq.le (M := 3145748) R_x.out (by omega)) (Nat.le_refl _) eA.out).mono ?_
          rintro e w6 ⟨rfl, hb⟩
          replace R_a0 := hide (R_a0.out.then_ hb)
          replace R_a1 := hide (R_a1.out.then_ hb)
          replace R_b0 := hide (R_b0.out.then_ hb)
          replace R_b1 := hide (R_b1.out.then_ hb)
          replace R_x := hide (R_x.out.then_ hb)
          have U15 : Below V11.heap.size V11 w6 := Below.then_ U14 hb
          replace B := hide (Below.then_ B.out hb)
          clear hb
          refine hK.out _ _ U15 ?_
          clear hK K
          (try simp only [Act.put, List.setIfInBounds_toArray, List.set_cons_zero, List.set_cons_succ])
          repeat (first | ((with_reducible refine seq_take (v := ?_) ?_ ?_ ?_); rotate_left; (exact rfl); (focus (intro w' hSw; go_simp; try with_reducible rfl)); (try simp only [Act.put, List.setIfInBounds_toArray, List.set_cons_zero, List.set_cons_succ])) | ((with_reducible refine seq_pass ?_ ?_); (exact rfl); (try simp only [Act.put, List.setIfInBounds_toArray, List.set_cons_zero, List.set_cons_succ])))
          (with_reducible refine seq_idle ?_ U15 ?_)
          (exact rfl)
          (try simp only [Act.put, List.setIfInBounds_toArray, List.set_cons_zero, List.set_cons_succ])
          repeat (first | ((with_reducible refine seq_take (v := ?_) ?_ ?_ ?_); rotate_left; (exact rfl); (focus (intro w' hSw; go_simp; try with_reducible rfl)); (try simp only [Act.put, List.setIfInBounds_toArray, List.set_cons_zero, List.set_cons_succ])) | ((with_reducible refine seq_pass ?_ ?_); (exact rfl); (try simp only [Act.put, List.setIfInBounds_toArray, List.set_cons_zero, List.set_cons_succ])))
          refine seq_done ?_
          go_wp2_with fail
          have hd := Below.drw_ w6
          replace R_a0 := hide (R_a0.out.then_ hd)
          replace R_a1 := hide (R_a1.out.then_ hd)
          replace R_b0 := hide (R_b0.out.then_ hd)
          replace R_b1 := hide (R_b1.out.then_ hd)
          replace R_x := hide (R_x.out.then_ hd)
          have U16 : Below V11.heap.size V11 (w6.drew) := Below.then_ U15 hd
          replace B := hide (Below.then_ B.out hd)
          clear hd
          refine region_seq (S := fun w' => Below V11.heap.size V11 w') [(true, 0), (true, 1), (false, 2), (true, 3), (true, 4), (true, 5), (false, 6), (true, 7), (true, 8), (true, 9), (true, 10), (true, 12), (false, 11), (false, 13), (true, 14), (true, 15)] (by kernel_rfl) (by kernel_rfl) (by kernel_rfl) (by decide) U16 ?_
          simp only [List.map_cons, List.map_nil, List.getElem?_toArray, List.getElem?_cons_succ, List.getElem?_cons_zero]
          repeat (first | ((with_reducible refine seq_take (v := ?_) ?_ ?_ ?_); rotate_left; (exact rfl); (focus (intro w' hSw; go_simp; try with_reducible rfl)); (try simp only [Act.put, List.setIfInBounds_toArray, List.set_cons_zero, List.set_cons_succ])) | ((with_reducible refine seq_pass ?_ ?_); (exact rfl); (try simp only [Act.put, List.setIfInBounds_toArray, List.set_cons_zero, List.set_cons_succ])))
          (with_reducible refine seq_call ?_ (fun K hK => ?_))
          (exact rfl)
          go_simp
          refine (has_any (L := 3145748) (by omega) (Rq.le (M := 3145748) R_a0.out (by omega)) (Rq.le (M := 3145748) R_a1.out (by omega)) (Rq.le (M := 3145748) R_x.out (by omega)) (Nat.le_refl _) eA.out).mono ?_
          rintro e w7 ⟨rfl, hb⟩
          replace R_a0 := hide (R_a0.out.then_ hb)
          replace R_a1 := hide (R_a1.out.then_ hb)
          replace R_b0 := hide (R_b0.out.then_ hb)
          replace R_b1 := hide (R_b1.out.then_ hb)
          replace R_x := hide (R_x.out.then_ hb)
          have U17 : Below V11.heap.size V11 w7 := Below.then_ U16 hb
          replace B := hide (Below.then_ B.out hb)
          clear hb
          refine hK.out _ _ U17 ?_
          clear hK K
          (try simp only [Act.put, List.setIfInBounds_toArray, List.set_cons_zero, List.set_cons_succ])
          repeat (first | ((with_reducible refine seq_take (v := ?_) ?_ ?_ ?_); rotate_left; (exact rfl); (focus (intro w' hSw; go_simp; try with_reducible rfl)); (try simp only [Act.put, List.setIfInBounds_toArray, List.set_cons_zero, List.set_cons_succ])) | ((with_reducible refine seq_pass ?_ ?_); (exact rfl); (try simp only [Act.put, List.setIfInBounds_toArray, List.set_cons_zero, List.set_cons_succ])))
          (with_reducible refine seq_call ?_ (fun K hK => ?_))
          (exact rfl)
          go_simp
          refine (has_any (L := 3145748) (by omega) (Rq.le (M := 3145748) R_b0.out (by omega)) (Rq.le (M := 3145748) R_b1.out (by omega)) (Rq.le (M := 3145748) R_x.out (by omega)) (Nat.le_refl _) eB.out).mono ?_
          rintro e w8 ⟨rfl, hb⟩
          replace R_a0 := hide (R_a0.out.then_ hb)
          replace R_a1 := hide (R_a1.out.then_ hb)
          replace R_b0 := hide (R_b0.out.then_ hb)
          replace R_b1 := hide (R_b1.out.then_ hb)
          replace R_x := hide (R_x.out.then_ hb)
          have U18 : Below V11.heap.size V11 w8 := Below.then_ U17 hb
          replace B := hide (Below.then_ B.out hb)
          clear hb
          refine hK.out _ _ U18 ?_
          clear hK K
          (try simp only [Act.put, List.setIfInBounds_toArray, List.set_cons_zero, List.set_cons_succ])
          repeat (first | ((with_reducible refine seq_take (v := ?_) ?_ ?_ ?_); rotate_left; (exact rfl); (focus (intro w' hSw; go_simp; try with_reducible rfl)); (try simp only [Act.put, List.setIfInBounds_toArray, List.set_cons_zero, List.set_cons_succ])) | ((with_reducible refine seq_pass ?_ ?_); (exact rfl); (try simp only [Act.put, List.setIfInBounds_toArray, List.set_cons_zero, List.set_cons_succ])))
          (with_reducible refine seq_idle ?_ U18 ?_)
          (exact rfl)
          (try simp only [Act.put, List.setIfInBounds_toArray, List.set_cons_zero, List.set_cons_succ])
          repeat (first | ((with_reducible refine seq_take (v := ?_) ?_ ?_ ?_); rotate_left; (exact rfl); (focus (intro w' hSw; go_simp; try with_reducible rfl)); (try simp only [Act.put, List.setIfInBounds_toArray, List.set_cons_zero, List.set_cons_succ])) | ((with_reducible refine seq_pass ?_ ?_); (exact rfl); (try simp only [Act.put, List.setIfInBounds_toArray, List.set_cons_zero, List.set_cons_succ])))
          (with_reducible refine seq_idle ?_ U18 ?_)
          (exact rfl)
          (try simp only [Act.put, List.setIfInBounds_toArray, List.set_cons_zero, List.set_cons_succ])
          repeat (first | ((with_reducible refine seq_take (v := ?_) ?_ ?_ ?_); rotate_left; (exact rfl); (focus (intro w' hSw; go_simp; try with_reducible rfl)); (try simp only [Act.put, List.setIfInBounds_toArray, List.set_cons_zero, List.set_cons_succ])) | ((with_reducible refine seq_pass ?_ ?_); (exact rfl); (try simp only [Act.put, List.setIfInBounds_toArray, List.set_cons_zero, List.set_cons_succ])))
          refine seq_done ?_
          go_wp2
          go_roundw
          case rel => exact ⟨k + 1, by omega, by go_num, Below.then_ hbv U18⟩
          case measure => simp [intOf]; omega
    · skip
      obtain rfl : k = 6 := by omega
      clear hkl hk6
      replace R_a0 := hide (R_a0.out.then_ hV)
      replace R_a1 := hide (R_a1.out.then_ hV)
      replace R_b0 := hide (R_b0.out.then_ hV)
      replace R_b1 := hide (R_b1.out.then_ hV)
      replace B := hide (Below.then_ B.out hV)
      have U99 : Below V.heap.size V wr := hV
      simp only [show ((6 : Nat) : Int) = 6 from rfl]
      go_wp2_with fail
      have hd := Below.drw_ wr
      replace R_a0 := hide (R_a0.out.then_ hd)
      replace R_a1 := hide (R_a1.out.then_ hd)
      replace R_b0 := hide (R_b0.out.then_ hd)
      replace R_b1 := hide (R_b1.out.then_ hd)
      have U12 : Below V.heap.size V (wr.drew) := Below.then_ U99 hd
      replace B := hide (Below.then_ B.out hd)
      clear hd
      have tok7 : True := trivial
      go_region_held3 (fun w' => Below V.heap.size V w') (assumption)
        (first
          | (go_at_call 19; (have _t := tok7; (with_reducible refine (hull_any (L := 1048576) (by omega) (Rq.le (M := 1048576) R_a0.out (by omega)) (Rq.le (M := 1048576) R_a1.out (by omega)) (Rq.le (M := 1048576) R_b0.out (by omega)) (Rq.le (M := 1048576) R_b1.out (by omega)) (Nat.le_refl _) hul.out huh.out).mono ?_); rintro e w6 ⟨x_h0, x_h1, rfl, R_h0, R_h1, hb⟩; replace R_a0 := hide (R_a0.out.then_ hb); replace R_a1 := hide (R_a1.out.then_ hb); replace R_b0 := hide (R_b0.out.then_ hb); replace R_b1 := hide (R_b1.out.then_ hb); have U13 : Below V.heap.size V w6 := Below.then_ U12 hb; replace B := hide (Below.then_ B.out hb); replace R_h0 := hide R_h0; replace R_h1 := hide R_h1; clear hb; have tok8 : True := trivial; clear _t tok7))
          | (go_at_call 20; (have _t := tok8; (with_reducible refine (within_any (L := 1048577) (by omega) (Rq.le (M := 1048577) R_a0.out (by omega)) (Rq.le (M := 1048577) R_a1.out (by omega)) (Rq.le (M := 1048577) (Nq.rq R_h0.out) (by omega)) (Rq.le (M := 1048577) (Nq.rq R_h1.out) (by omega)) (Nat.le_refl _) u1.out).mono ?_); rintro e w7 ⟨rfl, hb⟩; replace R_a0 := hide (R_a0.out.then_ hb); replace R_a1 := hide (R_a1.out.then_ hb); replace R_b0 := hide (R_b0.out.then_ hb); replace R_b1 := hide (R_b1.out.then_ hb); replace R_h0 := hide (R_h0.out.then_ hb); replace R_h1 := hide (R_h1.out.then_ hb); have U14 : Below V.heap.size V w7 := Below.then_ U13 hb; replace B := hide (Below.then_ B.out hb); clear hb; have tok9 : True := trivial; clear _t tok8; clear R_h0; clear R_h1))
          | (go_at_call 19; (have _t := tok9; (with_reducible refine (hull_any (L := 1048576) (by omega) (Rq.le (M := 1048576) R_a0.out (by omega)) (Rq.le (M := 1048576) R_a1.out (by omega)) (Rq.le (M := 1048576) R_b0.out (by omega)) (Rq.le (M := 1048576) R_b1.out (by omega)) (Nat.le_refl _) hul.out huh.out).mono ?_); rintro e w8 ⟨x_h0, x_h1, rfl, R_h0, R_h1, hb⟩; replace R_a0 := hide (R_a0.out.then_ hb); replace R_a1 := hide (R_a1.out.then_ hb); replace R_b0 := hide (R_b0.out.then_ hb); replace R_b1 := hide (R_b1.out.then_ hb); have U15 : Below V.heap.size V w8 := Below.then_ U14 hb; replace B := hide (Below.then_ B.out hb); replace R_h0 := hide R_h0; replace R_h1 := hide R_h1; clear hb; have tok10 : True := trivial; clear _t tok9))
          | (go_at_call 20; (have _t := tok10; (with_reducible refine (within_any (L := 1048577) (by omega) (Rq.le (M := 1048577) R_b0.out (by omega)) (Rq.le (M := 1048577) R_b1.out (by omega)) (Rq.le (M := 1048577) (Nq.rq R_h0.out) (by omega)) (Rq.le (M := 1048577) (Nq.rq R_h1.out) (by omega)) (Nat.le_refl _) u2.out).mono ?_); rintro e w9 ⟨rfl, hb⟩; replace R_a0 := hide (R_a0.out.then_ hb); replace R_a1 := hide (R_a1.out.then_ hb); replace R_b0 := hide (R_b0.out.then_ hb); replace R_b1 := hide (R_b1.out.then_ hb); replace R_h0 := hide (R_h0.out.then_ hb); replace R_h1 := hide (R_h1.out.then_ hb); have U16 : Below V.heap.size V w9 := Below.then_ U15 hb; replace B := hide (Below.then_ B.out hb); clear hb; have tok11 : True := trivial; clear _t tok10; clear R_h0; clear R_h1))
          | (go_at_call 19; (have _t := tok11; (with_reducible refine (hull_any (L := 1048576) (by omega) (Rq.le (M := 1048576) R_a0.out (by omega)) (Rq.le (M := 1048576) R_a1.out (by omega)) (Rq.le (M := 1048576) R_b0.out (by omega)) (Rq.le (M := 1048576) R_b1.out (by omega)) (Nat.le_refl _) hul.out huh.out).mono ?_); rintro e w10 ⟨x_h0, x_h1, rfl, R_h0, R_h1, hb⟩; replace R_a0 := hide (R_a0.out.then_ hb); replace R_a1 := hide (R_a1.out.then_ hb); replace R_b0 := hide (R_b0.out.then_ hb); replace R_b1 := hide (R_b1.out.then_ hb); have U17 : Below V.heap.size V w10 := Below.then_ U16 hb; replace B := hide (Below.then_ B.out hb); replace R_h0 := hide R_h0; replace R_h1 := hide R_h1; clear hb; have tok12 : True := trivial; clear _t tok11))
          | (go_at_call 19; (have _t := tok12; (with_reducible refine (hull_any (L := 1048576) (by omega) (Rq.le (M := 1048576) R_b0.out (by omega)) (Rq.le (M := 1048576) R_b1.out (by omega)) (Rq.le (M := 1048576) R_a0.out (by omega)) (Rq.le (M := 1048576) R_a1.out (by omega)) (Nat.le_refl _) hul2.out huh2.out).mono ?_); rintro e w11 ⟨x_i0, x_i1, rfl, R_i0, R_i1, hb⟩; replace R_a0 := hide (R_a0.out.then_ hb); replace R_a1 := hide (R_a1.out.then_ hb); replace R_b0 := hide (R_b0.out.then_ hb); replace R_b1 := hide (R_b1.out.then_ hb); replace R_h0 := hide (R_h0.out.then_ hb); replace R_h1 := hide (R_h1.out.then_ hb); have U18 : Below V.heap.size V w11 := Below.then_ U17 hb; replace B := hide (Below.then_ B.out hb); replace R_i0 := hide R_i0; replace R_i1 := hide R_i1; clear hb; have tok13 : True := trivial; clear _t tok12))
          | (go_at_call 21; (have _t := tok13; (with_reducible refine (same_s (L := 1048577) (by omega) (R_h0.out.le (M := 1048577) (by omega)) (R_h1.out.le (M := 1048577) (by omega)) (R_i0.out.le (M := 1048577) (by omega)) (R_i1.out.le (M := 1048577) (by omega)) (Nat.le_refl _) rfl rfl).mono ?_); rintro e w12 ⟨rfl, hb⟩; replace R_a0 := hide (R_a0.out.then_ hb); replace R_a1 := hide (R_a1.out.then_ hb); replace R_b0 := hide (R_b0.out.then_ hb); replace R_b1 := hide (R_b1.out.then_ hb); replace R_h0 := hide (R_h0.out.then_ hb); replace R_h1 := hide (R_h1.out.then_ hb); replace R_i0 := hide (R_i0.out.then_ hb); replace R_i1 := hide (R_i1.out.then_ hb); have U19 : Below V.heap.size V w12 := Below.then_ U18 hb; replace B := hide (Below.then_ B.out hb); clear hb; have tok14 : True := trivial; clear _t tok13; clear R_h0; clear R_h1; clear R_i0; clear R_i1))
          | (go_at_call 16; (have _t := tok14; (with_reducible refine (awake_s).mono ?_); rintro e w13 ⟨rfl, hb⟩; replace R_a0 := hide (R_a0.out.then_ hb); replace R_a1 := hide (R_a1.out.then_ hb); replace R_b0 := hide (R_b0.out.then_ hb); replace R_b1 := hide (R_b1.out.then_ hb); have U20 : Below V.heap.size V w13 := Below.then_ U19 hb; replace B := hide (Below.then_ B.out hb); clear hb; have tok15 : True := trivial; clear _t tok14)))
      clear tok15
      go_wp2
      go_ret
      exact ⟨rfl, B.out⟩

end Go.Proofs.Ytogafnfpncbgiaa

/-
  Draws: Chance of the program and of the reference.
-/
import Derived.Test.YtdihgmbldnekhaaDrw3
import Derived.Test.YtdihgmbldnekhaaRatN
import Derived.Deep.RegionWith
namespace Go.Proofs.Ytdihgmbldnekhaa
open Go.RowKit

/-- the draw as a ratio -/
def chQ (s : Nat) : Rat := Rat.divInt (dup s) 4294967296
noncomputable def chB (s : Nat) (q : Rat) : Bool := decide (sgn (chQ s - q).num < 0)
theorem rof_q {w : World} {x y : Int} {q : Rat} (hx0 : -9223372036854775808 ≤ x) (hx1 : x ≤ 9223372036854775807) (hy0 : -9223372036854775808 ≤ y) (hy1 : y ≤ 9223372036854775807) (hq : Rat.divInt x y = q) (hy : y ≠ 0) : Calls Try.prog 67 #[.int .i64 x, .int .i64 y] w (RetNB w 2 q true) := by
  have z : (dig (zmag q.num)).length ≤ 2 ∧ (dig q.den).length ≤ 2 := sz_divInt hq (lt64 hx0 hx1) (lt64 hy0 hy1) (by omega)
  refine (rof3_any (q := q) hx0 hx1 hy0 hy1 hq (decide_eq_true hy)).mono ?_
  rintro e w' ⟨A, c, B, d, rfl, R, R', hb⟩
  exact ⟨⟨zneg q.num, A, _, c, B, _, d⟩, rfl, ⟨rfl, R, R', z.1, z.2⟩, hb⟩
theorem ch_ref (s : Nat) (q : Rat) : (decide (sgn (Rat.divInt (dup s) 1 - q * Rat.divInt 4294967296 1).num < 0)) = chB s q := by
  unfold chB
  refine decide_eq_decide.2 ?_
  rw [cmp_lt, cmp_lt]
  unfold chQ
  rw [Rat.divInt_eq_div, Rat.divInt_eq_div, Rat.divInt_eq_div]
  have h2 : ((4294967296 : Int) : Rat) = 4294967296 := rfl
  have h1 : ((1 : Int) : Rat) = 1 := rfl
  rw [h1, h2]
  generalize ((dup s : Int) : Rat) = x
  constructor <;> intro h <;> grind
set_option maxHeartbeats 8000000 in
set_option maxRecDepth 100000 in
theorem chance_p {w : World} {Bd L d : Nat} {x : Rc} {q : Rat} (hd : d < 18446744073709551616) (hx : Rq w Bd L x q) (gL : L ≤ 100000000) (hB : Bd ≤ w.heap.size) : Calls Try.prog 30 #[.int .u64 (d : Int), .agg #[.bool x.s, .slice x.A x.n x.c, .slice x.B x.m x.d]] w (RetB w (.tuple #[.bool (chB d q), .int .u64 (dnx d : Int)])) := by
  obtain ⟨W, hW⟩ : ∃ W, W = (w.alloc (.cells #[.bool x.s, .slice x.A x.n x.c, .slice x.B x.m x.d] 27)) := ⟨_, rfl⟩
  have hwW : Below w.heap.size w W := by rw [hW]; exact ((Below.refl _ _).alloc (Nat.le_refl _) _)
  have b_p := hide (show Box3 W (w.heap.size) (.bool x.s) (.slice x.A x.n x.c) (.slice x.B x.m x.d) by rw [hW]; exact (Box3.new w _ _ _ rfl))
  have H_p := hide (hx.upto hwW hB)
  have B := hide hwW
  have hul := dup_lt d
  have hcq := hide (show Rat.divInt (dup d : Int) 4294967296 = chQ d from rfl)
  have hcb := hide (show decide (sgn (chQ d - q).num < 0) = chB d q from rfl)
  have hnx := hide (fun w => next_p (w := w) hd)
  obtain ⟨u, hu⟩ : ∃ u, u = dup d := ⟨_, rfl⟩
  obtain ⟨s, hs⟩ : ∃ s, s = dnx d := ⟨_, rfl⟩
  rw [← hu] at hul hcq hnx
  rw [← hs] at hnx ⊢
  obtain ⟨cb, hcbv⟩ : ∃ b, b = chB d q := ⟨_, rfl⟩
  rw [← hcbv] at hcb ⊢
  obtain ⟨cq, hcqv⟩ : ∃ b, b = chQ d := ⟨_, rfl⟩
  rw [← hcqv] at hcb hcq
  obtain ⟨k, hk⟩ : ∃ k, sgn (cq - q).num = k := ⟨_, rfl⟩
  replace hk := hide hk
  have hcb2 := hcb.out
  rw [hk.out] at hcb2
  clear hwW hx hu hs hcbv hcqv hcb hd hB
  go_enter Try.func30, Try.ntmps30
  go_wp2_with fail
  rw [← hW]
  clear hW
  refine (hnx.out _).mono ?_
  rintro e w1 ⟨rfl, hb⟩
  replace H_p := hide (H_p.out.then_ hb)
  replace b_p := hide (b_p.out.keep hb)
  replace B := hide (Below.then_ B.out hb)
  clear hb
  go_wp2_with fail
  refine (of_q (x := (u : Int)) (y := 4294967296) (by omega) (by omega) (by decide) (by decide) hcq.out (by decide)).mono ?_
  rintro e w2 ⟨x_r, rfl, H_r, hb⟩
  replace H_p := hide (H_p.out.then_ hb)
  replace b_p := hide (b_p.out.keep hb)
  replace B := hide (Below.then_ B.out hb)
  clear hb
  replace H_r := hide H_r
  have b_r := hide (Box3.new w2 (.bool x_r.s) (.slice x_r.A x_r.n x_r.c) (.slice x_r.B x_r.m x_r.d) rfl)
  have hb : Below w2.heap.size w2 (w2.alloc (.cells #[.bool x_r.s, .slice x_r.A x_r.n x_r.c, .slice x_r.B x_r.m x_r.d] 27)) := Below.al_ (Below.refl _ _) _
  replace H_p := hide (H_p.out.then_ hb)
  replace H_r := hide (H_r.out.then_ hb)
  replace b_p := hide (b_p.out.keep hb)
  replace B := hide (Below.then_ B.out hb)
  clear hb
  have c_p0 := b_p.out.at0 b_p.out.lt_size (Nat.le_refl _) _ (Below.refl _ _)
  have c_p1 := b_p.out.at1 b_p.out.lt_size (Nat.le_refl _) _ (Below.refl _ _)
  have c_p2 := b_p.out.at2 b_p.out.lt_size (Nat.le_refl _) _ (Below.refl _ _)
  have c_r0 := b_r.out.at0 b_r.out.lt_size (Nat.le_refl _) _ (Below.refl _ _)
  have c_r1 := b_r.out.at1 b_r.out.lt_size (Nat.le_refl _) _ (Below.refl _ _)
  have c_r2 := b_r.out.at2 b_r.out.lt_size (Nat.le_refl _) _ (Below.refl _ _)
  go_wp2_with fail
  refine (cmp_q H_r.out.rq (by decide) H_p.out (by omega) (Nat.le_refl _) hk.out).mono ?_
  rintro e w3 ⟨rfl, hb⟩
  replace H_p := hide (H_p.out.then_ hb)
  replace H_r := hide (H_r.out.then_ hb)
  replace b_p := hide (b_p.out.keep hb)
  replace b_r := hide (b_r.out.keep hb)
  replace B := hide (Below.then_ B.out hb)
  clear hb
  go_wp2
  go_ret2
  exact ⟨rfl, B.out⟩
set_option maxHeartbeats 8000000 in
set_option maxRecDepth 100000 in
theorem rchance_p {w : World} {Bd L d : Nat} {x : Rc} {q : Rat} (hd : d < 18446744073709551616) (hx : Rq w Bd L x q) (gL : L ≤ 100000000) (hB : Bd ≤ w.heap.size) : Calls Try.prog 31 #[.int .u64 (d : Int), .agg #[.bool x.s, .slice x.A x.n x.c, .slice x.B x.m x.d]] w (RetB w (.tuple #[.bool (chB d q), .int .u64 (dnx d : Int)])) := by
  obtain ⟨W, hW⟩ : ∃ W, W = (w.alloc (.cells #[.bool x.s, .slice x.A x.n x.c, .slice x.B x.m x.d] 27)) := ⟨_, rfl⟩
  have hwW : Below w.heap.size w W := by rw [hW]; exact ((Below.refl _ _).alloc (Nat.le_refl _) _)
  have b_p := hide (show Box3 W (w.heap.size) (.bool x.s) (.slice x.A x.n x.c) (.slice x.B x.m x.d) by rw [hW]; exact (Box3.new w _ _ _ rfl))
  have H_p := hide (hx.upto hwW hB)
  have B := hide hwW
  have hul := dup_lt d
  have hcq := hide (show Rat.divInt (dup d : Int) 1 = Rat.divInt (dup d : Int) 1 from rfl)
  have hcb := hide (ch_ref d q)
  have hnx := hide (fun w => rnext_p (w := w) hd)
  obtain ⟨u, hu⟩ : ∃ u, u = dup d := ⟨_, rfl⟩
  obtain ⟨s, hs⟩ : ∃ s, s = dnx d := ⟨_, rfl⟩
  rw [← hu] at hul hcq hnx hcb
  rw [← hs] at hnx ⊢
  obtain ⟨cb, hcbv⟩ : ∃ b, b = chB d q := ⟨_, rfl⟩
  rw [← hcbv] at hcb ⊢
  obtain ⟨cq, hcqv⟩ : ∃ b, b = Rat.divInt (u : Int) 1 := ⟨_, rfl⟩
  rw [← hcqv] at hcb hcq
  obtain ⟨ca, hca⟩ : ∃ b, b = Rat.divInt 4294967296 1 := ⟨_, rfl⟩
  rw [← hca] at hcb
  replace hca := hide hca.symm
  obtain ⟨cp, hcp⟩ : ∃ b, q * ca = b := ⟨_, rfl⟩
  rw [hcp] at hcb
  replace hcp := hide hcp
  obtain ⟨k, hk⟩ : ∃ k, sgn (cq - cp).num = k := ⟨_, rfl⟩
  replace hk := hide hk
  have hcb2 := hcb.out
  rw [hk.out] at hcb2
  have hcq2 := hide hcqv.symm
  clear hwW hx hu hs hcbv hcqv hcb hd hB hcq
  go_enter Try.func31, Try.ntmps31
  go_wp2_with fail
  rw [← hW]
  clear hW
  refine (hnx.out _).mono ?_
  rintro e w1 ⟨rfl, hb⟩
  replace H_p := hide (H_p.out.then_ hb)
  replace b_p := hide (b_p.out.keep hb)
  replace B := hide (Below.then_ B.out hb)
  clear hb
  go_wp2_with fail
  refine (rof_q (x := (u : Int)) (y := 1) (by omega) (by omega) (by decide) (by decide) hcq2.out (by decide)).mono ?_
  rintro e w2 ⟨x_r, rfl, H_r, hb⟩
  replace H_p := hide (H_p.out.then_ hb)
  replace b_p := hide (b_p.out.keep hb)
  replace B := hide (Below.then_ B.out hb)
  clear hb
  replace H_r := hide H_r
  have b_r := hide (Box3.new w2 (.bool x_r.s) (.slice x_r.A x_r.n x_r.c) (.slice x_r.B x_r.m x_r.d) rfl)
  have hb : Below w2.heap.size w2 (w2.alloc (.cells #[.bool x_r.s, .slice x_r.A x_r.n x_r.c, .slice x_r.B x_r.m x_r.d] 27)) := Below.al_ (Below.refl _ _) _
  replace H_p := hide (H_p.out.then_ hb)
  replace H_r := hide (H_r.out.then_ hb)
  replace b_p := hide (b_p.out.keep hb)
  replace B := hide (Below.then_ B.out hb)
  clear hb
  go_wp2_with fail
  refine (rof_q (x := 4294967296) (y := 1) (by decide) (by decide) (by decide) (by decide) hca.out (by decide)).mono ?_
  rintro e w3 ⟨x_a, rfl, H_a, hb⟩
  replace H_p := hide (H_p.out.then_ hb)
  replace H_r := hide (H_r.out.then_ hb)
  replace b_p := hide (b_p.out.keep hb)
  replace b_r := hide (b_r.out.keep hb)
  replace B := hide (Below.then_ B.out hb)
  clear hb
  replace H_a := hide H_a
  have b_a := hide (Box3.new w3 (.bool x_a.s) (.slice x_a.A x_a.n x_a.c) (.slice x_a.B x_a.m x_a.d) rfl)
  have hb : Below w3.heap.size w3 (w3.alloc (.cells #[.bool x_a.s, .slice x_a.A x_a.n x_a.c, .slice x_a.B x_a.m x_a.d] 27)) := Below.al_ (Below.refl _ _) _
  replace H_p := hide (H_p.out.then_ hb)
  replace H_r := hide (H_r.out.then_ hb)
  replace H_a := hide (H_a.out.then_ hb)
  replace b_p := hide (b_p.out.keep hb)
  replace b_r := hide (b_r.out.keep hb)
  replace B := hide (Below.then_ B.out hb)
  clear hb
  obtain ⟨V, hV⟩ : ∃ V, V = (w3.alloc (.cells #[.bool x_a.s, .slice x_a.A x_a.n x_a.c, .slice x_a.B x_a.m x_a.d] 27)) := ⟨_, rfl⟩
  rw [← hV] at B H_p H_r H_a b_p b_r b_a
  have c_p0 := b_p.out.at0 b_p.out.lt_size (Nat.le_refl _)
  have c_p1 := b_p.out.at1 b_p.out.lt_size (Nat.le_refl _)
  have c_p2 := b_p.out.at2 b_p.out.lt_size (Nat.le_refl _)
  have c_r0 := b_r.out.at0 b_r.out.lt_size (Nat.le_refl _)
  have c_r1 := b_r.out.at1 b_r.out.lt_size (Nat.le_refl _)
  have c_r2 := b_r.out.at2 b_r.out.lt_size (Nat.le_refl _)
  have c_a0 := b_a.out.at0 b_a.out.lt_size (Nat.le_refl _)
  have c_a1 := b_a.out.at1 b_a.out.lt_size (Nat.le_refl _)
  have c_a2 := b_a.out.at2 b_a.out.lt_size (Nat.le_refl _)
  have U0 : Below V.heap.size V V := Below.refl _ _
  have hbx := Below.drw_ V
  go_wp2_with fail
  rw [← hV]
  clear hV
  go_region_held3 (fun w' => Below V.heap.size V w') (first | (with_reducible assumption)) (first | (go_at_call 69; (with_reducible refine (rmul_q (H_p.out.then_ hbx) (by omega) (H_a.out.then_ hbx).rq (by decide) (Nat.le_refl _) hcp.out).mono ?_); rintro e w8 ⟨x8, rfl, R8, hb8⟩; have U8 : Below V.heap.size V w8 := Below.then_ hbx hb8; replace R8 := hide R8; clear hb8) | (go_at_call 68; (with_reducible refine (rcmp_q (H_r.out.then_ U8).rq (by decide) R8.out.rq (by omega) (Nat.le_refl _) hk.out).mono ?_); rintro e w9 ⟨rfl, hb9⟩; have U9 : Below V.heap.size V w9 := Below.then_ U8 hb9; have B9 := hide (Below.then_ B.out U9); clear hb9 R8))
  all_goals
    clear c_p0 c_p1 c_p2 c_r0 c_r1 c_r2 c_a0 c_a1 c_a2
    go_wp2
    go_ret2
    exact ⟨rfl, B9.out⟩
end Go.Proofs.Ytdihgmbldnekhaa

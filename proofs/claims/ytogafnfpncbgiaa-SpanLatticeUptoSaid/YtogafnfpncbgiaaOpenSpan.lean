/-
  From arguments of type api.Span, api.Ratio, [2]uint8 to what can be read.
-/
import Derived.Test.YtogafnfpncbgiaaOpenRat
import Derived.Test.YtogafnfpncbgiaaSpan
namespace Go.Proofs.Ytogafnfpncbgiaa
open Go.ChangeShapes Go.WideShapes Go.ChangeAt Go.RowKit

theorem slice_bulk {H : Type} {y : DataW H} {n : Nat} (h : (y = .nil ∧ n = 0) ∨ ∃ es sp, y = .slice es sp ∧ es.length = n) : n ≤ Rows.uptoBulk y := by
  rcases h with ⟨_, h⟩ | ⟨es, sp, rfl, h⟩
  · omega
  · have h3 := bulk_len es
    simp only [Rows.uptoBulk]
    omega
theorem bulk_two {H : Type} (x y : DataW H) : Rows.uptoBulk x ≤ Rows.uptoBulk (.agg [x, y]) ∧ Rows.uptoBulk y ≤ Rows.uptoBulk (.agg [x, y]) := by
  simp only [Rows.uptoBulk, Rows.uptoBulkAll]
  omega
theorem small_mem {H : Type} {l : List (DataW H)} {d : DataW H} (hk : Rows.uptoSmall H l = true) (hd : d ∈ l) : Rows.uptoBulk d ≤ 1048576 := Nat.le_trans (bulk_mem hd) (of_decide_eq_true hk)
set_option maxRecDepth 100000 in
theorem open_int_cells {H : Type} {enc : TypeId × Value → H} {W : World} {fuel : Nat} {c0 c1 : Value} {y : DataW H × List MemPlace}
    (h : DataW.trod enc Try.prog W 0 (fun _ => true) true fuel 25 [c0, c1] = some y) :
    ∃ (s : Bool) (A : Option Addr) (n c : Nat) (xs : List Nat), c0 = .bool s ∧ c1 = .slice A n c ∧ (n ≤ 70368744177664 → Rd W W.heap.size A n c xs) ∧ n ≤ Rows.uptoBulk y.1 := by
  obtain ⟨z0, z1, k', hx', _, g0, g1⟩ := ChangeShapes.trod_struct2 Try.underlying25 h
  have e0 : Try.prog.cellsOf 4 = 1 := by kernel_rfl
  have e1 : Try.prog.cellsOf 23 = 1 := by kernel_rfl
  have g0' : DataW.trod enc Try.prog W 0 (fun _ => true) true k' 4 [c0] = some z0 := by rw [← g0, e0]; rfl
  have g1' : DataW.trod enc Try.prog W 0 (fun _ => true) true k' 23 [c1] = some z1 := by rw [← g1, e1]; rfl
  obtain ⟨s, hs, _⟩ := DataW.trod_bool Try.underlying4 g0'
  obtain ⟨A, n, c, hc⟩ := Joins.slice_form Try.underlying23 g1'
  simp only [List.cons.injEq, and_true] at hs hc
  subst hs hc
  have a1 : DataW.trod enc Try.prog W 0 (fun _ => true) true k' 23 (Value.slice A n c).cells.toList = some (z1.1, z1.2) := g1'
  obtain ⟨xs, hR, hd⟩ := open_nat a1
  refine ⟨s, A, n, c, xs, rfl, rfl, hR, ?_⟩
  rw [hx']
  exact Nat.le_trans (slice_bulk hd) (bulk_two z0.1 z1.1).2
set_option maxRecDepth 100000 in
theorem open_rat3 {H : Type} {enc : TypeId × Value → H} {W : World} {fuel : Nat} {c0 c1 c2 : Value} {y : DataW H × List MemPlace}
    (hf : DataW.trod enc Try.prog W 0 (fun _ => true) true fuel 27 [c0, c1, c2] = some y) (hk : Rows.uptoBulk y.1 ≤ 1048576) :
    ∃ (x : Rc) (q : Rat), c0 = .bool x.s ∧ c1 = .slice x.A x.n x.c ∧ c2 = .slice x.B x.m x.d ∧ Rq W W.heap.size 1048576 x q := by
  obtain ⟨y0, y1, k, hx, _, h0, h1⟩ := ChangeShapes.trod_struct2 Try.underlying27 hf
  have h0' : DataW.trod enc Try.prog W 0 (fun _ => true) true k 25 [c0, c1] = some y0 := by rw [← h0, Try.cellsInt]; rfl
  have e1 : Try.prog.cellsOf 23 = 1 := by kernel_rfl
  have h1' : DataW.trod enc Try.prog W 0 (fun _ => true) true k 23 [c2] = some y1 := by rw [← h1, e1]; rfl
  obtain ⟨s, A, n, c, xs, rfl, rfl, hR, hn⟩ := open_int_cells h0'
  obtain ⟨B, m, e, hd⟩ := Joins.slice_form Try.underlying23 h1'
  simp only [List.cons.injEq, and_true] at hd
  subst hd
  have a2 : DataW.trod enc Try.prog W 0 (fun _ => true) true k 23 (Value.slice B m e).cells.toList = some (y1.1, y1.2) := h1'
  obtain ⟨ys, hR', hm⟩ := open_nat a2
  rw [hx] at hk
  have b1 := bulk_two y0.1 y1.1
  have b2 := slice_bulk hm
  have k1 : n ≤ 1048576 := Nat.le_trans (Nat.le_trans hn b1.1) hk
  have k2 : m ≤ 1048576 := Nat.le_trans (Nat.le_trans b2 b1.2) hk
  exact ⟨⟨s, A, n, c, B, m, e⟩, qv s (val xs) (val ys), rfl, rfl, rfl, xs, ys, hR (by omega), hR' (by omega), k1, k2, rfl⟩
set_option maxRecDepth 100000 in
theorem open_rat_q {H : Type} {enc : TypeId × Value → H} {W : World} {r : Reach} {b0 : Nat} {v : Value} {d : DataW H} {p : List MemPlace}
    (hv : Value.okWide Try.prog W r b0 27 v) (h : DataW.Trod enc Try.prog W 0 (fun _ => true) true 27 v d p) (hk : Rows.uptoBulk d ≤ 1048576) :
    ∃ (x : Rc) (q : Rat), v = .agg #[.bool x.s, .slice x.A x.n x.c, .slice x.B x.m x.d] ∧ Rq W W.heap.size 1048576 x q := by
  obtain ⟨cs, rfl, hsz⟩ := okWide_struct Try.underlying27 hv
  obtain ⟨c0, c1, c2, rfl⟩ := Joins.array3 (hsz.trans Try.cellsRat)
  obtain ⟨fuel, hf⟩ := h
  obtain ⟨x, q, rfl, rfl, rfl, hq⟩ := open_rat3 (show DataW.trod enc Try.prog W 0 (fun _ => true) true fuel 27 [c0, c1, c2] = some (d, p) from hf) hk
  exact ⟨x, q, rfl, hq⟩
set_option maxRecDepth 100000 in
theorem Try.cellsSpan : Try.prog.cellsOf 29 = 6 := by kernel_rfl
set_option maxRecDepth 100000 in
theorem Try.readSpan : Try.prog.readableRec 29 = true := by kernel_rfl
set_option maxRecDepth 100000 in
theorem Try.typesSpan : 29 < Try.prog.types.size := of_decide_eq_true (by kernel_rfl)
theorem array6 {α : Type} {cs : Array α} (h : cs.size = 6) : ∃ a b c d e f, cs = #[a, b, c, d, e, f] := by
  obtain ⟨l⟩ := cs
  match l, h with
  | [a, b, c, d, e, f], _ => exact ⟨a, b, c, d, e, f, rfl⟩
set_option maxRecDepth 100000 in
theorem open_span_q {H : Type} {enc : TypeId × Value → H} {W : World} {r : Reach} {b0 : Nat} {v : Value} {d : DataW H} {p : List MemPlace}
    (hv : Value.okWide Try.prog W r b0 29 v) (h : DataW.Trod enc Try.prog W 0 (fun _ => true) true 29 v d p) (hk : Rows.uptoBulk d ≤ 1048576) :
    ∃ (x y : Rc) (q q' : Rat), v = .agg #[.bool x.s, .slice x.A x.n x.c, .slice x.B x.m x.d, .bool y.s, .slice y.A y.n y.c, .slice y.B y.m y.d] ∧ Rq W W.heap.size 1048576 x q ∧ Rq W W.heap.size 1048576 y q' := by
  obtain ⟨cs, rfl, hsz⟩ := okWide_struct Try.underlying29 hv
  obtain ⟨c0, c1, c2, c3, c4, c5, rfl⟩ := array6 (hsz.trans Try.cellsSpan)
  obtain ⟨fuel, hf⟩ := h
  have hf' : DataW.trod enc Try.prog W 0 (fun _ => true) true fuel 29 [c0, c1, c2, c3, c4, c5] = some (d, p) := hf
  obtain ⟨y0, y1, k, hx, _, h0, h1⟩ := ChangeShapes.trod_struct2 Try.underlying29 hf'
  have h0' : DataW.trod enc Try.prog W 0 (fun _ => true) true k 27 [c0, c1, c2] = some y0 := by rw [← h0, Try.cellsRat]; rfl
  have h1' : DataW.trod enc Try.prog W 0 (fun _ => true) true k 27 [c3, c4, c5] = some y1 := by rw [← h1, Try.cellsRat]; rfl
  simp only [Prod.mk.injEq] at hx
  obtain ⟨rfl, _⟩ := hx
  have b := bulk_two y0.1 y1.1
  obtain ⟨x, q, rfl, rfl, rfl, hq⟩ := open_rat3 h0' (Nat.le_trans b.1 hk)
  obtain ⟨y, q', rfl, rfl, rfl, hq'⟩ := open_rat3 h1' (Nat.le_trans b.2 hk)
  exact ⟨x, y, q, q', rfl, hq, hq'⟩
end Go.Proofs.Ytogafnfpncbgiaa

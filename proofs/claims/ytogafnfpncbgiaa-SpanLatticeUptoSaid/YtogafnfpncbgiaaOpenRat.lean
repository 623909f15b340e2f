/-
  From an argument of type api.Ratio to two numbers that can be read.
-/
import Derived.Test.YtogafnfpncbgiaaOpens
import Derived.Test.YtogafnfpncbgiaaRatA
namespace Go.Proofs.Ytogafnfpncbgiaa
open Go.ChangeShapes Go.WideShapes Go.ChangeAt Go.RowKit

set_option maxRecDepth 100000 in
theorem Try.cellsRat : Try.prog.cellsOf 27 = 3 := by kernel_rfl
set_option maxRecDepth 100000 in
theorem Try.readRat : Try.prog.readableRec 27 = true := by kernel_rfl
set_option maxRecDepth 100000 in
theorem Try.typesRat : 27 < Try.prog.types.size := of_decide_eq_true (by kernel_rfl)

set_option maxRecDepth 100000 in
theorem open_rat_cells {H : Type} {enc : TypeId × Value → H} {W : World} {fuel : Nat} {c0 c1 c2 : Value} {y : DataW H × List MemPlace}
    (hf : DataW.trod enc Try.prog W 0 (fun _ => true) true fuel 27 [c0, c1, c2] = some y) :
    ∃ (s : Bool) (A : Option Addr) (n c : Nat) (xs : List Nat) (B : Option Addr) (m d : Nat) (ys : List Nat), c0 = .bool s ∧ c1 = .slice A n c ∧ c2 = .slice B m d ∧ (n ≤ 70368744177664 → Rd W W.heap.size A n c xs) ∧ (m ≤ 70368744177664 → Rd W W.heap.size B m d ys) := by
  obtain ⟨y0, y1, k, hx, _, h0, h1⟩ := ChangeShapes.trod_struct2 Try.underlying27 hf
  have h0' : DataW.trod enc Try.prog W 0 (fun _ => true) true k 25 [c0, c1] = some y0 := by rw [← h0, Try.cellsInt]; rfl
  obtain ⟨z0, z1, k', hx', _, g0, g1⟩ := ChangeShapes.trod_struct2 Try.underlying25 h0'
  have e0 : Try.prog.cellsOf 4 = 1 := by kernel_rfl
  have e1 : Try.prog.cellsOf 23 = 1 := by kernel_rfl
  have g0' : DataW.trod enc Try.prog W 0 (fun _ => true) true k' 4 [c0] = some z0 := by rw [← g0, e0]; rfl
  have g1' : DataW.trod enc Try.prog W 0 (fun _ => true) true k' 23 [c1] = some z1 := by rw [← g1, e1]; rfl
  have h1' : DataW.trod enc Try.prog W 0 (fun _ => true) true k 23 [c2] = some y1 := by rw [← h1, e1]; rfl
  obtain ⟨s, hs, _⟩ := DataW.trod_bool Try.underlying4 g0'
  obtain ⟨A, n, c, hc⟩ := Joins.slice_form Try.underlying23 g1'
  obtain ⟨B, m, d, hd⟩ := Joins.slice_form Try.underlying23 h1'
  simp only [List.cons.injEq, and_true] at hs hc hd
  subst hs hc hd
  have a1 : DataW.trod enc Try.prog W 0 (fun _ => true) true k' 23 (Value.slice A n c).cells.toList = some (z1.1, z1.2) := g1'
  have a2 : DataW.trod enc Try.prog W 0 (fun _ => true) true k 23 (Value.slice B m d).cells.toList = some (y1.1, y1.2) := h1'
  obtain ⟨xs, hR, _⟩ := open_nat a1
  obtain ⟨ys, hR', _⟩ := open_nat a2
  exact ⟨s, A, n, c, xs, B, m, d, ys, rfl, rfl, rfl, hR, hR'⟩
set_option maxRecDepth 100000 in
theorem open_rat_agg {H : Type} {enc : TypeId × Value → H} {W : World} {r : Reach} {b0 : Nat} {v : Value} {d : DataW H} {p : List MemPlace}
    (hv : Value.okWide Try.prog W r b0 27 v) (h : DataW.Trod enc Try.prog W 0 (fun _ => true) true 27 v d p) :
    ∃ (s : Bool) (A : Option Addr) (n c : Nat) (xs : List Nat) (B : Option Addr) (m d : Nat) (ys : List Nat), v = .agg #[.bool s, .slice A n c, .slice B m d] ∧ (n ≤ 70368744177664 → Rd W W.heap.size A n c xs) ∧ (m ≤ 70368744177664 → Rd W W.heap.size B m d ys) := by
  obtain ⟨cs, rfl, hsz⟩ := okWide_struct Try.underlying27 hv
  obtain ⟨c0, c1, c2, rfl⟩ := Joins.array3 (hsz.trans Try.cellsRat)
  obtain ⟨fuel, hf⟩ := h
  obtain ⟨s, A, n, c, xs, B, m, d, ys, rfl, rfl, rfl, hR, hR'⟩ := open_rat_cells (show DataW.trod enc Try.prog W 0 (fun _ => true) true fuel 27 [c0, c1, c2] = some _ from hf)
  exact ⟨s, A, n, c, xs, B, m, d, ys, rfl, hR, hR'⟩

end Go.Proofs.Ytogafnfpncbgiaa

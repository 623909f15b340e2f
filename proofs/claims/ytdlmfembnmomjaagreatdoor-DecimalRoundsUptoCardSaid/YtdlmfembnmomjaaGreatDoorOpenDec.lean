/-
  From arguments of type api.Ratio and api.Decimal to numbers that can be read, with a bound on their lengths; the library's tables in a world.
-/
import Derived.Test.YtdlmfembnmomjaaGreatDoorOpenRat
import Derived.Test.YtdlmfembnmomjaaGreatDoorCards
import Derived.Test.YtdlmfembnmomjaaGreatDoorTie
import Derived.Deep.DeepHandedRow
import Derived.Lib.LaidTab
namespace Go.Proofs.YtdlmfembnmomjaaGreatDoor
open Go.ChangeShapes Go.WideShapes Go.ChangeAt Go.RowKit

theorem slice_bulk {H : Type} {y : DataW H} {n : Nat} (h : (y = .nil ∧ n = 0) ∨ ∃ es sp, y = .slice es sp ∧ es.length = n) : n ≤ Rows.uptoBulk y := by
  rcases h with ⟨_, h⟩ | ⟨es, sp, rfl, h⟩
  · omega
  · have h3 := bulk_len es
    simp only [Rows.uptoBulk]
    omega
theorem bulk_two {H : Type} (x y : DataW H) : Rows.uptoBulk x ≤ Rows.uptoBulk (.agg [x, y]) ∧ Rows.uptoBulk y ≤ Rows.uptoBulk (.agg [x, y]) := by
  simp only [Rows.uptoBulk, Rows.uptoBulkAll]
  omega
theorem small_mem {H : Type} {l : List (DataW H)} {d : DataW H} (hk : Rows.uptoSmall H l = true) (hd : d ∈ l) : Rows.uptoBulk d ≤ 1048576 := Nat.le_trans (bulk_mem hd) (of_decide_eq_true hk)
set_option maxRecDepth 100000 in
theorem open_int_cells {H : Type} {enc : TypeId × Value → H} {W : World} {fuel : Nat} {c0 c1 : Value} {y : DataW H × List MemPlace}
    (h : DataW.trod enc Tryz.prog W 0 (fun _ => true) true fuel 25 [c0, c1] = some y) :
    ∃ (s : Bool) (A : Option Addr) (n c : Nat) (xs : List Nat), c0 = .bool s ∧ c1 = .slice A n c ∧ (n ≤ 70368744177664 → Rd W W.heap.size A n c xs) ∧ n ≤ Rows.uptoBulk y.1 := by
  obtain ⟨z0, z1, k', hx', _, g0, g1⟩ := ChangeShapes.trod_struct2 Tryz.underlying25 h
  have e0 : Tryz.prog.cellsOf 4 = 1 := by kernel_rfl
  have e1 : Tryz.prog.cellsOf 23 = 1 := by kernel_rfl
  have g0' : DataW.trod enc Tryz.prog W 0 (fun _ => true) true k' 4 [c0] = some z0 := by rw [← g0, e0]; rfl
  have g1' : DataW.trod enc Tryz.prog W 0 (fun _ => true) true k' 23 [c1] = some z1 := by rw [← g1, e1]; rfl
  obtain ⟨s, hs, _⟩ := DataW.trod_bool Tryz.underlying4 g0'
  obtain ⟨A, n, c, hc⟩ := Joins.slice_form Tryz.underlying23 g1'
  simp only [List.cons.injEq, and_true] at hs hc
  subst hs hc
  have a1 : DataW.trod enc Tryz.prog W 0 (fun _ => true) true k' 23 (Value.slice A n c).cells.toList = some (z1.1, z1.2) := g1'
  obtain ⟨xs, hR, hd⟩ := open_nat a1
  refine ⟨s, A, n, c, xs, rfl, rfl, hR, ?_⟩
  rw [hx']
  exact Nat.le_trans (slice_bulk hd) (bulk_two z0.1 z1.1).2
set_option maxRecDepth 100000 in
theorem open_rat_up {H : Type} {enc : TypeId × Value → H} {W : World} {r : Reach} {b0 : Nat} {v : Value} {d : DataW H} {p : List MemPlace}
    (hv : Value.okWide Tryz.prog W r b0 27 v) (h : DataW.Trod enc Tryz.prog W 0 (fun _ => true) true 27 v d p) :
    ∃ (s : Bool) (A : Option Addr) (n c : Nat) (xs : List Nat) (B : Option Addr) (m e : Nat) (ys : List Nat), v = .agg #[.bool s, .slice A n c, .slice B m e] ∧ (n ≤ 70368744177664 → Rd W W.heap.size A n c xs) ∧ (m ≤ 70368744177664 → Rd W W.heap.size B m e ys) ∧ n ≤ Rows.uptoBulk d ∧ m ≤ Rows.uptoBulk d := by
  obtain ⟨cs, rfl, hsz⟩ := okWide_struct Tryz.underlying27 hv
  obtain ⟨c0, c1, c2, rfl⟩ := Joins.array3 (hsz.trans Tryz.cellsRat)
  obtain ⟨fuel, hf⟩ := h
  have hf' : DataW.trod enc Tryz.prog W 0 (fun _ => true) true fuel 27 [c0, c1, c2] = some (d, p) := hf
  obtain ⟨y0, y1, k, hx, _, h0, h1⟩ := ChangeShapes.trod_struct2 Tryz.underlying27 hf'
  have h0' : DataW.trod enc Tryz.prog W 0 (fun _ => true) true k 25 [c0, c1] = some y0 := by rw [← h0, Tryz.cellsInt]; rfl
  have e1 : Tryz.prog.cellsOf 23 = 1 := by kernel_rfl
  have h1' : DataW.trod enc Tryz.prog W 0 (fun _ => true) true k 23 [c2] = some y1 := by rw [← h1, e1]; rfl
  obtain ⟨s, A, n, c, xs, rfl, rfl, hR, hn⟩ := open_int_cells h0'
  obtain ⟨B, m, e, hd⟩ := Joins.slice_form Tryz.underlying23 h1'
  simp only [List.cons.injEq, and_true] at hd
  subst hd
  have a2 : DataW.trod enc Tryz.prog W 0 (fun _ => true) true k 23 (Value.slice B m e).cells.toList = some (y1.1, y1.2) := h1'
  obtain ⟨ys, hR', hm⟩ := open_nat a2
  simp only [Prod.mk.injEq] at hx
  obtain ⟨rfl, _⟩ := hx
  exact ⟨s, A, n, c, xs, B, m, e, ys, rfl, hR, hR', Nat.le_trans hn (bulk_two y0.1 y1.1).1, Nat.le_trans (slice_bulk hm) (bulk_two y0.1 y1.1).2⟩
set_option maxRecDepth 100000 in
theorem Tryz.cellsDec : Tryz.prog.cellsOf 29 = 3 := by kernel_rfl
set_option maxRecDepth 100000 in
theorem Tryz.readDec : Tryz.prog.readableRec 29 = true := by kernel_rfl
set_option maxRecDepth 100000 in
theorem Tryz.typesDec : 29 < Tryz.prog.types.size := of_decide_eq_true (by kernel_rfl)
set_option maxRecDepth 100000 in
theorem open_dec_up {H : Type} {enc : TypeId × Value → H} {W : World} {r : Reach} {b0 : Nat} {v : Value} {d : DataW H} {p : List MemPlace}
    (hv : Value.okWide Tryz.prog W r b0 29 v) (h : DataW.Trod enc Tryz.prog W 0 (fun _ => true) true 29 v d p) :
    ∃ (s : Bool) (A : Option Addr) (n c : Nat) (xs : List Nat) (i : Int), v = .agg #[.bool s, .slice A n c, .int .i64 i] ∧ (n ≤ 70368744177664 → Rd W W.heap.size A n c xs) ∧ n ≤ Rows.uptoBulk d := by
  obtain ⟨cs, rfl, hsz⟩ := okWide_struct Tryz.underlying29 hv
  obtain ⟨c0, c1, c2, rfl⟩ := Joins.array3 (hsz.trans Tryz.cellsDec)
  obtain ⟨fuel, hf⟩ := h
  have hf' : DataW.trod enc Tryz.prog W 0 (fun _ => true) true fuel 29 [c0, c1, c2] = some (d, p) := hf
  obtain ⟨y0, y1, k, hx, _, h0, h1⟩ := ChangeShapes.trod_struct2 Tryz.underlying29 hf'
  have h0' : DataW.trod enc Tryz.prog W 0 (fun _ => true) true k 25 [c0, c1] = some y0 := by rw [← h0, Tryz.cellsInt]; rfl
  have e1 : Tryz.prog.cellsOf 3 = 1 := by kernel_rfl
  have h1' : DataW.trod enc Tryz.prog W 0 (fun _ => true) true k 3 [c2] = some y1 := by rw [← h1, e1]; rfl
  obtain ⟨s, A, n, c, xs, rfl, rfl, hR, hn⟩ := open_int_cells h0'
  obtain ⟨i, hi, _, _⟩ := DataW.trod_int Tryz.underlying3 h1'
  simp only [List.cons.injEq, and_true] at hi
  subst hi
  simp only [Prod.mk.injEq] at hx
  obtain ⟨rfl, _⟩ := hx
  exact ⟨s, A, n, c, xs, i, rfl, hR, Nat.le_trans hn (bulk_two y0.1 y1.1).1⟩

/-- the library's tables, as their initialisers lay them -/
def firstCells : Array Value := (Go.Pinned.utf8FirstZ.map fun n : Nat => Value.int .u8 (n : Int)).toArray
def rangeCells : Array Value := (([128, 191, 160, 191, 128, 159, 144, 191, 128, 143] ++ List.replicate 22 0).map fun n : Nat => Value.int .u8 (n : Int)).toArray
def withCells (c : Array Value) : Obj → Obj
  | .cells _ t frozen => .cells c t frozen
  | o => o
/-- a world for the witness: the settled one, with both tables -/
noncomputable def laidWorld (os : Os) : World :=
  { World.holding Tryz.prog os ⟨#[], #[], []⟩ with heap := ((World.holding Tryz.prog os ⟨#[], #[], []⟩).heap.modify 1 (withCells firstCells)).modify 2 (withCells rangeCells) }
end Go.Proofs.YtdlmfembnmomjaaGreatDoor

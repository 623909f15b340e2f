/-
  From an argument of type []int to a list that can be read.
-/
import Derived.Test.YtdihgmbldnekhaaOpens
import Derived.Test.YtdihgmbldnekhaaCombX
namespace Go.Proofs.Ytdihgmbldnekhaa
open Go.ChangeShapes Go.WideShapes Go.ChangeAt Go.RowKit

set_option maxRecDepth 100000 in
theorem Try.cellsOne : Try.prog.cellsOf 3 = 1 := by kernel_rfl
set_option maxRecDepth 100000 in
theorem Try.bytesOne : Try.prog.bytesOf 3 = 8 := by kernel_rfl
set_option maxRecDepth 100000 in
theorem Try.readList : Try.prog.readableRec 54 = true := by kernel_rfl
set_option maxRecDepth 100000 in
theorem Try.typesList : 54 < Try.prog.types.size := of_decide_eq_true (by kernel_rfl)
theorem wf_i64 {n : Int} (h : (Lit.int .i64 n).wf = true) : I64 n := by
  have h1 := bounds_i64 h
  exact ⟨by omega, by omega⟩
/-- An argument of type []int, nil or not: its numbers; what it reads as; a bound on its length makes it a list that can be read. -/
theorem open_list {H : Type} {enc : TypeId × Value → H} {W : World} {fuel : Nat} {a0 : Option Addr} {len cap : Nat} {d : DataW H} {p : List MemPlace}
    (hf : DataW.trod enc Try.prog W 0 (fun _ => true) true fuel 54 (Value.slice a0 len cap).cells.toList = some (d, p)) :
    ∃ xs : List Int, (len ≤ 70368744177664 → RdI W W.heap.size a0 len cap xs) ∧ ((d = .nil ∧ len = 0) ∨ ∃ es sp, d = .slice es sp ∧ es.length = len) := by
  rcases open_ints Try.underlying54 Try.underlying3 Try.cellsOne hf with ⟨hcs, hx⟩ | ⟨a, len', cap', zs, hcs, _, hl, hm, hz, hx, hcell, hwz⟩
  · simp [Value.cells] at hcs
    obtain ⟨rfl, rfl, rfl⟩ := hcs
    simp only [Prod.mk.injEq] at hx
    exact ⟨[], fun _ => RdI.empty _ _ _ (by omega), Or.inl ⟨hx.1, rfl⟩⟩
  · simp [Value.cells] at hcs
    obtain ⟨rfl, rfl, rfl⟩ := hcs
    simp only [Prod.mk.injEq] at hx
    simp only [if_true] at hz
    refine ⟨zs.take len, fun hbig => ⟨by simp; omega, fun j => ?_, hl, hbig, ?_, fun h0 => ⟨_, rfl, ?_, fun j hj => ?_⟩⟩, Or.inr ⟨_, _, hx.1, by simp [lits]; omega⟩⟩
    · by_cases hj : j < len
      · have e : li (zs.take len) j = zs.getD j 0 := by simp [li, List.getD, hj]
        rw [e]
        exact wf_i64 (hwz (zs.getD j 0) (by simp [List.getD, show j < zs.length by omega]))
      · have e : li (zs.take len) j = 0 := by
          rw [li, List.getD, List.getElem?_eq_none (by rw [List.length_take]; omega)]
          rfl
        rw [e]
        exact ⟨by omega, by omega⟩
    · simp only [maxLen] at hm; omega
    · have := World.block_lt_of_cell? W _ (hcell 0 (by omega))
      rwa [block_add] at this
    · rw [hcell j (by omega)]
      have e : li (zs.take len) j = zs.getD j 0 := by simp [li, List.getD, hj]
      rw [e]
theorem reach_list {H : Type} {ts : List TypeId} {ds : List (DataW H)} (h : (DataW.weightsEach Try.prog ts ds).all (· ≤ reachBytes) = true) {j : Nat} {d : DataW H} {len : Nat} (ht : ts[j]? = some 54) (hj : ds[j]? = some d)
    (hd : (d = .nil ∧ len = 0) ∨ ∃ es sp, d = .slice es sp ∧ es.length = len) : len ≤ 17592186044416 := by
  rcases hd with ⟨_, h0⟩ | ⟨es, sp, rfl, h0⟩
  · omega
  · have := sized_slice h ht hj Try.underlying54
    rw [Try.bytesOne] at this
    simp only [reachBytes] at this
    omega
end Go.Proofs.Ytdihgmbldnekhaa

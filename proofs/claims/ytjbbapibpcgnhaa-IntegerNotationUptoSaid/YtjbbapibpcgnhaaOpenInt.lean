/-
  From an argument of type api.Int to a sign and a magnitude that can be read.
-/
import Derived.Test.YtjbbapibpcgnhaaOpen
import Derived.Test.YtjbbapibpcgnhaaInt
namespace Go.Proofs.Ytjbbapibpcgnhaa
open Go.ChangeShapes Go.WideShapes Go.ChangeAt Go.RowKit

theorem Try.cellsInt : Try.prog.cellsOf 25 = 2 := by kernel_rfl
theorem Try.readInt : Try.prog.readableRec 25 = true := by kernel_rfl
theorem Try.typesInt : 25 < Try.prog.types.size := of_decide_eq_true (by kernel_rfl)

theorem open_int_agg {H : Type} {enc : TypeId × Value → H} {W : World} {r : Reach} {b0 : Nat} {v : Value} {d : DataW H} {p : List MemPlace}
    (hv : Value.okWide Try.prog W r b0 25 v) (h : DataW.Trod enc Try.prog W 0 (fun _ => true) true 25 v d p) :
    ∃ (s : Bool) (A : Option Addr) (n c : Nat) (xs : List Nat), v = .agg #[.bool s, .slice A n c] ∧ (n ≤ 70368744177664 → Rd W W.heap.size A n c xs) ∧
      ∃ y : DataW H, d = .agg [.lit (.bool s), y] ∧ ((y = .nil ∧ n = 0) ∨ ∃ es sp, y = .slice es sp ∧ es.length = n) := by
  obtain ⟨v0, v1, y0, y1, k, rfl, rfl, _, h0, h1⟩ := Joins.open_agg2 Try.underlying25 (by kernel_rfl) Try.cellsInt hv h
  obtain ⟨s, hs, hy⟩ := DataW.trod_bool Try.underlying4 h0
  obtain ⟨A, n, c, hc⟩ := Joins.slice_form Try.underlying23 h1
  simp only [List.cons.injEq, and_true] at hs hc
  subst hs hc
  have hf : DataW.trod enc Try.prog W 0 (fun _ => true) true k 23 (Value.slice A n c).cells.toList = some (y1.1, y1.2) := h1
  obtain ⟨xs, hR, hd⟩ := open_nat hf
  refine ⟨s, A, n, c, xs, rfl, hR, y1.1, ?_, hd⟩
  rw [hy]
theorem bulk_int {H : Type} {l : List (DataW H)} {x y : DataW H} {len : Nat} (hk : Rows.uptoSmall H l = true) (hd : DataW.agg [x, y] ∈ l) (h : (y = .nil ∧ len = 0) ∨ ∃ es sp, y = .slice es sp ∧ es.length = len) : len ≤ 1048576 := by
  have h1 : Rows.uptoBulkAll l ≤ 1048576 := of_decide_eq_true hk
  have h2 := bulk_mem hd
  rcases h with ⟨_, h⟩ | ⟨es, sp, rfl, h⟩
  · omega
  · have h3 := bulk_len es
    simp only [Rows.uptoBulk, Rows.uptoBulkAll] at h2
    omega
theorem reach_int {H : Type} {ts : List TypeId} {ds : List (DataW H)} (h : (DataW.weightsEach Try.prog ts ds).all (· ≤ reachBytes) = true) {j : Nat} {x y : DataW H} {len : Nat} (ht : ts[j]? = some 25) (hj : ds[j]? = some (.agg [x, y]))
    (hd : (y = .nil ∧ len = 0) ∨ ∃ es sp, y = .slice es sp ∧ es.length = len) : len ≤ 35184372087808 := by
  rcases hd with ⟨_, h0⟩ | ⟨es, sp, rfl, h0⟩
  · omega
  · have := List.all_eq_true.1 h _ (DataW.weights_mem_each ht hj ((es.length + sp.length) * Try.prog.bytesOf 51) (by
      simp [DataW.weights, DataW.weightsEach, Try.underlying25, Try.underlying23]))
    have h2 : (es.length + sp.length) * Try.prog.bytesOf 51 ≤ reachBytes := by simpa using this
    rw [Try.bytesLimb] at h2
    simp only [reachBytes] at h2
    omega

end Go.Proofs.Ytjbbapibpcgnhaa

/-
  Open, OpenInt.
-/
import Derived.Test.YtdihgmbldnekhaaNatMem
import Derived.ProofKit
import Derived.OpenShut
import Derived.SizedLaws
import Derived.JoinedCond
import Derived.Deep.CondSized
import Derived.Test.YtdihgmbldnekhaaIntA
namespace Go.Proofs.Ytdihgmbldnekhaa
section
open Go.ChangeShapes Go.WideShapes Go.ChangeAt Go.RowKit

theorem Try.own : ownKnob Try.prog.godebug = none := by kernel_rfl
theorem Try.laidOut : laidOutB Try.prog = true := by kernel_rfl
theorem Try.cellsLimb : Try.prog.cellsOf 39 = 1 := by kernel_rfl
theorem Try.bytesLimb : Try.prog.bytesOf 39 = 4 := by kernel_rfl
theorem Try.readNat : Try.prog.readableRec 23 = true := by kernel_rfl
theorem Try.typesNat : 23 < Try.prog.types.size := of_decide_eq_true (by kernel_rfl)

theorem wf_u32 {n : Int} (h : (Lit.int .u32 n).wf = true) : 0 ≤ n ∧ n < 4294967296 := by
  have h1 := bounds_u32 h
  omega

/-- An argument of type api.Nat, nil or not: its limbs; what it reads as; a bound on its length makes it a number that can be read. -/
theorem open_nat {H : Type} {enc : TypeId × Value → H} {W : World} {fuel : Nat} {a0 : Option Addr} {len cap : Nat} {d : DataW H} {p : List MemPlace}
    (hf : DataW.trod enc Try.prog W 0 (fun _ => true) true fuel 23 (Value.slice a0 len cap).cells.toList = some (d, p)) :
    ∃ xs : List Nat, (len ≤ 70368744177664 → Rd W W.heap.size a0 len cap xs) ∧ ((d = .nil ∧ len = 0) ∨ ∃ es sp, d = .slice es sp ∧ es.length = len) := by
  rcases open_ints Try.underlying23 Try.underlying39 Try.cellsLimb hf with ⟨hcs, hx⟩ | ⟨a, len', cap', zs, hcs, _, hl, hm, hz, hx, hcell, hwz⟩
  · simp [Value.cells] at hcs
    obtain ⟨rfl, rfl, rfl⟩ := hcs
    simp only [Prod.mk.injEq] at hx
    exact ⟨[], fun _ => Rd.empty _ _ _ (by omega), Or.inl ⟨hx.1, rfl⟩⟩
  · simp [Value.cells] at hcs
    obtain ⟨rfl, rfl, rfl⟩ := hcs
    simp only [Prod.mk.injEq] at hx
    simp only [if_true] at hz
    have hw : ∀ j, j < zs.length → ∃ x : Nat, zs.getD j 0 = (x : Int) ∧ x < 4294967296 := by
      intro j hj
      have h1 := wf_u32 (hwz (zs.getD j 0) (by simp [List.getD, hj]))
      exact ⟨(zs.getD j 0).toNat, by omega, by omega⟩
    refine ⟨(zs.take len).map Int.toNat, fun hbig => ⟨by simp; omega, ?_, hl, hbig, ?_, fun h0 => ⟨_, rfl, ?_, fun j hj => ?_⟩⟩, Or.inr ⟨_, _, hx.1, by simp [lits]; omega⟩⟩
    · intro k
      by_cases hk : k < len
      · obtain ⟨x, e, hx⟩ := hw k (by omega)
        have e2 : lm ((zs.take len).map Int.toNat) k = (zs.getD k 0).toNat := by
          simp [lm, hk, show k < zs.length by omega]
        rw [e2]; omega
      · rw [lm_ge (by simp; omega)]; omega
    · simp only [maxLen] at hm; omega
    · have := World.block_lt_of_cell? W _ (hcell 0 (by omega))
      rwa [block_add] at this
    · obtain ⟨x, e, hx⟩ := hw j (by omega)
      rw [hcell j (by omega)]
      have e2 : lm ((zs.take len).map Int.toNat) j = (zs.getD j 0).toNat := by
        simp [lm, hj, show j < zs.length by omega]
      rw [e2, e]
      congr 2

/-- the bound on the bulk, on a slice's length -/
theorem bulk_one {H : Type} (d : DataW H) : 1 ≤ Rows.uptoBulk d := by
  cases d with
  | lit l => cases l <;> simp [Rows.uptoBulk]
  | _ => simp [Rows.uptoBulk]
theorem bulk_len {H : Type} (l : List (DataW H)) : l.length ≤ Rows.uptoBulkAll l := by
  induction l with
  | nil => simp
  | cons x r ih => have := bulk_one x; simp only [Rows.uptoBulkAll, List.length_cons]; omega
theorem bulk_mem {H : Type} {d : DataW H} {l : List (DataW H)} (h : d ∈ l) : Rows.uptoBulk d ≤ Rows.uptoBulkAll l := by
  induction l with
  | nil => cases h
  | cons x r ih =>
    simp only [Rows.uptoBulkAll]
    rcases List.mem_cons.1 h with e | e
    · subst e; omega
    · have := ih e; omega
theorem bulk_nat {H : Type} {l : List (DataW H)} {d : DataW H} {len : Nat} (hk : Rows.uptoSmall H l = true) (hd : d ∈ l) (h : (d = .nil ∧ len = 0) ∨ ∃ es sp, d = .slice es sp ∧ es.length = len) : len ≤ 1048576 := by
  have h1 : Rows.uptoBulkAll l ≤ 1048576 := of_decide_eq_true hk
  have h2 := bulk_mem hd
  rcases h with ⟨_, h⟩ | ⟨es, sp, rfl, h⟩
  · omega
  · have h3 := bulk_len es
    simp only [Rows.uptoBulk] at h2
    omega
theorem bulk_string {H : Type} {l : List (DataW H)} {s : ByteArray} (hk : Rows.uptoSmall H l = true) (hd : DataW.lit (.string s.data.toList) ∈ l) : s.size ≤ 1048576 := by
  have h1 : Rows.uptoBulkAll l ≤ 1048576 := of_decide_eq_true hk
  have h2 := bulk_mem hd
  simp only [Rows.uptoBulk] at h2
  have e : s.data.toList.length = s.size := by rw [Array.length_toList]; rfl
  omega
/-- the form's own reach, on a slice's length -/
theorem reach_nat {H : Type} {ts : List TypeId} {ds : List (DataW H)} (h : (DataW.weightsEach Try.prog ts ds).all (· ≤ reachBytes) = true) {j : Nat} {d : DataW H} {len : Nat} (ht : ts[j]? = some 23) (hj : ds[j]? = some d)
    (hd : (d = .nil ∧ len = 0) ∨ ∃ es sp, d = .slice es sp ∧ es.length = len) : len ≤ 35184372087808 := by
  rcases hd with ⟨_, h0⟩ | ⟨es, sp, rfl, h0⟩
  · omega
  · have := sized_slice h ht hj Try.underlying23
    rw [Try.bytesLimb] at this
    simp only [reachBytes] at this
    omega
end

section
open Go.ChangeShapes Go.WideShapes Go.ChangeAt Go.RowKit

set_option maxRecDepth 100000 in
theorem Try.cellsInt : Try.prog.cellsOf 25 = 2 := by kernel_rfl
theorem Try.readInt : Try.prog.readableRec 25 = true := by kernel_rfl
theorem Try.typesInt : 25 < Try.prog.types.size := of_decide_eq_true (by kernel_rfl)

set_option maxRecDepth 100000 in
theorem open_int_agg {H : Type} {enc : TypeId × Value → H} {W : World} {r : Reach} {b0 : Nat} {v : Value} {d : DataW H} {p : List MemPlace}
    (hv : Value.okWide Try.prog W r b0 25 v) (h : DataW.Trod enc Try.prog W 0 (fun _ => true) true 25 v d p) :
    ∃ (s : Bool) (A : Option Addr) (n c : Nat) (xs : List Nat), v = .agg #[.bool s, .slice A n c] ∧ (n ≤ 70368744177664 → Rd W W.heap.size A n c xs) ∧
      ∃ y : DataW H, d = .agg [.lit (.bool s), y] ∧ ((y = .nil ∧ n = 0) ∨ ∃ es sp, y = .slice es sp ∧ es.length = n) := by
  obtain ⟨v0, v1, y0, y1, k, rfl, rfl, _, h0, h1⟩ := Joins.open_agg2 Try.underlying25 (by kernel_rfl) Try.cellsInt hv h
  obtain ⟨s, hs, hy⟩ := DataW.trod_bool Try.underlying4 h0
  obtain ⟨A, n, c, hc⟩ := Joins.slice_form Try.underlying23 h1
  simp only [List.cons.injEq, and_true] at hs hc
  subst hs hc
  have hf : DataW.trod enc Try.prog W 0 (fun _ => true) true k 23 (Value.slice A n c).cells.toList = some (y1.1, y1.2) := h1
  obtain ⟨xs, hR, hd⟩ := open_nat hf
  refine ⟨s, A, n, c, xs, rfl, hR, y1.1, ?_, hd⟩
  rw [hy]
theorem bulk_int {H : Type} {l : List (DataW H)} {x y : DataW H} {len : Nat} (hk : Rows.uptoSmall H l = true) (hd : DataW.agg [x, y] ∈ l) (h : (y = .nil ∧ len = 0) ∨ ∃ es sp, y = .slice es sp ∧ es.length = len) : len ≤ 1048576 := by
  have h1 : Rows.uptoBulkAll l ≤ 1048576 := of_decide_eq_true hk
  have h2 := bulk_mem hd
  rcases h with ⟨_, h⟩ | ⟨es, sp, rfl, h⟩
  · omega
  · have h3 := bulk_len es
    simp only [Rows.uptoBulk, Rows.uptoBulkAll] at h2
    omega
theorem reach_int {H : Type} {ts : List TypeId} {ds : List (DataW H)} (h : (DataW.weightsEach Try.prog ts ds).all (· ≤ reachBytes) = true) {j : Nat} {x y : DataW H} {len : Nat} (ht : ts[j]? = some 25) (hj : ds[j]? = some (.agg [x, y]))
    (hd : (y = .nil ∧ len = 0) ∨ ∃ es sp, y = .slice es sp ∧ es.length = len) : len ≤ 35184372087808 := by
  rcases hd with ⟨_, h0⟩ | ⟨es, sp, rfl, h0⟩
  · omega
  · have := List.all_eq_true.1 h _ (DataW.weights_mem_each ht hj ((es.length + sp.length) * Try.prog.bytesOf 39) (by
      simp [DataW.weights, DataW.weightsEach, Try.underlying25, Try.underlying23]))
    have h2 : (es.length + sp.length) * Try.prog.bytesOf 39 ≤ reachBytes := by simpa using this
    rw [Try.bytesLimb] at h2
    simp only [reachBytes] at h2
    omega
end
end Go.Proofs.Ytdihgmbldnekhaa

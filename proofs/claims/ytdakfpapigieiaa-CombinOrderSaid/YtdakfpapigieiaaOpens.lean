/-
  Open, OpenInt.
-/
import Derived.Test.YtdakfpapigieiaaNatMem
import Derived.ProofKit
import Derived.OpenShut
import Derived.SizedLaws
import Derived.JoinedCond
import Derived.Deep.CondSized
import Derived.Test.YtdakfpapigieiaaIntA
namespace Go.Proofs.Ytdakfpapigieiaa
section
open Go.ChangeShapes Go.WideShapes Go.ChangeAt Go.RowKit

theorem Try.own : ownKnob Try.prog.godebug = none := by kernel_rfl
theorem Try.laidOut : laidOutB Try.prog = true := by kernel_rfl
theorem Try.cellsLimb : Try.prog.cellsOf 50 = 1 := by kernel_rfl
theorem Try.bytesLimb : Try.prog.bytesOf 50 = 4 := by kernel_rfl
theorem Try.readNat : Try.prog.readableRec 23 = true := by kernel_rfl
theorem Try.typesNat : 23 < Try.prog.types.size := of_decide_eq_true (by kernel_rfl)

theorem wf_u32 {n : Int} (h : (Lit.int .u32 n).wf = true) : 0 ≤ n ∧ n < 4294967296 := by
  have h1 := bounds_u32 h
  omega

/-- An argument of type api.Nat, nil or not: its limbs; what it reads as; a bound on its length makes it a number that can be read. -/
theorem open_nat {H : Type} {enc : TypeId × Value → H} {W : World} {fuel : Nat} {a0 : Option Addr} {len cap : Nat} {d : DataW H} {p : List MemPlace}
    (hf : DataW.trod enc Try.prog W 0 (fun _ => true) true fuel 23 (Value.slice a0 len cap).cells.toList = some (d, p)) :
    ∃ xs : List Nat, (len ≤ 70368744177664 → Rd W W.heap.size a0 len cap xs) ∧ ((d = .nil ∧ len = 0) ∨ ∃ es sp, d = .slice es sp ∧ es.length = len) := by
  rcases open_ints Try.underlying23 Try.underlying50 Try.cellsLimb hf with ⟨hcs, hx⟩ | ⟨a, len', cap', zs, hcs, _, hl, hm, hz, hx, hcell, hwz⟩
  · simp [Value.cells] at hcs
    obtain ⟨rfl, rfl, rfl⟩ := hcs
    simp only [Prod.mk.injEq] at hx
    exact ⟨[], fun _ => Rd.empty _ _ _ (by omega), Or.inl ⟨hx.1, rfl⟩⟩
  · simp [Value.cells] at hcs
    obtain ⟨rfl, rfl, rfl⟩ := hcs
    simp only [Prod.mk.injEq] at hx
    simp only [if_true] at hz
    have hw : ∀ j, j < zs.length → ∃ x : Nat, zs.getD j 0 = (x : Int) ∧ x < 4294967296 := by
      intro j hj
      have h1 := wf_u32 (hwz (zs.getD j 0) (by simp [List.getD, hj]))
      exact ⟨(zs.getD j 0).toNat, by omega, by omega⟩
    refine ⟨(zs.take len).map Int.toNat, fun hbig => ⟨by simp; omega, ?_, hl, hbig, ?_, fun h0 => ⟨_, rfl, ?_, fun j hj => ?_⟩⟩, Or.inr ⟨_, _, hx.1, by simp [lits]; omega⟩⟩
    · intro k
      by_cases hk : k < len
      · obtain ⟨x, e, hx⟩ := hw k (by omega)
        have e2 : lm ((zs.take len).map Int.toNat) k = (zs.getD k 0).toNat := by
          simp [lm, hk, show k < zs.length by omega]
        rw [e2]; omega
      · rw [lm_ge (by simp; omega)]; omega
    · simp only [maxLen] at hm; omega
    · have := World.block_lt_of_cell? W _ (hcell 0 (by omega))
      rwa [block_add] at this
    · obtain ⟨x, e, hx⟩ := hw j (by omega)
      rw [hcell j (by omega)]
      have e2 : lm ((zs.take len).map Int.toNat) j = (zs.getD j 0).toNat := by
        simp [lm, hj, show j < zs.length by omega]
      rw [e2, e]
      congr 2

/-- the bound on the bulk, on a slice's length -/
theorem bulk_one {H : Type} (d : DataW H) : 1 ≤ Rows.uptoBulk d := by
  cases d with
  | lit l => cases l <;> simp [Rows.uptoBulk]
  | _ => simp [Rows.uptoBulk]
theorem bulk_len {H : Type} (l : List (DataW H)) : l.length ≤ Rows.uptoBulkAll l := by
  induction l with
  | nil => simp
  | cons x r ih => have := bulk_one x; simp only [Rows.uptoBulkAll, List.length_cons]; omega
theorem bulk_mem {H : Type} {d : DataW H} {l : List (DataW H)} (h : d ∈ l) : Rows.uptoBulk d ≤ Rows.uptoBulkAll l := by
  induction l with
  | nil => cases h
  | cons x r ih =>
    simp only [Rows.uptoBulkAll]
    rcases List.mem_cons.1 h with e | e
    · subst e; omega
    · have := ih e; omega
theorem bulk_nat {H : Type} {l : List (DataW H)} {d : DataW H} {len : Nat} (hk : Rows.uptoSmall H l = true) (hd : d ∈ l) (h : (d = .nil ∧ len = 0) ∨ ∃ es sp, d = .slice es sp ∧ es.length = len) : len ≤ 1048576 := by
  have h1 : Rows.uptoBulkAll l ≤ 1048576 := of_decide_eq_true hk
  have h2 := bulk_mem hd
  rcases h with ⟨_, h⟩ | ⟨es, sp, rfl, h⟩
  · omega
  · have h3 := bulk_len es
    simp only [Rows.uptoBulk] at h2
    omega
theorem bulk_string {H : Type} {l : List (DataW H)} {s : ByteArray} (hk : Rows.uptoSmall H l = true) (hd : DataW.lit (.string s.data.toList) ∈ l) : s.size ≤ 1048576 := by
  have h1 : Rows.uptoBulkAll l ≤ 1048576 := of_decide_eq_true hk
  have h2 := bulk_mem hd
  simp only [Rows.uptoBulk] at h2
  have e : s.data.toList.length = s.size := by rw [Array.length_toList]; rfl
  omega
/-- the form's own reach, on a slice's length -/
theorem reach_nat {H : Type} {ts : List TypeId} {ds : List (DataW H)} (h : (DataW.weightsEach Try.prog ts ds).all (· ≤ reachBytes) = true) {j : Nat} {d : DataW H} {len : Nat} (ht : ts[j]? = some 23) (hj : ds[j]? = some d)
    (hd : (d = .nil ∧ len = 0) ∨ ∃ es sp, d = .slice es sp ∧ es.length = len) : len ≤ 35184372087808 := by
  rcases hd with ⟨_, h0⟩ | ⟨es, sp, rfl, h0⟩
  · omega
  · have := sized_slice h ht hj Try.underlying23
    rw [Try.bytesLimb] at this
    simp only [reachBytes] at this
    omega
end

section
open Go.ChangeShapes Go.WideShapes Go.ChangeAt Go.RowKit

theorem bulk_int {H : Type} {l : List (DataW H)} {x y : DataW H} {len : Nat} (hk : Rows.uptoSmall H l = true) (hd : DataW.agg [x, y] ∈ l) (h : (y = .nil ∧ len = 0) ∨ ∃ es sp, y = .slice es sp ∧ es.length = len) : len ≤ 1048576 := by
  have h1 : Rows.uptoBulkAll l ≤ 1048576 := of_decide_eq_true hk
  have h2 := bulk_mem hd
  rcases h with ⟨_, h⟩ | ⟨es, sp, rfl, h⟩
  · omega
  · have h3 := bulk_len es
    simp only [Rows.uptoBulk, Rows.uptoBulkAll] at h2
    omega
end
end Go.Proofs.Ytdakfpapigieiaa

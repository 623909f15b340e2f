/-
  From arguments of type []api.Ratio to lists: what they hold together, and nil.
-/
import Derived.Test.YtonpeagedggakaaOpenR
namespace Go.Proofs.Ytonpeagedggakaa
open Go.ChangeShapes Go.WideShapes Go.ChangeAt Go.RowKit

theorem small_two {H : Type} {x y : DataW H} (hk : Rows.uptoSmall H [x, y] = true) : Rows.uptoBulk x + Rows.uptoBulk y ≤ 1048576 := by
  have h : Rows.uptoBulkAll [x, y] ≤ 1048576 := of_decide_eq_true hk
  simp only [Rows.uptoBulkAll] at h
  omega
set_option maxRecDepth 100000 in
theorem open_rats_b {H : Type} {enc : TypeId × Value → H} {W : World} {fuel : Nat} {a0 : Option Addr} {len cap : Nat} {d : DataW H} {p : List MemPlace}
    (hf : DataW.trod enc Try.prog W 0 (fun _ => true) true fuel 22 (Value.slice a0 len cap).cells.toList = some (d, p)) (hk : Rows.uptoBulk d ≤ 1048576) :
    ∃ (X : Nat → Rc) (q : Nat → Rat), LQ (fun _ => false) W W.heap.size 1048576 a0 len cap X q ∧ len + szs X len ≤ Rows.uptoBulk d ∧ (a0 = none → len = 0 ∧ cap = 0) := by
  rcases Go.Deep.open_slice Try.underlying22 hf with ⟨hcs, hx⟩ | ⟨a, len', cap', m, n, D, Pl, hcs, hb, hl, hm, hmm, hx, hi⟩
  · simp [Value.cells] at hcs
    obtain ⟨rfl, rfl, rfl⟩ := hcs
    exact ⟨fun _ => zeroRc, fun _ => 0, LQ.empty _ _ _ _ _ (by omega) _ _, by simp [szs], fun _ => ⟨rfl, rfl⟩⟩
  · simp [Value.cells] at hcs
    obtain ⟨rfl, rfl, rfl⟩ := hcs
    simp only [Prod.mk.injEq] at hx
    obtain ⟨rfl, _⟩ := hx
    simp only [Rows.uptoBulk] at hk ⊢
    have key : ∀ i, i < len → ∃ y : Rc × Rat, AtQ W a i y.1 ∧ Rq W W.heap.size 1048576 y.1 y.2 ∧ y.1.n + y.1.m + 1 ≤ Rows.uptoBulk (D i) := by
      intro i hi'
      obtain ⟨cs', hc, ht'⟩ := hi i (by simp only [if_true] at hmm; omega)
      rw [Try.cellsRat] at hc
      obtain ⟨_, hcl, hat⟩ := World.cells?_some hc
      have hbi := bulk_mem (d := D i) (l := (List.range len).map D) (List.mem_map.2 ⟨i, List.mem_range.2 hi', rfl⟩)
      match cs', hcl with
      | [c0, c1, c2], _ =>
        obtain ⟨x, q, rfl, rfl, rfl, hq, hs⟩ := open_rat3s ht' (show Rows.uptoBulk (D i) ≤ 1048576 by omega)
        have e0 := hat 0 (by omega)
        have e1 := hat 1 (by omega)
        have e2 := hat 2 (by omega)
        rw [Go.Deep.add_add] at e0 e1 e2
        exact ⟨(x, q), ⟨e0, e1, e2⟩, hq, hs⟩
    have pick : ∃ Y : Nat → Rc × Rat, ∀ i, i < len → AtQ W a i (Y i).1 ∧ Rq W W.heap.size 1048576 (Y i).1 (Y i).2 ∧ (Y i).1.n + (Y i).1.m + 1 ≤ Rows.uptoBulk (D i) :=
      ⟨fun i => if h : i < len then Classical.choose (key i h) else (zeroRc, 0), fun i hi' => by
        simp only [dif_pos hi']
        exact Classical.choose_spec (key i hi')⟩
    obtain ⟨Y, hY⟩ := pick
    refine ⟨fun i => (Y i).1, fun i => (Y i).2, ⟨hl, by simp only [maxLen] at hm; omega, fun h0 => ⟨a, rfl, ?_, fun i hi' => (hY i hi').1⟩, fun i hi' => ⟨(hY i hi').2.1, fun e => by cases e⟩⟩, ?_, fun e => by cases e⟩
    · have := World.block_lt_of_cell? W _ (hY 0 h0).1.1
      rwa [block_add] at this
    · have h1 := szs_bulk1 (X := fun i => (Y i).1) (D := D) (n := len) fun i hi' => (hY i hi').2.2
      omega
end Go.Proofs.Ytonpeagedggakaa

/-
  The law's own functions: equal and permutation.
-/
import Derived.Test.YtdihgmbldnekhaaDrw5
import Derived.Deep.QuietTactic
import Derived.BigQuiet
namespace Go.Proofs.Ytdihgmbldnekhaa
open Go.RowKit Go.Builtin

set_option maxHeartbeats 1000000 in
theorem eqi_true (w : World) (Bd Bd' : Nat) (A A' : Option Addr) (n c n' c' : Nat) (xs ys : List Int) (hx : RdI w Bd A n c xs) (hy : RdI w Bd' A' n' c' ys) (he : xs = ys) :
    Calls Try.prog 34 #[.slice A n c, .slice A' n' c'] w (RetQ w (.bool true)) := by
  subst he
  obtain rfl : n = n' := by rw [← hx.len, ← hy.len]
  have hcap := hx.cap
  have hbig := hx.big
  have hcap' := hy.cap
  have hbig' := hy.big
  have HX := hide hx
  have HY := hide hy
  clear hx hy
  go_enter Try.func34, Try.ntmps34
  go_wp2
  go_loopw [13] (fun i wr => ∃ k : Nat, k ≤ n ∧ i = .int .i64 k ∧ ∃ q, wr = w.drewN q) (fun i _ => n - (intOf i).toNat)
  case atStart => exact ⟨0, Nat.zero_le _, rfl, 0, rfl⟩
  case round =>
    obtain ⟨k, hk, rfl, q, rfl⟩ := hrel
    by_cases hkl : k < n
    · obtain ⟨ad, rfl, hadb, hca⟩ := HX.out.at_ hkl
      obtain ⟨ad', rfl, hadb', hca'⟩ := HY.out.at_ hkl
      go_wp2_with fail
      go_quiet (fail)
      go_wp2
      go_roundw
      case rel => exact ⟨k + 1, by omega, by go_num, _, rfl⟩
      case measure => simp [intOf]; omega
    · have hkm : k = n := by omega
      subst hkm
      go_wp2
      go_ret
      exact ⟨rfl, q, rfl⟩
theorem eqi_p {w : World} {Bd Bd' n n' c c' : Nat} {A A' : Option Addr} {xs ys : List Int} (hx : RdI w Bd A n c xs) (hy : RdI w Bd' A' n' c' ys) (he : xs = ys) : Calls Try.prog 34 #[.slice A n c, .slice A' n' c'] w (RetB w (.bool true)) :=
  (eqi_true w Bd Bd' _ _ _ _ _ _ _ _ hx hy he).mono fun _ _ h => by
    obtain ⟨h1, q, rfl⟩ := h
    exact ⟨h1, below_drewN (Below.refl _ _) q⟩
/-- block g holds the n bools f -/
def OwnBL (w : World) (g n : Nat) (f : Nat → Bool) : Prop := ∃ cur, w.heap[g]? = some (.cells cur 4 (0, 0)) ∧ cur.size = n ∧ ∀ j, j < n → cur[j]? = some (.bool (f j))
theorem OwnBL.cell {w : World} {g n : Nat} {f : Nat → Bool} (h : OwnBL w g n f) {j : Nat} (hj : j < n) : w.cell? ⟨g, j, none⟩ = some (.bool (f j)) := by
  obtain ⟨cur, h1, h2, h3⟩ := h
  exact (cell_of_row w g j cur _ (0, 0) h1).trans (h3 j hj)
theorem OwnBL.frozen {w : World} {g n : Nat} {f : Nat → Bool} (h : OwnBL w g n f) (j : Nat) : w.frozen? ⟨g, j, none⟩ = false := by
  obtain ⟨cur, h1, _⟩ := h
  exact frozen_of_row w g j cur _ h1
theorem OwnBL.set {w : World} {g n : Nat} {f : Nat → Bool} (h : OwnBL w g n f) {k : Nat} (b : Bool) (f2 : Nat → Bool) (h2 : ∀ j, j < n → f2 j = if j = k then b else f j) (hk : k < n) : OwnBL (w.setCell ⟨g, k, none⟩ (.bool b)) g n f2 := by
  obtain ⟨cur, h1, h3, h4⟩ := h
  refine ⟨_, heap_setCell_same w g k cur _ _ h1, by simpa using h3, fun j hj => ?_⟩
  rw [Array.getElem?_setIfInBounds, h2 j hj]
  by_cases e : k = j
  · subst e; simp [h3, hk]
  · rw [if_neg e, if_neg (fun x => e x.symm)]; exact h4 j hj
theorem Try.infoBool : (Try.prog.info? 4).map (fun i => (i.zero, i.size, i.bytes)) = some (some (.bool false), 1, 1) := by kernel_rfl
/-- 'make([]bool, n)' -/
theorem wpList_make_bools {ops : Array Oper} {rest : List Oper} {o : Oper} {a : Act} {Q : Exit → Act → World → Prop} {w : World} (hg : o.guard = none) (l c : Operand) (hop : o.op = Op.makeSlice 99 l c)
    (kl kc : IntKind) (M C : Int) (n : Nat) (hl : a.eval l = .int kl M) (hc : a.eval c = .int kc C) (hM : M = (n : Int)) (hC : C = (n : Int)) (hn : n ≤ 17592186044416)
    (hK : ∀ w1, OwnBL w1 w.heap.size n (fun _ => false) → Below w.heap.size w w1 → wpList Try.prog ops Q rest (a.put o.dst (.slice (some ⟨w.heap.size, 0, none⟩) n n)) w1) : wpList Try.prog ops Q (o :: rest) a w := by
  obtain ⟨i0, hi, hz0, hz1, hz2⟩ := info_parts Try.infoBool
  subst hM hC
  refine wpList_plain hg fun K hK' => ?_
  have hr := run_make (P := Try.prog) w 99 4 i0 (.bool false) Try.underlying99 hi hz0 kl kc n n (by omega) (Int.le_refl _) (by rw [hz2]; omega) (by omega)
  simp only [Int.toNat_natCast, hz1, Nat.mul_one] at hr
  unfold Oper.wp
  simp [execOp, hop, hl, hc, hr, Result.andThen]
  refine hK' _ _ (hK _ ⟨_, heap_alloc_new w _, by simp [madeCells], fun j hj => ?_⟩ ((Below.refl _ _).alloc (Nat.le_refl _) _))
  simp [madeCells, Value.cells, hj, Nat.mod_one]
/-- which numbers stand among the first i -/
def seenB (l : List Int) (i j : Nat) : Bool := (List.range i).any fun k => li l k == (j : Int)
theorem seen_succ (l : List Int) (i j : Nat) : seenB l (i + 1) j = (seenB l i j || (li l i == (j : Int))) := by
  simp [seenB, List.range_succ]
theorem seen_not {n : Nat} {l : List Int} (h : PmI n l) {i y : Nat} (hi : i < n) (hy : li l i = (y : Int)) : seenB l i y = false := by
  unfold seenB
  rw [List.any_eq_false]
  intro k hk he
  have hk2 := List.mem_range.1 hk
  have e : li l k = li l i := by rw [hy]; simpa using he
  have := h.2.2 k i (by omega) hi e
  omega
set_option maxHeartbeats 4000000 in
set_option maxRecDepth 100000 in
theorem permutation_p {w : World} {Bd n c m : Nat} {A : Option Addr} {xs : List Int} (hx : RdI w Bd A n c xs) (hB : Bd ≤ w.heap.size) (hp : PmI m xs) (hm : m ≤ 1024) : Calls Try.prog 37 #[.slice A n c] w (RetB w (.bool true)) := by
  obtain rfl : m = n := by rw [← hp.1, hx.len]
  have hcap := hx.cap
  have hcb := hx.cbig
  have HX := hide (hx.more hB)
  have hP := hide hp
  have B := hide (Below.refl w.heap.size w)
  clear hx hB hp
  go_enter Try.func37, Try.ntmps37
  go_wp2_with (at_make; refine wpList_make_bools rfl _ _ rfl _ _ _ _ m rfl rfl rfl rfl (by omega) ?_; intro w1 hO hb)
  replace B := hide (Below.then_ B.out hb)
  clear hb
  obtain ⟨g, hg⟩ : ∃ g, g = w.heap.size := ⟨_, rfl⟩
  have hgo := hide (show w.heap.size ≤ g by omega)
  simp only [← hg] at hO ⊢
  replace hO := hide hO
  clear hg
  go_wp2
  go_loopw [11] (fun iv wr => ∃ i : Nat, i ≤ m ∧ iv = .int .i64 i ∧ Hid (OwnBL wr g m (seenB xs i)) ∧ Hid (Below w.heap.size w wr)) (fun iv _ => m - (intOf iv).toNat)
  case atStart => exact ⟨0, Nat.zero_le _, rfl, hide (show OwnBL _ g m (seenB xs 0) from hO.out), B⟩
  case round =>
    obtain ⟨i, hi, rfl, hO, B⟩ := hrel
    by_cases hil : i < m
    · have hi64 : (i : Int) < (m : Int) := by omega
      obtain ⟨ad, rfl, hadb, hca⟩ := (HX.out.then_ B.out).at_ hil
      have hb := hP.out.2.1 i hil
      obtain ⟨y, hy⟩ : ∃ y : Nat, li xs i = (y : Int) := ⟨(li xs i).toNat, by omega⟩
      rw [hy] at hca hb
      have hym : y < m := by omega
      have hy64 : (y : Int) < (m : Int) := by omega
      have e1 : decide ((y : Int) < 0) = false := by simp
      have e2 : decide ((m : Int) ≤ (y : Int)) = false := by simp; omega
      have cO := hO.out.cell hym
      rw [seen_not hP.out hil hy] at cO
      have fO := hO.out.frozen y
      have hO2 := hide (hO.out.set (k := y) true (seenB xs (i + 1)) (fun j hj => by
        rw [seen_succ, hy]
        by_cases e : j = y
        · subst e; simp
        · rw [if_neg e, show ((y : Int) == (j : Int)) = false by simp; omega, Bool.or_false]) hym)
      have B2 := hide (show Below w.heap.size w (wr.setCell ⟨g, y, none⟩ (.bool true)) from B.out.setCell hgo.out _)
      clear hO B hy hb
      go_wp2
      go_roundw
      case rel => exact ⟨i + 1, by omega, by go_num, hO2, B2⟩
      case measure => simp [intOf]; omega
    · obtain rfl : i = m := by omega
      clear hil hi
      go_wp2
      go_ret
      exact ⟨rfl, B.out⟩
end Go.Proofs.Ytdihgmbldnekhaa

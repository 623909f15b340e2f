/-
  ExF, ExG, ExH.
-/
import Derived.Test.YtdihgmbldnekhaaExRA
import Derived.Test.YtdihgmbldnekhaaOpenR
namespace Go.Proofs.Ytdihgmbldnekhaa
section
open Go.RowKit

noncomputable def shB (q : Rat) : Bool := decide (0 ≤ q ∧ q ≤ 1)
/-- the probabilities as a list -/
def ql (n : Nat) (q : Nat → Rat) : List Rat := (List.range n).map q
theorem ql_succ (n : Nat) (q : Nat → Rat) : ql (n + 1) q = ql n q ++ [q n] := by simp [ql, List.range_succ]
theorem ql_length (n : Nat) (q : Nat → Rat) : (ql n q).length = n := by simp [ql]
theorem ql_mem {n : Nat} {q : Nat → Rat} (h : ∀ i, i < n → shB (q i) = true) : ∀ p ∈ ql n q, 0 ≤ p ∧ p ≤ 1 := by
  intro p hp
  obtain ⟨i, hi, rfl⟩ := List.mem_map.1 hp
  have := h i (List.mem_range.1 hi)
  simpa [shB] using this
theorem dprod_snoc (ps : List Rat) (p : Rat) : dprod (ps ++ [p]) = dprod ps * p.den := by rw [dprod_append]; simp [dprod]
/-- the denominators' product is no larger than all of them together -/
theorem dprod_le {nf : Nat → Bool} {w : World} {Bd L n c : Nat} {A : Option Addr} {X : Nat → Rc} {q : Nat → Rat} (h : LQ nf w Bd L A n c X q) : ∀ {i : Nat}, i ≤ n → dprod (ql i q) ≤ pw (i + szs X i)
  | 0, _ => by simp [ql, dprod, szs, pw_zero]
  | i + 1, hi => by
    have ih := dprod_le h (i := i) (by omega)
    obtain ⟨xs, ys, h1, h2, _, _, h5⟩ := (h.nums i (by omega)).1
    have hz := (sz_rd h1 h2 h5 (i := (X i).n + (X i).m) (by omega) (by omega)).2
    have hd : (q i).den ≤ pw ((X i).n + (X i).m + 1) := Nat.le_of_lt ((dig_len_le _ _).1 hz)
    rw [ql_succ, dprod_snoc, szs, show i + 1 + (szs X i + ((X i).n + (X i).m)) = (i + szs X i) + ((X i).n + (X i).m + 1) by omega, pw_add]
    exact Nat.mul_le_mul ih hd
theorem Nq.size {w : World} {Bd L M : Nat} {x : Rc} {q : Rat} (h : Nq w Bd L x q) (hs : (dig (zmag q.num)).length ≤ M ∧ (dig q.den).length ≤ M) : Nq w Bd M x q :=
  ⟨h.1, h.2.1, h.2.2.1, by rw [← h.2.1.len]; exact hs.1, by rw [← h.2.2.1.len]; exact hs.2⟩
theorem LQ.size {w : World} {Bd L M n c : Nat} {A : Option Addr} {X : Nat → Rc} {q : Nat → Rat} (h : LQ (fun _ => true) w Bd L A n c X q) (hs : ∀ i, i < n → (dig (zmag (q i).num)).length ≤ M ∧ (dig (q i).den).length ≤ M) : LQ (fun _ => true) w Bd M A n c X q :=
  ⟨h.cap, h.cbig, h.cells, fun i hi => Pq.of_nq ((h.nums i hi).nq.size (hs i hi))⟩
def two {α : Type} (a b : α) (i : Nat) : α := if i = 0 then a else b
theorem lq_two {w : World} {L : Nat} {x y : Rc} {p q : Rat} (hx : Rq w w.heap.size L x p) (hy : Rq w w.heap.size L y q) :
    LQ (fun _ => false) (w.alloc (.cells #[.bool x.s, .slice x.A x.n x.c, .slice x.B x.m x.d, .bool y.s, .slice y.A y.n y.c, .slice y.B y.m y.d] 27)) (w.alloc (.cells #[.bool x.s, .slice x.A x.n x.c, .slice x.B x.m x.d, .bool y.s, .slice y.A y.n y.c, .slice y.B y.m y.d] 27)).heap.size L (some ⟨w.heap.size, 0, none⟩) 2 2 (two x y) (two p q) := by
  refine ⟨Nat.le_refl _, by omega, fun _ => ⟨_, rfl, by simp, fun i hi => ?_⟩, fun i hi => ⟨?_, fun e => by cases e⟩⟩
  · have hc : ∀ j, (w.alloc (.cells #[.bool x.s, .slice x.A x.n x.c, .slice x.B x.m x.d, .bool y.s, .slice y.A y.n y.c, .slice y.B y.m y.d] 27)).cell? ⟨w.heap.size, j, none⟩ = #[Value.bool x.s, .slice x.A x.n x.c, .slice x.B x.m x.d, .bool y.s, .slice y.A y.n y.c, .slice y.B y.m y.d][j]? := fun j => cell_of_row _ _ j _ _ (0, 0) (heap_alloc_new w _)
    rcases (by omega : i = 0 ∨ i = 1) with rfl | rfl
    · exact ⟨by rw [Addr.add_lit, hc]; rfl, by rw [Addr.add_lit, hc]; rfl, by rw [Addr.add_lit, hc]; rfl⟩
    · exact ⟨by rw [Addr.add_lit, hc]; rfl, by rw [Addr.add_lit, hc]; rfl, by rw [Addr.add_lit, hc]; rfl⟩
  · rcases (by omega : i = 0 ∨ i = 1) with rfl | rfl
    · exact hx.al_ _
    · exact hy.al_ _
theorem lq_one {w : World} {L : Nat} {x : Rc} {p : Rat} (hx : Nq w w.heap.size L x p) :
    LQ (fun _ => true) (w.alloc (.cells #[.bool x.s, .slice x.A x.n x.c, .slice x.B x.m x.d] 27)) (w.alloc (.cells #[.bool x.s, .slice x.A x.n x.c, .slice x.B x.m x.d] 27)).heap.size L (some ⟨w.heap.size, 0, none⟩) 1 1 (fun _ => x) (fun _ => p) := by
  refine ⟨Nat.le_refl _, by omega, fun _ => ⟨_, rfl, by simp, fun i hi => ?_⟩, fun i hi => Pq.of_nq (hx.al_ _)⟩
  have hc : ∀ j, (w.alloc (.cells #[.bool x.s, .slice x.A x.n x.c, .slice x.B x.m x.d] 27)).cell? ⟨w.heap.size, j, none⟩ = #[Value.bool x.s, .slice x.A x.n x.c, .slice x.B x.m x.d][j]? := fun j => cell_of_row _ _ j _ _ (0, 0) (heap_alloc_new w _)
  obtain rfl : i = 0 := by omega
  exact ⟨by rw [Addr.add_lit, hc]; rfl, by rw [Addr.add_lit, hc]; rfl, by rw [Addr.add_lit, hc]; rfl⟩
/-- a convolution with one trial -/
theorem cv_two {f : Nat → Rat} {p r : Rat} (k : Nat) : cv f (ex 2 (two r p)) k = st r p f k := by
  have e : ∀ i, ex 2 (two r p) i = st r p dl0 i := fun i => by
    match i with
    | 0 => simp [ex, two, st, dl0]
    | 1 => simp [ex, two, st, dl0]; grind
    | i + 2 => simp only [ex, st, dl0]; rw [if_neg (by omega)]; grind
  rw [cv_congr (fun _ _ => rfl) (fun i _ => e i), cv_st]
  exact st_congr (fun i => cv_dl0 f i) k
theorem ex_trl {n : Nat} {q y : Nat → Rat} (h : ∀ k, k < n + 1 → y k = trl (ql n q) k) (k : Nat) : ex (n + 1) y k = trl (ql n q) k := by
  unfold ex
  split
  · exact h k (by assumption)
  · rw [trl_supp (by rw [ql_length]; omega)]
theorem trl_next {n : Nat} {q y : Nat → Rat} (h : ∀ k, k < n + 1 → y k = trl (ql n q) k) (k : Nat) : cv (ex (n + 1) y) (ex 2 (two (1 - q n) (q n))) k = trl (ql (n + 1) q) k := by
  rw [cv_two, ql_succ, trl_snoc]
  exact st_congr (fun i => ex_trl h i) k
/-- Trials' error and length -/
noncomputable def trK (n : Nat) (q : Nat → Rat) : Int × Nat := if @decide (∀ i, i < n → shB (q i) = true) (Classical.propDecidable _) = true then (if 121 ≤ n then (3, 0) else (0, n + 1)) else (1, 0)
theorem trK_bad {n : Nat} {q : Nat → Rat} {i : Nat} (hi : i < n) (h : shB (q i) = false) : trK n q = (1, 0) := by
  unfold trK
  rw [if_neg]
  simp only [decide_eq_true_eq]
  intro h2
  rw [h2 i hi] at h
  cases h
theorem trK_long {n : Nat} {q : Nat → Rat} (h : ∀ i, i < n → shB (q i) = true) (hn : 121 ≤ n) : trK n q = (3, 0) := by
  unfold trK
  rw [if_pos (by simp only [decide_eq_true_eq]; exact h), if_pos hn]
theorem trK_ok {n : Nat} {q : Nat → Rat} (h : ∀ i, i < n → shB (q i) = true) (hn : ¬ 121 ≤ n) : trK n q = (0, n + 1) := by
  unfold trK
  rw [if_pos (by simp only [decide_eq_true_eq]; exact h), if_neg hn]
end

section
open Go.RowKit

/-- a ratio and an error were handed back -/
def RetRE (w : World) (L : Nat) (q : Rat) (k : Int) (e : Ending) (w' : World) : Prop :=
  ∃ x : Rc, e = .returned (.tuple #[.agg #[.bool x.s, .slice x.A x.n x.c, .slice x.B x.m x.d], .int .i64 k]) ∧ (k = 0 → Nq w' w'.heap.size L x q) ∧ (k ≠ 0 → x = zeroRc) ∧ Below w.heap.size w w'
end

section
open Go.RowKit

end
end Go.Proofs.Ytdihgmbldnekhaa

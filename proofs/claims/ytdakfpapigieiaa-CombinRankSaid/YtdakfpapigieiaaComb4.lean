/-
  The next subset.
-/
import Derived.Test.YtdakfpapigieiaaComb3
namespace Go.Proofs.Ytdakfpapigieiaa

/-- a, a + 1, .., a + m - 1 -/
def sq (a : Nat) : Nat → List Nat
  | 0 => []
  | m + 1 => a :: sq (a + 1) m
theorem sq_length : ∀ (a m : Nat), (sq a m).length = m
  | _, 0 => rfl
  | a, m + 1 => by rw [sq, List.length_cons, sq_length]
theorem sq_ris {n : Nat} : ∀ {a f m : Nat}, f ≤ a → a + m ≤ n → Ris n f (sq a m)
  | _, _, 0, _, _ => trivial
  | a, f, m + 1, h1, h2 => ⟨h1, by omega, sq_ris (Nat.le_refl _) (by omega)⟩
theorem sq_rk {n : Nat} : ∀ (a m : Nat), rk n a (sq a m) = 0
  | _, 0 => rfl
  | a, m + 1 => by rw [sq, rk, Nat.sub_self, run, sq_rk]
/-- the next subset -/
def nxt (n : Nat) : List Nat → Option (List Nat)
  | [] => none
  | x :: t => match nxt n t with
    | some u => some (x :: u)
    | none => if x + 1 + t.length < n then some (sq (x + 1) (t.length + 1)) else none
theorem nxt_ok {n : Nat} : ∀ {f : Nat} {l : List Nat}, Ris n f l → f ≤ n →
    (∀ m, nxt n l = some m → Ris n f m ∧ m.length = l.length ∧ rk n f m = rk n f l + 1) ∧ (nxt n l = none → rk n f l + 1 = ch (n - f) l.length)
  | f, [], _, _ => ⟨fun m h => (by simp [nxt] at h), fun _ => (by simp only [rk, List.length_nil, ch_zero])⟩
  | f, x :: t, ⟨h1, h2, h3⟩, hf => by
    obtain ⟨ia, ib⟩ := nxt_ok h3 (by omega)
    have hlen := h3.length_le (by omega)
    have er := run_le (n := n) (k := t.length) (f := f) (c := x - f + 1) (by omega)
    have es : run n t.length f (x - f + 1) = run n t.length f (x - f) + ch (n - 1 - x) t.length := by rw [run, show f + (x - f) = x by omega]
    cases ht : nxt n t with
    | some u =>
      obtain ⟨a, b, c⟩ := ia u ht
      have e : nxt n (x :: t) = some (x :: u) := by rw [nxt, ht]
      refine ⟨fun m h => ?_, fun h => by rw [e] at h; cases h⟩
      rw [e] at h
      cases h
      refine ⟨⟨h1, h2, a⟩, by simp only [List.length_cons, b], ?_⟩
      simp only [rk, b, c]
      omega
    | none =>
      have hr := ib ht
      rw [show n - (x + 1) = n - 1 - x by omega] at hr
      by_cases hx : x + 1 + t.length < n
      · have e : nxt n (x :: t) = some (sq (x + 1) (t.length + 1)) := by rw [nxt, ht]; exact if_pos hx
        refine ⟨fun m h => ?_, fun h => by rw [e] at h; cases h⟩
        rw [e] at h
        cases h
        refine ⟨sq_ris (by omega) (by omega), by rw [sq_length, List.length_cons], ?_⟩
        rw [sq]
        simp only [rk, sq_length, sq_rk, show x + 1 - f = x - f + 1 by omega, es]
        omega
      · have e : nxt n (x :: t) = none := by rw [nxt, ht]; exact if_neg hx
        refine ⟨fun m h => (by rw [e] at h; cases h), fun _ => ?_⟩
        rw [ch_lt (by omega : n - (f + (x - f + 1)) < t.length + 1)] at er
        simp only [rk, List.length_cons]
        omega
/-- the last subset has none behind it -/
theorem nxt_last {n : Nat} : ∀ {k : Nat}, k ≤ n → nxt n (sq (n - k) k) = none
  | 0, _ => rfl
  | k + 1, h => by
    rw [sq, show n - (k + 1) + 1 = n - k by omega, nxt, nxt_last (by omega), sq_length]
    exact if_neg (by omega)
/-- the last number that can grow grows -/
theorem nxt_at {n x k : Nat} (h : x + 1 + k < n) : ∀ p : List Nat, nxt n (p ++ x :: sq (n - k) k) = some (p ++ sq (x + 1) (k + 1))
  | [] => by
    rw [List.nil_append, nxt, nxt_last (by omega), sq_length]
    exact if_pos h
  | y :: p => by rw [List.cons_append, nxt, nxt_at h p]; rfl
theorem nxt_some_iff {n f : Nat} {l : List Nat} (h : Ris n f l) (hf : f ≤ n) : (nxt n l).isSome = decide (rk n f l + 1 < ch (n - f) l.length) := by
  obtain ⟨a, b⟩ := nxt_ok h hf
  cases hn : nxt n l with
  | none => rw [b hn]; simp
  | some m =>
    obtain ⟨c, d, e⟩ := a m hn
    have := rk_lt c hf
    rw [d, e] at this
    simp [this]
end Go.Proofs.Ytdakfpapigieiaa

/-
  What nat.Parse gives at any string; how long a number's digits are.
-/
import Derived.Test.YtjbbapibpcgnhaaParse2
import Derived.Test.YtjbbapibpcgnhaaText2
namespace Go.Proofs.Ytjbbapibpcgnhaa
open Go.RowKit

/-- what Parse gives at any string: an error, or the number -/
def RetPar (w : World) (s : ByteArray) (e : Ending) (w' : World) : Prop :=
  ∃ (A : Option Addr) (m c : Nat) (k : Int), e = .returned (.tuple #[.slice A m c, .int .i64 k]) ∧ Below w.heap.size w w' ∧
    ((k = 0 ∧ IsNum s ∧ s.size ≤ 400 ∧ m = (dig (dvp s s.size)).length ∧ Rd w' w'.heap.size A m c (dig (dvp s s.size))) ∨ (k = 5 ∧ IsNum s ∧ 400 < s.size ∧ A = none ∧ m = 0 ∧ c = 0) ∨ (k = 2 ∧ ¬ IsNum s ∧ A = none ∧ m = 0 ∧ c = 0))
theorem parse_any (w : World) (s : ByteArray) (hs : s.size ≤ 9223372036854775807) : Calls Try.prog 59 #[.string s] w (RetPar w s) := by
  by_cases h : IsNum s
  · by_cases hl : s.size ≤ 400
    · refine (parse_ok w s h hl).mono ?_
      rintro e w' ⟨A, c, rfl, hR, hb⟩
      exact ⟨A, _, c, 0, rfl, hb, Or.inl ⟨rfl, h, hl, rfl, hR⟩⟩
    · refine (parse_long w s hs h (by omega)).mono ?_
      rintro e w' ⟨rfl, rfl⟩
      exact ⟨none, 0, 0, 5, rfl, Below.refl _ _, Or.inr (Or.inl ⟨rfl, h, by omega, rfl, rfl, rfl⟩)⟩
  · refine (parse_syntax w s hs h).mono ?_
    rintro e w' ⟨rfl, rfl⟩
    exact ⟨none, 0, 0, 2, rfl, Below.refl _ _, Or.inr (Or.inr ⟨rfl, h, rfl, rfl, rfl⟩)⟩
theorem ten_le_pw (k : Nat) : 10 ^ k ≤ pw k := by
  induction k with
  | zero => simp [pw]
  | succ k ih => rw [Nat.pow_succ, pw_succ]; omega
theorem dec_len {m n : Nat} (h : m < pw n) : (dec m).length ≤ 10 * n + 1 := by
  unfold dec
  split
  · simp
  · have := (ddig_len (10 * n) m).2 (by have := pw_le_ten n; omega)
    omega

end Go.Proofs.Ytjbbapibpcgnhaa

/-
  Factorials, products of a range, binomial coefficients.
-/
import Derived.Test.YtdakfpapigieiaaNatMath
namespace Go.Proofs.Ytdakfpapigieiaa

def fac : Nat → Nat
  | 0 => 1
  | n + 1 => (n + 1) * fac n
/-- the product of lo .. lo + k - 1 -/
def prd (lo : Nat) : Nat → Nat
  | 0 => 1
  | k + 1 => prd lo k * (lo + k)
/-- binomial coefficients, by Pascal's rule -/
def ch : Nat → Nat → Nat
  | _, 0 => 1
  | 0, _ + 1 => 0
  | n + 1, k + 1 => ch n k + ch n (k + 1)
theorem ch_zero (n : Nat) : ch n 0 = 1 := by cases n <;> rfl
theorem ch_succ (n k : Nat) : ch (n + 1) (k + 1) = ch n k + ch n (k + 1) := rfl
theorem ch_lt : ∀ {n k : Nat}, n < k → ch n k = 0
  | 0, 0, h => by omega
  | 0, _ + 1, _ => rfl
  | _ + 1, 0, h => by omega
  | n + 1, k + 1, h => by rw [ch_succ, ch_lt (by omega : n < k), ch_lt (by omega : n < k + 1)]
theorem ch_self : ∀ n, ch n n = 1
  | 0 => rfl
  | n + 1 => by rw [ch_succ, ch_self n, ch_lt (by omega)]
theorem ch_pos : ∀ {n k : Nat}, k ≤ n → 0 < ch n k
  | _, 0, _ => by rw [ch_zero]; omega
  | 0, k + 1, h => by omega
  | n + 1, k + 1, h => by rw [ch_succ]; have := ch_pos (n := n) (k := k) (by omega); omega
theorem fac_pos : ∀ n, 0 < fac n
  | 0 => by decide
  | n + 1 => Nat.mul_pos (by omega) (fac_pos n)
theorem fac_succ (n : Nat) : fac (n + 1) = (n + 1) * fac n := rfl
theorem ch_fac : ∀ {n k : Nat}, k ≤ n → ch n k * (fac k * fac (n - k)) = fac n
  | n, 0, _ => by rw [ch_zero]; simp [fac]
  | 0, k + 1, h => by omega
  | n + 1, k + 1, h => by
    rw [ch_succ, Nat.add_mul]
    have h1 := ch_fac (n := n) (k := k) (by omega)
    have e1 : ch n k * (fac (k + 1) * fac (n + 1 - (k + 1))) = (k + 1) * fac n := by
      rw [fac_succ, show n + 1 - (k + 1) = n - k by omega, ← h1]
      grind
    rw [e1]
    by_cases hk : k + 1 ≤ n
    · have h2 := ch_fac (n := n) (k := k + 1) hk
      have e2 : ch n (k + 1) * (fac (k + 1) * fac (n + 1 - (k + 1))) = (n - k) * fac n := by
        rw [show n + 1 - (k + 1) = (n - (k + 1)) + 1 by omega, fac_succ (n - (k + 1)), ← h2, show n - (k + 1) + 1 = n - k by omega]
        grind
      rw [e2, ← Nat.add_mul, show k + 1 + (n - k) = n + 1 by omega, fac_succ]
    · have : k = n := by omega
      subst this
      rw [ch_lt (by omega : k < k + 1), Nat.zero_mul, Nat.add_zero, fac_succ]
theorem prd_succ (lo k : Nat) : prd lo (k + 1) = prd lo k * (lo + k) := rfl
theorem prd_pos {lo : Nat} (h : 0 < lo) : ∀ k, 0 < prd lo k
  | 0 => Nat.one_pos
  | k + 1 => Nat.mul_pos (prd_pos h k) (by omega)
theorem prd_one : ∀ n, prd 1 n = fac n
  | 0 => rfl
  | n + 1 => by rw [prd_succ, prd_one n, fac_succ, Nat.mul_comm, Nat.add_comm 1 n]
theorem prd_add (lo : Nat) : ∀ j k, prd lo (j + k) = prd lo j * prd (lo + j) k
  | j, 0 => by simp [prd]
  | j, k + 1 => by rw [← Nat.add_assoc, prd_succ, prd_add lo j k, prd_succ, Nat.mul_assoc, Nat.add_assoc lo j k]
/-- the falling product -/
theorem prd_fall {n k : Nat} (h : k ≤ n) : prd (n - k + 1) k * fac (n - k) = fac n := by
  have e := prd_add 1 (n - k) k
  rw [prd_one, prd_one, show n - k + k = n by omega, Nat.add_comm 1] at e
  rw [e, Nat.mul_comm]
theorem ch_fall {n k : Nat} (h : k ≤ n) : ch n k * fac k = prd (n - k + 1) k := by
  have h1 := ch_fac h
  have h2 := prd_fall h
  rw [← h2, ← Nat.mul_assoc] at h1
  exact Nat.eq_of_mul_eq_mul_right (fac_pos _) h1
theorem ch_quo {n k : Nat} (h : k ≤ n) : prd (n - k + 1) k / fac k = ch n k := by
  rw [← ch_fall h, Nat.mul_div_cancel _ (fac_pos k)]
theorem ch_symm {n k : Nat} (h : k ≤ n) : ch n (n - k) = ch n k := by
  have h1 := ch_fac h
  have h2 := ch_fac (n := n) (k := n - k) (by omega)
  rw [show n - (n - k) = k by omega, Nat.mul_comm (fac (n - k)), ← h1] at h2
  exact Nat.eq_of_mul_eq_mul_right (Nat.mul_pos (fac_pos _) (fac_pos _)) h2
/-- one factor, one divisor: the product formula, step by step -/
theorem ch_step {n k : Nat} (h : k < n) : ch n (k + 1) * (k + 1) = ch n k * (n - k) := by
  have h1 := ch_fall (n := n) (k := k + 1) h
  have h2 := ch_fall (n := n) (k := k) (by omega)
  rw [fac_succ] at h1
  have e : prd (n - (k + 1) + 1) (k + 1) = (n - k) * prd (n - k + 1) k := by
    rw [show n - (k + 1) + 1 = n - k by omega, show k + 1 = 1 + k by omega, prd_add, show prd (n - k) 1 = n - k by simp [prd]]
  rw [e, ← h2] at h1
  refine Nat.eq_of_mul_eq_mul_right (fac_pos k) ?_
  grind
theorem ch_step_quo {n k : Nat} (h : k < n) : ch n k * (n - k) / (k + 1) = ch n (k + 1) := by
  rw [← ch_step h, Nat.mul_div_cancel _ (by omega)]
theorem ch_le_pow : ∀ n k, ch n k ≤ 2 ^ n
  | n, 0 => by rw [ch_zero]; exact Nat.one_le_two_pow
  | 0, k + 1 => by simp [ch]
  | n + 1, k + 1 => by rw [ch_succ, Nat.pow_succ]; have := ch_le_pow n k; have := ch_le_pow n (k + 1); omega
theorem prd_le {lo m : Nat} : ∀ {k : Nat}, lo + k ≤ m + 1 → prd lo k ≤ m ^ k
  | 0, _ => by simp [prd]
  | k + 1, h => by rw [prd_succ, Nat.pow_succ]; exact Nat.mul_le_mul (prd_le (by omega)) (by omega)
theorem fac_le {n m : Nat} (h : n ≤ m) : fac n ≤ m ^ n := by rw [← prd_one]; exact prd_le (by omega)
theorem fac_le_fac : ∀ {n m : Nat}, n ≤ m → fac n ≤ fac m
  | n, 0, h => by
    obtain rfl : n = 0 := by omega
    exact Nat.le_refl _
  | n, m + 1, h => by
    by_cases e : n = m + 1
    · rw [e]; exact Nat.le_refl _
    · have := fac_le_fac (n := n) (m := m) (by omega)
      rw [fac_succ]
      exact Nat.le_trans this (Nat.le_mul_of_pos_left _ (by omega))
/-- the hockey stick: a run of a column -/
def col (k : Nat) (lo : Nat) : Nat → Nat
  | 0 => 0
  | c + 1 => col k lo c + ch (lo + c) k
theorem col_eq (k lo : Nat) : ∀ c, col k lo c + ch lo (k + 1) = ch (lo + c) (k + 1)
  | 0 => by simp [col]
  | c + 1 => by
    have := col_eq k lo c
    rw [← Nat.add_assoc lo c 1, ch_succ, ← this, col]
    omega
end Go.Proofs.Ytdakfpapigieiaa

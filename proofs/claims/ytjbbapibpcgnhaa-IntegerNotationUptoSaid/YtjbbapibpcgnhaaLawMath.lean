/-
  Bounds on the lengths of sums and products (plain mathematics).
-/
import Derived.Test.YtjbbapibpcgnhaaBits
namespace Go.Proofs.Ytjbbapibpcgnhaa

theorem lt_up {x i : Nat} (h : x < pw i) : x < pw (i + 1) := by rw [pw_succ]; omega
theorem lt_add {x y i j : Nat} (hx : x < pw i) (hy : y < pw j) : x + y < pw (max i j + 1) := by
  have h1 := pw_mono (Nat.le_max_left i j)
  have h2 := pw_mono (Nat.le_max_right i j)
  rw [pw_succ]; omega
theorem lt_mul {x y i j : Nat} (hx : x < pw i) (hy : y < pw j) : x * y < pw (i + j) := by
  rw [pw_add]
  have h1 : x * y ≤ x * pw j := Nat.mul_le_mul_left x (Nat.le_of_lt hy)
  have h2 : x * pw j < pw i * pw j := Nat.mul_lt_mul_of_pos_right hx (pw_pos j)
  omega
theorem dam_lt {x k : Nat} (h : x < pw k) (y : Nat) : x / y * y + x % y < pw k := by rw [Nat.div_add_mod']; exact h
theorem lt_gcd {x y i j : Nat} (hx : x < pw i) (hy : y < pw j) : Nat.gcd x y < pw (max i j) := by
  rcases Nat.eq_zero_or_pos x with h | h
  · rw [h, Nat.gcd_zero_left]
    exact Nat.lt_of_lt_of_le hy (pw_mono (Nat.le_max_right i j))
  · exact Nat.lt_of_le_of_lt (Nat.gcd_le_left _ h) (Nat.lt_of_lt_of_le hx (pw_mono (Nat.le_max_left i j)))
theorem bl_ne {n : Nat} (h : n ≠ 0) : 0 < bl n := by rw [bl_pos h]; omega

end Go.Proofs.Ytjbbapibpcgnhaa

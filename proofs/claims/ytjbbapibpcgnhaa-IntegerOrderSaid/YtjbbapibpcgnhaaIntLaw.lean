/-
  Lengths of results; for the laws.
-/
import Derived.Test.YtjbbapibpcgnhaaAwake2
import Derived.Test.YtjbbapibpcgnhaaLawMath
import Derived.Test.YtjbbapibpcgnhaaRInt4
import Derived.Test.YtjbbapibpcgnhaaRInt3
import Derived.Test.YtjbbapibpcgnhaaSeq
namespace Go.Proofs.Ytjbbapibpcgnhaa
open Go.RowKit

theorem zlt_add {x y : Int} {i j : Nat} (hx : zmag x < pw i) (hy : zmag y < pw j) : zmag (x + y) < pw (max i j + 1) := by
  have h1 := lt_add hx hy
  have h2 : zmag (x + y) ≤ zmag x + zmag y := Int.natAbs_add_le _ _
  omega
theorem zlt_neg {x : Int} {i : Nat} (hx : zmag x < pw i) : zmag (-x) < pw i := by unfold zmag at *; rw [Int.natAbs_neg]; exact hx
theorem zlt_sub {x y : Int} {i j : Nat} (hx : zmag x < pw i) (hy : zmag y < pw j) : zmag (x - y) < pw (max i j + 1) := by
  rw [Int.sub_eq_add_neg]; exact zlt_add hx (zlt_neg hy)
theorem zlt_mul {x y : Int} {i j : Nat} (hx : zmag x < pw i) (hy : zmag y < pw j) : zmag (x * y) < pw (i + j) := by
  have h1 := lt_mul hx hy
  have h2 : zmag (x * y) = zmag x * zmag y := Int.natAbs_mul _ _
  rw [h2]; exact h1
theorem zlt_up {x : Int} {i : Nat} (hx : zmag x < pw i) : zmag x < pw (i + 1) := lt_up hx
theorem zlen {x : Int} {i : Nat} (hx : zmag x < pw i) : (dig (zmag x)).length ≤ i := (dig_len_le _ _).2 hx
theorem zlt_of {s : Bool} {m i : Nat} {z : Int} (hz : iv s m = z) (hm : m < pw i) : zmag z < pw i := by rw [← hz, zmag_iv]; exact hm
theorem sgn_bound (z : Int) : -1 ≤ sgn z ∧ sgn z ≤ 1 := by have := sgn_three z; omega
theorem sgn_neg' (x y : Int) : sgn (y - x) = -sgn (x - y) := by
  have h1 := sgn_three (x - y)
  have h2 := sgn_three (y - x)
  omega
theorem sgn_shift (x y z : Int) : sgn (x + z - (y + z)) = sgn (x - y) := congrArg sgn (by omega)
theorem sgn_scale (x y z : Int) : sgn (x * z - y * z) = sgn (x - y) * sgn z := by rw [← Int.sub_mul]; exact Int.sign_mul _ _
theorem wrap_one {p : Int} (h1 : -1 ≤ p) (h2 : p ≤ 1) : IntKind.i64.wrap p = p := by
  have h : p = -1 ∨ p = 0 ∨ p = 1 := by omega
  rcases h with rfl | rfl | rfl <;> decide
theorem mul_one_bound {p q : Int} (h1 : -1 ≤ p) (h2 : p ≤ 1) (h3 : -1 ≤ q) (h4 : q ≤ 1) : -1 ≤ p * q ∧ p * q ≤ 1 := by
  have h : p = -1 ∨ p = 0 ∨ p = 1 := by omega
  rcases h with rfl | rfl | rfl <;> omega
theorem dz0 : dig (zmag 0) = [] := by rw [show zmag 0 = 0 from rfl, dig_zero]
theorem RetB.law {w : World} {e : Ending} {w' : World} (h : RetB w (.bool true) e w') : e = .returned (.bool true) ∧ Below w.heap.size w w' := h

end Go.Proofs.Ytjbbapibpcgnhaa

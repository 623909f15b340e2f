/-
  Signs of quotients.
-/
import Derived.Test.YtieopcchchebgaaLaw3
import Derived.Test.YtieopcchchebgaaNormal
namespace Go.Proofs.Ytieopcchchebgaa
open Go.RowKit


theorem pnorm1_any {w : World} {Bd : Nat} {A_a : Option Addr} {n_a c_a : Nat} {x_a : List Nat} {s_a : Bool} {A_ad : Option Addr} {n_ad c_ad : Nat} {x_ad : List Nat} (h_a : Rd w Bd A_a n_a c_a x_a) (g_a : n_a ≤ 1000000000) (h_ad : Rd w Bd A_ad n_ad c_ad x_ad) (g_ad : n_ad ≤ 1000000000) (hB : Bd ≤ w.heap.size) {q : Rat} (hq : qv s_a (val x_a) (val x_ad) = q) :
    Calls Try.prog 20 #[.agg #[.bool s_a, .slice A_a n_a c_a, .slice A_ad n_ad c_ad]] w (RetRat w q) := pnorm_any h_a (by omega) h_ad (by omega) hB hq
theorem sgn_neg (z : Int) : sgn (-z) = -sgn z := Int.sign_neg z
theorem sgn_bnd (z : Int) : sgn z = -1 ∨ sgn z = 0 ∨ sgn z = 1 := by have := sgn_three z; omega
theorem wrap_sgn (z : Int) : IntKind.i64.wrap (sgn z) = sgn z := by
  rcases sgn_bnd z with h | h | h <;> rw [h] <;> decide
theorem wrap_sgn_mul (y z : Int) : IntKind.i64.wrap (sgn y * sgn z) = sgn y * sgn z := by
  rcases sgn_bnd y with h | h | h <;> rcases sgn_bnd z with g | g | g <;> rw [h, g] <;> decide
theorem add_sub_add (x y z : Rat) : x + z - (y + z) = x - y := by
  rw [Rat.sub_eq_add_neg, Rat.neg_add, Rat.add_assoc, ← Rat.add_assoc z, Rat.add_comm z, Rat.add_assoc (-y), Rat.add_neg_cancel, Rat.add_zero, ← Rat.sub_eq_add_neg]
theorem sub_mul' (x y z : Rat) : (x - y) * z = x * z - y * z := by
  rw [Rat.sub_eq_add_neg, Rat.add_mul, Rat.neg_mul, ← Rat.sub_eq_add_neg]
theorem sgn_qmul (x y : Rat) : sgn (x * y).num = sgn x.num * sgn y.num := by
  have h := mk_mul x.num y.num x.den y.den
  rw [Rat.mkRat_self, Rat.mkRat_self] at h
  rw [h, sgn_mk (Nat.mul_ne_zero x.den_nz y.den_nz)]
  exact Int.sign_mul _ _


end Go.Proofs.Ytieopcchchebgaa

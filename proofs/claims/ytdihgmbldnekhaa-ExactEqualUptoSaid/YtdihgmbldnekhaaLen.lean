/-
  Lengths in bits: bl, and the calls Len32, Len64, Len of math/bits. (These walks go by the elder tactics: the constant table of 256 bytes is folded by a law of Derived.Lib.Tables.)
-/
import Derived.Test.YtdihgmbldnekhaaRows
import Derived.Lib.Strings
import Derived.Lib.Slices
import Derived.Lib.Small
import Derived.Lib.Walk
import Derived.Lib.BitFns
namespace Go.Proofs.Ytdihgmbldnekhaa

/-- the number of significant bits -/
def bl (n : Nat) : Nat := if h : n = 0 then 0 else bl (n / 2) + 1
termination_by n
decreasing_by omega
theorem bl_zero : bl 0 = 0 := by rw [bl]; simp
theorem bl_pos {n : Nat} (h : n ≠ 0) : bl n = bl (n / 2) + 1 := by rw [bl]; simp [h]
theorem bl_shift (k : Nat) : ∀ n, 2 ^ k ≤ n → bl n = k + bl (n / 2 ^ k) := by
  induction k with
  | zero => intro n _; simp
  | succ k ih =>
    intro n h
    have hp : 0 < 2 ^ k := Nat.two_pow_pos k
    rw [Nat.pow_succ] at h
    have h1 : 2 ^ k ≤ n / 2 := by omega
    rw [bl_pos (by omega), ih _ h1, Nat.div_div_eq_div_mul, Nat.pow_succ, Nat.mul_comm 2]
    omega
theorem bl_le (k : Nat) : ∀ n, bl n ≤ k ↔ n < 2 ^ k := by
  induction k with
  | zero => intro n; by_cases h : n = 0
            · subst h; simp [bl_zero]
            · rw [bl_pos h]; simp; omega
  | succ k ih =>
    intro n
    by_cases h : n = 0
    · subst h; simp [bl_zero, Nat.two_pow_pos]
    · rw [bl_pos h, Nat.pow_succ, Nat.succ_le_succ_iff, ih]; omega
theorem bl_aux (f : Nat) : ∀ x, x < 2 ^ f → Lib.bitLenAux f x = bl x := by
  induction f with
  | zero => intro x hx; have : x = 0 := by simp at hx; exact hx
            subst this; rw [bl_zero]; rfl
  | succ f ih =>
    intro x hx
    rw [Nat.pow_succ] at hx
    unfold Lib.bitLenAux
    by_cases h : x = 0
    · subst h; rw [bl_zero]; simp
    · rw [if_neg h, ih _ (by omega), bl_pos h]; omega
theorem bl_byte (y : Int) (h0 : 0 ≤ y) (h1 : y ≤ 255) : Lib.len8 y = (bl y.toNat : Int) := by
  rw [Lib.len8_of y h0 h1]
  unfold Lib.bitLen
  rw [bl_aux 64 _ (by omega)]
/-- the length, off the byte that is looked up -/
theorem bl_of (x : Int) (s : Nat) (y : Int) (h0 : 0 ≤ x) (hx : x < 18446744073709551616) (hy : y.toNat = x.toNat / 2 ^ s) (hy0 : 0 ≤ y) (hy1 : y ≤ 255) (hs : s = 0 ∨ 2 ^ s ≤ x.toNat) :
    Lib.len8 y + s = (bl x.toNat : Int) ∧ bl x.toNat ≤ 64 := by
  refine ⟨?_, (bl_le 64 _).2 (by omega)⟩
  rw [bl_byte y hy0 hy1, hy]
  rcases hs with rfl | hs
  · simp
  · rw [bl_shift s _ hs]; omega

set_option maxHeartbeats 4000000 in
set_option maxRecDepth 100000 in
theorem len32_int (x : Int) (w : World) (h0 : 0 ≤ x) (h1 : x < 4294967296) :
    Calls Try.prog 114 #[.int .u32 x] w fun e w' => e = .returned (.int .i64 (bl x.toNat : Int)) ∧ w = w' := by
  have hx : x < 18446744073709551616 := by omega
  go_enter Try.func114, Try.ntmps114
  go_wp2
  all_goals (go_ret; refine ⟨congrArg Ending.returned (congrArg (Value.int IntKind.i64) ?_), rfl⟩)
  all_goals first
    | (have := bl_of x 24 (x / 65536 / 256 % 256) h0 hx (by omega) (by omega) (by omega) (by omega); omega)
    | (have := bl_of x 16 (x / 65536 % 256) h0 hx (by omega) (by omega) (by omega) (by omega); omega)
    | (have := bl_of x 8 (x / 256 % 256) h0 hx (by omega) (by omega) (by omega) (by omega); omega)
    | (have := bl_of x 0 (x % 256) h0 hx (by omega) (by omega) (by omega) (by omega); omega)

theorem len32_any (w : World) (n : Nat) (hn : n < 4294967296) : Calls Try.prog 114 #[.int .u32 (n : Int)] w fun e w' => e = .returned (.int .i64 (bl n : Int)) ∧ w = w' := by
  have := len32_int (n : Int) w (by omega) (by omega)
  simpa using this
end Go.Proofs.Ytdihgmbldnekhaa

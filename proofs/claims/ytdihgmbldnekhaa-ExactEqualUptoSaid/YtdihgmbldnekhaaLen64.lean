/-
  The calls Len64 of math/bits.
-/
import Derived.Test.YtdihgmbldnekhaaLen
namespace Go.Proofs.Ytdihgmbldnekhaa

set_option maxHeartbeats 4000000 in
set_option maxRecDepth 100000 in
theorem len64_int (x : Int) (w : World) (h0 : 0 ≤ x) (hx : x < 18446744073709551616) :
    Calls Try.prog 129 #[.int .u64 x] w fun e w' => e = .returned (.int .i64 (bl x.toNat : Int)) ∧ w = w' := by
  go_enter Try.func129, Try.ntmps129
  go_wp2
  all_goals (go_ret; refine ⟨congrArg Ending.returned (congrArg (Value.int IntKind.i64) ?_), rfl⟩)
  all_goals first
    | (have := bl_of x 56 (x / 4294967296 / 65536 / 256 % 256) h0 hx (by omega) (by omega) (by omega) (by omega); omega)
    | (have := bl_of x 48 (x / 4294967296 / 65536 % 256) h0 hx (by omega) (by omega) (by omega) (by omega); omega)
    | (have := bl_of x 40 (x / 4294967296 / 256 % 256) h0 hx (by omega) (by omega) (by omega) (by omega); omega)
    | (have := bl_of x 32 (x / 4294967296 % 256) h0 hx (by omega) (by omega) (by omega) (by omega); omega)
    | (have := bl_of x 24 (x / 65536 / 256 % 256) h0 hx (by omega) (by omega) (by omega) (by omega); omega)
    | (have := bl_of x 16 (x / 65536 % 256) h0 hx (by omega) (by omega) (by omega) (by omega); omega)
    | (have := bl_of x 8 (x / 256 % 256) h0 hx (by omega) (by omega) (by omega) (by omega); omega)
    | (have := bl_of x 0 (x % 256) h0 hx (by omega) (by omega) (by omega) (by omega); omega)

theorem len64_any (w : World) (n : Nat) (hn : n < 18446744073709551616) : Calls Try.prog 129 #[.int .u64 (n : Int)] w fun e w' => e = .returned (.int .i64 (bl n : Int)) ∧ w = w' := by
  have := len64_int (n : Int) w (by omega) (by omega)
  simpa using this

end Go.Proofs.Ytdihgmbldnekhaa

/-
  Same: two equal lists.
-/
import Derived.Test.YtdlmfembnmomjaaGreatDoorNatMem
namespace Go.Proofs.YtdlmfembnmomjaaGreatDoor
open Go.RowKit

set_option maxHeartbeats 1000000 in
theorem same_true (w : World) (Bd Bd' : Nat) (A A' : Option Addr) (n c n' c' : Nat) (xs ys : List Nat) (hx : Rd w Bd A n c xs) (hy : Rd w Bd' A' n' c' ys) (he : xs = ys) :
    Calls Tryz.prog 49 #[.slice A n c, .slice A' n' c'] w (RetQ w (.bool true)) := by
  subst he
  obtain rfl : n = n' := by rw [← hx.len, ← hy.len]
  have hcap := hx.cap
  have hbig := hx.big
  have hcap' := hy.cap
  have hbig' := hy.big
  have HX := hide hx
  have HY := hide hy
  clear hx hy
  go_enter Tryz.func49, Tryz.ntmps49
  go_wp2
  go_loopw [5] (fun i wr => ∃ k : Nat, k ≤ n ∧ i = .int .i64 k ∧ ∃ q, wr = w.drewN q) (fun i _ => n - (intOf i).toNat)
  case atStart => exact ⟨0, Nat.zero_le _, rfl, 0, rfl⟩
  case round =>
    obtain ⟨k, hk, rfl, q, rfl⟩ := hrel
    by_cases hkl : k < n
    · obtain ⟨ad, rfl, hadb, hca⟩ := HX.out.at_ hkl
      obtain ⟨ad', rfl, hadb', hca'⟩ := HY.out.at_ hkl
      go_wp2_with fail
      go_quiet (fail)
      go_wp2
      go_roundw
      case rel => exact ⟨k + 1, by omega, by go_num, _, rfl⟩
      case measure => simp [intOf]; omega
    · have hkm : k = n := by omega
      subst hkm
      go_wp2
      go_ret
      exact ⟨rfl, q, rfl⟩

end Go.Proofs.YtdlmfembnmomjaaGreatDoor

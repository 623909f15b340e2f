/-
  The reference's Pow.
-/
import Derived.Test.YtdlmfembnmomjaaGreatDoorRefSum
import Derived.Test.YtdlmfembnmomjaaGreatDoorPow
namespace Go.Proofs.YtdlmfembnmomjaaGreatDoor
open Go.RowKit

set_option maxHeartbeats 1000000 in
theorem rpow_out (w : World) (A : Option Addr) (n c : Nat) (k : Int) (hk : k < 0 ∨ 512 < k) :
    Calls Tryz.prog 83 #[.slice A n c, .int .i64 k] w fun e w' => e = .returned (.tuple #[.slice none 0 0, .bool false]) ∧ w = w' := by
  rcases (show k < 0 ∨ (¬ k < 0 ∧ 512 < k) by omega) with h | ⟨h, h2⟩
  all_goals
    clear hk
    go_enter Tryz.func83, Tryz.ntmps83
    go_wp2
    go_ret2
    exact ⟨rfl, rfl⟩

set_option maxHeartbeats 1000000 in
theorem rpow_any (w : World) (Bd : Nat) (A : Option Addr) (n c : Nat) (xs : List Nat) (h : Rd w Bd A n c xs) (hB : Bd ≤ w.heap.size) (hn : n ≤ 68719476736) (k : Nat) (hk : k ≤ 512) :
    Calls Tryz.prog 83 #[.slice A n c, .int .i64 (k : Int)] w (RetNat2 w (val xs ^ k) true) := by
  have H := hide h
  have hx : Hid (val xs < pw n) := hide (by have := val_lt h.limbs; rw [h.len] at this; exact this)
  clear h
  go_enter Tryz.func83, Tryz.ntmps83
  go_wp2_with (go_at_call 123; ((refine (rof_any _ 1 (by omega)).mono ?_); rintro e w1 ⟨A1, c1, rfl, hR1, hb1⟩; replace hR1 := hide hR1; replace hb1 := hide hb1))
  go_loopw [6, 7] (fun p i wr => ∃ (j : Nat) (A2 : Option Addr) (c2 m : Nat), j ≤ k ∧ i = .int .i64 j ∧ p = .slice A2 m c2 ∧ Hid (m = (dig (val xs ^ j)).length) ∧ Hid (Rd wr wr.heap.size A2 m c2 (dig (val xs ^ j))) ∧ Hid (Below w.heap.size w wr)) (fun _ i _ => k - (intOf i).toNat)
  case atStart => exact ⟨0, A1, c1, (dig 1).length, by omega, rfl, rfl, hide rfl, hR1, hb1⟩
  case round =>
    obtain ⟨j, A2, c2, m, hj, rfl, rfl, hm, hR2, hb2⟩ := hrel
    by_cases hjk : j < k
    · have hml : m ≤ 35184372088833 := by
        have h1 := pow_len hx.out j
        rw [← hm.out] at h1
        have h2 : j * n ≤ 512 * 68719476736 := Nat.mul_le_mul (by omega) hn
        omega
      have hR1 := hide (H.out.below (hb2.out.mono hB))
      have hszB : Bd ≤ wr.heap.size := Nat.le_trans hB hb2.out.size
      go_wp2_with fail
      refine (rmul_any wr wr.heap.size A2 A m c2 n c _ _ hR2.out (hR1.out.more hszB) (Nat.le_refl _) (by omega)).mono ?_
      rintro e w3 ⟨A5, c5, rfl, hR5, hb5⟩
      rw [val_dig, ← Nat.pow_succ] at hR5 ⊢
      have hb6 := hide (hb2.out.trans (hb5.mono hb2.out.size))
      obtain ⟨m5, hm5⟩ : ∃ m5, m5 = (dig (val xs ^ (j + 1))).length := ⟨_, rfl⟩
      rw [← hm5] at hR5 ⊢
      replace hR5 := hide hR5
      replace hm5 := hide hm5
      clear hb5
      go_wp2
      go_roundw
      case rel => exact ⟨j + 1, A5, c5, m5, by omega, by go_num, rfl, hm5, hR5, hb6⟩
      case measure => simp [intOf]; omega
    · have hjk2 : j = k := by omega
      subst hjk2
      go_wp2
      go_ret2
      rw [hm.out]
      rw [hm.out] at hR2
      exact ⟨_, _, rfl, hR2.out, hb2.out⟩

/-- what a power is, and whether there is one -/
def powV (x : Nat) (z : Int) : Nat := if 0 ≤ z ∧ z ≤ 512 then x ^ z.toNat else 0
def powOk (z : Int) : Bool := decide (0 ≤ z ∧ z ≤ 512)

theorem pow_all (w : World) (Bd : Nat) (A : Option Addr) (n c : Nat) (xs : List Nat) (h : Rd w Bd A n c xs) (hB : Bd ≤ w.heap.size) (hn : n ≤ 68719476736) (z : Int) :
    Calls Tryz.prog 71 #[.slice A n c, .int .i64 z] w (RetNat2 w (powV (val xs) z) (powOk z)) := by
  by_cases hz : 0 ≤ z ∧ z ≤ 512
  · obtain ⟨k, rfl⟩ : ∃ k : Nat, z = k := ⟨z.toNat, by omega⟩
    rw [powV, powOk, if_pos hz, decide_eq_true hz, Int.toNat_natCast]
    exact pow_any w Bd A n c xs h hB hn k (by omega)
  · rw [powV, powOk, if_neg hz, decide_eq_false hz]
    refine (pow_out w A n c z (by omega)).mono ?_
    rintro e w' ⟨rfl, rfl⟩
    exact ⟨none, 0, by rw [dig_zero]; rfl, by rw [dig_zero]; exact Rd.empty _ _ _ (by omega), Below.refl _ _⟩

theorem rpow_all (w : World) (Bd : Nat) (A : Option Addr) (n c : Nat) (xs : List Nat) (h : Rd w Bd A n c xs) (hB : Bd ≤ w.heap.size) (hn : n ≤ 68719476736) (z : Int) :
    Calls Tryz.prog 83 #[.slice A n c, .int .i64 z] w (RetNat2 w (powV (val xs) z) (powOk z)) := by
  by_cases hz : 0 ≤ z ∧ z ≤ 512
  · obtain ⟨k, rfl⟩ : ∃ k : Nat, z = k := ⟨z.toNat, by omega⟩
    rw [powV, powOk, if_pos hz, decide_eq_true hz, Int.toNat_natCast]
    exact rpow_any w Bd A n c xs h hB hn k (by omega)
  · rw [powV, powOk, if_neg hz, decide_eq_false hz]
    refine (rpow_out w A n c z (by omega)).mono ?_
    rintro e w' ⟨rfl, rfl⟩
    exact ⟨none, 0, by rw [dig_zero]; rfl, by rw [dig_zero]; exact Rd.empty _ _ _ (by omega), Below.refl _ _⟩

end Go.Proofs.YtdlmfembnmomjaaGreatDoor

/-
  The laws' limbs and ints, of equal lists.
-/
import Derived.Test.YtdakfpapigieiaaCombK
namespace Go.Proofs.Ytdakfpapigieiaa
open Go.RowKit

set_option maxHeartbeats 1000000 in
theorem limbs_true (w : World) (Bd Bd' : Nat) (A A' : Option Addr) (n c n' c' : Nat) (xs ys : List Nat) (hx : Rd w Bd A n c xs) (hy : Rd w Bd' A' n' c' ys) (he : xs = ys) :
    Calls Try.prog 13 #[.slice A n c, .slice A' n' c'] w (RetQ w (.bool true)) := by
  subst he
  obtain rfl : n = n' := by rw [← hx.len, ← hy.len]
  have hcap := hx.cap
  have hbig := hx.big
  have hcap' := hy.cap
  have hbig' := hy.big
  have HX := hide hx
  have HY := hide hy
  clear hx hy
  go_enter Try.func13, Try.ntmps13
  go_wp2
  go_loopw [5] (fun i wr => ∃ k : Nat, k ≤ n ∧ i = .int .i64 k ∧ ∃ q, wr = w.drewN q) (fun i _ => n - (intOf i).toNat)
  case atStart => exact ⟨0, Nat.zero_le _, rfl, 0, rfl⟩
  case round =>
    obtain ⟨k, hk, rfl, q, rfl⟩ := hrel
    by_cases hkl : k < n
    · obtain ⟨ad, rfl, hadb, hca⟩ := HX.out.at_ hkl
      obtain ⟨ad', rfl, hadb', hca'⟩ := HY.out.at_ hkl
      go_wp2_with fail
      go_quiet (fail)
      go_wp2
      go_roundw
      case rel => exact ⟨k + 1, by omega, by go_num, _, rfl⟩
      case measure => simp [intOf]; omega
    · have hkm : k = n := by omega
      subst hkm
      go_wp2
      go_ret
      exact ⟨rfl, q, rfl⟩
set_option maxHeartbeats 1000000 in
theorem ints_true (w : World) (Bd Bd' : Nat) (A A' : Option Addr) (n c n' c' : Nat) (xs ys : List Int) (hx : RdI w Bd A n c xs) (hy : RdI w Bd' A' n' c' ys) (he : xs = ys) :
    Calls Try.prog 22 #[.slice A n c, .slice A' n' c'] w (RetQ w (.bool true)) := by
  subst he
  obtain rfl : n = n' := by rw [← hx.len, ← hy.len]
  have hcap := hx.cap
  have hbig := hx.big
  have hcap' := hy.cap
  have hbig' := hy.big
  have HX := hide hx
  have HY := hide hy
  clear hx hy
  go_enter Try.func22, Try.ntmps22
  go_wp2
  go_loopw [5] (fun i wr => ∃ k : Nat, k ≤ n ∧ i = .int .i64 k ∧ ∃ q, wr = w.drewN q) (fun i _ => n - (intOf i).toNat)
  case atStart => exact ⟨0, Nat.zero_le _, rfl, 0, rfl⟩
  case round =>
    obtain ⟨k, hk, rfl, q, rfl⟩ := hrel
    by_cases hkl : k < n
    · obtain ⟨ad, rfl, hadb, hca⟩ := HX.out.at_ hkl
      obtain ⟨ad', rfl, hadb', hca'⟩ := HY.out.at_ hkl
      go_wp2_with fail
      go_quiet (fail)
      go_wp2
      go_roundw
      case rel => exact ⟨k + 1, by omega, by go_num, _, rfl⟩
      case measure => simp [intOf]; omega
    · have hkm : k = n := by omega
      subst hkm
      go_wp2
      go_ret
      exact ⟨rfl, q, rfl⟩
theorem retq_below {w : World} {v : Value} {e : Ending} {w' : World} (h : RetQ w v e w') : e = .returned v ∧ Below w.heap.size w w' := by
  obtain ⟨h1, q, rfl⟩ := h
  exact ⟨h1, below_drewN (Below.refl _ _) q⟩
theorem limbs_c {w : World} {Bd Bd' : Nat} {x y : Nc} {m m' : Nat} (hx : Nn w Bd x m) (hy : Nn w Bd' y m') (he : m = m') : Calls Try.prog 13 #[.slice x.A x.n x.c, .slice y.A y.n y.c] w (fun e w' => e = .returned (.bool true) ∧ Below w.heap.size w w') := by
  subst he
  exact (limbs_true w Bd Bd' _ _ _ _ _ _ _ _ hx hy rfl).mono fun _ _ => retq_below
theorem ints_c {w : World} {Bd Bd' n n' c c' : Nat} {A A' : Option Addr} {xs ys : List Int} (hx : RdI w Bd A n c xs) (hy : RdI w Bd' A' n' c' ys) (he : xs = ys) : Calls Try.prog 22 #[.slice A n c, .slice A' n' c'] w (fun e w' => e = .returned (.bool true) ∧ Below w.heap.size w w') :=
  (ints_true w Bd Bd' _ _ _ _ _ _ _ _ hx hy he).mono fun _ _ => retq_below
theorem factorial_b {w : World} {n : Int} {b : Bool} (h : okI n = b) : Calls Try.prog 11 #[.int .i64 n] w (RetCB w (facI n) b) := by rw [← h]; exact factorial_any
theorem rfactorial_b {w : World} {n : Int} {b : Bool} (h : okI n = b) : Calls Try.prog 12 #[.int .i64 n] w (RetCB w (facI n) b) := by rw [← h]; exact rfactorial_any
theorem choose_b {w : World} {n k : Int} {b : Bool} (hi : I64 n ∧ I64 k) (h : okI n = b) : Calls Try.prog 14 #[.int .i64 n, .int .i64 k] w (RetCB w (chI n k) b) := by rw [← h]; exact choose_any hi.1 hi.2
theorem rchoose_b {w : World} {n k : Int} {b : Bool} (hi : I64 n ∧ I64 k) (h : okI n = b) : Calls Try.prog 15 #[.int .i64 n, .int .i64 k] w (RetCB w (chI n k) b) := by rw [← h]; exact rchoose_any hi.1 hi.2
end Go.Proofs.Ytdakfpapigieiaa

/-
  What divideLong calls: shifts, the estimate, the subtraction, the adding back.
-/
import Derived.Test.YtjbbapibpcgnhaaKnuthMath
import Derived.Test.YtjbbapibpcgnhaaShort
import Derived.Test.YtjbbapibpcgnhaaLen
namespace Go.Proofs.Ytjbbapibpcgnhaa
open Go.RowKit

theorem zeros_any (w : World) (n : Nat) (hn : n < 4294967296) : Calls Try.prog 81 #[.int .u32 (n : Int)] w fun e w' => e = .returned (.int .i64 (32 - (bl n : Int))) ∧ w = w' := by
  have hb : bl n ≤ 32 := (bl_le 32 n).2 (by omega)
  go_enter Try.func81, Try.ntmps81
  go_wp2_with (go_at_call 66; ((with_reducible refine (len32_any _ n hn).mono ?_); rintro e w' ⟨rfl, rfl⟩))
  go_ret
  exact ⟨rfl, rfl⟩

theorem add32_any (w : World) (x y c : Nat) (hx : x < 4294967296) (hy : y < 4294967296) (hc : c ≤ 1) :
    Calls Try.prog 89 #[.int .u32 (x : Int), .int .u32 (y : Int), .int .u32 (c : Int)] w fun e w' =>
      e = .returned (.tuple #[.int .u32 (((x + y + c) % 4294967296 : Nat) : Int), .int .u32 (((x + y + c) / 4294967296 : Nat) : Int)]) ∧ w = w' := by
  go_enter Try.func89, Try.ntmps89
  go_wp2
  go_ret2
  exact ⟨by congr 3, rfl⟩

theorem natCast_div_ (a : Nat) : ((a : Nat) : Int) / 4294967296 = ((a / 4294967296 : Nat) : Int) := by omega
theorem natCast_mod_ (a : Nat) : ((a : Nat) : Int) % 4294967296 = ((a % 4294967296 : Nat) : Int) := by omega
theorem or_shl {q l s : Nat} (hs : s < 32) (hq : q < 2 ^ s) (hl : l < 4294967296) : bits .or .u64 (q : Int) (IntKind.u64.wrap ((l : Int) * 2 ^ s)) = ((q + l * 2 ^ s : Nat) : Int) := by
  have hP : 2 ^ s ≤ 2147483648 := by
    have : 2 ^ s ≤ 2 ^ 31 := Nat.pow_le_pow_right (by omega) (by omega)
    omega
  have h1 : l * 2 ^ s ≤ 4294967295 * 2147483648 := Nat.mul_le_mul (by omega) hP
  have e : IntKind.u64.wrap ((l : Int) * 2 ^ s) = ((l * 2 ^ s : Nat) : Int) := by
    have e1 : ((l : Int) * 2 ^ s) = ((l * 2 ^ s : Nat) : Int) := by simp
    rw [e1]
    generalize l * 2 ^ s = t at *
    simp only [IntKind.wrap, IntKind.bits, IntKind.signed]
    simp
    omega
  rw [e, u64_or_nat _ _ (by omega) (by omega), Nat.or_comm, nat_join s (l * 2 ^ s) q (Nat.mul_mod_left _ _) hq, Nat.add_comm]
theorem shl_small {P q l : Nat} (_hP : P ≤ 2147483648) (hq : q < P) (hl : l < 4294967296) : (q + l * P) / 4294967296 < P := by
  rw [Nat.div_lt_iff_lt_mul (by omega)]
  have : (l + 1) * P ≤ 4294967296 * P := Nat.mul_le_mul_right P hl
  rw [Nat.add_mul] at this
  rw [Nat.mul_comm P]
  omega

/-- the shifted number so far -/
def ShlRel (w : World) (xs : List Nat) (n s k q : Nat) (wr : World) : Prop :=
  ∃ os, os.length = n + 1 ∧ vl os k + pw k * q = vl xs k * 2 ^ s ∧ Own wr w.heap.size os ∧ Below w.heap.size w wr
def RetShl (w : World) (xs : List Nat) (n s : Nat) (e : Ending) (w' : World) : Prop :=
  ∃ os, e = .returned (.slice (some ⟨w.heap.size, 0, none⟩) (n + 1) (n + 1)) ∧ os.length = n + 1 ∧ val os = val xs * 2 ^ s ∧ Own w' w.heap.size os ∧ Below w.heap.size w w'
theorem shl_step {xs os : List Nat} {s k q : Nat} (hk : k < os.length) (h : vl os k + pw k * q = vl xs k * 2 ^ s) :
    vl (os.set k ((q + lm xs k * 2 ^ s) % 4294967296)) (k + 1) + pw (k + 1) * ((q + lm xs k * 2 ^ s) / 4294967296) = vl xs (k + 1) * 2 ^ s := by
  rw [vl_succ, vl_set _ (Nat.le_refl _), lm_set_eq _ hk, pw_succ, step_low, vl_succ]
  grind

set_option maxHeartbeats 1000000 in
theorem shiftLeft_any (w : World) (Bd : Nat) (A : Option Addr) (n c : Nat) (xs : List Nat) (h : Rd w Bd A n c xs) (hB : Bd ≤ w.heap.size) (hn : n + 1 ≤ 70368744177664) (s : Nat) (hs : s < 32) :
    Calls Try.prog 82 #[.slice A n c, .int .i64 (s : Int)] w (RetShl w xs n s) := by
  have H := hide h
  have hP : Hid (2 ^ s ≤ 2147483648) := hide (by
    have : 2 ^ s ≤ 2 ^ 31 := Nat.pow_le_pow_right (by omega) (by omega)
    omega)
  clear h
  go_enter Try.func82, Try.ntmps82
  go_wp2_with (at_make; refine wpList_make_nat _ rfl _ _ rfl _ _ _ _ (n + 1) rfl rfl (by omega) (by omega) (by omega) ?_; intro w1 hown hb hg)
  go_loopw [6, 15] (fun cy i wr => ∃ k q : Nat, k ≤ n ∧ q < 2147483648 ∧ Hid (q < 2 ^ s) ∧ i = .int .i64 k ∧ cy = .int .u64 q ∧ ShlRel w xs n s k q wr) (fun _ i _ => n - (intOf i).toNat)
  case atStart => exact ⟨0, 0, by omega, by omega, hide (Nat.two_pow_pos s), rfl, rfl, List.replicate (n + 1) 0, List.length_replicate, by simp [vl], hown, hb⟩
  case round =>
    obtain ⟨k, q, hk, hq, hqs, rfl, rfl, os, hos, hval, hO, hBl⟩ := hrel
    have hsz := hide (show w.heap.size < wr.heap.size from hO.lt)
    by_cases hkl : k < n
    · have hko : k < os.length := by omega
      have hco := hO.cell hko
      have hfo := hO.frozen k
      obtain ⟨ad, rfl, hadb, hca⟩ := (H.out.below (hBl.mono hB)).at_ hkl
      have hl := H.out.limbs k
      have hst := hide (shl_step (s := s) hko hval)
      replace hO := hide hO
      replace hBl := hide hBl
      clear hval
      have hor := or_shl (l := lm xs k) hs hqs.out hl
      have hq2 := shl_small hP.out hqs.out hl
      go_wp2
      go_roundw
      case rel => exact ⟨k + 1, (q + lm xs k * 2 ^ s) / 4294967296, by omega, by have := hP.out; have := hq2; omega, hide hq2, by go_num, by simp, _, by simpa using hos, hst.out, hO.out.put (Nat.mod_lt _ (by omega)) (by simp), hBl.out.setCell (Nat.le_refl _) _⟩
      case measure => simp [intOf]; omega
    · have hkm : k = n := by omega
      subst hkm
      have hko : k < os.length := by omega
      have hco := hO.cell hko
      have hfo := hO.frozen k
      have hv : Hid (val (os.set k q) = val xs * 2 ^ s) := hide (by
        unfold val
        rw [List.length_set, hos, H.out.len, ← hval, vl_succ, vl_set _ (Nat.le_refl _), lm_set_eq _ hko])
      replace hO := hide hO
      replace hBl := hide hBl
      clear hval
      go_wp2
      go_ret
      exact ⟨os.set k q, rfl, by simpa using hos, hv.out, hO.out.put (by omega) (by omega), hBl.out.setCell (Nat.le_refl _) _⟩

end Go.Proofs.Ytjbbapibpcgnhaa

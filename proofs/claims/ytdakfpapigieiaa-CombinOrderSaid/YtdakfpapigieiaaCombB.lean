/-
  The reference's product, Factorial, Choose.
-/
import Derived.Test.YtdakfpapigieiaaCombA
namespace Go.Proofs.Ytdakfpapigieiaa
open Go.RowKit

set_option maxHeartbeats 1000000 in
theorem rone_any {w : World} : Calls Try.prog 51 #[] w (RetC w 1) := by
  go_enter Try.func51, Try.ntmps51
  go_wp2_with fail
  refine (rof_c (m := 1) (by omega)).mono ?_
  rintro e w1 ⟨x, rfl, R, hb⟩
  replace R := hide R
  replace hb := hide hb
  go_wp2
  go_ret
  exact ⟨x, rfl, R.out, hb.out⟩
/-- the product of lo .. lo + c - 1 -/
theorem rproduct_any {w : World} {lo hi : Int} {L c r : Nat} (hlo : lo = (L : Int)) (hhi : hi + 1 = ((L + c : Nat) : Int)) (h0 : 0 < L) (hb : L + c ≤ 201) (hr : prd L c = r) : Calls Try.prog 34 #[.int .i64 lo, .int .i64 hi] w (RetC w r) := by
  subst hlo
  obtain rfl : hi = (L : Int) + (c : Int) - 1 := by omega
  have B := hide (Below.refl w.heap.size w)
  replace hr := hide hr
  clear hhi
  go_enter Try.func34, Try.ntmps34
  go_wp2_with fail
  refine rone_any.mono ?_
  rintro e w1 ⟨x1, rfl, R1, hb⟩
  replace B := hide (Below.then_ B.out hb)
  replace R1 := hide (show Nn w1 w1.heap.size x1 (prd L 0) from R1)
  clear hb
  go_wp2
  go_loopw [5, 6] (fun p i wr => ∃ (k : Nat) (x : Nc), k ≤ c ∧ p = .slice x.A x.n x.c ∧ i = .int .i64 ((L : Int) + (k : Int)) ∧ Hid (Nn wr wr.heap.size x (prd L k)) ∧ Hid (Below w.heap.size w wr)) (fun _ i _ => L + c - (intOf i).toNat)
  case atStart => exact ⟨0, x1, Nat.zero_le _, rfl, rfl, R1, B⟩
  case round =>
    obtain ⟨k, x, hk, rfl, rfl, R, B2⟩ := hrel
    clear R1 B
    by_cases hkl : k < c
    · have hw : IntKind.u64.wrap ((L : Int) + (k : Int)) = ((L + k : Nat) : Int) := wrap_u64_nat (by omega) (by omega)
      go_wp2_with fail
      refine (rof_c (m := L + k) (by omega)).mono ?_
      rintro e w3 ⟨x3, rfl, R3, hb⟩
      replace R := hide (R.out.then_ hb)
      replace B2 := hide (Below.then_ B2.out hb)
      replace R3 := hide R3
      clear hb
      go_wp2_with fail
      refine (rmul_c (R.out.nv (prd_sm h0 (by omega))) (R3.out.nv (nat_sm (by omega))) (Nat.le_refl _) rfl).mono ?_
      rintro e w4 ⟨x4, rfl, R4, hb⟩
      replace B2 := hide (Below.then_ B2.out hb)
      replace R4 := hide (show Nn w4 w4.heap.size x4 (prd L (k + 1)) from R4)
      clear hb R R3
      go_wp2
      go_roundw
      case rel => exact ⟨k + 1, x4, by omega, rfl, by go_num, R4, B2⟩
      case measure => simp [intOf]; omega
    · obtain rfl : k = c := by omega
      rw [hr.out] at R
      go_wp2
      go_ret
      exact ⟨x, rfl, R.out, B2.out⟩
set_option maxHeartbeats 1000000 in
theorem rfactorial_any {w : World} {n : Int} : Calls Try.prog 12 #[.int .i64 n] w (RetCB w (facI n) (okI n)) := by
  have B := hide (Below.refl w.heap.size w)
  by_cases h : 0 ≤ n ∧ n ≤ 200
  · obtain ⟨N, rfl⟩ : ∃ N : Nat, n = (N : Int) := ⟨n.toNat, by omega⟩
    have hok := okI_true h.1 h.2
    have hN : N ≤ 200 := by omega
    rw [facI_nat hN]
    have d0 : decide ((N : Int) < 0) = false := by simp
    have d1 : decide ((200 : Int) < (N : Int)) = false := by simp; omega
    clear h
    go_enter Try.func12, Try.ntmps12
    go_wp2_with fail
    refine (rproduct_any (L := 1) (c := N) (r := fac N) rfl (by omega) (by omega) (by omega) (prd_one N)).mono ?_
    rintro e w1 ⟨x, rfl, R, hb⟩
    replace B := hide (Below.then_ B.out hb)
    replace R := hide R
    clear hb
    go_wp2
    go_ret2
    exact ⟨x, by rw [hok]; rfl, R.out, B.out⟩
  · rw [okI_false h, show facI n = 0 from if_neg h]
    have d0 : decide (n < 0) = true ∨ (decide (n < 0) = false ∧ decide ((200 : Int) < n) = true) := by simp; omega
    clear h
    rcases d0 with d0 | ⟨d0, d1⟩
    all_goals
      go_enter Try.func12, Try.ntmps12
      go_wp2
      go_ret2
      exact cb_nil rfl B.out
set_option maxHeartbeats 2000000 in
theorem rchoose_any {w : World} {n k : Int} (hn : I64 n) (hk : I64 k) : Calls Try.prog 15 #[.int .i64 n, .int .i64 k] w (RetCB w (chI n k) (okI n)) := by
  have B := hide (Below.refl w.heap.size w)
  by_cases h : 0 ≤ n ∧ n ≤ 200
  · obtain ⟨N, rfl⟩ : ∃ N : Nat, n = (N : Int) := ⟨n.toNat, by omega⟩
    have hok := okI_true h.1 h.2
    have hN : N ≤ 200 := by omega
    have d0 : decide ((N : Int) < 0) = false := by simp
    have d1 : decide ((200 : Int) < (N : Int)) = false := by simp; omega
    by_cases h2 : 0 ≤ k ∧ k ≤ N
    · obtain ⟨K, rfl⟩ : ∃ K : Nat, k = (K : Int) := ⟨k.toNat, by omega⟩
      have hK : K ≤ N := by omega
      rw [chI_nat hN hK]
      have d2 : decide ((K : Int) < 0) = false := by simp
      have d3 : decide ((N : Int) < (K : Int)) = false := by simp; omega
      clear h h2 hn hk
      go_enter Try.func15, Try.ntmps15
      go_wp2_with fail
      refine (rproduct_any (L := N - K + 1) (c := K) (by omega) (by omega) (by omega) (by omega) rfl).mono ?_
      rintro e w1 ⟨x1, rfl, R1, hb⟩
      replace B := hide (Below.then_ B.out hb)
      replace R1 := hide R1
      clear hb
      go_wp2_with fail
      refine (rproduct_any (L := 1) (c := K) (r := fac K) rfl (by omega) (by omega) (by omega) (prd_one K)).mono ?_
      rintro e w2 ⟨x2, rfl, R2, hb⟩
      replace B := hide (Below.then_ B.out hb)
      replace R1 := hide (R1.out.then_ hb)
      replace R2 := hide R2
      clear hb
      go_wp2_with fail
      refine (rdivmod_c (R1.out.nv (prd_sm (by omega) (by omega))) (R2.out.nv (fac_sm (by omega))) (Nat.le_refl _) (Nat.pos_iff_ne_zero.1 (fac_pos K)) (ch_quo hK) rfl).mono ?_
      rintro e w3 ⟨x3, x4, rfl, R3, _, hb⟩
      replace B := hide (Below.then_ B.out hb)
      replace R3 := hide R3
      clear hb
      go_wp2
      go_ret2
      exact ⟨x3, by rw [hok]; rfl, R3.out, B.out⟩
    · rw [show chI (N : Int) k = 0 from if_neg fun h3 => h2 h3.2]
      have d2 : decide (k < 0) = true ∨ (decide (k < 0) = false ∧ decide ((N : Int) < k) = true) := by simp; omega
      clear h h2 hn hk
      rcases d2 with d2 | ⟨d2, d3⟩
      all_goals
        go_enter Try.func15, Try.ntmps15
        go_wp2
        go_ret2
        rw [hok]; exact cb_nil rfl B.out
  · rw [okI_false h, show chI n k = 0 from if_neg fun h2 => h h2.1]
    have d0 : decide (n < 0) = true ∨ (decide (n < 0) = false ∧ decide ((200 : Int) < n) = true) := by simp; omega
    clear h
    rcases d0 with d0 | ⟨d0, d1⟩
    all_goals
      go_enter Try.func15, Try.ntmps15
      go_wp2
      go_ret2
      exact cb_nil rfl B.out
/-- at arguments in range -/
theorem choose_nat {w : World} {n k : Int} {N K r : Nat} (hn : n = (N : Int)) (hk : k = (K : Int)) (hN : N ≤ 200) (hK : K ≤ N) (hr : ch N K = r) : Calls Try.prog 14 #[.int .i64 n, .int .i64 k] w (RetCB w r true) := by
  subst hn hk
  rw [← hr, ← chI_nat hN hK, ← okI_true (n := (N : Int)) (by omega) (by omega)]
  exact choose_any ⟨by omega, by omega⟩ ⟨by omega, by omega⟩
theorem rchoose_nat {w : World} {n k : Int} {N K r : Nat} (hn : n = (N : Int)) (hk : k = (K : Int)) (hN : N ≤ 200) (hK : K ≤ N) (hr : ch N K = r) : Calls Try.prog 15 #[.int .i64 n, .int .i64 k] w (RetCB w r true) := by
  subst hn hk
  rw [← hr, ← chI_nat hN hK, ← okI_true (n := (N : Int)) (by omega) (by omega)]
  exact rchoose_any ⟨by omega, by omega⟩ ⟨by omega, by omega⟩
end Go.Proofs.Ytdakfpapigieiaa

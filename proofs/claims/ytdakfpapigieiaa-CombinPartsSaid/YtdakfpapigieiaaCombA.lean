/-
  countable, number, share, Factorial, Choose.
-/
import Derived.Test.YtdakfpapigieiaaComb5
import Derived.Test.YtdakfpapigieiaaInts
namespace Go.Proofs.Ytdakfpapigieiaa
open Go.RowKit

noncomputable def okI (n : Int) : Bool := decide (0 ≤ n ∧ n ≤ 200)
theorem okI_true {n : Int} (h0 : 0 ≤ n) (h1 : n ≤ 200) : okI n = true := by simp [okI, h0, h1]
theorem okI_false {n : Int} (h : ¬ (0 ≤ n ∧ n ≤ 200)) : okI n = false := by simp only [okI, decide_eq_false_iff_not]; exact h
noncomputable def facI (n : Int) : Nat := if 0 ≤ n ∧ n ≤ 200 then fac n.toNat else 0
noncomputable def chI (n k : Int) : Nat := if (0 ≤ n ∧ n ≤ 200) ∧ 0 ≤ k ∧ k ≤ n then ch n.toNat k.toNat else 0
theorem chI_nat {n k : Nat} (hn : n ≤ 200) (hk : k ≤ n) : chI n k = ch n k := by
  unfold chI
  rw [if_pos ⟨⟨by omega, by omega⟩, by omega, by omega⟩, Int.toNat_natCast, Int.toNat_natCast]
theorem ch_absorb {n k : Nat} : ch (n + 1) (k + 1) * (k + 1) = ch n k * (n + 1) := by
  rw [ch_succ, Nat.add_mul]
  by_cases h : k < n
  · rw [ch_step h, ← Nat.mul_add]
    congr 1
    omega
  · rw [ch_lt (by omega : n < k + 1), Nat.zero_mul, Nat.add_zero]
    by_cases h2 : k = n
    · subst h2; rfl
    · rw [ch_lt (by omega : n < k), Nat.zero_mul, Nat.zero_mul]
theorem ch_absorb_quo {n k : Nat} : ch n k * (n + 1) / (k + 1) = ch (n + 1) (k + 1) := by rw [← ch_absorb, Nat.mul_div_cancel _ (by omega)]
theorem ch_split_quo {n k : Nat} : ch (n + 1) (k + 1) * (k + 1) / (n + 1) = ch n k := by rw [ch_absorb, Nat.mul_div_cancel _ (by omega)]

set_option maxHeartbeats 1000000 in
theorem countable_any {w : World} {n : Int} : Calls Try.prog 32 #[.int .i64 n] w (fun e w' => e = .returned (.bool (okI n)) ∧ Below w.heap.size w w') := by
  have B := hide (Below.refl w.heap.size w)
  by_cases h0 : 0 ≤ n
  · by_cases h1 : n ≤ 200
    · rw [okI_true h0 h1]
      have d0 : decide ((0 : Int) ≤ n) = true := by simpa using h0
      have d1 : decide (n ≤ (200 : Int)) = true := by simpa using h1
      clear h0 h1
      go_enter Try.func32, Try.ntmps32
      go_wp2
      go_ret
      exact ⟨rfl, B.out⟩
    · rw [okI_false (fun h => h1 h.2)]
      have d0 : decide ((0 : Int) ≤ n) = true := by simpa using h0
      have d1 : decide (n ≤ (200 : Int)) = false := by simpa using h1
      clear h0 h1
      go_enter Try.func32, Try.ntmps32
      go_wp2
      go_ret
      exact ⟨rfl, B.out⟩
  · rw [okI_false (fun h => h0 h.1)]
    have d0 : decide ((0 : Int) ≤ n) = false := by simpa using h0
    clear h0
    go_enter Try.func32, Try.ntmps32
    go_wp2
    go_ret
    exact ⟨rfl, B.out⟩
theorem wrap_u64_nat {z : Int} {m : Nat} (hz : z = (m : Int)) (hm : m < 9223372036854775808) : IntKind.u64.wrap z = (m : Int) := by
  subst hz
  simp only [IntKind.wrap, IntKind.bits, IntKind.signed]
  simp
  omega
set_option maxHeartbeats 1000000 in
theorem number_any {w : World} {z : Int} {m : Nat} (hz : z = (m : Int)) (hm : m < 9223372036854775808) : Calls Try.prog 33 #[.int .i64 z] w (RetC w m) := by
  have hwr := wrap_u64_nat hz hm
  clear hz
  go_enter Try.func33, Try.ntmps33
  go_wp2_with fail
  refine (of_c (m := m) (by omega)).mono ?_
  rintro e w1 ⟨x, rfl, R, hb⟩
  replace R := hide R
  replace hb := hide hb
  go_wp2
  go_ret
  exact ⟨x, rfl, R.out, hb.out⟩
set_option maxHeartbeats 1000000 in
theorem share_any {w : World} {Bd : Nat} {x : Nc} {m : Nat} (h_x : Nn w Bd x m) (hB : Bd ≤ w.heap.size) {p q : Int} {a b r : Nat} (ha : p = (a : Int)) (hb' : q = (b : Int)) (ba : a < 9223372036854775808) (bb : b < 9223372036854775808) (b0 : b ≠ 0) (sx : Sm m) (sp : Sm (m * a)) (hr : m * a / b = r) :
    Calls Try.prog 35 #[.slice x.A x.n x.c, .int .i64 p, .int .i64 q] w (RetC w r) := by
  have sa := hide (nat_sm (m := a) (by omega))
  have sb := hide (nat_sm (m := b) (by omega))
  replace ha := hide ha
  replace hb' := hide hb'
  replace ba := hide ba
  replace bb := hide bb
  replace b0 := hide b0
  replace sx := hide sx
  replace sp := hide sp
  replace hr := hide hr
  have R_x := hide (h_x.upto (Below.refl _ _) hB)
  clear h_x
  have B := hide (Below.refl w.heap.size w)
  go_enter Try.func35, Try.ntmps35
  go_wp2_with fail
  refine (number_any ha.out ba.out).mono ?_
  rintro e w1 ⟨x_a, rfl, R_a, hb⟩
  replace R_x := hide (R_x.out.then_ hb)
  replace B := hide (Below.then_ B.out hb)
  clear hb
  replace R_a := hide R_a
  go_wp2_with fail
  refine (mul_c (R_x.out.nv sx.out) (R_a.out.nv sa.out) (Nat.le_refl _) rfl).mono ?_
  rintro e w2 ⟨x_p, rfl, R_p, hb⟩
  replace R_x := hide (R_x.out.then_ hb)
  replace R_a := hide (R_a.out.then_ hb)
  replace B := hide (Below.then_ B.out hb)
  clear hb
  replace R_p := hide R_p
  go_wp2_with fail
  refine (number_any hb'.out bb.out).mono ?_
  rintro e w3 ⟨x_b, rfl, R_b, hb⟩
  replace R_x := hide (R_x.out.then_ hb)
  replace R_a := hide (R_a.out.then_ hb)
  replace R_p := hide (R_p.out.then_ hb)
  replace B := hide (Below.then_ B.out hb)
  clear hb
  replace R_b := hide R_b
  go_wp2_with fail
  refine (divmod_c (R_p.out.nv sp.out) (R_b.out.nv sb.out) (Nat.le_refl _) b0.out rfl rfl).mono ?_
  rintro e w4 ⟨x_q, x_r, rfl, R_q, R_r, hb⟩
  replace R_x := hide (R_x.out.then_ hb)
  replace R_a := hide (R_a.out.then_ hb)
  replace R_p := hide (R_p.out.then_ hb)
  replace R_b := hide (R_b.out.then_ hb)
  replace B := hide (Below.then_ B.out hb)
  clear hb
  replace R_q := hide R_q
  replace R_r := hide R_r
  rw [hr.out] at R_q
  go_wp2
  go_ret
  exact ⟨x_q, rfl, R_q.out, B.out⟩
theorem facI_nat {n : Nat} (hn : n ≤ 200) : facI n = fac n := by
  unfold facI
  rw [if_pos ⟨by omega, by omega⟩, Int.toNat_natCast]
theorem cb_nil {w w' : World} {b : Bool} {m : Nat} (hm : m = 0) (B : Below w.heap.size w w') : RetCB w m b (.returned (.tuple #[.slice none 0 0, .bool b])) w' := by
  subst hm
  exact ⟨⟨none, 0, 0⟩, rfl, Nn.zero _ _ (by omega) _, B⟩
set_option maxHeartbeats 2000000 in
theorem factorial_any {w : World} {n : Int} : Calls Try.prog 11 #[.int .i64 n] w (RetCB w (facI n) (okI n)) := by
  have B := hide (Below.refl w.heap.size w)
  by_cases h : 0 ≤ n ∧ n ≤ 200
  · obtain ⟨N, rfl⟩ : ∃ N : Nat, n = (N : Int) := ⟨n.toNat, by omega⟩
    have hok := okI_true h.1 h.2
    have hN : N ≤ 200 := by omega
    rw [facI_nat hN]
    clear h
    go_enter Try.func11, Try.ntmps11
    go_wp2_with fail
    refine countable_any.mono ?_
    rw [hok]
    rintro e w1 ⟨rfl, hb⟩
    replace B := hide (Below.then_ B.out hb)
    clear hb
    go_wp2_with fail
    refine (number_any (m := 1) rfl (by omega)).mono ?_
    rintro e w2 ⟨x1, rfl, R1, hb⟩
    replace B := hide (Below.then_ B.out hb)
    replace R1 := hide (show Nn w2 w2.heap.size x1 (fac 0) from R1)
    clear hb
    go_wp2
    go_loopw [4, 11] (fun p i wr => ∃ (k : Nat) (x : Nc), k ≤ N ∧ p = .slice x.A x.n x.c ∧ i = .int .i64 k ∧ Hid (Nn wr wr.heap.size x (fac k)) ∧ Hid (Below w.heap.size w wr)) (fun _ i _ => N - (intOf i).toNat)
    case atStart => exact ⟨0, x1, Nat.zero_le _, rfl, rfl, R1, B⟩
    case round =>
      obtain ⟨k, x, hk, rfl, rfl, R, B2⟩ := hrel
      clear R1 B
      by_cases hkl : k < N
      · go_wp2_with fail
        refine (number_any (m := k + 1) (by omega) (by omega)).mono ?_
        rintro e w3 ⟨x3, rfl, R3, hb⟩
        replace R := hide (R.out.then_ hb)
        replace B2 := hide (Below.then_ B2.out hb)
        replace R3 := hide R3
        clear hb
        go_wp2_with fail
        refine (mul_c (R.out.nv (fac_sm (by omega))) (R3.out.nv (nat_sm (by omega))) (Nat.le_refl _) (Nat.mul_comm _ _)).mono ?_
        rintro e w4 ⟨x4, rfl, R4, hb⟩
        replace B2 := hide (Below.then_ B2.out hb)
        replace R4 := hide (show Nn w4 w4.heap.size x4 (fac (k + 1)) from R4)
        clear hb R R3
        go_wp2
        go_roundw
        case rel => exact ⟨k + 1, x4, by omega, rfl, by go_num, R4, B2⟩
        case measure => simp [intOf]; omega
      · obtain rfl : k = N := by omega
        go_wp2
        go_ret2
        exact ⟨x, by rw [hok]; rfl, R.out, B2.out⟩
  · rw [okI_false h, show facI n = 0 from if_neg h]
    have hok := okI_false h
    clear h
    go_enter Try.func11, Try.ntmps11
    go_wp2_with fail
    refine countable_any.mono ?_
    rw [hok]
    rintro e w1 ⟨rfl, hb⟩
    replace B := hide (Below.then_ B.out hb)
    clear hb
    go_wp2
    go_ret2
    exact cb_nil rfl B.out
set_option maxHeartbeats 4000000 in
theorem choose_any {w : World} {n k : Int} (hn : I64 n) (hk : I64 k) : Calls Try.prog 14 #[.int .i64 n, .int .i64 k] w (RetCB w (chI n k) (okI n)) := by
  have B := hide (Below.refl w.heap.size w)
  by_cases h : 0 ≤ n ∧ n ≤ 200
  · obtain ⟨N, rfl⟩ : ∃ N : Nat, n = (N : Int) := ⟨n.toNat, by omega⟩
    have hok := okI_true h.1 h.2
    have hN : N ≤ 200 := by omega
    by_cases h2 : 0 ≤ k ∧ k ≤ N
    · obtain ⟨K, rfl⟩ : ∃ K : Nat, k = (K : Int) := ⟨k.toNat, by omega⟩
      have hK : K ≤ N := by omega
      rw [chI_nat hN hK]
      obtain ⟨M, hM, hMN, hMc⟩ : ∃ M : Nat, min (K : Int) ((N : Int) - (K : Int)) = (M : Int) ∧ M ≤ N ∧ ch N M = ch N K := by
        by_cases hmin : K ≤ N - K
        · exact ⟨K, by omega, hK, rfl⟩
        · exact ⟨N - K, by omega, by omega, ch_symm hK⟩
      have d0 : decide ((K : Int) < 0) = false := by simp
      have d1 : decide ((N : Int) < (K : Int)) = false := by simp; omega
      have hMc' := hide hMc
      have hKh := hide hK
      clear h h2 hMc hn hk
      go_enter Try.func14, Try.ntmps14
      go_wp2_with fail
      refine countable_any.mono ?_
      rw [hok]
      rintro e w1 ⟨rfl, hb⟩
      replace B := hide (Below.then_ B.out hb)
      clear hb
      go_wp2_with fail
      refine (number_any (m := 1) rfl (by omega)).mono ?_
      rintro e w2 ⟨x1, rfl, R1, hb⟩
      replace B := hide (Below.then_ B.out hb)
      replace R1 := hide (show Nn w2 w2.heap.size x1 (ch (N - M + 0) 0) by rw [ch_zero]; exact R1)
      clear hb
      go_wp2
      go_loopw [6, 25] (fun p i wr => ∃ (k : Nat) (x : Nc), k ≤ M ∧ p = .slice x.A x.n x.c ∧ i = .int .i64 k ∧ Hid (Nn wr wr.heap.size x (ch (N - M + k) k)) ∧ Hid (Below w.heap.size w wr)) (fun _ i _ => M - (intOf i).toNat)
      case atStart => exact ⟨0, x1, Nat.zero_le _, rfl, rfl, R1, B⟩
      case round =>
        obtain ⟨k, x, hk, rfl, rfl, R, B2⟩ := hrel
        clear R1 B
        by_cases hkl : k < M
        · go_wp2_with fail
          refine (share_any (a := N - M + k + 1) (b := k + 1) (r := ch (N - M + k + 1) (k + 1)) R.out (Nat.le_refl _) (by omega) (by omega) (by omega) (by omega) (by omega) (ch_sm (by omega)) (step_sm (by omega) (by omega)) ch_absorb_quo).mono ?_
          rintro e w3 ⟨x3, rfl, R3, hb⟩
          replace B2 := hide (Below.then_ B2.out hb)
          replace R3 := hide (show Nn w3 w3.heap.size x3 (ch (N - M + (k + 1)) (k + 1)) from R3)
          clear hb R
          go_wp2
          go_roundw
          case rel => exact ⟨k + 1, x3, by omega, rfl, by go_num, R3, B2⟩
          case measure => simp [intOf]; omega
        · obtain rfl : k = M := by omega
          replace R := hide (show Nn wr wr.heap.size x (ch N K) by rw [← hMc'.out]; have h3 := R.out; rw [show N - k + k = N by omega] at h3; exact h3)
          go_wp2
          go_ret2
          exact ⟨x, by rw [hok]; rfl, R.out, B2.out⟩
    · rw [show chI (N : Int) k = 0 from if_neg fun h3 => h2 h3.2]
      have d0 : decide (k < 0) = true ∨ (decide (k < 0) = false ∧ decide ((N : Int) < k) = true) := by simp; omega
      clear h h2 hn hk
      rcases d0 with d0 | ⟨d0, d1⟩
      all_goals
        go_enter Try.func14, Try.ntmps14
        go_wp2_with fail
        refine countable_any.mono ?_
        rw [hok]
        rintro e w1 ⟨rfl, hb⟩
        replace B := hide (Below.then_ B.out hb)
        clear hb
        go_wp2
        go_ret2
        rw [hok]; exact cb_nil rfl B.out
  · rw [okI_false h, show chI n k = 0 from if_neg fun h2 => h h2.1]
    have hok := okI_false h
    clear h
    go_enter Try.func14, Try.ntmps14
    go_wp2_with fail
    refine countable_any.mono ?_
    rw [hok]
    rintro e w1 ⟨rfl, hb⟩
    replace B := hide (Below.then_ B.out hb)
    clear hb
    go_wp2
    go_ret2
    exact cb_nil rfl B.out
end Go.Proofs.Ytdakfpapigieiaa

/-
  CombinPascal.
-/
import Derived.Test.YtdakfpapigieiaaNumb6
namespace Go.Proofs.Ytdakfpapigieiaa
open Go.RowKit

theorem factorial_nat {w : World} {n : Int} {N r : Nat} (hn : n = (N : Int)) (hN : N ≤ 200) (hr : fac N = r) : Calls Try.prog 11 #[.int .i64 n] w (RetCB w r true) := by
  subst hn
  rw [← hr, ← facI_nat hN]
  exact factorial_b (okI_true (by omega) (by omega))
theorem bits_b {w : World} {Bd : Nat} {x : Nc} {a z : Nat} (hx : Nv w Bd x a) (hz : bl a = z) : Calls Try.prog 31 #[.slice x.A x.n x.c] w (fun e w' => e = .returned (.int .i64 (z : Int)) ∧ Below w.heap.size w w') := by
  rw [← hz]; exact bits_c hx
theorem chI_pascal {N K : Nat} (h0 : N ≠ 0) (hN : N ≤ 200) (hK : K ≤ N) : chI ((N : Int) - 1) ((K : Int) - 1) + chI ((N : Int) - 1) (K : Int) = ch N K := by
  obtain ⟨M, rfl⟩ : ∃ M, N = M + 1 := ⟨N - 1, by omega⟩
  have e1 : ((M + 1 : Nat) : Int) - 1 = (M : Int) := by omega
  rw [e1]
  cases K with
  | zero =>
    rw [ch_zero, show chI (M : Int) (((0 : Nat) : Int) - 1) = 0 from if_neg (by omega), show chI (M : Int) ((0 : Nat) : Int) = ch M 0 from chI_nat (by omega) (by omega), ch_zero]
  | succ K =>
    have e2 : ((K + 1 : Nat) : Int) - 1 = (K : Int) := by omega
    rw [e2, chI_nat (by omega) (by omega), ch_succ]
    by_cases h : K + 1 ≤ M
    · rw [chI_nat (by omega) h]
    · rw [ch_lt (by omega : M < K + 1), show chI (M : Int) ((K + 1 : Nat) : Int) = 0 from if_neg (by omega)]
set_option maxHeartbeats 4000000 in
set_option maxRecDepth 100000 in
theorem pascal_walk {w : World} {n k : Int} (hi : I64 n ∧ I64 k) : Calls Try.prog 8 #[.int .i64 n, .int .i64 k] w (fun e w' => e = .returned (.bool true) ∧ Below w.heap.size w w') := by
  by_cases hin : (0 ≤ n ∧ n ≤ 200) ∧ 0 ≤ k ∧ k ≤ n
  · obtain ⟨N, rfl⟩ : ∃ N : Nat, n = (N : Int) := ⟨n.toNat, by omega⟩
    obtain ⟨K, rfl⟩ : ∃ K : Nat, k = (K : Int) := ⟨k.toNat, by omega⟩
    have hN : N ≤ 200 := by omega
    have hK : K ≤ N := by omega
    have e0 : decide ((N : Int) < 0) = false := by simp
    have e1 : decide ((200 : Int) < (N : Int)) = false := by simp; omega
    have e2 : decide ((K : Int) < 0) = false := by simp
    have e3 : decide ((N : Int) < (K : Int)) = false := by simp; omega
    have e4 : decide (N < K) = false := by simp; omega
    have hsym := hide (ch_symm hK)
    have hfac := hide (ch_fac hK)
    have hs3 := hide (fac3_sm (a := N) (b := K) (c := N - K) hN (by omega) (by omega))
    obtain ⟨z, hz⟩ : ∃ z, bl (fac N) = z := ⟨_, rfl⟩
    have hz0 : z ≠ 0 := by
      intro h
      rw [h, bl_eq_zero] at hz
      have := fac_pos N
      omega
    have e5 : ((z : Int) == 0) = false := by simp; omega
    replace hz := hide hz
    clear hin hz0 hi
    by_cases hN0 : N = 0
    · have e6 : ((N : Int) == 0) = true := by simp; omega
      clear hN0
      have B := hide (Below.refl w.heap.size w)
      go_enter Try.func8, Try.ntmps8
      go_wp2_with fail
      refine (choose_nat (N := N) (K := K) rfl rfl hN hK rfl).mono ?_
      rintro e w1 ⟨x_c, rfl, R_c, hb⟩
      replace B := hide (Below.then_ B.out hb)
      clear hb
      replace R_c := hide R_c
      go_wp2_with fail
      refine (choose_nat (N := N) (K := N - K) rfl (by omega) hN (by omega) hsym.out).mono ?_
      rintro e w2 ⟨x_d, rfl, R_d, hb⟩
      replace R_c := hide (R_c.out.then_ hb)
      replace B := hide (Below.then_ B.out hb)
      clear hb
      replace R_d := hide R_d
      go_wp2_with fail
      refine (limbs_c R_c.out R_d.out rfl).mono ?_
      rintro e w3 ⟨rfl, hb⟩
      replace R_c := hide (R_c.out.then_ hb)
      replace R_d := hide (R_d.out.then_ hb)
      replace B := hide (Below.then_ B.out hb)
      clear hb
      clear R_d
      go_wp2_with fail
      refine (factorial_nat (N := N) rfl hN rfl).mono ?_
      rintro e w4 ⟨x_f, rfl, R_f, hb⟩
      replace R_c := hide (R_c.out.then_ hb)
      replace B := hide (Below.then_ B.out hb)
      clear hb
      replace R_f := hide R_f
      go_wp2_with fail
      refine (factorial_nat (N := K) rfl (by omega) rfl).mono ?_
      rintro e w5 ⟨x_g, rfl, R_g, hb⟩
      replace R_c := hide (R_c.out.then_ hb)
      replace R_f := hide (R_f.out.then_ hb)
      replace B := hide (Below.then_ B.out hb)
      clear hb
      replace R_g := hide R_g
      go_wp2_with fail
      refine (factorial_nat (N := N - K) (by omega) (by omega) rfl).mono ?_
      rintro e w6 ⟨x_h, rfl, R_h, hb⟩
      replace R_c := hide (R_c.out.then_ hb)
      replace R_f := hide (R_f.out.then_ hb)
      replace R_g := hide (R_g.out.then_ hb)
      replace B := hide (Below.then_ B.out hb)
      clear hb
      replace R_h := hide R_h
      go_wp2_with fail
      refine (mul_c (R_g.out.nv (fac_sm (by omega))) (R_h.out.nv (fac_sm (by omega))) (Nat.le_refl _) rfl).mono ?_
      rintro e w7 ⟨x_p, rfl, R_p, hb⟩
      replace R_c := hide (R_c.out.then_ hb)
      replace R_f := hide (R_f.out.then_ hb)
      replace R_g := hide (R_g.out.then_ hb)
      replace R_h := hide (R_h.out.then_ hb)
      replace B := hide (Below.then_ B.out hb)
      clear hb
      replace R_p := hide R_p
      clear R_g
      clear R_h
      go_wp2_with fail
      refine (mul_c (R_c.out.nv (ch_sm hN)) (R_p.out.nv hs3.out.2) (Nat.le_refl _) hfac.out).mono ?_
      rintro e w8 ⟨x_q, rfl, R_q, hb⟩
      replace R_c := hide (R_c.out.then_ hb)
      replace R_f := hide (R_f.out.then_ hb)
      replace R_p := hide (R_p.out.then_ hb)
      replace B := hide (Below.then_ B.out hb)
      clear hb
      replace R_q := hide R_q
      clear R_p
      go_wp2_with fail
      refine (limbs_c R_q.out R_f.out rfl).mono ?_
      rintro e w9 ⟨rfl, hb⟩
      replace R_c := hide (R_c.out.then_ hb)
      replace R_f := hide (R_f.out.then_ hb)
      replace R_q := hide (R_q.out.then_ hb)
      replace B := hide (Below.then_ B.out hb)
      clear hb
      clear R_q
      go_wp2_with fail
      refine (bits_b (R_f.out.nv (fac_sm hN)) hz.out).mono ?_
      rintro e w10 ⟨rfl, hb⟩
      replace R_c := hide (R_c.out.then_ hb)
      replace R_f := hide (R_f.out.then_ hb)
      replace B := hide (Below.then_ B.out hb)
      clear hb
      clear R_f
      go_wp2
      go_ret
      exact ⟨rfl, B.out⟩
    · have e6 : ((N : Int) == 0) = false := by simp; omega
      have hp := hide (chI_pascal hN0 hN hK)
      have hb1 := hide (okI_true (n := (N : Int) - 1) (by omega) (by omega))
      have hi1 := hide (show I64 ((N : Int) - 1) ∧ I64 ((K : Int) - 1) from ⟨⟨by omega, by omega⟩, ⟨by omega, by omega⟩⟩)
      have hi2 := hide (show I64 ((N : Int) - 1) ∧ I64 (K : Int) from ⟨⟨by omega, by omega⟩, ⟨by omega, by omega⟩⟩)
      clear hN0
      have B := hide (Below.refl w.heap.size w)
      go_enter Try.func8, Try.ntmps8
      go_wp2_with fail
      refine (choose_nat (N := N) (K := K) rfl rfl hN hK rfl).mono ?_
      rintro e w1 ⟨x_c, rfl, R_c, hb⟩
      replace B := hide (Below.then_ B.out hb)
      clear hb
      replace R_c := hide R_c
      go_wp2_with fail
      refine (choose_nat (N := N) (K := N - K) rfl (by omega) hN (by omega) hsym.out).mono ?_
      rintro e w2 ⟨x_d, rfl, R_d, hb⟩
      replace R_c := hide (R_c.out.then_ hb)
      replace B := hide (Below.then_ B.out hb)
      clear hb
      replace R_d := hide R_d
      go_wp2_with fail
      refine (limbs_c R_c.out R_d.out rfl).mono ?_
      rintro e w3 ⟨rfl, hb⟩
      replace R_c := hide (R_c.out.then_ hb)
      replace R_d := hide (R_d.out.then_ hb)
      replace B := hide (Below.then_ B.out hb)
      clear hb
      clear R_d
      go_wp2_with fail
      refine (factorial_nat (N := N) rfl hN rfl).mono ?_
      rintro e w4 ⟨x_f, rfl, R_f, hb⟩
      replace R_c := hide (R_c.out.then_ hb)
      replace B := hide (Below.then_ B.out hb)
      clear hb
      replace R_f := hide R_f
      go_wp2_with fail
      refine (factorial_nat (N := K) rfl (by omega) rfl).mono ?_
      rintro e w5 ⟨x_g, rfl, R_g, hb⟩
      replace R_c := hide (R_c.out.then_ hb)
      replace R_f := hide (R_f.out.then_ hb)
      replace B := hide (Below.then_ B.out hb)
      clear hb
      replace R_g := hide R_g
      go_wp2_with fail
      refine (factorial_nat (N := N - K) (by omega) (by omega) rfl).mono ?_
      rintro e w6 ⟨x_h, rfl, R_h, hb⟩
      replace R_c := hide (R_c.out.then_ hb)
      replace R_f := hide (R_f.out.then_ hb)
      replace R_g := hide (R_g.out.then_ hb)
      replace B := hide (Below.then_ B.out hb)
      clear hb
      replace R_h := hide R_h
      go_wp2_with fail
      refine (mul_c (R_g.out.nv (fac_sm (by omega))) (R_h.out.nv (fac_sm (by omega))) (Nat.le_refl _) rfl).mono ?_
      rintro e w7 ⟨x_p, rfl, R_p, hb⟩
      replace R_c := hide (R_c.out.then_ hb)
      replace R_f := hide (R_f.out.then_ hb)
      replace R_g := hide (R_g.out.then_ hb)
      replace R_h := hide (R_h.out.then_ hb)
      replace B := hide (Below.then_ B.out hb)
      clear hb
      replace R_p := hide R_p
      clear R_g
      clear R_h
      go_wp2_with fail
      refine (mul_c (R_c.out.nv (ch_sm hN)) (R_p.out.nv hs3.out.2) (Nat.le_refl _) hfac.out).mono ?_
      rintro e w8 ⟨x_q, rfl, R_q, hb⟩
      replace R_c := hide (R_c.out.then_ hb)
      replace R_f := hide (R_f.out.then_ hb)
      replace R_p := hide (R_p.out.then_ hb)
      replace B := hide (Below.then_ B.out hb)
      clear hb
      replace R_q := hide R_q
      clear R_p
      go_wp2_with fail
      refine (limbs_c R_q.out R_f.out rfl).mono ?_
      rintro e w9 ⟨rfl, hb⟩
      replace R_c := hide (R_c.out.then_ hb)
      replace R_f := hide (R_f.out.then_ hb)
      replace R_q := hide (R_q.out.then_ hb)
      replace B := hide (Below.then_ B.out hb)
      clear hb
      clear R_q
      go_wp2_with fail
      refine (bits_b (R_f.out.nv (fac_sm hN)) hz.out).mono ?_
      rintro e w10 ⟨rfl, hb⟩
      replace R_c := hide (R_c.out.then_ hb)
      replace R_f := hide (R_f.out.then_ hb)
      replace B := hide (Below.then_ B.out hb)
      clear hb
      clear R_f
      go_wp2_with fail
      refine (choose_b hi1.out hb1.out).mono ?_
      rintro e w11 ⟨x_a, rfl, R_a, hb⟩
      replace R_c := hide (R_c.out.then_ hb)
      replace B := hide (Below.then_ B.out hb)
      clear hb
      replace R_a := hide R_a
      go_wp2_with fail
      refine (choose_b hi2.out hb1.out).mono ?_
      rintro e w12 ⟨x_b, rfl, R_b, hb⟩
      replace R_c := hide (R_c.out.then_ hb)
      replace R_a := hide (R_a.out.then_ hb)
      replace B := hide (Below.then_ B.out hb)
      clear hb
      replace R_b := hide R_b
      go_wp2_with fail
      refine (add_c (R_a.out.nv (chI_sm _ _)) (R_b.out.nv (chI_sm _ _)) (Nat.le_refl _) hp.out).mono ?_
      rintro e w13 ⟨x_s, rfl, R_s, hb⟩
      replace R_c := hide (R_c.out.then_ hb)
      replace R_a := hide (R_a.out.then_ hb)
      replace R_b := hide (R_b.out.then_ hb)
      replace B := hide (Below.then_ B.out hb)
      clear hb
      replace R_s := hide R_s
      clear R_a
      clear R_b
      go_wp2_with fail
      refine (limbs_c R_s.out R_c.out rfl).mono ?_
      rintro e w14 ⟨rfl, hb⟩
      replace R_c := hide (R_c.out.then_ hb)
      replace R_s := hide (R_s.out.then_ hb)
      replace B := hide (Below.then_ B.out hb)
      clear hb
      go_wp2
      go_ret
      exact ⟨rfl, B.out⟩
  · have e0 : decide (n < 0) = true ∨ (decide (n < 0) = false ∧ decide ((200 : Int) < n) = true) ∨ (decide (n < 0) = false ∧ decide ((200 : Int) < n) = false ∧ decide (k < 0) = true) ∨ (decide (n < 0) = false ∧ decide ((200 : Int) < n) = false ∧ decide (k < 0) = false ∧ decide (n < k) = true) := by simp; omega
    have B := hide (Below.refl w.heap.size w)
    clear hin hi
    rcases e0 with e0 | ⟨e0, e1⟩ | ⟨e0, e1, e2⟩ | ⟨e0, e1, e2, e3⟩
    all_goals
      go_enter Try.func8, Try.ntmps8
      go_wp2
      go_ret
      exact ⟨rfl, B.out⟩
end Go.Proofs.Ytdakfpapigieiaa

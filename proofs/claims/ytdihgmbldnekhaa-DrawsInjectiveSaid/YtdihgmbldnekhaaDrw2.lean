/-
  Draws: New, Next, Below of the program and of the reference.
-/
import Derived.Test.YtdihgmbldnekhaaDrw1
namespace Go.Proofs.Ytdihgmbldnekhaa
open Go.RowKit

theorem wrapU {z : Int} {a : Nat} (h : z = (a : Int)) : IntKind.u64.wrap z = ((a % 18446744073709551616 : Nat) : Int) := by
  subst h
  simp only [IntKind.wrap, IntKind.bits, IntKind.signed]
  simp
theorem wrapU_lt {a : Nat} (h : a < 18446744073709551616) : IntKind.u64.wrap (a : Int) = (a : Int) := by
  rw [wrapU rfl, Nat.mod_eq_of_lt h]
theorem wrap_mul (d : Nat) : IntKind.u64.wrap ((d : Int) * 6364136223846793005) = ((d * 6364136223846793005 % 18446744073709551616 : Nat) : Int) := wrapU (by simp)
theorem wrap_nx (d : Nat) : IntKind.u64.wrap (((d * 6364136223846793005 % 18446744073709551616 : Nat) : Int) + 1442695040888963407) = (dnx d : Int) := by
  rw [wrapU (a := d * 6364136223846793005 % 18446744073709551616 + 1442695040888963407) (by rw [Int.natCast_add]; rfl), Nat.mod_add_mod, ← dnx_eq]
set_option maxHeartbeats 1000000 in
theorem next_p {w : World} {d : Nat} (_hd : d < 18446744073709551616) : Calls Try.prog 21 #[.int .u64 (d : Int)] w (RetB w (.tuple #[.int .u32 (dup d : Int), .int .u64 (dnx d : Int)])) := by
  obtain ⟨m, hm⟩ : ∃ m, m = d * 6364136223846793005 % 18446744073709551616 := ⟨_, rfl⟩
  obtain ⟨x, hx⟩ : ∃ x, x = dnx d := ⟨_, rfl⟩
  have h1 := wrap_mul d
  have h2 := wrap_nx d
  have hl := dnx_lt d
  have hu : dup d = x / 4294967296 := by rw [hx]; rfl
  rw [hu]
  rw [← hm] at h1 h2
  rw [← hx] at h2 hl
  rw [← hx]
  clear hx hu hm
  have B := hide (Below.refl w.heap.size w)
  go_enter Try.func21, Try.ntmps21
  go_wp2
  go_ret2
  exact ⟨rfl, B.out⟩
set_option maxHeartbeats 1000000 in
theorem rstep_p {w : World} {d : Nat} (_hd : d < 18446744073709551616) : Calls Try.prog 66 #[.int .u64 (d : Int)] w (RetB w (.int .u64 (dnx d : Int))) := by
  obtain ⟨m, hm⟩ : ∃ m, m = d * 6364136223846793005 % 18446744073709551616 := ⟨_, rfl⟩
  obtain ⟨x, hx⟩ : ∃ x, x = dnx d := ⟨_, rfl⟩
  have h1 := wrap_mul d
  have h2 := wrap_nx d
  have hl := dnx_lt d
  rw [← hm] at h1 h2
  rw [← hx] at h2 hl
  rw [← hx]
  clear hx hm
  have B := hide (Below.refl w.heap.size w)
  go_enter Try.func66, Try.ntmps66
  go_wp2
  go_ret
  exact ⟨rfl, B.out⟩
set_option maxHeartbeats 1000000 in
theorem rnext_p {w : World} {d : Nat} (hd : d < 18446744073709551616) : Calls Try.prog 22 #[.int .u64 (d : Int)] w (RetB w (.tuple #[.int .u32 (dup d : Int), .int .u64 (dnx d : Int)])) := by
  have h1 := hide (rstep_p (w := w) hd)
  obtain ⟨x, hx⟩ : ∃ x, x = dnx d := ⟨_, rfl⟩
  have hl := dnx_lt d
  have hu : dup d = x / 4294967296 := by rw [hx]; rfl
  rw [hu]
  rw [← hx] at h1 hl
  rw [← hx]
  clear hx hu
  go_enter Try.func22, Try.ntmps22
  go_wp2_with fail
  refine h1.out.mono ?_
  rintro e w1 ⟨rfl, hb⟩
  have B := hide hb
  clear hb h1
  go_wp2
  go_ret2
  exact ⟨rfl, B.out⟩
set_option maxHeartbeats 1000000 in
theorem new_p {w : World} {d : Nat} (hd : d < 18446744073709551616) : Calls Try.prog 23 #[.int .u64 (d : Int)] w (RetB w (.int .u64 (dnx d : Int))) := by
  go_enter Try.func23, Try.ntmps23
  go_wp2_with fail
  refine (next_p hd).mono ?_
  rintro e w1 ⟨rfl, hb⟩
  have B := hide hb
  clear hb
  go_wp2
  go_ret
  exact ⟨rfl, B.out⟩
set_option maxHeartbeats 1000000 in
theorem rnew_p {w : World} {d : Nat} (hd : d < 18446744073709551616) : Calls Try.prog 24 #[.int .u64 (d : Int)] w (RetB w (.int .u64 (dnx d : Int))) := by
  go_enter Try.func24, Try.ntmps24
  go_wp2_with fail
  refine (rstep_p hd).mono ?_
  rintro e w1 ⟨rfl, hb⟩
  have B := hide hb
  clear hb
  go_wp2
  go_ret
  exact ⟨rfl, B.out⟩
/-- a number and a state -/
def RetNS (w : World) (k : Int) (s : Nat) : Ending → World → Prop := RetB w (.tuple #[.int .i64 k, .int .u64 (s : Int)])
theorem bw_mul {x m : Nat} (hx : x < 4294967296) (hm : m ≤ 2147483648) : x * m < 9223372036854775808 := by
  have := Nat.mul_le_mul (show x ≤ 4294967295 by omega) hm
  omega
set_option maxHeartbeats 2000000 in
theorem below_p {w : World} {d : Nat} {n : Int} (hd : d < 18446744073709551616) (hn : I64 n) : Calls Try.prog 28 #[.int .u64 (d : Int), .int .i64 n] w (RetNS w (bwN d n : Int) (bwS d n)) := by
  obtain ⟨hn0, hn1⟩ := hn
  by_cases h1 : n < 1
  · have e : bwB n = false := by simp only [bwB, decide_eq_false_iff_not]; omega
    rw [bwN, bwS, if_neg (by rw [e]; decide), if_neg (by rw [e]; decide)]
    have d1 : decide (n < 1) = true := decide_eq_true h1
    have B := hide (Below.refl w.heap.size w)
    clear e h1
    go_enter Try.func28, Try.ntmps28
    go_wp2
    go_ret2
    exact ⟨rfl, B.out⟩
  · have d1 : decide (n < 1) = false := decide_eq_false h1
    by_cases h2 : 2147483648 < n
    · have e : bwB n = false := by simp only [bwB, decide_eq_false_iff_not]; omega
      rw [bwN, bwS, if_neg (by rw [e]; decide), if_neg (by rw [e]; decide)]
      have d2 : decide ((2147483648 : Int) < n) = true := decide_eq_true h2
      have B := hide (Below.refl w.heap.size w)
      clear e h1 h2
      go_enter Try.func28, Try.ntmps28
      go_wp2
      go_ret2
      exact ⟨rfl, B.out⟩
    · obtain ⟨m, rfl⟩ : ∃ m : Nat, n = (m : Int) := ⟨n.toNat, by omega⟩
      have d2 : decide ((2147483648 : Int) < (m : Int)) = false := decide_eq_false h2
      have hm1 : 1 ≤ m := by omega
      have hm2 : m ≤ 2147483648 := by omega
      rw [bwN_nat hm1 hm2, bwS_nat hm1 hm2]
      have hcall := hide (next_p (w := w) hd)
      have hul := dup_lt d
      have hsl := dnx_lt d
      have hml := bw_mul hul hm2
      obtain ⟨x, hx⟩ : ∃ x, x = dup d := ⟨_, rfl⟩
      obtain ⟨s, hs⟩ : ∃ s, s = dnx d := ⟨_, rfl⟩
      rw [← hx] at hcall hul hml
      rw [← hs] at hcall hsl
      rw [← hx, ← hs]
      obtain ⟨p, hp⟩ : ∃ p, p = x * m := ⟨_, rfl⟩
      have w1 : IntKind.u64.wrap (x : Int) = (x : Int) := wrapU_lt (by omega)
      have w2 : IntKind.u64.wrap (m : Int) = (m : Int) := wrapU_lt (by omega)
      have w3 : (x : Int) * (m : Int) = (p : Int) := by rw [hp]; simp
      rw [← hp] at hml
      rw [← hp]
      have w4 : IntKind.u64.wrap (p : Int) = (p : Int) := wrapU_lt (by omega)
      clear hx hs hp h1 h2 hd
      go_enter Try.func28, Try.ntmps28
      go_wp2_with fail
      refine hcall.out.mono ?_
      rintro e w1 ⟨rfl, hb⟩
      have B := hide hb
      clear hb hcall
      go_wp2
      go_ret2
      exact ⟨rfl, B.out⟩
set_option maxHeartbeats 2000000 in
theorem rbelow_p {w : World} {d : Nat} {n : Int} (hd : d < 18446744073709551616) (hn : I64 n) : Calls Try.prog 29 #[.int .u64 (d : Int), .int .i64 n] w (RetNS w (bwN d n : Int) (bwS d n)) := by
  obtain ⟨hn0, hn1⟩ := hn
  by_cases h1 : n < 1
  · have e : bwB n = false := by simp only [bwB, decide_eq_false_iff_not]; omega
    rw [bwN, bwS, if_neg (by rw [e]; decide), if_neg (by rw [e]; decide)]
    have d1 : decide (n < 1) = true := decide_eq_true h1
    have B := hide (Below.refl w.heap.size w)
    clear e h1
    go_enter Try.func29, Try.ntmps29
    go_wp2
    go_ret2
    exact ⟨rfl, B.out⟩
  · have d1 : decide (n < 1) = false := decide_eq_false h1
    by_cases h2 : 2147483648 < n
    · have e : bwB n = false := by simp only [bwB, decide_eq_false_iff_not]; omega
      rw [bwN, bwS, if_neg (by rw [e]; decide), if_neg (by rw [e]; decide)]
      have d2 : decide ((2147483648 : Int) < n) = true := decide_eq_true h2
      have B := hide (Below.refl w.heap.size w)
      clear e h1 h2
      go_enter Try.func29, Try.ntmps29
      go_wp2
      go_ret2
      exact ⟨rfl, B.out⟩
    · obtain ⟨m, rfl⟩ : ∃ m : Nat, n = (m : Int) := ⟨n.toNat, by omega⟩
      have d2 : decide ((2147483648 : Int) < (m : Int)) = false := decide_eq_false h2
      have hm1 : 1 ≤ m := by omega
      have hm2 : m ≤ 2147483648 := by omega
      rw [bwN_nat hm1 hm2, bwS_nat hm1 hm2]
      have hcall := hide (rnext_p (w := w) hd)
      have hul := dup_lt d
      have hsl := dnx_lt d
      have hml := bw_mul hul hm2
      obtain ⟨x, hx⟩ : ∃ x, x = dup d := ⟨_, rfl⟩
      obtain ⟨s, hs⟩ : ∃ s, s = dnx d := ⟨_, rfl⟩
      rw [← hx] at hcall hul hml
      rw [← hs] at hcall hsl
      rw [← hx, ← hs]
      obtain ⟨p, hp⟩ : ∃ p, p = x * m := ⟨_, rfl⟩
      have w1 : IntKind.u64.wrap (x : Int) = (x : Int) := wrapU_lt (by omega)
      have w2 : IntKind.u64.wrap (m : Int) = (m : Int) := wrapU_lt (by omega)
      have w3 : (x : Int) * (m : Int) = (p : Int) := by rw [hp]; simp
      rw [← hp] at hml
      rw [← hp]
      have w4 : IntKind.u64.wrap (p : Int) = (p : Int) := wrapU_lt (by omega)
      clear hx hs hp h1 h2 hd
      go_enter Try.func29, Try.ntmps29
      go_wp2_with fail
      refine hcall.out.mono ?_
      rintro e w1 ⟨rfl, hb⟩
      have B := hide hb
      clear hb hcall
      go_wp2
      go_ret2
      exact ⟨rfl, B.out⟩
end Go.Proofs.Ytdihgmbldnekhaa

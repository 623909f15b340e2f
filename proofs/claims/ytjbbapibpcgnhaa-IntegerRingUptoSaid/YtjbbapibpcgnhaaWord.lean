/-
  low, Uint, and the lengths in bits.
-/
import Derived.Test.YtjbbapibpcgnhaaTrim
namespace Go.Proofs.Ytjbbapibpcgnhaa
open Go.RowKit

theorem or_hi (a b : Nat) (ha : a < 4294967296) (hb : b < 4294967296) : bits .or .u64 (a : Int) ((b : Int) * 4294967296) = ((a + 4294967296 * b : Nat) : Int) := by
  have e : ((b : Int) * 4294967296) = ((b * 4294967296 : Nat) : Int) := by omega
  rw [e, u64_or_nat _ _ (by omega) (by omega), Nat.or_comm, nat_join 32 (b * 4294967296) a (by omega) (by omega)]
  omega

theorem or_lo (b : Nat) (hb : b < 4294967296) : bits .or .u64 0 (b : Int) = (b : Int) := by
  have := u64_or_nat 0 b (by omega) (by omega)
  simpa using this
theorem add_one_ (a : Addr) : a.add 1 = ⟨a.block, a.off + 1, none⟩ := by simp [Addr.add]

/-- the word after k limbs -/
def wd (xs : List Nat) : Nat → Nat
  | 0 => 0
  | 1 => lm xs 0
  | _ => lm xs 0 + 4294967296 * lm xs 1
theorem wd_two (xs : List Nat) : wd xs 2 = vl xs 2 := by simp [wd, vl, pw]

set_option maxHeartbeats 1000000 in
theorem low_any (w : World) (Bd : Nat) (A : Option Addr) (n c : Nat) (xs : List Nat) (h : Rd w Bd A n c xs) :
    Calls Try.prog 64 #[.slice A n c] w fun e w' => e = .returned (.int .u64 (vl xs 2 : Int)) ∧ w = w' := by
  have hcap := h.cap
  have hbig := h.big
  have H := hide h
  clear h
  rcases (show n = 0 ∨ n = 1 ∨ n = 2 ∨ 2 < n by omega) with h0 | h1 | h2 | h2
  · subst h0
    have hz : Hid (vl xs 2 = 0) := hide (by simp only [vl, pw]; rw [lm_ge (by rw [H.out.len]; omega), lm_ge (by rw [H.out.len]; omega)])
    go_enter Try.func64, Try.ntmps64
    go_wp2
    refine wp_loop_rounds 1 ?_
    rw [rounds_succ]
    go_wp2
    go_ret
    rw [hz.out]
    exact ⟨rfl, rfl⟩
  · subst h1
    have hz : Hid (vl xs 2 = lm xs 0) := hide (by simp only [vl, pw]; rw [lm_ge (k := 1) (by rw [H.out.len]; omega)]; omega)
    obtain ⟨ad, rfl, hadb, hca⟩ := H.out.at_ (k := 0) (by omega)
    rw [add_zero_] at hca
    have hl := H.out.limbs 0
    have hb0 := or_lo _ hl
    go_enter Try.func64, Try.ntmps64
    go_wp2
    refine wp_loop_rounds 2 ?_
    rw [rounds_succ]
    go_wp2
    rw [rounds_succ]
    go_wp2
    go_ret
    rw [hz.out]
    exact ⟨rfl, rfl⟩
  · subst h2
    have hz := hide (wd_two xs)
    obtain ⟨ad, rfl, hadb, hca⟩ := H.out.at_ (k := 0) (by omega)
    obtain ⟨ad', had, hadb', hca2⟩ := H.out.at_ (k := 1) (by omega)
    obtain rfl : ad = ad' := by simpa using had
    clear had
    rw [add_zero_] at hca
    rw [add_one_] at hca2
    have hl := H.out.limbs 0
    have hl1 := H.out.limbs 1
    have hb0 := or_lo _ hl
    have hb1 := or_hi _ _ hl hl1
    go_enter Try.func64, Try.ntmps64
    go_wp2
    refine wp_loop_rounds 3 ?_
    rw [rounds_succ]
    go_wp2
    rw [rounds_succ]
    go_wp2
    rw [rounds_succ]
    go_wp2
    go_ret
    rw [← hz.out]
    exact ⟨rfl, rfl⟩
  · have h2 := h2
    have hz := hide (wd_two xs)
    obtain ⟨ad, rfl, hadb, hca⟩ := H.out.at_ (k := 0) (by omega)
    obtain ⟨ad', had, hadb', hca2⟩ := H.out.at_ (k := 1) (by omega)
    obtain rfl : ad = ad' := by simpa using had
    clear had
    rw [add_zero_] at hca
    rw [add_one_] at hca2
    have hl := H.out.limbs 0
    have hl1 := H.out.limbs 1
    have hb0 := or_lo _ hl
    have hb1 := or_hi _ _ hl hl1
    go_enter Try.func64, Try.ntmps64
    go_wp2
    refine wp_loop_rounds 3 ?_
    rw [rounds_succ]
    go_wp2
    rw [rounds_succ]
    go_wp2
    rw [rounds_succ]
    go_wp2
    go_ret
    rw [← hz.out]
    exact ⟨rfl, rfl⟩

set_option maxHeartbeats 1000000 in
theorem uint_any (w : World) (Bd : Nat) (A : Option Addr) (n c : Nat) (xs : List Nat) (h : Rd w Bd A n c xs) :
    Calls Try.prog 39 #[.slice A n c] w fun e w' => e = .returned (.tuple #[.int .u64 ((if val xs < 18446744073709551616 then val xs else 0 : Nat) : Int), .bool (decide (val xs < 18446744073709551616))]) ∧ w = w' := by
  obtain ⟨X, m, hm, HX, hmn, hvx, _⟩ := h.trimmed
  have hcap := HX.cap
  have hbig := HX.big
  have hm2 : m ≤ 2 ↔ val xs < 18446744073709551616 := by rw [← hm.out, dig_len_le]; rfl
  replace HX := hide HX
  have H := hide h
  clear h
  by_cases hlt : val xs < 18446744073709551616
  · have h2 : m ≤ 2 := hm2.2 hlt
    have hv : Hid (vl X 2 = val xs) := hide (by rw [vl_ge (by rw [HX.out.len]; exact h2), hvx.out])
    rw [if_pos hlt, decide_eq_true hlt]
    clear hm2 hlt
    go_enter Try.func39, Try.ntmps39
    go_wp2_with (first
      | (go_at_call 63; ((with_reducible refine (trim_to _ Bd A n c xs H.out m hm.out).mono ?_); rintro e w' ⟨rfl, rfl⟩))
      | (go_at_call 64; ((with_reducible refine (low_any _ Bd A m c X HX.out).mono ?_); rintro e w' ⟨rfl, rfl⟩)))
    go_ret2
    rw [hv.out]
    exact ⟨rfl, rfl⟩
  · have h2 : ¬ m ≤ 2 := fun h => hlt (hm2.1 h)
    rw [if_neg hlt, decide_eq_false hlt]
    clear hm2 hlt
    go_enter Try.func39, Try.ntmps39
    go_wp2_with (first
      | (go_at_call 63; ((with_reducible refine (trim_to _ Bd A n c xs H.out m hm.out).mono ?_); rintro e w' ⟨rfl, rfl⟩)))
    go_ret2
    exact ⟨rfl, rfl⟩

end Go.Proofs.Ytjbbapibpcgnhaa

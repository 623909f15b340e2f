/-
  Bits.
-/
import Derived.Test.YtjbbapibpcgnhaaTrim
import Derived.Test.YtjbbapibpcgnhaaLen
namespace Go.Proofs.Ytjbbapibpcgnhaa
open Go.RowKit

/-- the length of a number, off its highest limb -/
theorem bl_val {X : List Nat} {m : Nat} (hX : Limbs X) (hx : X.length = m + 1) (h : lm X m ≠ 0) : bl (val X) = m * 32 + bl (lm X m) := by
  have e : val X = vl X m + pw m * lm X m := by unfold val; rw [hx, vl_succ]
  have hlt := vl_lt hX m
  rw [pw_eq] at hlt e
  have hp := Nat.two_pow_pos (32 * m)
  have h1 : 1 ≤ lm X m := by omega
  have h2 := Nat.mul_le_mul_left (2 ^ (32 * m)) h1
  rw [bl_shift (32 * m) (val X) (by omega), e, Nat.add_mul_div_left _ _ hp, Nat.div_eq_of_lt hlt]
  simp only [Nat.zero_add]
  omega

set_option maxHeartbeats 1000000 in
theorem bits_any (w : World) (Bd : Nat) (A : Option Addr) (n c : Nat) (xs : List Nat) (h : Rd w Bd A n c xs) :
    Calls Try.prog 41 #[.slice A n c] w fun e w' => e = .returned (.int .i64 (bl (val xs) : Int)) ∧ w = w' := by
  obtain ⟨X, m, hm, HX, hmn, hvx, hXd⟩ := h.trimmed
  have hcap := HX.cap
  have hbig := HX.big
  replace HX := hide HX
  have H := hide h
  clear h
  by_cases h0 : m = 0
  · have hz : Hid (bl (val xs) = 0) := hide (by rw [← hvx.out]; unfold val; rw [HX.out.len, h0]; exact bl_zero)
    subst h0
    go_enter Try.func41, Try.ntmps41
    go_wp2_with (first
      | (go_at_call 63; ((with_reducible refine (trim_to _ Bd A n c xs H.out 0 hm.out).mono ?_); rintro e w' ⟨rfl, rfl⟩)))
    go_ret
    rw [hz.out]
    exact ⟨rfl, rfl⟩
  · obtain ⟨l, rfl⟩ : ∃ l, m = l + 1 := ⟨m - 1, by omega⟩
    have ht : lm X l ≠ 0 := by
      have := dig_top (n := val xs) (by rw [← hXd.out, HX.out.len]; omega)
      rw [← hXd.out, HX.out.len] at this
      simpa using this
    have hlim := HX.out.limbs l
    have hble : bl (lm X l) ≤ 32 := (bl_le 32 _).2 (by omega)
    have hz := hide (bl_val HX.out.limbs HX.out.len ht)
    obtain ⟨ad, rfl, hadb, hca⟩ := HX.out.at_ (k := l) (by omega)
    clear ht
    go_enter Try.func41, Try.ntmps41
    go_wp2_with (first
      | (go_at_call 63; ((with_reducible refine (trim_to _ Bd (some ad) n c xs H.out (l + 1) hm.out).mono ?_); rintro e w' ⟨rfl, rfl⟩))
      | (go_at_call 66; ((with_reducible refine (len32_any _ (lm X l) hlim).mono ?_); rintro e w' ⟨rfl, rfl⟩)))
    go_goals
    go_ret
    rw [← hvx.out, hz.out]
    exact ⟨by go_num, rfl⟩

end Go.Proofs.Ytjbbapibpcgnhaa

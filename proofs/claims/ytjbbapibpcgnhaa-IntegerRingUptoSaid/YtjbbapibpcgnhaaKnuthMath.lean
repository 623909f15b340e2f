/-
  Plain mathematics of long division: the estimate of a limb of the quotient, what subtracting and adding back leave, shifts.
-/
import Derived.Test.YtjbbapibpcgnhaaMath
namespace Go.Proofs.Ytjbbapibpcgnhaa

/-- too great an estimate shows in the highest limbs -/
theorem est_high {R D R3 H2 c rl dl P : Nat} (hR : R = R3 * P + rl) (hrl : rl < P) (hD : D = H2 * P + dl) (h : R3 < c * H2) : R < c * D := by
  have h1 : (R3 + 1) * P ≤ c * H2 * P := Nat.mul_le_mul_right P h
  have h2 : c * D = c * H2 * P + c * dl := by rw [hD, Nat.mul_add, Nat.mul_assoc]
  rw [Nat.add_mul] at h1
  omega
/-- and if none shows it is at most 1 too great -/
theorem est_low {R D R3 H2 c rl dl P : Nat} (hR : R = R3 * P + rl) (hD : D = H2 * P + dl) (hdl : dl < P) (h : c * H2 ≤ R3) (hc : c ≤ H2 + 1) : c * D ≤ R + D := by
  cases c with
  | zero => omega
  | succ k =>
    have h1 : k * (H2 + 1) ≤ R3 := by
      rw [Nat.mul_add]
      rw [Nat.add_mul] at h
      omega
    have h2 : D ≤ (H2 + 1) * P := by rw [Nat.add_mul]; omega
    have h3 : k * D ≤ k * ((H2 + 1) * P) := Nat.mul_le_mul_left k h2
    have h4 : k * (H2 + 1) * P ≤ R3 * P := Nat.mul_le_mul_right P h1
    rw [Nat.mul_assoc] at h4
    rw [Nat.add_mul]
    omega
theorem quo_high {R D h top rl dl P q : Nat} (hR : R = top * P + rl) (hrl : rl < P) (hD : D = h * P + dl) (hq : q * D ≤ R) : q * h ≤ top := by
  have h1 : q * D = q * h * P + q * dl := by rw [hD, Nat.mul_add, Nat.mul_assoc]
  have h2 : q * h * P < (top + 1) * P := by rw [Nat.add_mul]; omega
  have := Nat.lt_of_mul_lt_mul_right h2
  omega
/-- the estimate, once the loop has ended -/
theorem est_done {R D c : Nat} (hD : 0 < D) (h1 : R / D ≤ c) (h2 : c * D ≤ R + D) : c = R / D ∨ c = R / D + 1 := by
  have h3 : c ≤ (R + D) / D := (Nat.le_div_iff_mul_le hD).2 h2
  rw [Nat.add_div_right _ hD] at h3
  omega
theorem div_le_of {R D c : Nat} (_hD : 0 < D) (h : R < c * D) : R / D ≤ c - 1 := by
  have h3 : R / D < c := (Nat.div_lt_iff_lt_mul _hD).2 h
  omega

/-- the highest limbs of a number -/
theorem split2 (ds : List Nat) (p : Nat) : vl ds (p + 2) = (lm ds (p + 1) * 4294967296 + lm ds p) * pw p + vl ds p := by
  rw [vl_succ, vl_succ, pw_succ]; grind
theorem split2' (ds : List Nat) (p : Nat) : vl ds (p + 2) = lm ds (p + 1) * pw (p + 1) + vl ds (p + 1) := by
  rw [vl_succ]; grind
theorem split3 (rs : List Nat) (p : Nat) : vl rs (p + 3) = ((lm rs (p + 2) * 4294967296 + lm rs (p + 1)) * 4294967296 + lm rs p) * pw p + vl rs p := by
  rw [vl_succ, vl_succ, vl_succ, pw_succ (p + 1), pw_succ p]; grind
theorem split3' (rs : List Nat) (p : Nat) : vl rs (p + 3) = (lm rs (p + 2) * 4294967296 + lm rs (p + 1)) * pw (p + 1) + vl rs (p + 1) := by
  rw [vl_succ, vl_succ, pw_succ (p + 1)]; grind

/-- one limb of a product subtracted, modulo 2^32 -/
def sbl (o part : Nat) : Nat := if o < part then 1 else 0
theorem sub_limb {o part : Nat} (ho : o < 4294967296) (hp : part < 4294967296) : (o + 4294967296 - part) % 4294967296 + part = o + 4294967296 * sbl o part := by
  unfold sbl; split <;> omega
theorem sbl_le (o part : Nat) : sbl o part ≤ 1 := by unfold sbl; split <;> omega

theorem mul_div_cancel_pw {a b s : Nat} : a * 2 ^ s / (b * 2 ^ s) = a / b := Nat.mul_div_mul_right _ _ (Nat.two_pow_pos s)
theorem mul_mod_pw {a b s : Nat} : a * 2 ^ s % (b * 2 ^ s) = a % b * 2 ^ s := Nat.mul_mod_mul_right _ _ _

/-- a limb shifted to the right -/
theorem shr_limb {P K x x1 X X2 : Nat} (hPK : P * K = 4294967296) (hx : x < 4294967296) (hX : X = x1 + 4294967296 * X2) :
    (x1 * 4294967296 + x) / P % 4294967296 + 4294967296 * (X / P) = (x + 4294967296 * X) / P := by
  have hP : 0 < P := by
    rcases Nat.eq_zero_or_pos P with h | h
    · subst h; omega
    · exact h
  have e1 : (x1 * 4294967296 + x) / P = x1 * K + x / P := by
    rw [← hPK, show x1 * (P * K) + x = x + P * (x1 * K) by grind, Nat.add_mul_div_left _ _ hP]; omega
  have e2 : (x + 4294967296 * X) / P = x / P + K * X := by
    rw [← hPK, show x + P * K * X = x + P * (K * X) by grind, Nat.add_mul_div_left _ _ hP]
  have e3 : X % P = x1 % P := by
    rw [hX, ← hPK, show x1 + P * K * X2 = x1 + P * (K * X2) by grind, Nat.add_mul_mod_self_left]
  have e4 : K * X = K * (X % P) + 4294967296 * (X / P) := by
    rw [← hPK]
    have := Nat.div_add_mod X P
    grind
  have e5 : x1 * K = K * (x1 % P) + 4294967296 * (x1 / P) := by
    rw [← hPK]
    have := Nat.div_add_mod x1 P
    grind
  have hlt : K * (x1 % P) + x / P < 4294967296 := by
    have h1 : x1 % P + 1 ≤ P := Nat.mod_lt _ hP
    have h2 : K * (x1 % P + 1) ≤ K * P := Nat.mul_le_mul_left K h1
    have h3 : x / P < K := by
      rw [Nat.div_lt_iff_lt_mul hP, Nat.mul_comm, hPK]; exact hx
    rw [Nat.mul_add, Nat.mul_comm K P, hPK] at h2
    omega
  rw [e1, e2, e4, e3, e5]
  rw [show K * (x1 % P) + 4294967296 * (x1 / P) + x / P = (K * (x1 % P) + x / P) + 4294967296 * (x1 / P) by omega, Nat.add_mul_mod_self_left, Nat.mod_eq_of_lt hlt]
  omega
theorem pw_two {s : Nat} (_h : s ≤ 32) : 2 ^ s * 2 ^ (32 - s) = 4294967296 := by
  rw [← Nat.pow_add, show s + (32 - s) = 32 by omega]
theorem val_low {xs : List Nat} {k : Nat} (_h : Limbs xs) (hk : val xs < pw k) : vl xs k = val xs := by
  rcases Nat.lt_or_ge k xs.length with hl | hl
  · have e := vl_split xs k (xs.length - k)
    rw [show k + (xs.length - k) = xs.length by omega, show vl xs xs.length = val xs from rfl] at e
    have hz : vl (xs.drop k) (xs.length - k) = 0 := by
      rcases Nat.eq_zero_or_pos (vl (xs.drop k) (xs.length - k)) with h0 | h0
      · exact h0
      · have := Nat.mul_le_mul_left (pw k) h0
        omega
    rw [hz] at e
    omega
  · exact vl_ge hl
theorem val_split (xs : List Nat) {k : Nat} (h : k ≤ xs.length) : val xs = vl xs k + pw k * val (xs.drop k) := by
  have e := vl_split xs k (xs.length - k)
  rw [show k + (xs.length - k) = xs.length by omega] at e
  unfold val
  rw [e, List.length_drop]

theorem est_step {R D top h v2 r2 rl dl P l c : Nat} (hR : R = (top * 4294967296 + r2) * P + rl) (hrl : rl < P) (hD : D = (h * 4294967296 + v2) * P + dl) (hD0 : 0 < D) (hinv : l + c * h = top) (hgt : 4294967296 * l + r2 < c * v2) :
    R / D ≤ c - 1 ∧ 1 ≤ c ∧ l + h + (c - 1) * h = top := by
  have hc : 1 ≤ c := by
    rcases Nat.eq_zero_or_pos c with h0 | h0
    · subst h0; omega
    · exact h0
  refine ⟨div_le_of hD0 (est_high hR hrl hD ?_), hc, ?_⟩
  · rw [← hinv, Nat.mul_add, ← Nat.mul_assoc, Nat.add_mul]; omega
  · obtain ⟨k, rfl⟩ : ∃ k, c = k + 1 := ⟨c - 1, by omega⟩
    rw [← hinv, Nat.add_mul]; simp; omega
theorem est_exit {R D top h v2 r2 rl dl P l c : Nat} (hR : R = (top * 4294967296 + r2) * P + rl) (hD : D = (h * 4294967296 + v2) * P + dl) (hdl : dl < P) (hD0 : 0 < D) (hh : 0 < h) (hinv : l + c * h = top) (hge : 4294967296 ≤ l ∨ c * v2 ≤ 4294967296 * l + r2)
    (hc : c ≤ 4294967295) (hv : v2 < 4294967296) (hq : R / D ≤ c) : c = R / D ∨ c = R / D + 1 := by
  have h1 : c * v2 ≤ 4294967296 * l + r2 := by
    rcases hge with h | h
    · have := Nat.mul_le_mul hc (show v2 ≤ 4294967295 by omega)
      omega
    · exact h
  refine est_done hD0 hq (est_low hR hD hdl ?_ (by omega))
  rw [← hinv, Nat.mul_add, ← Nat.mul_assoc, Nat.add_mul]; omega

end Go.Proofs.Ytjbbapibpcgnhaa

/-
  How far rounding moves: the mathematics.
-/
import Derived.Test.YtdlmfembnmomjaaGreatDoorLaw4
namespace Go.Proofs.YtdlmfembnmomjaaGreatDoor
open Go.RowKit


theorem mk_div_nat (z : Int) (T : Nat) : mkRat z T = (z : Rat) * (T : Rat)⁻¹ := by
  rw [Rat.mkRat_eq_div, Rat.div_def]
theorem near {q x : Rat} {T : Nat} (hT : T ≠ 0) (hx : q * (T : Rat) = x) :
    ∃ i : Rat, 0 < i ∧ (∀ z : Int, mkRat z T = (z : Rat) * i) ∧ q = x * i ∧ mkRat 1 T / mkRat (1 : Nat) 1 = i ∧ mkRat 1 T / mkRat (2 : Nat) 1 = i * (1 / 2) := by
  have h0 : (0 : Rat) < (T : Rat) := Rat.natCast_pos.2 (by omega)
  have h1 : (T : Rat) ≠ 0 := by grind
  refine ⟨(T : Rat)⁻¹, Rat.inv_pos.2 h0, fun z => mk_div_nat z T, ?_, ?_, ?_⟩
  · rw [← hx, Rat.mul_assoc, Rat.mul_inv_cancel _ h1, Rat.mul_one]
  · rw [mk_div_nat, rat_mk1]
    have : ((1 : Int) : Rat) = 1 := rfl
    grind
  · rw [mk_div_nat, rat_mk1]
    have e1 : ((1 : Int) : Rat) = 1 := rfl
    have e2 : (((2 : Nat) : Int) : Rat) = 2 := rfl
    rw [e1, e2]
    grind
theorem qabs_lt {y b : Rat} (h1 : -b < y) (h2 : y < b) : qabs y < b := by
  rcases qabs_cases y with ⟨_, h⟩ | ⟨_, h⟩ <;> rw [h] <;> grind
theorem qabs_le {y b : Rat} (h1 : -b ≤ y) (h2 : y ≤ b) : qabs y ≤ b := by
  rcases qabs_cases y with ⟨_, h⟩ | ⟨_, h⟩ <;> rw [h] <;> grind
theorem qabs_mul {y i : Rat} (hi : 0 < i) : qabs (y * i) = qabs y * i := by
  rcases qabs_cases y with ⟨h0, h⟩ | ⟨h0, h⟩
  · have h2 : 0 ≤ y * i := Rat.mul_nonneg h0 (by grind)
    rcases qabs_cases (y * i) with ⟨_, h3⟩ | ⟨h4, h3⟩
    · rw [h, h3]
    · exfalso; grind
  · have h2 : y * i < 0 * i := Rat.mul_lt_mul_of_pos_right h0 hi
    rw [Rat.zero_mul] at h2
    rcases qabs_cases (y * i) with ⟨h4, h3⟩ | ⟨_, h3⟩
    · exfalso; grind
    · rw [h, h3, Rat.neg_mul]
theorem near_lt {q x v : Rat} {z : Int} {m : Int} {T : Nat} (hT : T ≠ 0) (hx : q * (T : Rat) = x) (hz : rnd m x = z) (hv : mkRat z T = v) : qabs (v - q) < mkRat 1 T / mkRat (1 : Nat) 1 := by
  obtain ⟨i, hi, h1, h2, h3, _⟩ := near hT hx
  rw [h3, ← hv, h1, h2, ← sub_mul']
  obtain ⟨a, b⟩ := rnd_apart m x
  rw [hz] at a b
  have c := Rat.mul_lt_mul_of_pos_right a hi
  have d := Rat.mul_lt_mul_of_pos_right b hi
  exact qabs_lt (by grind) (by grind)
theorem near_half {q x v : Rat} {z : Int} {m : Int} {T : Nat} (hm : m = 1 ∨ m = 2 ∨ m = 3) (hT : T ≠ 0) (hx : q * (T : Rat) = x) (hz : rnd m x = z) (hv : mkRat z T = v) : qabs (v - q) ≤ mkRat 1 T / mkRat (2 : Nat) 1 := by
  obtain ⟨i, hi, h1, h2, _, h3⟩ := near hT hx
  rw [h3, ← hv, h1, h2, ← sub_mul']
  obtain ⟨a, b⟩ := rnd_half hm x
  rw [hz] at a b
  have c := Rat.mul_le_mul_of_nonneg_right a (show 0 ≤ i by grind)
  have d := Rat.mul_le_mul_of_nonneg_right b (show 0 ≤ i by grind)
  exact qabs_le (by grind) (by grind)
theorem near_floor {q x v : Rat} {z : Int} {T : Nat} (hT : T ≠ 0) (hx : q * (T : Rat) = x) (hz : rnd 6 x = z) (hv : mkRat z T = v) : v ≤ q := by
  obtain ⟨i, hi, h1, h2, _, _⟩ := near hT hx
  rw [← hv, h1, h2, ← hz]
  exact Rat.mul_le_mul_of_nonneg_right (rnd_floor x) (by grind)
theorem near_ceil {q x v : Rat} {z : Int} {T : Nat} (hT : T ≠ 0) (hx : q * (T : Rat) = x) (hz : rnd 7 x = z) (hv : mkRat z T = v) : q ≤ v := by
  obtain ⟨i, hi, h1, h2, _, _⟩ := near hT hx
  rw [← hv, h1, h2, ← hz]
  exact Rat.mul_le_mul_of_nonneg_right (rnd_ceil x) (by grind)
theorem near_toward {q x v : Rat} {z : Int} {T : Nat} (hT : T ≠ 0) (hx : q * (T : Rat) = x) (hz : rnd 5 x = z) (hv : mkRat z T = v) : qabs v ≤ qabs q := by
  obtain ⟨i, hi, h1, h2, _, _⟩ := near hT hx
  rw [← hv, h1, h2, ← hz, qabs_mul hi, qabs_mul hi]
  exact Rat.mul_le_mul_of_nonneg_right (rnd_toward x) (by grind)
theorem near_away {q x v : Rat} {z : Int} {T : Nat} (hT : T ≠ 0) (hx : q * (T : Rat) = x) (hz : rnd 4 x = z) (hv : mkRat z T = v) : qabs q ≤ qabs v := by
  obtain ⟨i, hi, h1, h2, _, _⟩ := near hT hx
  rw [← hv, h1, h2, ← hz, qabs_mul hi, qabs_mul hi]
  exact Rat.mul_le_mul_of_nonneg_right (rnd_away x) (by grind)
theorem sgn_ge {x y : Rat} (h : y ≤ x) : 0 ≤ sgn (x - y).num := by
  rcases sgq (x - y) with ⟨a, b⟩ | ⟨a, b⟩ | ⟨a, b⟩ <;> first | omega | (exfalso; grind)
theorem unit1_any {w : World} {p : Nat} {y : Rat} (h9 : p ≤ 9) (hy : mkRat 1 (10 ^ p) / mkRat ((1 : Nat) : Int) 1 = y) : Calls Tryz.prog 21 #[.int .i64 (p : Int), .int .u32 1] w (RetRat w y) := unit_any (d := 1) h9 rfl (Or.inl rfl) hy
theorem unit2_any {w : World} {p : Nat} {y : Rat} (h9 : p ≤ 9) (hy : mkRat 1 (10 ^ p) / mkRat ((2 : Nat) : Int) 1 = y) : Calls Tryz.prog 21 #[.int .i64 (p : Int), .int .u32 2] w (RetRat w y) := unit_any (d := 2) h9 rfl (Or.inr rfl) hy
theorem ten_ne (n : Nat) : 10 ^ n ≠ 0 := Nat.ne_of_gt (Nat.pow_pos (by omega))
theorem sz_abs {p r : Rat} {i : Nat} (hr : qabs p = r) (hp : (dig (zmag p.num)).length ≤ i ∧ (dig p.den).length ≤ i) : (dig (zmag r.num)).length ≤ i ∧ (dig r.den).length ≤ i := by
  rw [← hr]
  unfold qabs
  split
  · exact sz_neg rfl hp
  · exact hp


end Go.Proofs.YtdlmfembnmomjaaGreatDoor

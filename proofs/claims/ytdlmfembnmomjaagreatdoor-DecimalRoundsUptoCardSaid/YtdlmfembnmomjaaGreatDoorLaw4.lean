/-
  Round of decimal, errors and all.
-/
import Derived.Test.YtdlmfembnmomjaaGreatDoorAwakeB
namespace Go.Proofs.YtdlmfembnmomjaaGreatDoor
open Go.RowKit


/-- are places and mode valid? -/
def okd (p m : Int) : Prop := 0 ≤ p ∧ p ≤ 9 ∧ 1 ≤ m ∧ m ≤ 7
instance (p m : Int) : Decidable (okd p m) := inferInstanceAs (Decidable (_ ∧ _))
/-- the Units, the Places, the error of Round -/
def rz (p m : Int) (q : Rat) : Int := if okd p m then rnd m (q * ((10 ^ p.toNat : Nat) : Rat)) else 0
def rp (p m : Int) : Int := if okd p m then p else 0
def re (p m : Int) : Int := if okd p m then 0 else if 0 ≤ p ∧ p ≤ 9 then 1 else 3
theorem pround_gen {w : World} {Bd : Nat} {A_a : Option Addr} {n_a c_a : Nat} {x_a : List Nat} {s_a : Bool} {A_ad : Option Addr} {n_ad c_ad : Nat} {x_ad : List Nat} (h_a : Rd w Bd A_a n_a c_a x_a) (g_a : n_a ≤ 1000000000) (h_ad : Rd w Bd A_ad n_ad c_ad x_ad) (g_ad : n_ad ≤ 1000000000) (hB : Bd ≤ w.heap.size) {p m z P e : Int} (hz : rz p m (qv s_a (val x_a) (val x_ad)) = z) (hP : rp p m = P) (he : re p m = e) :
    Calls Tryz.prog 9 #[.agg #[.bool s_a, .slice A_a n_a c_a, .slice A_ad n_ad c_ad], .int .i64 p, .int .i64 m] w (RetDec w z P e) := by
  unfold rz at hz; unfold rp at hP; unfold re at he
  by_cases h : okd p m
  · rw [if_pos h] at hz hP he
    subst hP he
    obtain ⟨n, rfl⟩ : ∃ n : Nat, p = (n : Int) := ⟨p.toNat, by have := h.1; omega⟩
    exact pround_any h_a g_a h_ad g_ad hB (by have := h.2.1; omega) h.2.2.1 h.2.2.2 rfl hz
  · rw [if_neg h] at hz hP he
    subst hz hP
    exact pround_bad h_a g_a h_ad g_ad hB h he

theorem rz_ok {p m : Int} (h : okd p m) (q : Rat) : rz p m q = rnd m (q * ((10 ^ p.toNat : Nat) : Rat)) := if_pos h
theorem ten_pos (n : Nat) : (0 : Rat) ≤ ((10 ^ n : Nat) : Rat) := Rat.natCast_nonneg
theorem rz_mono {p m : Int} (h : okd p m) {x y : Rat} (hxy : x ≤ y) : rz p m x ≤ rz p m y := by
  rw [rz_ok h, rz_ok h]
  exact rnd_mono m (Rat.mul_le_mul_of_nonneg_right hxy (ten_pos _))
theorem rz_ord_l {p m : Int} (h : okd p m) {x y : Rat} (hk : sgn (x - y).num = -1) : sgn (rz p m x - rz p m y) ≤ 0 := by
  have hxy : x ≤ y := by rcases sgq (x - y) with ⟨a, b⟩ | ⟨a, b⟩ | ⟨a, b⟩ <;> first | omega | grind
  have := rz_mono h hxy
  have := sgn_three (rz p m x - rz p m y)
  omega
theorem rz_ord_g {p m : Int} (h : okd p m) {x y : Rat} (hk : sgn (x - y).num = 1) : 0 ≤ sgn (rz p m x - rz p m y) := by
  have hxy : y ≤ x := by rcases sgq (x - y) with ⟨a, b⟩ | ⟨a, b⟩ | ⟨a, b⟩ <;> first | omega | grind
  have := rz_mono h hxy
  have := sgn_three (rz p m x - rz p m y)
  omega
theorem rz_ord_e {p m : Int} (_h : okd p m) {x y : Rat} (hk : sgn (x - y).num = 0) : sgn (rz p m x - rz p m y) = 0 := by
  have hxy : x = y := by rcases sgq (x - y) with ⟨a, b⟩ | ⟨a, b⟩ | ⟨a, b⟩ <;> first | omega | grind
  rw [hxy, Int.sub_self]; rfl
theorem rnd_len {m : Int} {x : Rat} {z : Int} {i : Nat} (hz : rnd m x = z) (h : (dig (zmag x.num)).length ≤ i ∧ (dig x.den).length ≤ i) : zmag z < pw (i + 1) := by
  have h1 := flr_lt h
  have hi := (sz_lt h).2.2
  rw [← hz]
  rcases rnd_two m x with h2 | ⟨h2, _⟩ <;> rw [h2]
  · exact pw_le (by omega) h1
  · have := zl_add h1 (show zmag 1 < pw i from pw_le hi (by decide))
    exact pw_le (by omega) this


end Go.Proofs.YtdlmfembnmomjaaGreatDoor

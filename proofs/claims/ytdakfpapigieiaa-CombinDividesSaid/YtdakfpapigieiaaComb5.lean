/-
  The numbers of combinatorics up to 200 are small.
-/
import Derived.Test.YtdakfpapigieiaaComb4
import Derived.Test.YtdakfpapigieiaaNat6
namespace Go.Proofs.Ytdakfpapigieiaa

theorem sm_of_le {m b : Nat} (hb : b < 32000000) (h : m ≤ 2 ^ b) : Sm m := by
  unfold Sm
  rw [pw_eq]
  have hc : b < 32 * 1000000 := hb
  generalize 32 * 1000000 = c at hc ⊢
  exact Nat.lt_of_le_of_lt h (Nat.pow_lt_pow_right (by omega) hc)
theorem sm_mul {a b i j : Nat} (hi : i + j < 32000000) (ha : a ≤ 2 ^ i) (hb : b ≤ 2 ^ j) : Sm (a * b) := by
  refine sm_of_le hi ?_
  rw [Nat.pow_add]
  exact Nat.mul_le_mul ha hb
theorem prd_bnd {lo k e : Nat} (h0 : 0 < lo) (h : lo + k ≤ 201) (he : 1600 ≤ e) : prd lo k ≤ 2 ^ e := by
  refine Nat.le_trans (prd_le (m := 200) (by omega)) ?_
  refine Nat.le_trans (Nat.pow_le_pow_left (show 200 ≤ 2 ^ 8 by decide) k) ?_
  rw [← Nat.pow_mul]
  exact Nat.pow_le_pow_right (by omega) (by omega)
theorem fac_bnd {n e : Nat} (h : n ≤ 200) (he : 1600 ≤ e) : fac n ≤ 2 ^ e := by rw [← prd_one]; exact prd_bnd (by omega) (by omega) he
theorem ch_bnd {n k e : Nat} (h : n ≤ e) : ch n k ≤ 2 ^ e := Nat.le_trans (ch_le_pow n k) (Nat.pow_le_pow_right (by omega) h)
theorem mlt_bnd {l : List Nat} {e : Nat} (h : tot l ≤ 200) (he : 1600 ≤ e) : mlt 0 l ≤ 2 ^ e := Nat.le_trans (mlt_le l) (fac_bnd h he)
theorem nat_bnd {m e : Nat} (h : m < 18446744073709551616) (he : 64 ≤ e) : m ≤ 2 ^ e := Nat.le_trans (show m ≤ 2 ^ 64 by omega) (Nat.pow_le_pow_right (by omega) he)
theorem fac_sm {n : Nat} (h : n ≤ 200) : Sm (fac n) := by
  obtain ⟨e, he⟩ : ∃ e, e = 1600 := ⟨_, rfl⟩
  exact sm_of_le (b := e) (by omega) (fac_bnd h (by omega))
theorem prd_sm {lo k : Nat} (h0 : 0 < lo) (h : lo + k ≤ 201) : Sm (prd lo k) := by
  obtain ⟨e, he⟩ : ∃ e, e = 1600 := ⟨_, rfl⟩
  exact sm_of_le (b := e) (by omega) (prd_bnd h0 h (by omega))
theorem ch_sm {n k : Nat} (h : n ≤ 200) : Sm (ch n k) := by
  obtain ⟨e, he⟩ : ∃ e, e = 1600 := ⟨_, rfl⟩
  exact sm_of_le (b := e) (by omega) (ch_bnd (by omega))
theorem mlt_sm {l : List Nat} (h : tot l ≤ 200) : Sm (mlt 0 l) := by
  obtain ⟨e, he⟩ : ∃ e, e = 1600 := ⟨_, rfl⟩
  exact sm_of_le (b := e) (by omega) (mlt_bnd h (by omega))
theorem nat_sm {m : Nat} (h : m < 18446744073709551616) : Sm m := by
  obtain ⟨e, he⟩ : ∃ e, e = 1600 := ⟨_, rfl⟩
  exact sm_of_le (b := e) (by omega) (nat_bnd h (by omega))
theorem rk_sm {n f : Nat} {l : List Nat} (h : Ris n f l) (hf : f ≤ n) (hn : n ≤ 200) : Sm (rk n f l) :=
  Sm.mono (Nat.le_of_lt (rk_lt h hf)) (ch_sm (by omega))
/-- the product formula's numbers -/
theorem step_sm {n k m : Nat} (h : n ≤ 200) (hm : m < 18446744073709551616) : Sm (ch n k * m) := by
  obtain ⟨e, he⟩ : ∃ e, e = 1600 := ⟨_, rfl⟩
  exact sm_mul (i := e) (j := e) (by omega) (ch_bnd (by omega)) (nat_bnd hm (by omega))
theorem fac3_sm {a b c : Nat} (ha : a ≤ 200) (hb : b ≤ 200) (hc : c ≤ 200) : Sm (fac a * (fac b * fac c)) ∧ Sm (fac b * fac c) := by
  obtain ⟨e, he⟩ : ∃ e, e = 1600 := ⟨_, rfl⟩
  have h2 : fac b * fac c ≤ 2 ^ (e + e) := by rw [Nat.pow_add]; exact Nat.mul_le_mul (fac_bnd hb (by omega)) (fac_bnd hc (by omega))
  exact ⟨sm_mul (i := e) (j := e + e) (by omega) (fac_bnd ha (by omega)) h2, sm_of_le (b := e + e) (by omega) h2⟩
end Go.Proofs.Ytdakfpapigieiaa

/-
  Decimal notation: what Print writes is what Parse reads, and the other way round (plain mathematics).
-/
import Derived.Test.YtjbbapibpcgnhaaParse
import Derived.Test.YtjbbapibpcgnhaaPrint
namespace Go.Proofs.Ytjbbapibpcgnhaa
open Go.RowKit

/-- the value of a list of digits -/
def dvL (l : List Nat) : Nat := l.foldl (fun v b => v * 10 + (b - 48)) 0
theorem dvL_snoc (l : List Nat) (b : Nat) : dvL (l ++ [b]) = dvL l * 10 + (b - 48) := by simp [dvL, List.foldl_append]
theorem dvL_ddig (n : Nat) : dvL (ddig n) = n := by
  induction n using Nat.strongRecOn with
  | _ n ih =>
    by_cases h : n = 0
    · subst h; rw [ddig_zero]; rfl
    · rw [ddig_pos h, dvL_snoc, ih _ (by omega)]; omega
theorem dvL_dec (n : Nat) : dvL (dec n) = n := by
  unfold dec
  split
  · rename_i h; rw [h]; rfl
  · exact dvL_ddig n
theorem dec_byte (n : Nat) : ∀ b ∈ dec n, 48 ≤ b ∧ b ≤ 57 := by
  unfold dec
  split
  · intro b hb; simp at hb; omega
  · exact ddig_byte n
theorem dec_pos (n : Nat) : 0 < (dec n).length := by
  unfold dec
  split
  · simp
  · rename_i h; exact ddig_len_pos h
theorem ddig_head {n : Nat} (h : n ≠ 0) : lm (ddig n) 0 ≠ 48 := by
  induction n using Nat.strongRecOn with
  | _ n ih =>
    rw [ddig_pos h, lm_append]
    by_cases h2 : n / 10 = 0
    · rw [h2, ddig_zero]
      simp [lm]
      omega
    · rw [if_pos (ddig_len_pos h2)]
      exact ih _ (by omega) h2
theorem dec_one (n : Nat) : (dec n).length = 1 ∨ lm (dec n) 0 ≠ 48 := by
  unfold dec
  split
  · left; rfl
  · rename_i h; right; exact ddig_head h
/-- a digit is kept -/
theorem ddig_snoc {v b : Nat} (hb : 48 ≤ b ∧ b ≤ 57) (h : v ≠ 0 ∨ b ≠ 48) : ddig (v * 10 + (b - 48)) = ddig v ++ [b] := by
  rw [ddig_pos (by omega), show (v * 10 + (b - 48)) / 10 = v by omega, show 48 + (v * 10 + (b - 48)) % 10 = b by omega]
theorem ddig_dvL : ∀ (k : Nat) (l : List Nat), l.length = k → (∀ b ∈ l, 48 ≤ b ∧ b ≤ 57) → l ≠ [] → lm l 0 ≠ 48 → ddig (dvL l) = l ∧ dvL l ≠ 0 := by
  intro k
  induction k with
  | zero => intro l hl _ hne _; exact absurd (List.eq_nil_of_length_eq_zero hl) hne
  | succ k ih =>
    intro l hl hb hne h0
    obtain ⟨l', b, rfl⟩ : ∃ l' b, l = l' ++ [b] := ⟨l.dropLast, l.getLast hne, (List.dropLast_concat_getLast hne).symm⟩
    have hbb := hb b (by simp)
    rw [dvL_snoc]
    by_cases hl0 : l' = []
    · subst hl0
      have hb48 : b ≠ 48 := by simpa [lm] using h0
      have e : dvL [] = 0 := rfl
      rw [e, ddig_snoc hbb (Or.inr hb48), ddig_zero]
      exact ⟨rfl, by omega⟩
    · have hp : 0 < l'.length := List.length_pos_iff.2 hl0
      have h0' : lm l' 0 ≠ 48 := by rwa [lm_append, if_pos hp] at h0
      obtain ⟨i1, i2⟩ := ih l' (by simpa using hl) (fun x hx => hb x (by simp [hx])) hl0 h0'
      rw [ddig_snoc hbb (Or.inl i2), i1]
      exact ⟨rfl, by omega⟩

theorem strN_size (l : List Nat) : (strN l).size = l.length := by unfold strN; rw [strOfNums_size, List.length_map]
theorem strN_get {l : List Nat} (h : ∀ b ∈ l, b < 256) {k : Nat} (hk : k < l.length) : bt (strN l) k = lm l k := by
  have hs : k < (strN l).size := by rw [strN_size]; exact hk
  rw [← bt_get hs]
  have hb : lm l k < 256 := by rw [lm_get hk]; exact h _ (List.getElem_mem hk)
  have e : (strN l)[k] = UInt8.ofNat (lm l k) := by
    show (strN l).data[k]'_ = _
    simp only [strN, strOfNums, List.map_map, List.getElem_toArray, List.getElem_map, Function.comp, lm_get hk]
    rfl
  rw [e]
  simp [Nat.mod_eq_of_lt hb]
theorem dvp_strN {l : List Nat} (h : ∀ b ∈ l, b < 256) {k : Nat} (hk : k ≤ l.length) : dvp (strN l) k = dvL (l.take k) := by
  induction k with
  | zero => rfl
  | succ k ih =>
    rw [dvp_succ, ih (by omega), strN_get h (by omega), List.take_add_one, lm_get (by omega)]
    rw [List.getElem?_eq_getElem (by omega)]
    simp only [Option.toList_some]
    rw [dvL_snoc]
theorem dec_lt (n : Nat) : ∀ b ∈ dec n, b < 256 := fun b hb => by have := dec_byte n b hb; omega
theorem dec_isNum (n : Nat) : IsNum (strN (dec n)) := by
  refine ⟨fun k hk => ?_, by rw [strN_size]; exact dec_pos n, ?_⟩
  · rw [strN_size] at hk
    rw [strN_get (dec_lt n) hk, lm_get hk]
    exact dec_byte n _ (List.getElem_mem hk)
  · rw [strN_size, strN_get (dec_lt n) (dec_pos n)]
    exact dec_one n
theorem dec_val (n : Nat) : dvp (strN (dec n)) (strN (dec n)).size = n := by
  rw [strN_size, dvp_strN (dec_lt n) (Nat.le_refl _), List.take_length, dvL_dec]

/-- the bytes of a string -/
def bts (s : ByteArray) : List Nat := s.data.toList.map UInt8.toNat
theorem bts_len (s : ByteArray) : (bts s).length = s.size := by unfold bts; rw [List.length_map, Array.length_toList]; rfl
theorem bts_lm {s : ByteArray} {k : Nat} (h : k < s.size) : lm (bts s) k = bt s k := by
  rw [lm_get (by rw [bts_len]; exact h), ← bt_get h]
  simp only [bts, List.getElem_map, Array.getElem_toList]
  rfl
theorem strN_bts (s : ByteArray) : strN (bts s) = s := by
  unfold strN strOfNums bts
  obtain ⟨⟨l⟩⟩ := s
  simp [Function.comp_def]
theorem bts_lt (s : ByteArray) : ∀ b ∈ bts s, b < 256 := by
  intro b hb
  obtain ⟨c, _, rfl⟩ := List.mem_map.1 hb
  exact UInt8.toNat_lt c
theorem num_dec {s : ByteArray} (h : IsNum s) : strN (dec (dvp s s.size)) = s := by
  obtain ⟨hd, hp, h0⟩ := h
  have e : dvp s s.size = dvL (bts s) := by
    have := dvp_strN (bts_lt s) (Nat.le_refl (bts s).length)
    rw [strN_bts, List.take_length, bts_len] at this
    exact this
  have hl := bts_len s
  have hb : ∀ b ∈ bts s, 48 ≤ b ∧ b ≤ 57 := by
    intro b hb
    obtain ⟨i, hi, rfl⟩ := List.getElem_of_mem hb
    rw [← lm_get hi, bts_lm (by omega)]
    exact hd i (by omega)
  rw [e]
  have e2 : dec (dvL (bts s)) = bts s := by
    by_cases h48 : bt s 0 = 48
    · have h1 : s.size = 1 := by
        rcases h0 with h | h
        · exact h
        · exact absurd h48 h
      have e3 : bts s = [48] := by
        apply lm_ext (by rw [hl, h1]; rfl)
        intro k hk
        obtain rfl : k = 0 := by omega
        rw [bts_lm hp, h48]; rfl
      rw [e3]; rfl
    · obtain ⟨i1, i2⟩ := ddig_dvL _ (bts s) rfl hb (by intro h; rw [h] at hl; simp at hl; omega) (by rw [bts_lm hp]; exact h48)
      unfold dec
      rw [if_neg i2, i1]
  rw [e2, strN_bts]

end Go.Proofs.Ytjbbapibpcgnhaa

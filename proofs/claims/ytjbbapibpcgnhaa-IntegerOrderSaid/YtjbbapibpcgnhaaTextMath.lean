/-
  Plain mathematics of decimal notation: bytes of a string, the value of its first digits, the digits of a number.
-/
import Derived.Test.YtjbbapibpcgnhaaMath
namespace Go.Proofs.Ytjbbapibpcgnhaa

/-- a byte (0 beyond the end) -/
def bt (s : ByteArray) (k : Nat) : Nat := if h : k < s.size then (s[k]'h).toNat else 0
theorem bt_get {s : ByteArray} {k : Nat} (h : k < s.size) : (s[k]'h).toNat = bt s k := by simp [bt, h]
theorem bt_lt (s : ByteArray) (k : Nat) : bt s k < 256 := by
  unfold bt
  split
  · exact UInt8.toNat_lt _
  · omega
/-- the value of the first k digits -/
def dvp (s : ByteArray) : Nat → Nat
  | 0 => 0
  | k + 1 => dvp s k * 10 + (bt s k - 48)
/-- the string is decimal notation -/
def IsNum (s : ByteArray) : Prop := (∀ k, k < s.size → 48 ≤ bt s k ∧ bt s k ≤ 57) ∧ 0 < s.size ∧ (s.size = 1 ∨ bt s 0 ≠ 48)

theorem dvp_succ (s : ByteArray) (k : Nat) : dvp s (k + 1) = dvp s k * 10 + (bt s k - 48) := rfl
theorem dvp_lt {s : ByteArray} {k : Nat} (h : ∀ j, j < k → 48 ≤ bt s j ∧ bt s j ≤ 57) : dvp s k < 10 ^ k := by
  induction k with
  | zero => simp [dvp]
  | succ k ih =>
    have := ih (fun j hj => h j (by omega))
    have := h k (by omega)
    rw [dvp_succ, Nat.pow_succ]
    omega
theorem size_ext {s : ByteArray} {a b : Nat} (hb : b ≤ s.size) : (s.extract a b).size = b - a := by
  rw [ByteArray.size_extract, Nat.min_eq_left hb]
theorem bt_ext {s : ByteArray} {a b k : Nat} (hb : b ≤ s.size) (hk : k < b - a) : bt (s.extract a b) k = bt s (a + k) := by
  have h1 : k < (s.extract a b).size := by rw [size_ext hb]; exact hk
  rw [← bt_get h1, ← bt_get (by omega : a + k < s.size), ByteArray.getElem_extract]
theorem dvp_ext {s : ByteArray} {a b k : Nat} (hb : b ≤ s.size) (hk : a + k ≤ b) : dvp s (a + k) = dvp s a * 10 ^ k + dvp (s.extract a b) k := by
  induction k with
  | zero => simp [dvp]
  | succ k ih =>
    rw [← Nat.add_assoc, dvp_succ, dvp_succ, ih (by omega), bt_ext hb (by omega), Nat.pow_succ]
    grind
theorem eq_dig {os : List Nat} {v : Nat} (hL : Limbs os) (hv : val os = v) (hl : os.length = (dig v).length) : os = dig v := by
  apply lm_ext hl
  intro k hk
  apply vl_inj hL (Limbs_dig v) os.length _ k hk
  rw [vl_ge (Nat.le_refl _), vl_ge (by omega), hv, val_dig]
/-- a number times a factor plus a limb, the carry being 0 or a new limb -/
theorem dig_times {os' : List Nat} {v v' cy : Nat} (hL : Limbs os') (hl : os'.length = (dig v).length) (hcy : cy < 4294967296) (hval : vl os' (dig v).length + pw (dig v).length * cy = v') (hle : v ≤ v') :
    (cy = 0 → os' = dig v') ∧ (cy ≠ 0 → os' ++ [cy] = dig v') := by
  have hb := vl_lt hL (dig v).length
  constructor
  · intro h0
    subst h0
    simp only [Nat.mul_zero, Nat.add_zero] at hval
    have hv : val os' = v' := by unfold val; rw [hl]; exact hval
    apply eq_dig hL hv
    rw [hl]
    apply Nat.le_antisymm (dig_len_mono hle)
    rw [dig_len_le]
    omega
  · intro h0
    have hLL : Limbs (os' ++ [cy]) := Limbs_append hL (Limbs_cons hcy Limbs_nil)
    have e : vl (os' ++ [cy]) ((dig v).length + 1) = v' := by
      rw [vl_succ, ← hval, lm_append, if_neg (by omega), hl, Nat.sub_self, lm_cons_zero]
      congr 1
      exact vl_congr fun j hj => by rw [lm_append, if_pos (by omega)]
    have hv : val (os' ++ [cy]) = v' := by unfold val; rw [List.length_append, hl]; exact e
    apply eq_dig hLL hv
    rw [List.length_append, hl]
    symm
    apply dig_len_eq
    · have := vl_lt hLL ((dig v).length + 1); rw [e] at this; exact this
    · right
      have : pw (dig v).length * 1 ≤ pw (dig v).length * cy := Nat.mul_le_mul_left _ (by omega)
      simp only [List.length_cons, List.length_nil, Nat.zero_add, Nat.add_sub_cancel]
      omega

/-- the decimal digits of a number, the highest first; none for 0 -/
def ddig (n : Nat) : List Nat := if _h : n = 0 then [] else ddig (n / 10) ++ [48 + n % 10]
termination_by n
decreasing_by omega
/-- decimal notation -/
def dec (n : Nat) : List Nat := if n = 0 then [48] else ddig n
theorem ddig_zero : ddig 0 = [] := by rw [ddig]; simp
theorem ddig_pos {n : Nat} (h : n ≠ 0) : ddig n = ddig (n / 10) ++ [48 + n % 10] := by rw [ddig]; simp [h]
theorem ddig_len (k : Nat) : ∀ n, (ddig n).length ≤ k ↔ n < 10 ^ k := by
  induction k with
  | zero => intro n; by_cases h : n = 0
            · subst h; simp [ddig_zero]
            · rw [ddig_pos h]; simp; omega
  | succ k ih =>
    intro n
    by_cases h : n = 0
    · subst h; simp [ddig_zero, Nat.pow_pos]
    · rw [ddig_pos h, List.length_append, List.length_singleton, Nat.pow_succ, Nat.succ_le_succ_iff, ih]; omega
theorem ddig_len_pos {n : Nat} (h : n ≠ 0) : 0 < (ddig n).length := by rw [ddig_pos h]; simp
theorem ddig_byte (n : Nat) : ∀ b ∈ ddig n, 48 ≤ b ∧ b ≤ 57 := by
  induction n using Nat.strongRecOn with
  | _ n ih =>
    by_cases h : n = 0
    · subst h; simp [ddig_zero]
    · rw [ddig_pos h]
      intro b hb
      rw [List.mem_append] at hb
      rcases hb with hb | hb
      · exact ih _ (by omega) b hb
      · simp at hb; omega
theorem pw_le_ten (n : Nat) : pw n ≤ 10 ^ (10 * n) := by
  induction n with
  | zero => simp [pw]
  | succ n ih =>
    rw [pw_succ, Nat.mul_add, Nat.pow_add]
    have := Nat.mul_le_mul (show 4294967296 ≤ 10 ^ (10 * 1) by decide) ih
    rw [Nat.mul_comm (10 ^ (10 * n))]
    exact this
/-- what is left after one digit more -/
theorem rest_step (V c i : Nat) (hi : i < 9) : (V * 10 ^ (9 - i) + c) % 10 = c % 10 ∧ (V * 10 ^ (9 - i) + c) / 10 = V * 10 ^ (9 - (i + 1)) + c / 10 := by
  have e : 10 ^ (9 - i) = 10 ^ (9 - (i + 1)) * 10 := by rw [← Nat.pow_succ]; congr 1; omega
  rw [e, ← Nat.mul_assoc]
  omega

end Go.Proofs.Ytjbbapibpcgnhaa

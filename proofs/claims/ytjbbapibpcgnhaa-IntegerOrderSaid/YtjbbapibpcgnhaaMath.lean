/-
  Plain mathematics of numbers written in limbs of 32 bits, the lowest first: no program in it.
  lm: a limb (0 beyond the end); vl: the value of the first k limbs; val: the value; dig: the limbs of a number without high zeros.
-/
namespace Go.Proofs.Ytjbbapibpcgnhaa

def lm (xs : List Nat) (k : Nat) : Nat := xs.getD k 0
def pw : Nat → Nat
  | 0 => 1
  | k + 1 => 4294967296 * pw k
def vl (xs : List Nat) : Nat → Nat
  | 0 => 0
  | k + 1 => vl xs k + pw k * lm xs k
def val (xs : List Nat) : Nat := vl xs xs.length
def Limbs (xs : List Nat) : Prop := ∀ k, lm xs k < 4294967296
def dig (n : Nat) : List Nat := if h : n = 0 then [] else n % 4294967296 :: dig (n / 4294967296)
termination_by n
decreasing_by omega
/-- -1, 0 or 1 -/
def cmpN (a b : Nat) : Int := if a < b then -1 else if b < a then 1 else 0

theorem pw_zero : pw 0 = 1 := rfl
theorem pw_succ (k : Nat) : pw (k + 1) = 4294967296 * pw k := rfl
theorem vl_zero (xs : List Nat) : vl xs 0 = 0 := rfl
theorem vl_succ (xs : List Nat) (k : Nat) : vl xs (k + 1) = vl xs k + pw k * lm xs k := rfl
theorem pw_pos (k : Nat) : 0 < pw k := by
  induction k with
  | zero => simp [pw]
  | succ k ih => simp [pw, ih]
theorem pw_add (a b : Nat) : pw (a + b) = pw a * pw b := by
  induction b with
  | zero => simp [pw]
  | succ b ih => rw [← Nat.add_assoc, pw_succ, pw_succ, ih]; grind
theorem pw_mono {a b : Nat} (h : a ≤ b) : pw a ≤ pw b := by
  obtain ⟨c, rfl⟩ := Nat.exists_eq_add_of_le h
  rw [pw_add]
  exact Nat.le_mul_of_pos_right _ (pw_pos c)
theorem pw_lt {a b : Nat} (h : a < b) : pw a < pw b := by
  have h1 := pw_mono (show a + 1 ≤ b by omega)
  have h2 := pw_pos a
  rw [pw_succ] at h1
  omega
theorem pw_eq (k : Nat) : pw k = 2 ^ (32 * k) := by
  induction k with
  | zero => rfl
  | succ k ih => rw [pw_succ, ih, Nat.mul_add, Nat.pow_add]; omega
theorem lm_ge {xs : List Nat} {k : Nat} (h : xs.length ≤ k) : lm xs k = 0 := by simp [lm, h]
theorem lm_nil (k : Nat) : lm [] k = 0 := rfl
theorem lm_cons_zero (x : Nat) (xs : List Nat) : lm (x :: xs) 0 = x := rfl
theorem lm_cons_succ (x : Nat) (xs : List Nat) (k : Nat) : lm (x :: xs) (k + 1) = lm xs k := rfl
theorem lm_set_eq {xs : List Nat} {k : Nat} (x : Nat) (h : k < xs.length) : lm (xs.set k x) k = x := by simp [lm, h]
theorem lm_set_ne {xs : List Nat} {j k : Nat} (x : Nat) (h : k ≠ j) : lm (xs.set k x) j = lm xs j := by simp [lm, h]
theorem lm_get {xs : List Nat} {k : Nat} (h : k < xs.length) : lm xs k = xs[k] := by simp [lm, h]
theorem lm_get? {xs : List Nat} {k : Nat} (h : k < xs.length) : xs[k]? = some (lm xs k) := by simp [lm, h]
theorem lm_take (xs : List Nat) (n k : Nat) : lm (xs.take n) k = if k < n then lm xs k else 0 := by
  unfold lm
  rw [List.getD_eq_getElem?_getD, List.getD_eq_getElem?_getD, List.getElem?_take]
  split <;> simp
theorem lm_drop (xs : List Nat) (n k : Nat) : lm (xs.drop n) k = lm xs (n + k) := by
  simp [lm]
theorem lm_append (xs ys : List Nat) (k : Nat) : lm (xs ++ ys) k = if k < xs.length then lm xs k else lm ys (k - xs.length) := by
  unfold lm
  rw [List.getD_eq_getElem?_getD, List.getD_eq_getElem?_getD, List.getD_eq_getElem?_getD, List.getElem?_append]
  split <;> rfl
theorem lm_zeros (n k : Nat) : lm (List.replicate n 0) k = 0 := by
  unfold lm
  rw [List.getD_eq_getElem?_getD, List.getElem?_replicate]
  split <;> rfl
theorem lm_ext {xs ys : List Nat} (hl : xs.length = ys.length) (h : ∀ k, k < xs.length → lm xs k = lm ys k) : xs = ys := by
  apply List.ext_getElem hl
  intro k h1 h2
  have := h k h1
  rwa [lm_get h1, lm_get h2] at this

theorem Limbs_nil : Limbs [] := fun k => by simp [lm]
theorem Limbs_set {xs : List Nat} (h : Limbs xs) {j x : Nat} (hx : x < 4294967296) : Limbs (xs.set j x) := by
  intro k
  by_cases hj : j = k
  · subst hj
    by_cases hl : j < xs.length
    · rw [lm_set_eq _ hl]; exact hx
    · rw [lm_ge (by simpa using hl)]; omega
  · rw [lm_set_ne _ hj]; exact h k
theorem Limbs_take {xs : List Nat} (h : Limbs xs) (n : Nat) : Limbs (xs.take n) := by
  intro k
  rw [lm_take]
  split
  · exact h k
  · omega
theorem Limbs_drop {xs : List Nat} (h : Limbs xs) (n : Nat) : Limbs (xs.drop n) := fun k => by rw [lm_drop]; exact h _
theorem Limbs_append {xs ys : List Nat} (h : Limbs xs) (h' : Limbs ys) : Limbs (xs ++ ys) := by
  intro k
  rw [lm_append]
  split
  · exact h k
  · exact h' _
theorem Limbs_zeros (n : Nat) : Limbs (List.replicate n 0) := fun k => by rw [lm_zeros]; omega
theorem Limbs_cons {x : Nat} {xs : List Nat} (hx : x < 4294967296) (h : Limbs xs) : Limbs (x :: xs) := by
  intro k
  cases k with
  | zero => exact hx
  | succ k => exact h k
theorem Limbs_tail {x : Nat} {xs : List Nat} (h : Limbs (x :: xs)) : Limbs xs := fun k => h (k + 1)

theorem vl_congr {xs ys : List Nat} {k : Nat} (h : ∀ j, j < k → lm xs j = lm ys j) : vl xs k = vl ys k := by
  induction k with
  | zero => rfl
  | succ k ih => rw [vl_succ, vl_succ, ih (fun j hj => h j (by omega)), h k (by omega)]
theorem vl_set {xs : List Nat} {j k : Nat} (x : Nat) (h : k ≤ j) : vl (xs.set j x) k = vl xs k :=
  vl_congr fun i hi => lm_set_ne _ (by omega)
theorem vl_add_ge {xs : List Nat} (n : Nat) : vl xs (xs.length + n) = val xs := by
  induction n with
  | zero => rfl
  | succ n ih => rw [← Nat.add_assoc, vl_succ, ih, lm_ge (by omega)]; simp
theorem vl_ge {xs : List Nat} {k : Nat} (h : xs.length ≤ k) : vl xs k = val xs := by
  obtain ⟨c, rfl⟩ := Nat.exists_eq_add_of_le h
  exact vl_add_ge c
theorem vl_lt {xs : List Nat} (h : Limbs xs) (k : Nat) : vl xs k < pw k := by
  induction k with
  | zero => simp [vl, pw]
  | succ k ih =>
    rw [vl_succ, pw_succ]
    have h1 := h k
    have h2 : pw k * lm xs k ≤ pw k * 4294967295 := Nat.mul_le_mul_left _ (by omega)
    omega
theorem val_lt {xs : List Nat} (h : Limbs xs) : val xs < pw xs.length := vl_lt h _
theorem vl_mono {xs : List Nat} {j k : Nat} (h : j ≤ k) : vl xs j ≤ vl xs k := by
  induction k with
  | zero => have : j = 0 := by omega
            subst this; exact Nat.le_refl _
  | succ k ih =>
    by_cases hj : j = k + 1
    · subst hj; exact Nat.le_refl _
    · have := ih (by omega); rw [vl_succ]; omega
theorem vl_cons (x : Nat) (xs : List Nat) (k : Nat) : vl (x :: xs) (k + 1) = x + 4294967296 * vl xs k := by
  induction k with
  | zero => simp [vl, pw, lm_cons_zero]
  | succ k ih => rw [vl_succ, ih, vl_succ, lm_cons_succ, pw_succ]; grind
theorem val_cons (x : Nat) (xs : List Nat) : val (x :: xs) = x + 4294967296 * val xs := vl_cons x xs xs.length
theorem val_nil : val [] = 0 := rfl
theorem vl_zeros (n k : Nat) : vl (List.replicate n 0) k = 0 := by
  induction k with
  | zero => rfl
  | succ k ih => rw [vl_succ, ih, lm_zeros]; omega
theorem vl_take {xs : List Nat} {n k : Nat} (h : k ≤ n) : vl (xs.take n) k = vl xs k :=
  vl_congr fun j hj => by rw [lm_take, if_pos (by omega)]
theorem val_take (xs : List Nat) {n : Nat} (h : n ≤ xs.length) : val (xs.take n) = vl xs n := by
  unfold val
  rw [List.length_take, Nat.min_eq_left h, vl_take (Nat.le_refl _)]
theorem vl_split (xs : List Nat) (i k : Nat) : vl xs (i + k) = vl xs i + pw i * vl (xs.drop i) k := by
  induction k with
  | zero => simp [vl]
  | succ k ih => rw [← Nat.add_assoc, vl_succ, vl_succ, ih, lm_drop, pw_add]; grind
theorem vl_zero_above {xs : List Nat} {n k : Nat} (hk : n ≤ k) (h : ∀ j, n ≤ j → j < k → lm xs j = 0) : vl xs k = vl xs n := by
  induction k with
  | zero => have : n = 0 := by omega
            subst this; rfl
  | succ k ih =>
    by_cases hn : n = k + 1
    · subst hn; rfl
    · rw [vl_succ, ih (by omega) (fun j h1 h2 => h j h1 (by omega)), h k (by omega) (by omega)]; simp

theorem dig_zero : dig 0 = [] := by rw [dig]; simp
theorem dig_pos {n : Nat} (h : n ≠ 0) : dig n = n % 4294967296 :: dig (n / 4294967296) := by rw [dig]; simp [h]
theorem val_dig (n : Nat) : val (dig n) = n := by
  induction n using Nat.strongRecOn with
  | _ n ih =>
    by_cases h : n = 0
    · subst h; rw [dig_zero]; rfl
    · rw [dig_pos h, val_cons, ih _ (by omega)]; omega
theorem Limbs_dig (n : Nat) : Limbs (dig n) := by
  induction n using Nat.strongRecOn with
  | _ n ih =>
    by_cases h : n = 0
    · subst h; rw [dig_zero]; exact Limbs_nil
    · rw [dig_pos h]; exact Limbs_cons (by omega) (ih _ (by omega))
theorem dig_len_le (n : Nat) : ∀ k, (dig n).length ≤ k ↔ n < pw k := by
  induction n using Nat.strongRecOn with
  | _ n ih =>
    intro k
    by_cases h : n = 0
    · subst h; rw [dig_zero]; simp [pw_pos]
    · rw [dig_pos h]
      cases k with
      | zero => simp [pw]; omega
      | succ k => rw [List.length_cons, Nat.succ_le_succ_iff, ih _ (by omega) k, pw_succ]; omega
theorem dig_len_lt (n k : Nat) : k < (dig n).length ↔ pw k ≤ n := by
  have := dig_len_le n k
  omega
theorem dig_len_eq {n k : Nat} (h1 : n < pw k) (h2 : k = 0 ∨ pw (k - 1) ≤ n) : (dig n).length = k := by
  have a := (dig_len_le n k).2 h1
  rcases h2 with h2 | h2
  · omega
  · have := (dig_len_lt n (k - 1)).2 h2; omega
theorem vl_inj {xs ys : List Nat} (hx : Limbs xs) (hy : Limbs ys) : ∀ k, vl xs k = vl ys k → ∀ j, j < k → lm xs j = lm ys j := by
  intro k
  induction k with
  | zero => intro _ j hj; omega
  | succ k ih =>
    intro h j hj
    rw [vl_succ, vl_succ] at h
    have a := vl_lt hx k
    have b := vl_lt hy k
    have e : lm xs k = lm ys k := by
      have p := pw_pos k
      have m1 : (vl xs k + pw k * lm xs k) / pw k = lm xs k := by
        rw [Nat.add_mul_div_left _ _ p, Nat.div_eq_of_lt a]; omega
      have m2 : (vl ys k + pw k * lm ys k) / pw k = lm ys k := by
        rw [Nat.add_mul_div_left _ _ p, Nat.div_eq_of_lt b]; omega
      rw [← m1, ← m2, h]
    rw [e] at h
    by_cases hk : j = k
    · subst hk; exact e
    · exact ih (by omega) j (by omega)
/-- What trim leaves are the digits of the value. -/
theorem take_dig {xs : List Nat} (h : Limbs xs) {n : Nat} (hn : n ≤ xs.length) (h0 : ∀ j, n ≤ j → j < xs.length → lm xs j = 0) (h1 : n = 0 ∨ lm xs (n - 1) ≠ 0) : xs.take n = dig (val xs) := by
  have e : val xs = vl xs n := vl_zero_above hn h0
  have hl : (dig (val xs)).length = n := by
    apply dig_len_eq
    · rw [e]; exact vl_lt h n
    · rcases h1 with h1 | h1
      · exact Or.inl h1
      · by_cases hn0 : n = 0
        · exact Or.inl hn0
        · right
          have : n = (n - 1) + 1 := by omega
          rw [e, this, vl_succ]
          have : 1 ≤ lm xs (n - 1) := by omega
          have := Nat.mul_le_mul_left (pw (n - 1)) this
          simp only [Nat.add_sub_cancel]
          omega
  apply lm_ext
  · rw [hl, List.length_take]; omega
  · intro k hk
    rw [List.length_take] at hk
    apply vl_inj (Limbs_take h n) (Limbs_dig _) n _ k (by omega)
    rw [vl_take (Nat.le_refl _), ← e, vl_ge (by omega), val_dig]
theorem dig_val {xs : List Nat} (h : Limbs xs) (h1 : xs.length = 0 ∨ lm xs (xs.length - 1) ≠ 0) : dig (val xs) = xs := by
  have := take_dig h (Nat.le_refl _) (fun j a b => by omega) h1
  rw [← this, List.take_length]
theorem dig_top {n : Nat} (h : 0 < (dig n).length) : lm (dig n) ((dig n).length - 1) ≠ 0 := by
  intro h0
  have e : val (dig n) = vl (dig n) ((dig n).length - 1) := by
    unfold val
    obtain ⟨l, hl⟩ : ∃ l, (dig n).length = l + 1 := ⟨(dig n).length - 1, by omega⟩
    rw [hl] at h0 ⊢
    simp only [Nat.add_sub_cancel] at h0 ⊢
    rw [vl_succ, h0]; omega
  have b := vl_lt (Limbs_dig n) ((dig n).length - 1)
  rw [← e, val_dig] at b
  have := (dig_len_le n ((dig n).length - 1)).2 b
  omega
theorem dig_inj {m n : Nat} (h : dig m = dig n) : m = n := by
  rw [← val_dig m, ← val_dig n, h]
theorem dig_len_zero {n : Nat} : (dig n).length = 0 ↔ n = 0 := by
  constructor
  · intro h; have := (dig_len_le n 0).1 (by omega); simpa [pw] using this
  · intro h; subst h; rw [dig_zero]; rfl
theorem dig_len_mono {m n : Nat} (h : m ≤ n) : (dig m).length ≤ (dig n).length := by
  rw [dig_len_le]
  have := (dig_len_le n (dig n).length).1 (Nat.le_refl _)
  omega
theorem dig_len_val {xs : List Nat} (h : Limbs xs) : (dig (val xs)).length ≤ xs.length := (dig_len_le _ _).2 (val_lt h)

theorem cmpN_lt {a b : Nat} (h : a < b) : cmpN a b = -1 := by simp [cmpN, h]
theorem cmpN_gt {a b : Nat} (h : b < a) : cmpN a b = 1 := by
  have : ¬ a < b := by omega
  simp [cmpN, h, this]
theorem cmpN_eq {a b : Nat} (h : a = b) : cmpN a b = 0 := by simp [cmpN, h]
/-- The highest limb that differs decides. -/
theorem vl_lt_of_top {xs ys : List Nat} (hx : Limbs xs) {i n : Nat} (hi : i < n) (h : ∀ j, i < j → j < n → lm xs j = lm ys j) (hlt : lm xs i < lm ys i) : vl xs n < vl ys n := by
  induction n with
  | zero => omega
  | succ n ih =>
    rw [vl_succ, vl_succ]
    by_cases hn : i = n
    · subst hn
      have a := vl_lt hx i
      have : pw i * (lm xs i + 1) ≤ pw i * lm ys i := Nat.mul_le_mul_left _ (by omega)
      rw [Nat.mul_add] at this
      omega
    · have := ih (by omega) (fun j a b => h j a (by omega))
      rw [h n (by omega) (by omega)]
      omega
/-- One step of a sum with a carry, a limb of the result being the low half. -/
theorem step_low (v P s : Nat) : v + P * (s % 4294967296) + 4294967296 * P * (s / 4294967296) = v + P * s := by
  have := Nat.div_add_mod s 4294967296
  grind

end Go.Proofs.Ytjbbapibpcgnhaa

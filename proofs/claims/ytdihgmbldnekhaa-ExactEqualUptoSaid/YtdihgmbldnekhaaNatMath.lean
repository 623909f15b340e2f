/-
  Math, KnuthMath, TextMath.
-/
namespace Go.Proofs.Ytdihgmbldnekhaa
section
def lm (xs : List Nat) (k : Nat) : Nat := xs.getD k 0
def pw : Nat → Nat
  | 0 => 1
  | k + 1 => 4294967296 * pw k
def vl (xs : List Nat) : Nat → Nat
  | 0 => 0
  | k + 1 => vl xs k + pw k * lm xs k
def val (xs : List Nat) : Nat := vl xs xs.length
def Limbs (xs : List Nat) : Prop := ∀ k, lm xs k < 4294967296
def dig (n : Nat) : List Nat := if h : n = 0 then [] else n % 4294967296 :: dig (n / 4294967296)
termination_by n
decreasing_by omega
/-- -1, 0 or 1 -/
def cmpN (a b : Nat) : Int := if a < b then -1 else if b < a then 1 else 0

theorem pw_zero : pw 0 = 1 := rfl
theorem pw_succ (k : Nat) : pw (k + 1) = 4294967296 * pw k := rfl
theorem vl_zero (xs : List Nat) : vl xs 0 = 0 := rfl
theorem vl_succ (xs : List Nat) (k : Nat) : vl xs (k + 1) = vl xs k + pw k * lm xs k := rfl
theorem pw_pos (k : Nat) : 0 < pw k := by
  induction k with
  | zero => simp [pw]
  | succ k ih => simp [pw, ih]
theorem pw_add (a b : Nat) : pw (a + b) = pw a * pw b := by
  induction b with
  | zero => simp [pw]
  | succ b ih => rw [← Nat.add_assoc, pw_succ, pw_succ, ih]; grind
theorem pw_mono {a b : Nat} (h : a ≤ b) : pw a ≤ pw b := by
  obtain ⟨c, rfl⟩ := Nat.exists_eq_add_of_le h
  rw [pw_add]
  exact Nat.le_mul_of_pos_right _ (pw_pos c)
theorem pw_lt {a b : Nat} (h : a < b) : pw a < pw b := by
  have h1 := pw_mono (show a + 1 ≤ b by omega)
  have h2 := pw_pos a
  rw [pw_succ] at h1
  omega
theorem pw_eq (k : Nat) : pw k = 2 ^ (32 * k) := by
  induction k with
  | zero => rfl
  | succ k ih => rw [pw_succ, ih, Nat.mul_add, Nat.pow_add]; omega
theorem lm_ge {xs : List Nat} {k : Nat} (h : xs.length ≤ k) : lm xs k = 0 := by simp [lm, h]
theorem lm_nil (k : Nat) : lm [] k = 0 := rfl
theorem lm_cons_zero (x : Nat) (xs : List Nat) : lm (x :: xs) 0 = x := rfl
theorem lm_cons_succ (x : Nat) (xs : List Nat) (k : Nat) : lm (x :: xs) (k + 1) = lm xs k := rfl
theorem lm_set_eq {xs : List Nat} {k : Nat} (x : Nat) (h : k < xs.length) : lm (xs.set k x) k = x := by simp [lm, h]
theorem lm_set_ne {xs : List Nat} {j k : Nat} (x : Nat) (h : k ≠ j) : lm (xs.set k x) j = lm xs j := by simp [lm, h]
theorem lm_get {xs : List Nat} {k : Nat} (h : k < xs.length) : lm xs k = xs[k] := by simp [lm, h]
theorem lm_get? {xs : List Nat} {k : Nat} (h : k < xs.length) : xs[k]? = some (lm xs k) := by simp [lm, h]
theorem lm_take (xs : List Nat) (n k : Nat) : lm (xs.take n) k = if k < n then lm xs k else 0 := by
  unfold lm
  rw [List.getD_eq_getElem?_getD, List.getD_eq_getElem?_getD, List.getElem?_take]
  split <;> simp
theorem lm_drop (xs : List Nat) (n k : Nat) : lm (xs.drop n) k = lm xs (n + k) := by
  simp [lm]
theorem lm_append (xs ys : List Nat) (k : Nat) : lm (xs ++ ys) k = if k < xs.length then lm xs k else lm ys (k - xs.length) := by
  unfold lm
  rw [List.getD_eq_getElem?_getD, List.getD_eq_getElem?_getD, List.getD_eq_getElem?_getD, List.getElem?_append]
  split <;> rfl
theorem lm_zeros (n k : Nat) : lm (List.replicate n 0) k = 0 := by
  unfold lm
  rw [List.getD_eq_getElem?_getD, List.getElem?_replicate]
  split <;> rfl
theorem lm_ext {xs ys : List Nat} (hl : xs.length = ys.length) (h : ∀ k, k < xs.length → lm xs k = lm ys k) : xs = ys := by
  apply List.ext_getElem hl
  intro k h1 h2
  have := h k h1
  rwa [lm_get h1, lm_get h2] at this

theorem Limbs_nil : Limbs [] := fun k => by simp [lm]
theorem Limbs_set {xs : List Nat} (h : Limbs xs) {j x : Nat} (hx : x < 4294967296) : Limbs (xs.set j x) := by
  intro k
  by_cases hj : j = k
  · subst hj
    by_cases hl : j < xs.length
    · rw [lm_set_eq _ hl]; exact hx
    · rw [lm_ge (by simpa using hl)]; omega
  · rw [lm_set_ne _ hj]; exact h k
theorem Limbs_take {xs : List Nat} (h : Limbs xs) (n : Nat) : Limbs (xs.take n) := by
  intro k
  rw [lm_take]
  split
  · exact h k
  · omega
theorem Limbs_drop {xs : List Nat} (h : Limbs xs) (n : Nat) : Limbs (xs.drop n) := fun k => by rw [lm_drop]; exact h _
theorem Limbs_append {xs ys : List Nat} (h : Limbs xs) (h' : Limbs ys) : Limbs (xs ++ ys) := by
  intro k
  rw [lm_append]
  split
  · exact h k
  · exact h' _
theorem Limbs_zeros (n : Nat) : Limbs (List.replicate n 0) := fun k => by rw [lm_zeros]; omega
theorem Limbs_cons {x : Nat} {xs : List Nat} (hx : x < 4294967296) (h : Limbs xs) : Limbs (x :: xs) := by
  intro k
  cases k with
  | zero => exact hx
  | succ k => exact h k
theorem Limbs_tail {x : Nat} {xs : List Nat} (h : Limbs (x :: xs)) : Limbs xs := fun k => h (k + 1)

theorem vl_congr {xs ys : List Nat} {k : Nat} (h : ∀ j, j < k → lm xs j = lm ys j) : vl xs k = vl ys k := by
  induction k with
  | zero => rfl
  | succ k ih => rw [vl_succ, vl_succ, ih (fun j hj => h j (by omega)), h k (by omega)]
theorem vl_set {xs : List Nat} {j k : Nat} (x : Nat) (h : k ≤ j) : vl (xs.set j x) k = vl xs k :=
  vl_congr fun i hi => lm_set_ne _ (by omega)
theorem vl_add_ge {xs : List Nat} (n : Nat) : vl xs (xs.length + n) = val xs := by
  induction n with
  | zero => rfl
  | succ n ih => rw [← Nat.add_assoc, vl_succ, ih, lm_ge (by omega)]; simp
theorem vl_ge {xs : List Nat} {k : Nat} (h : xs.length ≤ k) : vl xs k = val xs := by
  obtain ⟨c, rfl⟩ := Nat.exists_eq_add_of_le h
  exact vl_add_ge c
theorem vl_lt {xs : List Nat} (h : Limbs xs) (k : Nat) : vl xs k < pw k := by
  induction k with
  | zero => simp [vl, pw]
  | succ k ih =>
    rw [vl_succ, pw_succ]
    have h1 := h k
    have h2 : pw k * lm xs k ≤ pw k * 4294967295 := Nat.mul_le_mul_left _ (by omega)
    omega
theorem val_lt {xs : List Nat} (h : Limbs xs) : val xs < pw xs.length := vl_lt h _
theorem vl_mono {xs : List Nat} {j k : Nat} (h : j ≤ k) : vl xs j ≤ vl xs k := by
  induction k with
  | zero => have : j = 0 := by omega
            subst this; exact Nat.le_refl _
  | succ k ih =>
    by_cases hj : j = k + 1
    · subst hj; exact Nat.le_refl _
    · have := ih (by omega); rw [vl_succ]; omega
theorem vl_cons (x : Nat) (xs : List Nat) (k : Nat) : vl (x :: xs) (k + 1) = x + 4294967296 * vl xs k := by
  induction k with
  | zero => simp [vl, pw, lm_cons_zero]
  | succ k ih => rw [vl_succ, ih, vl_succ, lm_cons_succ, pw_succ]; grind
theorem val_cons (x : Nat) (xs : List Nat) : val (x :: xs) = x + 4294967296 * val xs := vl_cons x xs xs.length
theorem val_nil : val [] = 0 := rfl
theorem vl_zeros (n k : Nat) : vl (List.replicate n 0) k = 0 := by
  induction k with
  | zero => rfl
  | succ k ih => rw [vl_succ, ih, lm_zeros]; omega
theorem vl_take {xs : List Nat} {n k : Nat} (h : k ≤ n) : vl (xs.take n) k = vl xs k :=
  vl_congr fun j hj => by rw [lm_take, if_pos (by omega)]
theorem val_take (xs : List Nat) {n : Nat} (h : n ≤ xs.length) : val (xs.take n) = vl xs n := by
  unfold val
  rw [List.length_take, Nat.min_eq_left h, vl_take (Nat.le_refl _)]
theorem vl_split (xs : List Nat) (i k : Nat) : vl xs (i + k) = vl xs i + pw i * vl (xs.drop i) k := by
  induction k with
  | zero => simp [vl]
  | succ k ih => rw [← Nat.add_assoc, vl_succ, vl_succ, ih, lm_drop, pw_add]; grind
theorem vl_zero_above {xs : List Nat} {n k : Nat} (hk : n ≤ k) (h : ∀ j, n ≤ j → j < k → lm xs j = 0) : vl xs k = vl xs n := by
  induction k with
  | zero => have : n = 0 := by omega
            subst this; rfl
  | succ k ih =>
    by_cases hn : n = k + 1
    · subst hn; rfl
    · rw [vl_succ, ih (by omega) (fun j h1 h2 => h j h1 (by omega)), h k (by omega) (by omega)]; simp

theorem dig_zero : dig 0 = [] := by rw [dig]; simp
theorem dig_pos {n : Nat} (h : n ≠ 0) : dig n = n % 4294967296 :: dig (n / 4294967296) := by rw [dig]; simp [h]
theorem val_dig (n : Nat) : val (dig n) = n := by
  induction n using Nat.strongRecOn with
  | _ n ih =>
    by_cases h : n = 0
    · subst h; rw [dig_zero]; rfl
    · rw [dig_pos h, val_cons, ih _ (by omega)]; omega
theorem Limbs_dig (n : Nat) : Limbs (dig n) := by
  induction n using Nat.strongRecOn with
  | _ n ih =>
    by_cases h : n = 0
    · subst h; rw [dig_zero]; exact Limbs_nil
    · rw [dig_pos h]; exact Limbs_cons (by omega) (ih _ (by omega))
theorem dig_len_le (n : Nat) : ∀ k, (dig n).length ≤ k ↔ n < pw k := by
  induction n using Nat.strongRecOn with
  | _ n ih =>
    intro k
    by_cases h : n = 0
    · subst h; rw [dig_zero]; simp [pw_pos]
    · rw [dig_pos h]
      cases k with
      | zero => simp [pw]; omega
      | succ k => rw [List.length_cons, Nat.succ_le_succ_iff, ih _ (by omega) k, pw_succ]; omega
theorem dig_len_lt (n k : Nat) : k < (dig n).length ↔ pw k ≤ n := by
  have := dig_len_le n k
  omega
theorem dig_len_eq {n k : Nat} (h1 : n < pw k) (h2 : k = 0 ∨ pw (k - 1) ≤ n) : (dig n).length = k := by
  have a := (dig_len_le n k).2 h1
  rcases h2 with h2 | h2
  · omega
  · have := (dig_len_lt n (k - 1)).2 h2; omega
theorem vl_inj {xs ys : List Nat} (hx : Limbs xs) (hy : Limbs ys) : ∀ k, vl xs k = vl ys k → ∀ j, j < k → lm xs j = lm ys j := by
  intro k
  induction k with
  | zero => intro _ j hj; omega
  | succ k ih =>
    intro h j hj
    rw [vl_succ, vl_succ] at h
    have a := vl_lt hx k
    have b := vl_lt hy k
    have e : lm xs k = lm ys k := by
      have p := pw_pos k
      have m1 : (vl xs k + pw k * lm xs k) / pw k = lm xs k := by
        rw [Nat.add_mul_div_left _ _ p, Nat.div_eq_of_lt a]; omega
      have m2 : (vl ys k + pw k * lm ys k) / pw k = lm ys k := by
        rw [Nat.add_mul_div_left _ _ p, Nat.div_eq_of_lt b]; omega
      rw [← m1, ← m2, h]
    rw [e] at h
    by_cases hk : j = k
    · subst hk; exact e
    · exact ih (by omega) j (by omega)
/-- What trim leaves are the digits of the value. -/
theorem take_dig {xs : List Nat} (h : Limbs xs) {n : Nat} (hn : n ≤ xs.length) (h0 : ∀ j, n ≤ j → j < xs.length → lm xs j = 0) (h1 : n = 0 ∨ lm xs (n - 1) ≠ 0) : xs.take n = dig (val xs) := by
  have e : val xs = vl xs n := vl_zero_above hn h0
  have hl : (dig (val xs)).length = n := by
    apply dig_len_eq
    · rw [e]; exact vl_lt h n
    · rcases h1 with h1 | h1
      · exact Or.inl h1
      · by_cases hn0 : n = 0
        · exact Or.inl hn0
        · right
          have : n = (n - 1) + 1 := by omega
          rw [e, this, vl_succ]
          have : 1 ≤ lm xs (n - 1) := by omega
          have := Nat.mul_le_mul_left (pw (n - 1)) this
          simp only [Nat.add_sub_cancel]
          omega
  apply lm_ext
  · rw [hl, List.length_take]; omega
  · intro k hk
    rw [List.length_take] at hk
    apply vl_inj (Limbs_take h n) (Limbs_dig _) n _ k (by omega)
    rw [vl_take (Nat.le_refl _), ← e, vl_ge (by omega), val_dig]
theorem dig_val {xs : List Nat} (h : Limbs xs) (h1 : xs.length = 0 ∨ lm xs (xs.length - 1) ≠ 0) : dig (val xs) = xs := by
  have := take_dig h (Nat.le_refl _) (fun j a b => by omega) h1
  rw [← this, List.take_length]
theorem dig_top {n : Nat} (h : 0 < (dig n).length) : lm (dig n) ((dig n).length - 1) ≠ 0 := by
  intro h0
  have e : val (dig n) = vl (dig n) ((dig n).length - 1) := by
    unfold val
    obtain ⟨l, hl⟩ : ∃ l, (dig n).length = l + 1 := ⟨(dig n).length - 1, by omega⟩
    rw [hl] at h0 ⊢
    simp only [Nat.add_sub_cancel] at h0 ⊢
    rw [vl_succ, h0]; omega
  have b := vl_lt (Limbs_dig n) ((dig n).length - 1)
  rw [← e, val_dig] at b
  have := (dig_len_le n ((dig n).length - 1)).2 b
  omega
theorem dig_inj {m n : Nat} (h : dig m = dig n) : m = n := by
  rw [← val_dig m, ← val_dig n, h]
theorem dig_len_zero {n : Nat} : (dig n).length = 0 ↔ n = 0 := by
  constructor
  · intro h; have := (dig_len_le n 0).1 (by omega); simpa [pw] using this
  · intro h; subst h; rw [dig_zero]; rfl
theorem dig_len_mono {m n : Nat} (h : m ≤ n) : (dig m).length ≤ (dig n).length := by
  rw [dig_len_le]
  have := (dig_len_le n (dig n).length).1 (Nat.le_refl _)
  omega
theorem dig_len_val {xs : List Nat} (h : Limbs xs) : (dig (val xs)).length ≤ xs.length := (dig_len_le _ _).2 (val_lt h)

theorem cmpN_lt {a b : Nat} (h : a < b) : cmpN a b = -1 := by simp [cmpN, h]
theorem cmpN_gt {a b : Nat} (h : b < a) : cmpN a b = 1 := by
  have : ¬ a < b := by omega
  simp [cmpN, h, this]
theorem cmpN_eq {a b : Nat} (h : a = b) : cmpN a b = 0 := by simp [cmpN, h]
/-- The highest limb that differs decides. -/
theorem vl_lt_of_top {xs ys : List Nat} (hx : Limbs xs) {i n : Nat} (hi : i < n) (h : ∀ j, i < j → j < n → lm xs j = lm ys j) (hlt : lm xs i < lm ys i) : vl xs n < vl ys n := by
  induction n with
  | zero => omega
  | succ n ih =>
    rw [vl_succ, vl_succ]
    by_cases hn : i = n
    · subst hn
      have a := vl_lt hx i
      have : pw i * (lm xs i + 1) ≤ pw i * lm ys i := Nat.mul_le_mul_left _ (by omega)
      rw [Nat.mul_add] at this
      omega
    · have := ih (by omega) (fun j a b => h j a (by omega))
      rw [h n (by omega) (by omega)]
      omega
/-- One step of a sum with a carry, a limb of the result being the low half. -/
theorem step_low (v P s : Nat) : v + P * (s % 4294967296) + 4294967296 * P * (s / 4294967296) = v + P * s := by
  have := Nat.div_add_mod s 4294967296
  grind
end

section
/-- too great an estimate shows in the highest limbs -/
theorem est_high {R D R3 H2 c rl dl P : Nat} (hR : R = R3 * P + rl) (hrl : rl < P) (hD : D = H2 * P + dl) (h : R3 < c * H2) : R < c * D := by
  have h1 : (R3 + 1) * P ≤ c * H2 * P := Nat.mul_le_mul_right P h
  have h2 : c * D = c * H2 * P + c * dl := by rw [hD, Nat.mul_add, Nat.mul_assoc]
  rw [Nat.add_mul] at h1
  omega
/-- and if none shows it is at most 1 too great -/
theorem est_low {R D R3 H2 c rl dl P : Nat} (hR : R = R3 * P + rl) (hD : D = H2 * P + dl) (hdl : dl < P) (h : c * H2 ≤ R3) (hc : c ≤ H2 + 1) : c * D ≤ R + D := by
  cases c with
  | zero => omega
  | succ k =>
    have h1 : k * (H2 + 1) ≤ R3 := by
      rw [Nat.mul_add]
      rw [Nat.add_mul] at h
      omega
    have h2 : D ≤ (H2 + 1) * P := by rw [Nat.add_mul]; omega
    have h3 : k * D ≤ k * ((H2 + 1) * P) := Nat.mul_le_mul_left k h2
    have h4 : k * (H2 + 1) * P ≤ R3 * P := Nat.mul_le_mul_right P h1
    rw [Nat.mul_assoc] at h4
    rw [Nat.add_mul]
    omega
theorem quo_high {R D h top rl dl P q : Nat} (hR : R = top * P + rl) (hrl : rl < P) (hD : D = h * P + dl) (hq : q * D ≤ R) : q * h ≤ top := by
  have h1 : q * D = q * h * P + q * dl := by rw [hD, Nat.mul_add, Nat.mul_assoc]
  have h2 : q * h * P < (top + 1) * P := by rw [Nat.add_mul]; omega
  have := Nat.lt_of_mul_lt_mul_right h2
  omega
/-- the estimate, once the loop has ended -/
theorem est_done {R D c : Nat} (hD : 0 < D) (h1 : R / D ≤ c) (h2 : c * D ≤ R + D) : c = R / D ∨ c = R / D + 1 := by
  have h3 : c ≤ (R + D) / D := (Nat.le_div_iff_mul_le hD).2 h2
  rw [Nat.add_div_right _ hD] at h3
  omega
theorem div_le_of {R D c : Nat} (_hD : 0 < D) (h : R < c * D) : R / D ≤ c - 1 := by
  have h3 : R / D < c := (Nat.div_lt_iff_lt_mul _hD).2 h
  omega

/-- the highest limbs of a number -/
theorem split2 (ds : List Nat) (p : Nat) : vl ds (p + 2) = (lm ds (p + 1) * 4294967296 + lm ds p) * pw p + vl ds p := by
  rw [vl_succ, vl_succ, pw_succ]; grind
theorem split2' (ds : List Nat) (p : Nat) : vl ds (p + 2) = lm ds (p + 1) * pw (p + 1) + vl ds (p + 1) := by
  rw [vl_succ]; grind
theorem split3 (rs : List Nat) (p : Nat) : vl rs (p + 3) = ((lm rs (p + 2) * 4294967296 + lm rs (p + 1)) * 4294967296 + lm rs p) * pw p + vl rs p := by
  rw [vl_succ, vl_succ, vl_succ, pw_succ (p + 1), pw_succ p]; grind
theorem split3' (rs : List Nat) (p : Nat) : vl rs (p + 3) = (lm rs (p + 2) * 4294967296 + lm rs (p + 1)) * pw (p + 1) + vl rs (p + 1) := by
  rw [vl_succ, vl_succ, pw_succ (p + 1)]; grind

/-- one limb of a product subtracted, modulo 2^32 -/
def sbl (o part : Nat) : Nat := if o < part then 1 else 0
theorem sub_limb {o part : Nat} (ho : o < 4294967296) (hp : part < 4294967296) : (o + 4294967296 - part) % 4294967296 + part = o + 4294967296 * sbl o part := by
  unfold sbl; split <;> omega
theorem sbl_le (o part : Nat) : sbl o part ≤ 1 := by unfold sbl; split <;> omega

theorem mul_div_cancel_pw {a b s : Nat} : a * 2 ^ s / (b * 2 ^ s) = a / b := Nat.mul_div_mul_right _ _ (Nat.two_pow_pos s)
theorem mul_mod_pw {a b s : Nat} : a * 2 ^ s % (b * 2 ^ s) = a % b * 2 ^ s := Nat.mul_mod_mul_right _ _ _

/-- a limb shifted to the right -/
theorem shr_limb {P K x x1 X X2 : Nat} (hPK : P * K = 4294967296) (hx : x < 4294967296) (hX : X = x1 + 4294967296 * X2) :
    (x1 * 4294967296 + x) / P % 4294967296 + 4294967296 * (X / P) = (x + 4294967296 * X) / P := by
  have hP : 0 < P := by
    rcases Nat.eq_zero_or_pos P with h | h
    · subst h; omega
    · exact h
  have e1 : (x1 * 4294967296 + x) / P = x1 * K + x / P := by
    rw [← hPK, show x1 * (P * K) + x = x + P * (x1 * K) by grind, Nat.add_mul_div_left _ _ hP]; omega
  have e2 : (x + 4294967296 * X) / P = x / P + K * X := by
    rw [← hPK, show x + P * K * X = x + P * (K * X) by grind, Nat.add_mul_div_left _ _ hP]
  have e3 : X % P = x1 % P := by
    rw [hX, ← hPK, show x1 + P * K * X2 = x1 + P * (K * X2) by grind, Nat.add_mul_mod_self_left]
  have e4 : K * X = K * (X % P) + 4294967296 * (X / P) := by
    rw [← hPK]
    have := Nat.div_add_mod X P
    grind
  have e5 : x1 * K = K * (x1 % P) + 4294967296 * (x1 / P) := by
    rw [← hPK]
    have := Nat.div_add_mod x1 P
    grind
  have hlt : K * (x1 % P) + x / P < 4294967296 := by
    have h1 : x1 % P + 1 ≤ P := Nat.mod_lt _ hP
    have h2 : K * (x1 % P + 1) ≤ K * P := Nat.mul_le_mul_left K h1
    have h3 : x / P < K := by
      rw [Nat.div_lt_iff_lt_mul hP, Nat.mul_comm, hPK]; exact hx
    rw [Nat.mul_add, Nat.mul_comm K P, hPK] at h2
    omega
  rw [e1, e2, e4, e3, e5]
  rw [show K * (x1 % P) + 4294967296 * (x1 / P) + x / P = (K * (x1 % P) + x / P) + 4294967296 * (x1 / P) by omega, Nat.add_mul_mod_self_left, Nat.mod_eq_of_lt hlt]
  omega
theorem pw_two {s : Nat} (_h : s ≤ 32) : 2 ^ s * 2 ^ (32 - s) = 4294967296 := by
  rw [← Nat.pow_add, show s + (32 - s) = 32 by omega]
theorem val_low {xs : List Nat} {k : Nat} (_h : Limbs xs) (hk : val xs < pw k) : vl xs k = val xs := by
  rcases Nat.lt_or_ge k xs.length with hl | hl
  · have e := vl_split xs k (xs.length - k)
    rw [show k + (xs.length - k) = xs.length by omega, show vl xs xs.length = val xs from rfl] at e
    have hz : vl (xs.drop k) (xs.length - k) = 0 := by
      rcases Nat.eq_zero_or_pos (vl (xs.drop k) (xs.length - k)) with h0 | h0
      · exact h0
      · have := Nat.mul_le_mul_left (pw k) h0
        omega
    rw [hz] at e
    omega
  · exact vl_ge hl
theorem val_split (xs : List Nat) {k : Nat} (h : k ≤ xs.length) : val xs = vl xs k + pw k * val (xs.drop k) := by
  have e := vl_split xs k (xs.length - k)
  rw [show k + (xs.length - k) = xs.length by omega] at e
  unfold val
  rw [e, List.length_drop]

theorem est_step {R D top h v2 r2 rl dl P l c : Nat} (hR : R = (top * 4294967296 + r2) * P + rl) (hrl : rl < P) (hD : D = (h * 4294967296 + v2) * P + dl) (hD0 : 0 < D) (hinv : l + c * h = top) (hgt : 4294967296 * l + r2 < c * v2) :
    R / D ≤ c - 1 ∧ 1 ≤ c ∧ l + h + (c - 1) * h = top := by
  have hc : 1 ≤ c := by
    rcases Nat.eq_zero_or_pos c with h0 | h0
    · subst h0; omega
    · exact h0
  refine ⟨div_le_of hD0 (est_high hR hrl hD ?_), hc, ?_⟩
  · rw [← hinv, Nat.mul_add, ← Nat.mul_assoc, Nat.add_mul]; omega
  · obtain ⟨k, rfl⟩ : ∃ k, c = k + 1 := ⟨c - 1, by omega⟩
    rw [← hinv, Nat.add_mul]; simp; omega
theorem est_exit {R D top h v2 r2 rl dl P l c : Nat} (hR : R = (top * 4294967296 + r2) * P + rl) (hD : D = (h * 4294967296 + v2) * P + dl) (hdl : dl < P) (hD0 : 0 < D) (hh : 0 < h) (hinv : l + c * h = top) (hge : 4294967296 ≤ l ∨ c * v2 ≤ 4294967296 * l + r2)
    (hc : c ≤ 4294967295) (hv : v2 < 4294967296) (hq : R / D ≤ c) : c = R / D ∨ c = R / D + 1 := by
  have h1 : c * v2 ≤ 4294967296 * l + r2 := by
    rcases hge with h | h
    · have := Nat.mul_le_mul hc (show v2 ≤ 4294967295 by omega)
      omega
    · exact h
  refine est_done hD0 hq (est_low hR hD hdl ?_ (by omega))
  rw [← hinv, Nat.mul_add, ← Nat.mul_assoc, Nat.add_mul]; omega
end

section
/-- a byte (0 beyond the end) -/
def bt (s : ByteArray) (k : Nat) : Nat := if h : k < s.size then (s[k]'h).toNat else 0
theorem bt_get {s : ByteArray} {k : Nat} (h : k < s.size) : (s[k]'h).toNat = bt s k := by simp [bt, h]
theorem bt_lt (s : ByteArray) (k : Nat) : bt s k < 256 := by
  unfold bt
  split
  · exact UInt8.toNat_lt _
  · omega
/-- the value of the first k digits -/
def dvp (s : ByteArray) : Nat → Nat
  | 0 => 0
  | k + 1 => dvp s k * 10 + (bt s k - 48)
/-- the string is decimal notation -/
def IsNum (s : ByteArray) : Prop := (∀ k, k < s.size → 48 ≤ bt s k ∧ bt s k ≤ 57) ∧ 0 < s.size ∧ (s.size = 1 ∨ bt s 0 ≠ 48)

theorem dvp_succ (s : ByteArray) (k : Nat) : dvp s (k + 1) = dvp s k * 10 + (bt s k - 48) := rfl
theorem dvp_lt {s : ByteArray} {k : Nat} (h : ∀ j, j < k → 48 ≤ bt s j ∧ bt s j ≤ 57) : dvp s k < 10 ^ k := by
  induction k with
  | zero => simp [dvp]
  | succ k ih =>
    have := ih (fun j hj => h j (by omega))
    have := h k (by omega)
    rw [dvp_succ, Nat.pow_succ]
    omega
theorem size_ext {s : ByteArray} {a b : Nat} (hb : b ≤ s.size) : (s.extract a b).size = b - a := by
  rw [ByteArray.size_extract, Nat.min_eq_left hb]
theorem bt_ext {s : ByteArray} {a b k : Nat} (hb : b ≤ s.size) (hk : k < b - a) : bt (s.extract a b) k = bt s (a + k) := by
  have h1 : k < (s.extract a b).size := by rw [size_ext hb]; exact hk
  rw [← bt_get h1, ← bt_get (by omega : a + k < s.size), ByteArray.getElem_extract]
theorem dvp_ext {s : ByteArray} {a b k : Nat} (hb : b ≤ s.size) (hk : a + k ≤ b) : dvp s (a + k) = dvp s a * 10 ^ k + dvp (s.extract a b) k := by
  induction k with
  | zero => simp [dvp]
  | succ k ih =>
    rw [← Nat.add_assoc, dvp_succ, dvp_succ, ih (by omega), bt_ext hb (by omega), Nat.pow_succ]
    grind
theorem eq_dig {os : List Nat} {v : Nat} (hL : Limbs os) (hv : val os = v) (hl : os.length = (dig v).length) : os = dig v := by
  apply lm_ext hl
  intro k hk
  apply vl_inj hL (Limbs_dig v) os.length _ k hk
  rw [vl_ge (Nat.le_refl _), vl_ge (by omega), hv, val_dig]
/-- a number times a factor plus a limb, the carry being 0 or a new limb -/
theorem dig_times {os' : List Nat} {v v' cy : Nat} (hL : Limbs os') (hl : os'.length = (dig v).length) (hcy : cy < 4294967296) (hval : vl os' (dig v).length + pw (dig v).length * cy = v') (hle : v ≤ v') :
    (cy = 0 → os' = dig v') ∧ (cy ≠ 0 → os' ++ [cy] = dig v') := by
  have hb := vl_lt hL (dig v).length
  constructor
  · intro h0
    subst h0
    simp only [Nat.mul_zero, Nat.add_zero] at hval
    have hv : val os' = v' := by unfold val; rw [hl]; exact hval
    apply eq_dig hL hv
    rw [hl]
    apply Nat.le_antisymm (dig_len_mono hle)
    rw [dig_len_le]
    omega
  · intro h0
    have hLL : Limbs (os' ++ [cy]) := Limbs_append hL (Limbs_cons hcy Limbs_nil)
    have e : vl (os' ++ [cy]) ((dig v).length + 1) = v' := by
      rw [vl_succ, ← hval, lm_append, if_neg (by omega), hl, Nat.sub_self, lm_cons_zero]
      congr 1
      exact vl_congr fun j hj => by rw [lm_append, if_pos (by omega)]
    have hv : val (os' ++ [cy]) = v' := by unfold val; rw [List.length_append, hl]; exact e
    apply eq_dig hLL hv
    rw [List.length_append, hl]
    symm
    apply dig_len_eq
    · have := vl_lt hLL ((dig v).length + 1); rw [e] at this; exact this
    · right
      have : pw (dig v).length * 1 ≤ pw (dig v).length * cy := Nat.mul_le_mul_left _ (by omega)
      simp only [List.length_cons, List.length_nil, Nat.zero_add, Nat.add_sub_cancel]
      omega

/-- the decimal digits of a number, the highest first; none for 0 -/
def ddig (n : Nat) : List Nat := if _h : n = 0 then [] else ddig (n / 10) ++ [48 + n % 10]
termination_by n
decreasing_by omega
/-- decimal notation -/
def dec (n : Nat) : List Nat := if n = 0 then [48] else ddig n
theorem ddig_zero : ddig 0 = [] := by rw [ddig]; simp
theorem ddig_pos {n : Nat} (h : n ≠ 0) : ddig n = ddig (n / 10) ++ [48 + n % 10] := by rw [ddig]; simp [h]
theorem ddig_len (k : Nat) : ∀ n, (ddig n).length ≤ k ↔ n < 10 ^ k := by
  induction k with
  | zero => intro n; by_cases h : n = 0
            · subst h; simp [ddig_zero]
            · rw [ddig_pos h]; simp; omega
  | succ k ih =>
    intro n
    by_cases h : n = 0
    · subst h; simp [ddig_zero, Nat.pow_pos]
    · rw [ddig_pos h, List.length_append, List.length_singleton, Nat.pow_succ, Nat.succ_le_succ_iff, ih]; omega
theorem ddig_len_pos {n : Nat} (h : n ≠ 0) : 0 < (ddig n).length := by rw [ddig_pos h]; simp
theorem ddig_byte (n : Nat) : ∀ b ∈ ddig n, 48 ≤ b ∧ b ≤ 57 := by
  induction n using Nat.strongRecOn with
  | _ n ih =>
    by_cases h : n = 0
    · subst h; simp [ddig_zero]
    · rw [ddig_pos h]
      intro b hb
      rw [List.mem_append] at hb
      rcases hb with hb | hb
      · exact ih _ (by omega) b hb
      · simp at hb; omega
theorem pw_le_ten (n : Nat) : pw n ≤ 10 ^ (10 * n) := by
  induction n with
  | zero => simp [pw]
  | succ n ih =>
    rw [pw_succ, Nat.mul_add, Nat.pow_add]
    have := Nat.mul_le_mul (show 4294967296 ≤ 10 ^ (10 * 1) by decide) ih
    rw [Nat.mul_comm (10 ^ (10 * n))]
    exact this
/-- what is left after one digit more -/
theorem rest_step (V c i : Nat) (hi : i < 9) : (V * 10 ^ (9 - i) + c) % 10 = c % 10 ∧ (V * 10 ^ (9 - i) + c) / 10 = V * 10 ^ (9 - (i + 1)) + c / 10 := by
  have e : 10 ^ (9 - i) = 10 ^ (9 - (i + 1)) * 10 := by rw [← Nat.pow_succ]; congr 1; omega
  rw [e, ← Nat.mul_assoc]
  omega
end
end Go.Proofs.Ytdihgmbldnekhaa

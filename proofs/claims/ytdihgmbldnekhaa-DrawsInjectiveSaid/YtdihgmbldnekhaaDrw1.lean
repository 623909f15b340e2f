/-
  Draws: the transition, many transitions, affine steps, numbers below a bound.
-/
import Derived.Test.YtdihgmbldnekhaaCombX
namespace Go.Proofs.Ytdihgmbldnekhaa

/-- the transition -/
@[irreducible] def dnx (s : Nat) : Nat := (1442695040888963407 + 6364136223846793005 * s) % 18446744073709551616
theorem dnx_eq (s : Nat) : dnx s = (s * 6364136223846793005 + 1442695040888963407) % 18446744073709551616 := by rw [dnx, Nat.add_comm, Nat.mul_comm]
/-- the draw at a state -/
def dup (s : Nat) : Nat := dnx s / 4294967296
/-- n transitions -/
def dit : Nat → Nat → Nat
  | 0, s => s
  | n + 1, s => dit n (dnx s)
/-- an affine step -/
@[irreducible] def aff (f c s : Nat) : Nat := (s * f + c) % 18446744073709551616
/-- n affine steps -/
def dap (f c : Nat) : Nat → Nat → Nat
  | 0, s => s
  | n + 1, s => dap f c n (aff f c s)
theorem dnx_lt (s : Nat) : dnx s < 18446744073709551616 := by unfold dnx; omega
theorem dup_lt (s : Nat) : dup s < 4294967296 := by have := dnx_lt s; unfold dup; omega
theorem dit_lt {s : Nat} (h : s < 18446744073709551616) (n : Nat) : dit n s < 18446744073709551616 := by
  induction n generalizing s with
  | zero => exact h
  | succ n ih => rw [dit]; exact ih (dnx_lt s)
theorem dit_snoc : ∀ (n s : Nat), dit (n + 1) s = dnx (dit n s)
  | 0, _ => rfl
  | n + 1, s => by rw [dit, dit_snoc n]; rfl
theorem dit_add : ∀ (m n s : Nat), dit (m + n) s = dit n (dit m s)
  | 0, n, s => by rw [Nat.zero_add]; rfl
  | m + 1, n, s => by rw [show m + 1 + n = (m + n) + 1 by omega, dit, dit_add m n]; rfl
theorem dap_dit : ∀ (n s : Nat), dap 6364136223846793005 1442695040888963407 n s = dit n s
  | 0, _ => rfl
  | n + 1, s => by rw [dap, dit, show aff 6364136223846793005 1442695040888963407 s = dnx s by rw [aff, dnx_eq], dap_dit n]
theorem mod_in (M a F C c : Nat) : (a * (F % M) + (C % M + c) % M) % M = (a * F + (C + c)) % M := by
  rw [Nat.add_mod_mod, Nat.add_comm (C % M), ← Nat.add_assoc, Nat.add_mod_mod, Nat.add_assoc, ← Nat.mod_add_mod, Nat.mul_mod_mod, Nat.mod_add_mod, Nat.add_comm c]
theorem mod_out (M x f c : Nat) : (x % M * f + c) % M = (x * f + c) % M := by
  rw [← Nat.mod_add_mod, Nat.mod_mul_mod, Nat.mod_add_mod]
theorem aff2 (s f c : Nat) : aff f c (aff f c s) = aff (f * f % 18446744073709551616) ((c * f % 18446744073709551616 + c) % 18446744073709551616) s := by
  rw [aff, aff, aff, mod_out, mod_in, Nat.add_mul, Nat.mul_assoc, Nat.add_assoc]
theorem dap_two (f c : Nat) : ∀ (n s : Nat), dap f c (2 * n) s = dap (f * f % 18446744073709551616) ((c * f % 18446744073709551616 + c) % 18446744073709551616) n s
  | 0, _ => rfl
  | n + 1, s => by
    rw [show 2 * (n + 1) = 2 * n + 1 + 1 by omega, dap, dap, dap_two f c n, dap, aff2]
theorem dap_odd (f c s n : Nat) (h : n % 2 = 1) : dap f c n s = dap (f * f % 18446744073709551616) ((c * f % 18446744073709551616 + c) % 18446744073709551616) (n / 2) (aff f c s) := by
  rw [← dap_two]
  obtain ⟨k, rfl⟩ : ∃ k, n = 2 * k + 1 := ⟨n / 2, by omega⟩
  rw [show (2 * k + 1) / 2 = k by omega, dap]
theorem dap_even (f c s n : Nat) (h : n % 2 ≠ 1) : dap f c n s = dap (f * f % 18446744073709551616) ((c * f % 18446744073709551616 + c) % 18446744073709551616) (n / 2) s := by
  rw [← dap_two]
  obtain ⟨k, rfl⟩ : ∃ k, n = 2 * k := ⟨n / 2, by omega⟩
  rw [show 2 * k / 2 = k by omega]
theorem dnx_inj {a b : Nat} (ha : a < 18446744073709551616) (hb : b < 18446744073709551616) (h : dnx a = dnx b) : a = b := by
  rw [dnx_eq, dnx_eq] at h
  have key : ∀ s : Nat, s < 18446744073709551616 → ((s * 6364136223846793005 + 1442695040888963407) % 18446744073709551616 + 17004049032820588209) * 13877824140714322085 % 18446744073709551616 = s := by
    intro s hs
    rw [← Nat.mod_mul_mod, Nat.mod_add_mod, Nat.mod_mul_mod]
    rw [show (s * 6364136223846793005 + 1442695040888963407 + 17004049032820588209) * 13877824140714322085 = s + 18446744073709551616 * (s * 4787856489426250814 + 13877824140714322085) by grind]
    rw [Nat.add_mul_mod_self_left, Nat.mod_eq_of_lt hs]
  have h1 := key a ha
  have h2 := key b hb
  rw [h] at h1
  exact h1.symm.trans h2
/-- how often Skip(n) draws -/
def skN (n : Int) : Nat := (min (max n 0) 9999999).toNat
/-- Below -/
def bwB (n : Int) : Bool := decide (1 ≤ n ∧ n ≤ 2147483648)
def bwN (s : Nat) (n : Int) : Nat := if bwB n = true then dup s * n.toNat / 4294967296 else 0
def bwS (s : Nat) (n : Int) : Nat := if bwB n = true then dnx s else s
theorem bw_lt {s : Nat} {n : Int} (h : bwB n = true) : (bwN s n : Int) < n := by
  have h2 := h
  simp only [bwB, decide_eq_true_eq] at h2
  unfold bwN
  rw [if_pos h]
  obtain ⟨m, rfl⟩ : ∃ m : Nat, n = (m : Int) := ⟨n.toNat, by omega⟩
  rw [Int.toNat_natCast]
  have h3 := dup_lt s
  have h4 : dup s * m < 4294967296 * m := Nat.mul_lt_mul_of_pos_right h3 (by omega)
  have h5 : dup s * m / 4294967296 < m := Nat.div_lt_of_lt_mul h4
  omega
theorem bwN_nat {s m : Nat} (h1 : 1 ≤ m) (h2 : m ≤ 2147483648) : bwN s (m : Int) = dup s * m / 4294967296 := by
  have h : bwB (m : Int) = true := by simp only [bwB, decide_eq_true_eq]; omega
  unfold bwN
  rw [if_pos h, Int.toNat_natCast]
theorem bwS_nat {s m : Nat} (h1 : 1 ≤ m) (h2 : m ≤ 2147483648) : bwS s (m : Int) = dnx s := by
  have h : bwB (m : Int) = true := by simp only [bwB, decide_eq_true_eq]; omega
  unfold bwS
  rw [if_pos h]
/-- exchange -/
def swI (l : List Int) (i j : Nat) : List Int := (l.set i (li l j)).set j (li l i)
/-- the exchanges from index i down -/
def shL : Nat → Nat → List Int → List Int
  | 0, _, l => l
  | i + 1, s, l => shL i (dnx s) (swI l (i + 1) (bwN s ((i + 2 : Nat) : Int)))
def idI (n : Nat) : List Int := (List.range n).map Int.ofNat
theorem sw_length (l : List Int) (i j : Nat) : (swI l i j).length = l.length := by simp [swI]
theorem sh_length : ∀ (i s : Nat) (l : List Int), (shL i s l).length = l.length
  | 0, _, _ => rfl
  | i + 1, s, l => by rw [shL, sh_length i, sw_length]
theorem id_length (n : Nat) : (idI n).length = n := by simp [idI]
theorem li_id {n k : Nat} (h : k < n) : li (idI n) k = (k : Int) := by simp [li, idI, List.getD, h]
theorem id_snoc (n : Nat) : idI (n + 1) = idI n ++ [(n : Int)] := by simp [idI, List.range_succ]
theorem li_set_same {l : List Int} {i : Nat} {z : Int} (h : i < l.length) : li (l.set i z) i = z := by simp [li, List.getD, h]
theorem li_set_ne {l : List Int} {i j : Nat} {z : Int} (h : i ≠ j) : li (l.set i z) j = li l j := by simp [li, List.getD, List.getElem?_set_ne h]
/-- each element is at one place of the exchanged list -/
theorem li_sw {l : List Int} {i j k : Nat} (hi : i < l.length) (hj : j < l.length) : li (swI l i j) k = li l (if k = j then i else if k = i then j else k) := by
  unfold swI
  by_cases h1 : k = j
  · subst h1; rw [if_pos rfl, li_set_same (by simpa using hj)]
  · rw [if_neg h1, li_set_ne (fun e => h1 e.symm)]
    by_cases h2 : k = i
    · subst h2; rw [if_pos rfl, li_set_same hi]
    · rw [if_neg h2, li_set_ne (fun e => h2 e.symm)]
/-- a list of the numbers 0 .. n - 1, each once -/
def PmI (n : Nat) (l : List Int) : Prop := l.length = n ∧ (∀ k, k < n → 0 ≤ li l k ∧ li l k < (n : Int)) ∧ ∀ a b, a < n → b < n → li l a = li l b → a = b
theorem pm_id (n : Nat) : PmI n (idI n) := ⟨id_length n, fun k hk => by rw [li_id hk]; omega, fun a b ha hb h => by rw [li_id ha, li_id hb] at h; omega⟩
theorem pm_sw {n : Nat} {l : List Int} (h : PmI n l) {i j : Nat} (hi : i < n) (hj : j < n) : PmI n (swI l i j) := by
  obtain ⟨h1, h2, h3⟩ := h
  have hi' : i < l.length := by omega
  have hj' : j < l.length := by omega
  refine ⟨by rw [sw_length, h1], fun k hk => ?_, fun a b ha hb e => ?_⟩
  · rw [li_sw hi' hj']
    split
    · exact h2 _ hi
    · split
      · exact h2 _ hj
      · exact h2 _ hk
  · rw [li_sw hi' hj', li_sw hi' hj'] at e
    have e2 := h3 _ _ (by split; exact hi; split; exact hj; exact ha) (by split; exact hi; split; exact hj; exact hb) e
    split at e2 <;> split at e2 <;> (try split at e2) <;> (try split at e2) <;> omega
theorem pm_sh {n : Nat} (hn : n ≤ 2147483648) (i : Nat) : ∀ (s : Nat) (l : List Int), PmI n l → i < n → PmI n (shL i s l) := by
  induction i with
  | zero => exact fun _ _ h _ => h
  | succ i ih =>
    intro s l h hi
    rw [shL]
    refine ih _ _ (pm_sw h hi ?_) (by omega)
    have := bw_lt (s := s) (n := ((i + 2 : Nat) : Int)) (by simp only [bwB, decide_eq_true_eq]; omega)
    omega
def shfB (n : Int) : Bool := decide (0 ≤ n ∧ n ≤ 1024)
def suL (s : Nat) (n : Int) : List Int := if shfB n = true then shL (n.toNat - 1) s (idI n.toNat) else []
def suS (s : Nat) (n : Int) : Nat := if shfB n = true then dit (n.toNat - 1) s else s
/-- weights -/
def wgB (xs : List Int) : Bool := decide (xs.length ≤ 1024 ∧ ∀ j, j < xs.length → 0 ≤ li xs j ∧ li xs j ≤ 1000000)
/-- the sum of the first k -/
def wsum (xs : List Int) : Nat → Nat
  | 0 => 0
  | k + 1 => wsum xs k + (li xs k).toNat
def wgT (xs : List Int) : Nat := if wgB xs = true then wsum xs xs.length else 0
/-- the first index at which the sum is greater than x; n: there is none -/
def wfind (xs : List Int) (x n : Nat) : Nat → Nat → Nat
  | 0, _ => n
  | f + 1, i => if x < wsum xs (i + 1) then i else wfind xs x n f (i + 1)
def pkI (s : Nat) (xs : List Int) : Int := if wgT xs = 0 then -1 else (wfind xs (bwN s (wgT xs : Int)) xs.length xs.length 0 : Int)
def pkS (s : Nat) (xs : List Int) : Nat := if wgT xs = 0 then s else dnx s
theorem wsum_le {xs : List Int} (h : wgB xs = true) : ∀ k, k ≤ xs.length → wsum xs k ≤ k * 1000000
  | 0, _ => by simp [wsum]
  | k + 1, hk => by
    have ih := wsum_le h k (by omega)
    simp only [wgB, decide_eq_true_eq] at h
    have := (h.2 k (by omega)).2
    rw [wsum]
    omega
theorem wsum_mono (xs : List Int) : ∀ {i j : Nat}, i ≤ j → wsum xs i ≤ wsum xs j
  | i, 0, h => by obtain rfl : i = 0 := by omega
                  exact Nat.le_refl _
  | i, j + 1, h => by
    by_cases e : i = j + 1
    · rw [e]; exact Nat.le_refl _
    · have := wsum_mono xs (i := i) (j := j) (by omega)
      rw [wsum]; omega
/-- what the search finds -/
theorem wfind_eq {xs : List Int} {x n : Nat} : ∀ {f i k : Nat}, i ≤ k → k < i + f → (∀ j, i ≤ j → j < k → ¬ x < wsum xs (j + 1)) → x < wsum xs (k + 1) → wfind xs x n f i = k
  | 0, i, k, h1, h2, _, _ => by omega
  | f + 1, i, k, h1, h2, h3, h4 => by
    rw [wfind]
    by_cases e : i = k
    · subst e; rw [if_pos h4]
    · rw [if_neg (h3 i (Nat.le_refl _) (by omega))]
      exact wfind_eq (by omega) (by omega) (fun j hj hk => h3 j (by omega) hk) h4
theorem wgT_le (xs : List Int) : wgT xs ≤ 1024000000 := by
  unfold wgT
  split
  · rename_i h
    have h2 := wsum_le h xs.length (Nat.le_refl _)
    simp only [wgB, decide_eq_true_eq] at h
    omega
  · omega
end Go.Proofs.Ytdihgmbldnekhaa

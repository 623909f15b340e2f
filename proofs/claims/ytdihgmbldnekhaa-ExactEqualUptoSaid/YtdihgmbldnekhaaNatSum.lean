/-
  Add, Sub, Mul.
-/
import Derived.Test.YtdihgmbldnekhaaNatMem
namespace Go.Proofs.Ytdihgmbldnekhaa
section
open Go.RowKit

/-- what a round of Add does to the sum so far -/
theorem add_step {xs ys os : List Nat} {k cy : Nat} (hk : k < os.length) (hi : vl os k + pw k * cy = vl xs k + vl ys k) :
    vl (os.set k ((cy + lm xs k + lm ys k) % 4294967296)) (k + 1) + pw (k + 1) * ((cy + lm xs k + lm ys k) / 4294967296) = vl xs (k + 1) + vl ys (k + 1) := by
  rw [vl_succ, vl_set _ (Nat.le_refl _), lm_set_eq _ hk, pw_succ, step_low, vl_succ, vl_succ]
  grind

theorem add_end {X Y os : List Nat} {k q : Nat} (hos : os.length = k + 1) (hX : X.length ≤ k) (hY : Y.length ≤ k) (hval : vl os k + pw k * q = vl X k + vl Y k) : val (os.set k q) = val X + val Y := by
  rw [← vl_ge hX, ← vl_ge hY, ← hval]
  unfold val
  rw [List.length_set, hos, vl_succ, vl_set _ (Nat.le_refl _), lm_set_eq _ (by omega)]

/-- the sum so far: limbs below k, and a carry q -/
def AddRel (w : World) (X Y : List Nat) (m k q : Nat) (wr : World) : Prop :=
  ∃ os, os.length = m + 1 ∧ vl os k + pw k * q = vl X k + vl Y k ∧ Own wr w.heap.size os ∧ Below w.heap.size w wr

set_option maxHeartbeats 1000000 in
theorem add_ge (w : World) (Bd : Nat) (A A' : Option Addr) (n c n' c' : Nat) (xs ys : List Nat) (hx : Rd w Bd A n c xs) (hy : Rd w Bd A' n' c' ys) (hB : Bd ≤ w.heap.size)
    (hn : n + 1 ≤ 70368744177664) (_hn' : n' + 1 ≤ 70368744177664) (hlt : ¬ (dig (val xs)).length < (dig (val ys)).length) :
    Calls Try.prog 77 #[.slice A n c, .slice A' n' c'] w (RetNat w (val xs + val ys)) := by
  obtain ⟨X, m, hm, HX, hmn, hvx, _⟩ := hx.trimmed
  obtain ⟨Y, m', hm', HY, hmn', hvy, _⟩ := hy.trimmed
  have hlt' : ¬ m < m' := by rw [hm.out, hm'.out] at hlt; exact hlt
  clear hlt
  have hcap := HX.cap
  have hbig := HX.big
  have hcap' := HY.cap
  have hbig' := HY.big
  replace HX := hide HX
  replace HY := hide HY
  have H := hide hx
  have H' := hide hy
  clear hx hy
  go_enter Try.func77, Try.ntmps77
  go_wp2_with (first
    | (go_at_call 84; ((with_reducible refine (trim_to _ Bd A n c xs H.out m hm.out).mono ?_); rintro e w' ⟨rfl, rfl⟩))
    | (go_at_call 84; ((with_reducible refine (trim_to _ Bd A' n' c' ys H'.out m' hm'.out).mono ?_); rintro e w' ⟨rfl, rfl⟩))
    | (at_make; refine wpList_make_nat _ rfl _ _ rfl _ _ _ _ (m + 1) rfl rfl (by omega) (by omega) (by omega) ?_; intro w1 hown hb hg))
  go_loopw [6, 26] (fun cy i wr => ∃ k q : Nat, k ≤ m ∧ q ≤ 1 ∧ i = .int .i64 k ∧ cy = .int .u64 q ∧ AddRel w X Y m k q wr) (fun _ i _ => m - (intOf i).toNat)
  case atStart => exact ⟨0, 0, by omega, by omega, rfl, rfl, List.replicate (m + 1) 0, List.length_replicate, rfl, hown, hb⟩
  case round =>
    obtain ⟨k, q, hk, hq, rfl, rfl, os, hos, hval, hO, hBl⟩ := hrel
    have hsz := hide (show w.heap.size < wr.heap.size from hO.lt)
    have hko : k < os.length := by omega
    have hco := hO.cell hko
    have hfo := hO.frozen k
    replace hO := hide hO
    replace hBl := hide hBl
    by_cases hkl : k < m
    · obtain ⟨ad, rfl, hadb, hca⟩ := (HX.out.below (hBl.out.mono hB)).at_ hkl
      have h1 := HX.out.limbs k
      have h2 := HY.out.limbs k
      have hst := hide (add_step (xs := X) (ys := Y) hko hval)
      clear hval
      by_cases hks : k < m'
      · obtain ⟨ad', rfl, hadb', hca'⟩ := (HY.out.below (hBl.out.mono hB)).at_ hks
        go_wp2
        go_roundw
        case rel => exact ⟨k + 1, (q + lm X k + lm Y k) / 4294967296, by omega, by omega, by go_num, by go_num, _, by simpa using hos, hst.out, hO.out.put (by omega) (by omega), hBl.out.setCell (Nat.le_refl _) _⟩
        case measure => simp [intOf]; omega
      · have h0 := lm_ge (xs := Y) (k := k) (by rw [HY.out.len]; omega)
        have h0 := hide h0
        go_wp2
        go_roundw
        case rel => exact ⟨k + 1, (q + lm X k + lm Y k) / 4294967296, by omega, by omega, by go_num, by rw [h0.out]; go_num, _, by simpa using hos, hst.out, hO.out.put (by omega) (by rw [h0.out]; omega), hBl.out.setCell (Nat.le_refl _) _⟩
        case measure => simp [intOf]; omega
    · have hkm : k = m := by omega
      subst hkm
      have hR : Rd (wr.setCell ⟨w.heap.size, k, none⟩ (.int .u32 (q : Int))) (w.heap.size + 1) (some ⟨w.heap.size, 0, none⟩) (k + 1) (k + 1) (os.set k q) := by
        have := (hO.out.put (j := k) (x := q) (by omega) rfl).rd0 (c := k + 1) (by simp [hos]) (by omega) (Nat.lt_succ_self _)
        rwa [List.length_set, hos] at this
      have hv : Hid (val (os.set k q) = val xs + val ys) := hide (by
        rw [← hvx.out, ← hvy.out]
        exact add_end hos (by rw [HX.out.len]; omega) (by rw [HY.out.len]; omega) hval)
      replace hR := hide hR
      go_wp2_with (go_at_call 84; ((with_reducible refine (trim_any _ _ _ _ _ _ hR.out).mono ?_); rintro e w' ⟨rfl, rfl⟩))
      go_ret
      have hR' := hR.out.trim
      rw [hv.out] at hR' ⊢
      exact ⟨_, _, rfl, hR'.more (by simp [World.setCell]; exact hsz.out), hBl.out.setCell (Nat.le_refl _) _⟩

set_option maxHeartbeats 1000000 in
theorem add_lt (w : World) (Bd : Nat) (A A' : Option Addr) (n c n' c' : Nat) (xs ys : List Nat) (hx : Rd w Bd A n c xs) (hy : Rd w Bd A' n' c' ys) (hB : Bd ≤ w.heap.size)
    (_hn : n + 1 ≤ 70368744177664) (hn' : n' + 1 ≤ 70368744177664) (hlt : (dig (val xs)).length < (dig (val ys)).length) :
    Calls Try.prog 77 #[.slice A n c, .slice A' n' c'] w (RetNat w (val xs + val ys)) := by
  obtain ⟨X, m, hm, HX, hmn, hvx, _⟩ := hx.trimmed
  obtain ⟨Y, m', hm', HY, hmn', hvy, _⟩ := hy.trimmed
  have hlt' : m < m' := by rw [hm.out, hm'.out] at hlt; exact hlt
  clear hlt
  have hcap := HX.cap
  have hbig := HX.big
  have hcap' := HY.cap
  have hbig' := HY.big
  replace HX := hide HX
  replace HY := hide HY
  have H := hide hx
  have H' := hide hy
  clear hx hy
  go_enter Try.func77, Try.ntmps77
  go_wp2_with (first
    | (go_at_call 84; ((with_reducible refine (trim_to _ Bd A n c xs H.out m hm.out).mono ?_); rintro e w' ⟨rfl, rfl⟩))
    | (go_at_call 84; ((with_reducible refine (trim_to _ Bd A' n' c' ys H'.out m' hm'.out).mono ?_); rintro e w' ⟨rfl, rfl⟩))
    | (at_make; refine wpList_make_nat _ rfl _ _ rfl _ _ _ _ (m' + 1) rfl rfl (by omega) (by omega) (by omega) ?_; intro w1 hown hb hg))
  go_loopw [6, 26] (fun cy i wr => ∃ k q : Nat, k ≤ m' ∧ q ≤ 1 ∧ i = .int .i64 k ∧ cy = .int .u64 q ∧ AddRel w X Y m' k q wr) (fun _ i _ => m' - (intOf i).toNat)
  case atStart => exact ⟨0, 0, by omega, by omega, rfl, rfl, List.replicate (m' + 1) 0, List.length_replicate, rfl, hown, hb⟩
  case round =>
    obtain ⟨k, q, hk, hq, rfl, rfl, os, hos, hval, hO, hBl⟩ := hrel
    have hsz := hide (show w.heap.size < wr.heap.size from hO.lt)
    have hko : k < os.length := by omega
    have hco := hO.cell hko
    have hfo := hO.frozen k
    replace hO := hide hO
    replace hBl := hide hBl
    by_cases hkl : k < m'
    · obtain ⟨ad, rfl, hadb, hca⟩ := (HY.out.below (hBl.out.mono hB)).at_ hkl
      have h1 := HY.out.limbs k
      have h2 := HX.out.limbs k
      have hst := hide (add_step (xs := Y) (ys := X) hko (by rw [hval]; exact Nat.add_comm _ _))
      clear hval
      by_cases hks : k < m
      · obtain ⟨ad', rfl, hadb', hca'⟩ := (HX.out.below (hBl.out.mono hB)).at_ hks
        go_wp2
        go_roundw
        case rel => exact ⟨k + 1, (q + lm Y k + lm X k) / 4294967296, by omega, by omega, by go_num, by go_num, _, by simpa using hos, hst.out.trans (Nat.add_comm _ _), hO.out.put (by omega) (by omega), hBl.out.setCell (Nat.le_refl _) _⟩
        case measure => simp [intOf]; omega
      · have h0 := lm_ge (xs := X) (k := k) (by rw [HX.out.len]; omega)
        have h0 := hide h0
        go_wp2
        go_roundw
        case rel => exact ⟨k + 1, (q + lm Y k + lm X k) / 4294967296, by omega, by omega, by go_num, by rw [h0.out]; go_num, _, by simpa using hos, hst.out.trans (Nat.add_comm _ _), hO.out.put (by omega) (by rw [h0.out]; omega), hBl.out.setCell (Nat.le_refl _) _⟩
        case measure => simp [intOf]; omega
    · have hkm : k = m' := by omega
      subst hkm
      have hR : Rd (wr.setCell ⟨w.heap.size, k, none⟩ (.int .u32 (q : Int))) (w.heap.size + 1) (some ⟨w.heap.size, 0, none⟩) (k + 1) (k + 1) (os.set k q) := by
        have := (hO.out.put (j := k) (x := q) (by omega) rfl).rd0 (c := k + 1) (by simp [hos]) (by omega) (Nat.lt_succ_self _)
        rwa [List.length_set, hos] at this
      have hv : Hid (val (os.set k q) = val xs + val ys) := hide (by
        rw [← hvx.out, ← hvy.out]
        exact add_end hos (by rw [HX.out.len]; omega) (by rw [HY.out.len]; omega) hval)
      replace hR := hide hR
      go_wp2_with (go_at_call 84; ((with_reducible refine (trim_any _ _ _ _ _ _ hR.out).mono ?_); rintro e w' ⟨rfl, rfl⟩))
      go_ret
      have hR' := hR.out.trim
      rw [hv.out] at hR' ⊢
      exact ⟨_, _, rfl, hR'.more (by simp [World.setCell]; exact hsz.out), hBl.out.setCell (Nat.le_refl _) _⟩

theorem add_any (w : World) (Bd : Nat) (A A' : Option Addr) (n c n' c' : Nat) (xs ys : List Nat) (hx : Rd w Bd A n c xs) (hy : Rd w Bd A' n' c' ys) (hB : Bd ≤ w.heap.size)
    (hn : n + 1 ≤ 70368744177664) (hn' : n' + 1 ≤ 70368744177664) : Calls Try.prog 77 #[.slice A n c, .slice A' n' c'] w (RetNat w (val xs + val ys)) := by
  by_cases h : (dig (val xs)).length < (dig (val ys)).length
  · exact add_lt w Bd A A' n c n' c' xs ys hx hy hB hn hn' h
  · exact add_ge w Bd A A' n c n' c' xs ys hx hy hB hn hn' h
end

section
open Go.RowKit

theorem borrow_bits (x y b : Nat) (hx : x < 4294967296) (hy : y < 4294967296) (hb : b ≤ 1) :
    (((4294967295 ^^^ x) &&& y) ||| ((4294967295 ^^^ (x ^^^ y)) &&& ((x + 4294967296 - y - b) % 4294967296))) / 2147483648 = if x < y + b then 1 else 0 := by
  have e : (2147483648 : Nat) = 2 ^ 31 := rfl
  rw [e, Nat.or_div_two_pow, Nat.and_div_two_pow, Nat.and_div_two_pow, Nat.xor_div_two_pow, Nat.xor_div_two_pow, Nat.xor_div_two_pow]
  simp only [Nat.reducePow, Nat.reduceDiv]
  generalize hd : (x + 4294967296 - y - b) % 4294967296 = d
  have hd' : d / 2147483648 = 0 ∨ d / 2147483648 = 1 := by omega
  have hx' : x / 2147483648 = 0 ∨ x / 2147483648 = 1 := by omega
  have hy' : y / 2147483648 = 0 ∨ y / 2147483648 = 1 := by omega
  rcases hx' with h1 | h1 <;> rcases hy' with h2 | h2 <;> rcases hd' with h3 | h3 <;> rw [h1, h2, h3] <;> by_cases h : x < y + b <;> simp [h] <;> omega

/-- a limb of a difference, and what is borrowed from the next -/
def subD (x y b : Nat) : Nat := (x + 4294967296 - y - b) % 4294967296
def subB (x y b : Nat) : Nat := if x < y + b then 1 else 0
theorem subB_le (x y b : Nat) : subB x y b ≤ 1 := by unfold subB; split <;> omega
theorem subD_lt (x y b : Nat) : subD x y b < 4294967296 := by unfold subD; omega
theorem sub_one (x y b : Nat) (hx : x < 4294967296) (hy : y < 4294967296) (hb : b ≤ 1) : subD x y b + y + b = x + 4294967296 * subB x y b := by
  unfold subD subB; split <;> omega

theorem sub32_hi (x y b : Nat) (hx : x < 4294967296) (hy : y < 4294967296) (hb : b ≤ 1) :
    bits .or .u32 (bits .and .u32 (bits .xor .u32 IntKind.u32.max (x : Int)) (y : Int)) (bits .and .u32 (bits .xor .u32 IntKind.u32.max (bits .xor .u32 (x : Int) (y : Int))) (((x : Int) - y - b) % 4294967296)) / 2147483648 = ((subB x y b : Nat) : Int) := by
  have e0 : IntKind.u32.max = ((4294967295 : Nat) : Int) := rfl
  have e1 : ((x : Int) - y - b) % 4294967296 = (((x + 4294967296 - y - b) % 4294967296 : Nat) : Int) := by omega
  have h1 : 4294967295 ^^^ x < 2 ^ 32 := Nat.xor_lt_two_pow (by omega) (by omega)
  have h2 : x ^^^ y < 2 ^ 32 := Nat.xor_lt_two_pow (by omega) (by omega)
  have h3 : 4294967295 ^^^ (x ^^^ y) < 2 ^ 32 := Nat.xor_lt_two_pow (by omega) (by omega)
  have h4 : (4294967295 ^^^ x) &&& y < 2 ^ 32 := Nat.and_lt_two_pow _ (by omega)
  have h5 : (4294967295 ^^^ (x ^^^ y)) &&& ((x + 4294967296 - y - b) % 4294967296) < 2 ^ 32 := Nat.and_lt_two_pow _ (by omega)
  rw [e0, e1, u32_xor_nat _ _ (by omega) hx, u32_xor_nat _ _ hx hy, u32_xor_nat _ _ (by omega) (by omega), u32_and_nat _ _ (by omega) hy, u32_and_nat _ _ (by omega) (by omega), u32_or_nat _ _ (by omega) (by omega)]
  have := borrow_bits x y b hx hy hb
  unfold subB
  rw [← this]
  rfl

set_option maxHeartbeats 1000000 in
theorem sub32_any (w : World) (x y b : Nat) (hx : x < 4294967296) (hy : y < 4294967296) (hb : b ≤ 1) :
    Calls Try.prog 109 #[.int .u32 (x : Int), .int .u32 (y : Int), .int .u32 (b : Int)] w fun e w' =>
      e = .returned (.tuple #[.int .u32 (subD x y b : Int), .int .u32 (subB x y b : Int)]) ∧ w' = w := by
  have H1 := hide (sub32_hi x y b hx hy hb)
  have H2 : Hid (((x : Int) - y - b) % 4294967296 = ((subD x y b : Nat) : Int)) := hide (by unfold subD; omega)
  go_enter Try.func109, Try.ntmps109
  go_wp2
  go_ret2
  rw [← H1.out, ← H2.out]
  exact ⟨rfl, rfl⟩

/-- what a round of Sub does to the difference so far -/
theorem sub_step {xs ys os : List Nat} {k b : Nat} (hx : Limbs xs) (hy : Limbs ys) (hb : b ≤ 1) (hk : k < os.length) (hi : vl os k + vl ys k = vl xs k + pw k * b) :
    vl (os.set k (subD (lm xs k) (lm ys k) b)) (k + 1) + vl ys (k + 1) = vl xs (k + 1) + pw (k + 1) * subB (lm xs k) (lm ys k) b := by
  rw [vl_succ, vl_set _ (Nat.le_refl _), lm_set_eq _ hk, pw_succ, vl_succ, vl_succ]
  have := sub_one (lm xs k) (lm ys k) b (hx k) (hy k) hb
  have h2 : pw k * (subD (lm xs k) (lm ys k) b + lm ys k + b) = pw k * (lm xs k + 4294967296 * subB (lm xs k) (lm ys k) b) := by rw [this]
  grind
/-- at the end nothing is borrowed -/
theorem sub_end {X Y os : List Nat} {k b : Nat} (hos : os.length = k) (hX : X.length = k) (hY : Y.length ≤ k) (hO : Limbs os) (hb : b ≤ 1) (hle : val Y ≤ val X) (hval : vl os k + vl Y k = vl X k + pw k * b) : val os = val X - val Y := by
  rw [vl_ge hY, vl_ge (by omega : X.length ≤ k), vl_ge (by omega : os.length ≤ k)] at hval
  have h1 := val_lt hO
  rw [hos] at h1
  have : b = 0 := by
    rcases Nat.lt_or_ge 0 b with h | h
    · have : b = 1 := by omega
      subst this
      omega
    · omega
  subst this
  omega

/-- the difference so far: limbs below k, and a borrow q -/
def SubRel (w : World) (X Y : List Nat) (m k q : Nat) (wr : World) : Prop :=
  ∃ os, os.length = m ∧ vl os k + vl Y k = vl X k + pw k * q ∧ Own wr w.heap.size os ∧ Below w.heap.size w wr

/-- A number and true. -/
def RetNat2 (w : World) (m : Nat) (ok : Bool) (e : Ending) (w' : World) : Prop :=
  ∃ A c, e = .returned (.tuple #[.slice A (dig m).length c, .bool ok]) ∧ Rd w' w'.heap.size A (dig m).length c (dig m) ∧ Below w.heap.size w w'

set_option maxHeartbeats 1000000 in
theorem sub_less (w : World) (Bd : Nat) (A A' : Option Addr) (n c n' c' : Nat) (xs ys : List Nat) (hx : Rd w Bd A n c xs) (hy : Rd w Bd A' n' c' ys) (hlt : val xs < val ys) :
    Calls Try.prog 79 #[.slice A n c, .slice A' n' c'] w (RetNat2 w 0 false) := by
  obtain ⟨X, m, hm, HX, hmn, hvx, _⟩ := hx.trimmed
  obtain ⟨Y, m', hm', HY, hmn', hvy, _⟩ := hy.trimmed
  have hC : Hid (cmpN (val X) (val Y) = -1) := hide (by rw [hvx.out, hvy.out]; exact cmpN_lt hlt)
  have hcap := HX.cap
  have hbig := HX.big
  have hcap' := HY.cap
  have hbig' := HY.big
  replace HX := hide HX
  replace HY := hide HY
  have H := hide hx
  have H' := hide hy
  clear hx hy hlt
  go_enter Try.func79, Try.ntmps79
  go_wp2_with (first
    | (go_at_call 84; ((with_reducible refine (trim_to _ Bd A n c xs H.out m hm.out).mono ?_); rintro e w' ⟨rfl, rfl⟩))
    | (go_at_call 84; ((with_reducible refine (trim_to _ Bd A' n' c' ys H'.out m' hm'.out).mono ?_); rintro e w' ⟨rfl, rfl⟩))
    | (go_at_call 76; ((with_reducible refine (cmp_any _ Bd A A' m c m' c' X Y HX.out HY.out).mono ?_); rw [hC.out]; rintro e w' ⟨rfl, q, rfl⟩)))
  go_ret2
  exact ⟨none, 0, by rw [dig_zero]; rfl, by rw [dig_zero]; exact Rd.empty _ _ _ (by omega), below_drewN (Below.refl _ _) _⟩

theorem cmpN_ge {a b : Nat} (h : b ≤ a) : 0 ≤ cmpN a b := by
  unfold cmpN
  rw [if_neg (by omega)]
  split <;> omega

set_option maxHeartbeats 1000000 in
theorem sub_more (w : World) (Bd : Nat) (A A' : Option Addr) (n c n' c' : Nat) (xs ys : List Nat) (hx : Rd w Bd A n c xs) (hy : Rd w Bd A' n' c' ys) (hB : Bd ≤ w.heap.size) (hle : val ys ≤ val xs) :
    Calls Try.prog 79 #[.slice A n c, .slice A' n' c'] w (RetNat2 w (val xs - val ys) true) := by
  obtain ⟨X, m, hm, HX, hmn, hvx, _⟩ := hx.trimmed
  obtain ⟨Y, m', hm', HY, hmn', hvy, _⟩ := hy.trimmed
  have hmm : m' ≤ m := by rw [← hm.out, ← hm'.out]; exact dig_len_mono hle
  obtain ⟨z, hz⟩ : ∃ z : Int, z = cmpN (val X) (val Y) := ⟨_, rfl⟩
  have hz0 : 0 ≤ z := by rw [hz, hvx.out, hvy.out]; exact cmpN_ge hle
  have hC := hide hz.symm
  have hle := hide hle
  clear hz
  have hcap := HX.cap
  have hbig := HX.big
  have hcap' := HY.cap
  have hbig' := HY.big
  replace HX := hide HX
  replace HY := hide HY
  have H := hide hx
  have H' := hide hy
  clear hx hy
  go_enter Try.func79, Try.ntmps79
  go_wp2_with (first
    | (go_at_call 84; ((with_reducible refine (trim_to _ Bd A n c xs H.out m hm.out).mono ?_); rintro e w' ⟨rfl, rfl⟩))
    | (go_at_call 84; ((with_reducible refine (trim_to _ Bd A' n' c' ys H'.out m' hm'.out).mono ?_); rintro e w' ⟨rfl, rfl⟩))
    | (go_at_call 76; ((with_reducible refine (cmp_any _ Bd A A' m c m' c' X Y HX.out HY.out).mono ?_); rw [hC.out]; rintro e w' ⟨rfl, q, rfl⟩))
    | (at_make; refine wpList_make_nat _ rfl _ _ rfl _ _ _ _ m rfl rfl (by omega) (by omega) (by omega) ?_; intro w1 hown hb hg))
  go_loopw [7, 24] (fun bw i wr => ∃ k q : Nat, k ≤ m ∧ q ≤ 1 ∧ i = .int .i64 k ∧ bw = .int .u32 q ∧ SubRel w X Y m k q wr) (fun _ i _ => m - (intOf i).toNat)
  case atStart => exact ⟨0, 0, by omega, by omega, rfl, rfl, List.replicate m 0, List.length_replicate, rfl, hown, (below_drewN (Below.refl _ _) _).trans hb⟩
  case round =>
    obtain ⟨k, q', hk, hq, rfl, rfl, os, hos, hval, hO, hBl⟩ := hrel
    have hsz := hide (show w.heap.size < wr.heap.size from hO.lt)
    by_cases hkl : k < m
    · have hko : k < os.length := by omega
      have hco := hO.cell hko
      have hfo := hO.frozen k
      replace hO := hide hO
      replace hBl := hide hBl
      obtain ⟨ad, rfl, hadb, hca⟩ := (HX.out.below (hBl.out.mono hB)).at_ hkl
      have h1 := HX.out.limbs k
      have h2 := HY.out.limbs k
      have hst := hide (sub_step HX.out.limbs HY.out.limbs hq hko hval)
      clear hval
      by_cases hks : k < m'
      · obtain ⟨ad', rfl, hadb', hca'⟩ := (HY.out.below (hBl.out.mono hB)).at_ hks
        go_wp2_with (go_at_call 109; ((with_reducible refine (sub32_any _ (lm X k) (lm Y k) q' h1 h2 hq).mono ?_); rintro e w' ⟨rfl, rfl⟩))
        go_roundw
        case rel => exact ⟨k + 1, subB (lm X k) (lm Y k) q', by omega, subB_le _ _ _, by go_num, rfl, _, by simpa using hos, hst.out, hO.out.put (subD_lt _ _ _) rfl, hBl.out.setCell (Nat.le_refl _) _⟩
        case measure => simp [intOf]; omega
      · have h0 := lm_ge (xs := Y) (k := k) (by rw [HY.out.len]; omega)
        rw [h0] at hst h2
        go_wp2_with (go_at_call 109; ((refine (sub32_any _ (lm X k) 0 q' h1 (by omega) hq).mono ?_); rintro e w' ⟨rfl, rfl⟩))
        go_roundw
        case rel => exact ⟨k + 1, subB (lm X k) 0 q', by omega, subB_le _ _ _, by go_num, rfl, _, by simpa using hos, hst.out, hO.out.put (subD_lt _ _ _) rfl, hBl.out.setCell (Nat.le_refl _) _⟩
        case measure => simp [intOf]; omega
    · have hkm : k = m := by omega
      subst hkm
      have hR := hO.rd0 (c := k) (by omega) (by omega) (Nat.lt_succ_self _)
      rw [hos] at hR
      have hv : Hid (val os = val xs - val ys) := hide (by
        rw [← hvx.out, ← hvy.out]
        exact sub_end hos HX.out.len (by rw [HY.out.len]; omega) hO.limbs hq (by rw [hvx.out, hvy.out]; exact hle.out) hval)
      clear hval
      replace hR := hide hR
      replace hO := hide hO
      replace hBl := hide hBl
      go_wp2_with (go_at_call 84; ((with_reducible refine (trim_any _ _ _ _ _ _ hR.out).mono ?_); rintro e w' ⟨rfl, rfl⟩))
      go_ret2
      have hR' := hR.out.trim
      rw [hv.out] at hR' ⊢
      exact ⟨_, _, rfl, hR'.more hsz.out, hBl.out⟩
end

section
open Go.RowKit

theorem grown_refl (w : World) (row : Option Nat) : w.grownBy w row := ⟨rfl, rfl, rfl, Nat.le_refl _, fun _ _ _ => rfl⟩
theorem grown_setCell {a w : World} {g : Nat} (h : a.grownBy w (some g)) (j : Nat) (u : Value) : a.grownBy (w.setCell ⟨g, j, none⟩ u) (some g) :=
  ⟨h.os, h.tape, h.output, by simpa [World.setCell] using h.size, fun i hi hne => (Below.heap_setCell w _ u i (by
    rintro rfl
    exact hne rfl)).trans (h.block i hi hne)⟩
theorem grown_trans {a b c : World} {row : Option Nat} (h : a.grownBy b row) (k : b.grownBy c row) : a.grownBy c row :=
  ⟨k.os.trans h.os, k.tape.trans h.tape, k.output.trans h.output, Nat.le_trans h.size k.size, fun i hi hne => (k.block i (Nat.lt_of_lt_of_le hi h.size) hne).trans (h.block i hi hne)⟩
theorem below_of_grown {a w : World} {g B : Nat} (h : a.grownBy w (some g)) (hB : B ≤ g) (hs : B ≤ a.heap.size) : Below B a w :=
  ⟨h.os, h.tape, h.output, h.size, fun k hk => h.block k (by omega) (by simp; omega)⟩

/-- the sum so far: os' differs from os at most in the limbs from off to off + k -/
def TimesRel (w : World) (g off : Nat) (os ys : List Nat) (f k q : Nat) (wr : World) : Prop :=
  ∃ os', os'.length = os.length ∧ (∀ j, j < off ∨ off + k ≤ j → lm os' j = lm os j) ∧ vl (os'.drop off) k + pw k * q = vl (os.drop off) k + vl ys k * f ∧ Own wr g os' ∧ w.grownBy wr (some g)

theorem times_step {os os' ys : List Nat} {off f k q : Nat} (hl : os'.length = os.length) (hk : off + k < os.length) (h0 : ∀ j, j < off ∨ off + k ≤ j → lm os' j = lm os j)
    (h : vl (os'.drop off) k + pw k * q = vl (os.drop off) k + vl ys k * f) (s : Nat) (hs : s = q + (lm ys k * f + lm os' (off + k))) :
    vl ((os'.set (off + k) (s % 4294967296)).drop off) (k + 1) + pw (k + 1) * (s / 4294967296) = vl (os.drop off) (k + 1) + vl ys (k + 1) * f := by
  have e : vl ((os'.set (off + k) (s % 4294967296)).drop off) k = vl (os'.drop off) k := vl_congr fun j hj => by
    rw [lm_drop, lm_drop, lm_set_ne _ (by omega)]
  rw [vl_succ, e, lm_drop, lm_set_eq _ (by omega), pw_succ, step_low, vl_succ, vl_succ, lm_drop, ← h0 (off + k) (Or.inr (Nat.le_refl _))]
  subst hs
  grind
theorem times_keep {os os' : List Nat} {off k x : Nat} (h0 : ∀ j, j < off ∨ off + k ≤ j → lm os' j = lm os j) : ∀ j, j < off ∨ off + (k + 1) ≤ j → lm (os'.set (off + k) x) j = lm os j := by
  intro j hj
  rw [lm_set_ne _ (by omega)]
  exact h0 j (by omega)
theorem prod_le {a b : Nat} (ha : a < 4294967296) (hb : b < 4294967296) : (a : Int) * (b : Int) ≤ 18446744065119617025 := by
  have := Nat.mul_le_mul (show a ≤ 4294967295 by omega) (show b ≤ 4294967295 by omega)
  have e : ((a * b : Nat) : Int) = (a : Int) * (b : Int) := by simp
  omega

def RetTimes (w : World) (g off n : Nat) (os ys : List Nat) (f : Nat) (e : Ending) (w' : World) : Prop :=
  ∃ (os' : List Nat) (q : Nat), e = .returned (.int .u32 (q : Int)) ∧ q < 4294967296 ∧ os'.length = os.length ∧ (∀ j, j < off ∨ off + n ≤ j → lm os' j = lm os j) ∧ vl (os'.drop off) n + pw n * q = vl (os.drop off) n + vl ys n * f ∧ Own w' g os' ∧ w.grownBy w' (some g)

set_option maxHeartbeats 1000000 in
theorem addTimes_any (w : World) (g off cS Bd n c : Nat) (A : Option Addr) (os ys : List Nat) (f : Nat) (hO : Own w g os) (hoff : off + n ≤ os.length) (_hbs : os.length ≤ 70368744177664) (hy : Rd w Bd A n c ys) (hB : Bd ≤ g) (hf : f < 4294967296) :
    Calls Try.prog 85 #[.slice (some ⟨g, off, none⟩) n cS, .slice A n c, .int .u32 (f : Int)] w (RetTimes w g off n os ys f) := by
  have hcap := hy.cap
  have hbig := hy.big
  have H := hide hy
  have hO := hide hO
  clear hy
  go_enter Try.func85, Try.ntmps85
  go_wp2
  go_loopw [7, 12] (fun cy i wr => ∃ k q : Nat, k ≤ n ∧ q < 4294967296 ∧ i = .int .i64 k ∧ cy = .int .u64 q ∧ TimesRel w g off os ys f k q wr) (fun _ i _ => n - (intOf i).toNat)
  case atStart => exact ⟨0, 0, by omega, by omega, rfl, rfl, os, rfl, fun _ _ => rfl, by simp [vl], hO.out, grown_refl _ _⟩
  case round =>
    obtain ⟨k, q, hk, hq, rfl, rfl, os', hos, hkeep, hval, hOr, hgr⟩ := hrel
    by_cases hkl : k < n
    · have hco := hOr.cell (j := off + k) (by omega)
      have hfo := hOr.frozen (off + k)
      have hlo := hOr.limbs (off + k)
      obtain ⟨ad, rfl, hadb, hca⟩ := (H.out.below (below_of_grown hgr hB (by have := hO.out.lt; omega))).at_ hkl
      have hly := H.out.limbs k
      have hp := prod_le hly hf
      have hp0 : 0 ≤ (lm ys k : Int) * (f : Int) := Int.mul_nonneg (by omega) (by omega)
      have hst := hide (times_step hos (by omega) hkeep hval _ rfl)
      have hkeep' := hide (fun x => times_keep (x := x) hkeep)
      replace hOr := hide hOr
      replace hgr := hide hgr
      clear hval hkeep
      go_wp2
      go_roundw
      case rel =>
        have e : ((q : Int) + ((lm ys k : Int) * f + lm os' (off + k))) = ((q + (lm ys k * f + lm os' (off + k)) : Nat) : Int) := by simp
        rw [e]
        exact ⟨k + 1, (q + (lm ys k * f + lm os' (off + k))) / 4294967296, by omega, by omega, by go_num, rfl, _, by simpa using hos, hkeep'.out _, hst.out, hOr.out.put (by omega) rfl, grown_setCell hgr.out _ _⟩
      case measure => simp [intOf]; omega
    · have hkm : k = n := by omega
      subst hkm
      replace hOr := hide hOr
      replace hgr := hide hgr
      replace hkeep := hide hkeep
      replace hval := hide hval
      go_wp2
      go_ret
      exact ⟨os', q, rfl, hq, hos, hkeep.out, hval.out, hOr.out, hgr.out⟩

/-- the product so far -/
def MulRel (w : World) (X Y : List Nat) (m m' i : Nat) (wr : World) : Prop :=
  ∃ os, os.length = m + m' ∧ vl os (i + m') = vl X i * val Y ∧ Own wr w.heap.size os ∧ Below w.heap.size w wr

theorem mul_step {X Y os os' : List Nat} {i n q : Nat} (hY : Y.length = n) (hl : os'.length = os.length) (hi : i + n < os.length) (hkeep : ∀ j, j < i ∨ i + n ≤ j → lm os' j = lm os j)
    (h : vl (os'.drop i) n + pw n * q = vl (os.drop i) n + vl Y n * lm X i) (hval : vl os (i + n) = vl X i * val Y) :
    vl (os'.set (i + n) q) (i + 1 + n) = vl X (i + 1) * val Y := by
  rw [show i + 1 + n = (i + n) + 1 by omega, vl_succ, vl_set _ (Nat.le_refl _), lm_set_eq _ (by omega), vl_split, pw_add]
  rw [vl_split] at hval
  have e : vl os' i = vl os i := vl_congr fun j hj => hkeep j (Or.inl hj)
  have e2 : vl Y n = val Y := by unfold val; rw [hY]
  rw [e, vl_succ]
  rw [e2] at h
  generalize vl (os'.drop i) n = a at *
  generalize vl (os.drop i) n = b at *
  grind

set_option maxHeartbeats 1000000 in
theorem mul_any (w : World) (Bd : Nat) (A A' : Option Addr) (n c n' c' : Nat) (xs ys : List Nat) (hx : Rd w Bd A n c xs) (hy : Rd w Bd A' n' c' ys) (hB : Bd ≤ w.heap.size)
    (hn : n + n' ≤ 70368744177664) :
    Calls Try.prog 52 #[.slice A n c, .slice A' n' c'] w (RetNat w (val xs * val ys)) := by
  obtain ⟨X, m, hm, HX, hmn, hvx, _⟩ := hx.trimmed
  obtain ⟨Y, m', hm', HY, hmn', hvy, _⟩ := hy.trimmed
  have hcap := HX.cap
  have hbig := HX.big
  have hcap' := HY.cap
  have hbig' := HY.big
  replace HX := hide HX
  replace HY := hide HY
  have H := hide hx
  have H' := hide hy
  clear hx hy
  go_enter Try.func52, Try.ntmps52
  go_wp2_with (first
    | (go_at_call 84; ((with_reducible refine (trim_to _ Bd A n c xs H.out m hm.out).mono ?_); rintro e w' ⟨rfl, rfl⟩))
    | (go_at_call 84; ((with_reducible refine (trim_to _ Bd A' n' c' ys H'.out m' hm'.out).mono ?_); rintro e w' ⟨rfl, rfl⟩))
    | (at_make; refine wpList_make_nat _ rfl _ _ rfl _ _ _ _ (m + m') rfl rfl (by omega) (by omega) (by omega) ?_; intro w1 hown hb hg))
  go_loopw [20] (fun i wr => ∃ k : Nat, k ≤ m ∧ i = .int .i64 k ∧ MulRel w X Y m m' k wr) (fun i _ => m - (intOf i).toNat)
  case atStart => exact ⟨0, by omega, rfl, List.replicate (m + m') 0, List.length_replicate, by rw [vl_zeros]; simp [vl], hown, hb⟩
  case round =>
    obtain ⟨k, hk, rfl, os, hos, hval, hO, hBl⟩ := hrel
    have hsz := hide (show w.heap.size < wr.heap.size from hO.lt)
    by_cases hkl : k < m
    · replace hO := hide hO
      replace hBl := hide hBl
      replace hval := hide hval
      obtain ⟨ad, rfl, hadb, hca⟩ := (HX.out.below (hBl.out.mono hB)).at_ hkl
      have h1 := HX.out.limbs k
      have HY' := hide (HY.out.below (hBl.out.mono hB))
      go_wp2_with fail
      refine (addTimes_any wr w.heap.size k (m + m' - k) Bd m' c' A' os Y (lm X k) hO.out (by omega) (by omega) HY'.out hB h1).mono ?_
      rintro e w2 ⟨os', q, rfl, hq, hl, hkeep, hv, hO', hgr⟩
      have hco := hO'.cell (j := k + m') (by omega)
      have hfo := hO'.frozen (k + m')
      have hst := hide (mul_step HY.out.len hl (by omega) hkeep hv hval.out)
      have hB2 := hide (hBl.out.grown hgr (Nat.le_of_lt hO.out.lt) (by simp))
      replace hO' := hide hO'
      clear hkeep hv hgr
      go_wp2
      go_roundw
      case rel => exact ⟨k + 1, by omega, by go_num, _, by simpa [hl] using hos, hst.out, hO'.out.put hq rfl, hB2.out.setCell (Nat.le_refl _) _⟩
      case measure => simp [intOf]; omega
    · have hkm : k = m := by omega
      subst hkm
      have hR := hO.rd0 (c := k + m') (by omega) (by omega) (Nat.lt_succ_self _)
      rw [hos] at hR
      have hv : Hid (val os = val xs * val ys) := hide (by
        rw [← hvx.out, ← hvy.out]
        unfold val
        unfold val at hval
        rw [hos, hval, HX.out.len])
      clear hval
      replace hR := hide hR
      replace hO := hide hO
      replace hBl := hide hBl
      go_wp2_with (go_at_call 84; ((with_reducible refine (trim_any _ _ _ _ _ _ hR.out).mono ?_); rintro e w' ⟨rfl, rfl⟩))
      go_ret
      have hR' := hR.out.trim
      rw [hv.out] at hR' ⊢
      exact ⟨_, _, rfl, hR'.more hsz.out, hBl.out⟩
end
end Go.Proofs.Ytdihgmbldnekhaa

/-
  math/bits.Sub32, and Sub.
-/
import Derived.Test.YtjbbapibpcgnhaaCmp
namespace Go.Proofs.Ytjbbapibpcgnhaa
open Go.RowKit

theorem borrow_bits (x y b : Nat) (hx : x < 4294967296) (hy : y < 4294967296) (hb : b ≤ 1) :
    (((4294967295 ^^^ x) &&& y) ||| ((4294967295 ^^^ (x ^^^ y)) &&& ((x + 4294967296 - y - b) % 4294967296))) / 2147483648 = if x < y + b then 1 else 0 := by
  have e : (2147483648 : Nat) = 2 ^ 31 := rfl
  rw [e, Nat.or_div_two_pow, Nat.and_div_two_pow, Nat.and_div_two_pow, Nat.xor_div_two_pow, Nat.xor_div_two_pow, Nat.xor_div_two_pow]
  simp only [Nat.reducePow, Nat.reduceDiv]
  generalize hd : (x + 4294967296 - y - b) % 4294967296 = d
  have hd' : d / 2147483648 = 0 ∨ d / 2147483648 = 1 := by omega
  have hx' : x / 2147483648 = 0 ∨ x / 2147483648 = 1 := by omega
  have hy' : y / 2147483648 = 0 ∨ y / 2147483648 = 1 := by omega
  rcases hx' with h1 | h1 <;> rcases hy' with h2 | h2 <;> rcases hd' with h3 | h3 <;> rw [h1, h2, h3] <;> by_cases h : x < y + b <;> simp [h] <;> omega

/-- a limb of a difference, and what is borrowed from the next -/
def subD (x y b : Nat) : Nat := (x + 4294967296 - y - b) % 4294967296
def subB (x y b : Nat) : Nat := if x < y + b then 1 else 0
theorem subB_le (x y b : Nat) : subB x y b ≤ 1 := by unfold subB; split <;> omega
theorem subD_lt (x y b : Nat) : subD x y b < 4294967296 := by unfold subD; omega
theorem sub_one (x y b : Nat) (hx : x < 4294967296) (hy : y < 4294967296) (hb : b ≤ 1) : subD x y b + y + b = x + 4294967296 * subB x y b := by
  unfold subD subB; split <;> omega

theorem sub32_hi (x y b : Nat) (hx : x < 4294967296) (hy : y < 4294967296) (hb : b ≤ 1) :
    bits .or .u32 (bits .and .u32 (bits .xor .u32 IntKind.u32.max (x : Int)) (y : Int)) (bits .and .u32 (bits .xor .u32 IntKind.u32.max (bits .xor .u32 (x : Int) (y : Int))) (((x : Int) - y - b) % 4294967296)) / 2147483648 = ((subB x y b : Nat) : Int) := by
  have e0 : IntKind.u32.max = ((4294967295 : Nat) : Int) := rfl
  have e1 : ((x : Int) - y - b) % 4294967296 = (((x + 4294967296 - y - b) % 4294967296 : Nat) : Int) := by omega
  have h1 : 4294967295 ^^^ x < 2 ^ 32 := Nat.xor_lt_two_pow (by omega) (by omega)
  have h2 : x ^^^ y < 2 ^ 32 := Nat.xor_lt_two_pow (by omega) (by omega)
  have h3 : 4294967295 ^^^ (x ^^^ y) < 2 ^ 32 := Nat.xor_lt_two_pow (by omega) (by omega)
  have h4 : (4294967295 ^^^ x) &&& y < 2 ^ 32 := Nat.and_lt_two_pow _ (by omega)
  have h5 : (4294967295 ^^^ (x ^^^ y)) &&& ((x + 4294967296 - y - b) % 4294967296) < 2 ^ 32 := Nat.and_lt_two_pow _ (by omega)
  rw [e0, e1, u32_xor_nat _ _ (by omega) hx, u32_xor_nat _ _ hx hy, u32_xor_nat _ _ (by omega) (by omega), u32_and_nat _ _ (by omega) hy, u32_and_nat _ _ (by omega) (by omega), u32_or_nat _ _ (by omega) (by omega)]
  have := borrow_bits x y b hx hy hb
  unfold subB
  rw [← this]
  rfl

set_option maxHeartbeats 1000000 in
theorem sub32_any (w : World) (x y b : Nat) (hx : x < 4294967296) (hy : y < 4294967296) (hb : b ≤ 1) :
    Calls Try.prog 69 #[.int .u32 (x : Int), .int .u32 (y : Int), .int .u32 (b : Int)] w fun e w' =>
      e = .returned (.tuple #[.int .u32 (subD x y b : Int), .int .u32 (subB x y b : Int)]) ∧ w' = w := by
  have H1 := hide (sub32_hi x y b hx hy hb)
  have H2 : Hid (((x : Int) - y - b) % 4294967296 = ((subD x y b : Nat) : Int)) := hide (by unfold subD; omega)
  go_enter Try.func69, Try.ntmps69
  go_wp2
  go_ret2
  rw [← H1.out, ← H2.out]
  exact ⟨rfl, rfl⟩

/-- what a round of Sub does to the difference so far -/
theorem sub_step {xs ys os : List Nat} {k b : Nat} (hx : Limbs xs) (hy : Limbs ys) (hb : b ≤ 1) (hk : k < os.length) (hi : vl os k + vl ys k = vl xs k + pw k * b) :
    vl (os.set k (subD (lm xs k) (lm ys k) b)) (k + 1) + vl ys (k + 1) = vl xs (k + 1) + pw (k + 1) * subB (lm xs k) (lm ys k) b := by
  rw [vl_succ, vl_set _ (Nat.le_refl _), lm_set_eq _ hk, pw_succ, vl_succ, vl_succ]
  have := sub_one (lm xs k) (lm ys k) b (hx k) (hy k) hb
  have h2 : pw k * (subD (lm xs k) (lm ys k) b + lm ys k + b) = pw k * (lm xs k + 4294967296 * subB (lm xs k) (lm ys k) b) := by rw [this]
  grind
/-- at the end nothing is borrowed -/
theorem sub_end {X Y os : List Nat} {k b : Nat} (hos : os.length = k) (hX : X.length = k) (hY : Y.length ≤ k) (hO : Limbs os) (hb : b ≤ 1) (hle : val Y ≤ val X) (hval : vl os k + vl Y k = vl X k + pw k * b) : val os = val X - val Y := by
  rw [vl_ge hY, vl_ge (by omega : X.length ≤ k), vl_ge (by omega : os.length ≤ k)] at hval
  have h1 := val_lt hO
  rw [hos] at h1
  have : b = 0 := by
    rcases Nat.lt_or_ge 0 b with h | h
    · have : b = 1 := by omega
      subst this
      omega
    · omega
  subst this
  omega

/-- the difference so far: limbs below k, and a borrow q -/
def SubRel (w : World) (X Y : List Nat) (m k q : Nat) (wr : World) : Prop :=
  ∃ os, os.length = m ∧ vl os k + vl Y k = vl X k + pw k * q ∧ Own wr w.heap.size os ∧ Below w.heap.size w wr

/-- A number and true. -/
def RetNat2 (w : World) (m : Nat) (ok : Bool) (e : Ending) (w' : World) : Prop :=
  ∃ A c, e = .returned (.tuple #[.slice A (dig m).length c, .bool ok]) ∧ Rd w' w'.heap.size A (dig m).length c (dig m) ∧ Below w.heap.size w w'

set_option maxHeartbeats 1000000 in
theorem sub_less (w : World) (Bd : Nat) (A A' : Option Addr) (n c n' c' : Nat) (xs ys : List Nat) (hx : Rd w Bd A n c xs) (hy : Rd w Bd A' n' c' ys) (hlt : val xs < val ys) :
    Calls Try.prog 51 #[.slice A n c, .slice A' n' c'] w (RetNat2 w 0 false) := by
  obtain ⟨X, m, hm, HX, hmn, hvx, _⟩ := hx.trimmed
  obtain ⟨Y, m', hm', HY, hmn', hvy, _⟩ := hy.trimmed
  have hC : Hid (cmpN (val X) (val Y) = -1) := hide (by rw [hvx.out, hvy.out]; exact cmpN_lt hlt)
  have hcap := HX.cap
  have hbig := HX.big
  have hcap' := HY.cap
  have hbig' := HY.big
  replace HX := hide HX
  replace HY := hide HY
  have H := hide hx
  have H' := hide hy
  clear hx hy hlt
  go_enter Try.func51, Try.ntmps51
  go_wp2_with (first
    | (go_at_call 63; ((with_reducible refine (trim_to _ Bd A n c xs H.out m hm.out).mono ?_); rintro e w' ⟨rfl, rfl⟩))
    | (go_at_call 63; ((with_reducible refine (trim_to _ Bd A' n' c' ys H'.out m' hm'.out).mono ?_); rintro e w' ⟨rfl, rfl⟩))
    | (go_at_call 48; ((with_reducible refine (cmp_any _ Bd A A' m c m' c' X Y HX.out HY.out).mono ?_); rw [hC.out]; rintro e w' ⟨rfl, q, rfl⟩)))
  go_ret2
  exact ⟨none, 0, by rw [dig_zero]; rfl, by rw [dig_zero]; exact Rd.empty _ _ _ (by omega), below_drewN (Below.refl _ _) _⟩

theorem cmpN_ge {a b : Nat} (h : b ≤ a) : 0 ≤ cmpN a b := by
  unfold cmpN
  rw [if_neg (by omega)]
  split <;> omega

set_option maxHeartbeats 1000000 in
theorem sub_more (w : World) (Bd : Nat) (A A' : Option Addr) (n c n' c' : Nat) (xs ys : List Nat) (hx : Rd w Bd A n c xs) (hy : Rd w Bd A' n' c' ys) (hB : Bd ≤ w.heap.size) (hle : val ys ≤ val xs) :
    Calls Try.prog 51 #[.slice A n c, .slice A' n' c'] w (RetNat2 w (val xs - val ys) true) := by
  obtain ⟨X, m, hm, HX, hmn, hvx, _⟩ := hx.trimmed
  obtain ⟨Y, m', hm', HY, hmn', hvy, _⟩ := hy.trimmed
  have hmm : m' ≤ m := by rw [← hm.out, ← hm'.out]; exact dig_len_mono hle
  obtain ⟨z, hz⟩ : ∃ z : Int, z = cmpN (val X) (val Y) := ⟨_, rfl⟩
  have hz0 : 0 ≤ z := by rw [hz, hvx.out, hvy.out]; exact cmpN_ge hle
  have hC := hide hz.symm
  have hle := hide hle
  clear hz
  have hcap := HX.cap
  have hbig := HX.big
  have hcap' := HY.cap
  have hbig' := HY.big
  replace HX := hide HX
  replace HY := hide HY
  have H := hide hx
  have H' := hide hy
  clear hx hy
  go_enter Try.func51, Try.ntmps51
  go_wp2_with (first
    | (go_at_call 63; ((with_reducible refine (trim_to _ Bd A n c xs H.out m hm.out).mono ?_); rintro e w' ⟨rfl, rfl⟩))
    | (go_at_call 63; ((with_reducible refine (trim_to _ Bd A' n' c' ys H'.out m' hm'.out).mono ?_); rintro e w' ⟨rfl, rfl⟩))
    | (go_at_call 48; ((with_reducible refine (cmp_any _ Bd A A' m c m' c' X Y HX.out HY.out).mono ?_); rw [hC.out]; rintro e w' ⟨rfl, q, rfl⟩))
    | (at_make; refine wpList_make_nat _ rfl _ _ rfl _ _ _ _ m rfl rfl (by omega) (by omega) (by omega) ?_; intro w1 hown hb hg))
  go_loopw [7, 24] (fun bw i wr => ∃ k q : Nat, k ≤ m ∧ q ≤ 1 ∧ i = .int .i64 k ∧ bw = .int .u32 q ∧ SubRel w X Y m k q wr) (fun _ i _ => m - (intOf i).toNat)
  case atStart => exact ⟨0, 0, by omega, by omega, rfl, rfl, List.replicate m 0, List.length_replicate, rfl, hown, (below_drewN (Below.refl _ _) _).trans hb⟩
  case round =>
    obtain ⟨k, q', hk, hq, rfl, rfl, os, hos, hval, hO, hBl⟩ := hrel
    have hsz := hide (show w.heap.size < wr.heap.size from hO.lt)
    by_cases hkl : k < m
    · have hko : k < os.length := by omega
      have hco := hO.cell hko
      have hfo := hO.frozen k
      replace hO := hide hO
      replace hBl := hide hBl
      obtain ⟨ad, rfl, hadb, hca⟩ := (HX.out.below (hBl.out.mono hB)).at_ hkl
      have h1 := HX.out.limbs k
      have h2 := HY.out.limbs k
      have hst := hide (sub_step HX.out.limbs HY.out.limbs hq hko hval)
      clear hval
      by_cases hks : k < m'
      · obtain ⟨ad', rfl, hadb', hca'⟩ := (HY.out.below (hBl.out.mono hB)).at_ hks
        go_wp2_with (go_at_call 69; ((with_reducible refine (sub32_any _ (lm X k) (lm Y k) q' h1 h2 hq).mono ?_); rintro e w' ⟨rfl, rfl⟩))
        go_roundw
        case rel => exact ⟨k + 1, subB (lm X k) (lm Y k) q', by omega, subB_le _ _ _, by go_num, rfl, _, by simpa using hos, hst.out, hO.out.put (subD_lt _ _ _) rfl, hBl.out.setCell (Nat.le_refl _) _⟩
        case measure => simp [intOf]; omega
      · have h0 := lm_ge (xs := Y) (k := k) (by rw [HY.out.len]; omega)
        rw [h0] at hst h2
        go_wp2_with (go_at_call 69; ((refine (sub32_any _ (lm X k) 0 q' h1 (by omega) hq).mono ?_); rintro e w' ⟨rfl, rfl⟩))
        go_roundw
        case rel => exact ⟨k + 1, subB (lm X k) 0 q', by omega, subB_le _ _ _, by go_num, rfl, _, by simpa using hos, hst.out, hO.out.put (subD_lt _ _ _) rfl, hBl.out.setCell (Nat.le_refl _) _⟩
        case measure => simp [intOf]; omega
    · have hkm : k = m := by omega
      subst hkm
      have hR := hO.rd0 (c := k) (by omega) (by omega) (Nat.lt_succ_self _)
      rw [hos] at hR
      have hv : Hid (val os = val xs - val ys) := hide (by
        rw [← hvx.out, ← hvy.out]
        exact sub_end hos HX.out.len (by rw [HY.out.len]; omega) hO.limbs hq (by rw [hvx.out, hvy.out]; exact hle.out) hval)
      clear hval
      replace hR := hide hR
      replace hO := hide hO
      replace hBl := hide hBl
      go_wp2_with (go_at_call 63; ((with_reducible refine (trim_any _ _ _ _ _ _ hR.out).mono ?_); rintro e w' ⟨rfl, rfl⟩))
      go_ret2
      have hR' := hR.out.trim
      rw [hv.out] at hR' ⊢
      exact ⟨_, _, rfl, hR'.more hsz.out, hBl.out⟩

end Go.Proofs.Ytjbbapibpcgnhaa

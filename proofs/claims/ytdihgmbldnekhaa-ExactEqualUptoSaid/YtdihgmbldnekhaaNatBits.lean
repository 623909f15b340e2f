/-
  Bits, LawMath, Short, DivS.
-/
import Derived.Test.YtdihgmbldnekhaaNatMem
import Derived.Test.YtdihgmbldnekhaaLen
import Derived.Test.YtdihgmbldnekhaaNatSum
namespace Go.Proofs.Ytdihgmbldnekhaa
section
open Go.RowKit

/-- the length of a number, off its highest limb -/
theorem bl_val {X : List Nat} {m : Nat} (hX : Limbs X) (hx : X.length = m + 1) (h : lm X m ≠ 0) : bl (val X) = m * 32 + bl (lm X m) := by
  have e : val X = vl X m + pw m * lm X m := by unfold val; rw [hx, vl_succ]
  have hlt := vl_lt hX m
  rw [pw_eq] at hlt e
  have hp := Nat.two_pow_pos (32 * m)
  have h1 : 1 ≤ lm X m := by omega
  have h2 := Nat.mul_le_mul_left (2 ^ (32 * m)) h1
  rw [bl_shift (32 * m) (val X) (by omega), e, Nat.add_mul_div_left _ _ hp, Nat.div_eq_of_lt hlt]
  simp only [Nat.zero_add]
  omega

set_option maxHeartbeats 1000000 in
theorem bits_any (w : World) (Bd : Nat) (A : Option Addr) (n c : Nat) (xs : List Nat) (h : Rd w Bd A n c xs) :
    Calls Try.prog 90 #[.slice A n c] w fun e w' => e = .returned (.int .i64 (bl (val xs) : Int)) ∧ w = w' := by
  obtain ⟨X, m, hm, HX, hmn, hvx, hXd⟩ := h.trimmed
  have hcap := HX.cap
  have hbig := HX.big
  replace HX := hide HX
  have H := hide h
  clear h
  by_cases h0 : m = 0
  · have hz : Hid (bl (val xs) = 0) := hide (by rw [← hvx.out]; unfold val; rw [HX.out.len, h0]; exact bl_zero)
    subst h0
    go_enter Try.func90, Try.ntmps90
    go_wp2_with (first
      | (go_at_call 84; ((with_reducible refine (trim_to _ Bd A n c xs H.out 0 hm.out).mono ?_); rintro e w' ⟨rfl, rfl⟩)))
    go_ret
    rw [hz.out]
    exact ⟨rfl, rfl⟩
  · obtain ⟨l, rfl⟩ : ∃ l, m = l + 1 := ⟨m - 1, by omega⟩
    have ht : lm X l ≠ 0 := by
      have := dig_top (n := val xs) (by rw [← hXd.out, HX.out.len]; omega)
      rw [← hXd.out, HX.out.len] at this
      simpa using this
    have hlim := HX.out.limbs l
    have hble : bl (lm X l) ≤ 32 := (bl_le 32 _).2 (by omega)
    have hz := hide (bl_val HX.out.limbs HX.out.len ht)
    obtain ⟨ad, rfl, hadb, hca⟩ := HX.out.at_ (k := l) (by omega)
    clear ht
    go_enter Try.func90, Try.ntmps90
    go_wp2_with (first
      | (go_at_call 84; ((with_reducible refine (trim_to _ Bd (some ad) n c xs H.out (l + 1) hm.out).mono ?_); rintro e w' ⟨rfl, rfl⟩))
      | (go_at_call 114; ((with_reducible refine (len32_any _ (lm X l) hlim).mono ?_); rintro e w' ⟨rfl, rfl⟩)))
    go_goals
    go_ret
    rw [← hvx.out, hz.out]
    exact ⟨by go_num, rfl⟩
end

section
theorem lt_up {x i : Nat} (h : x < pw i) : x < pw (i + 1) := by rw [pw_succ]; omega
theorem lt_add {x y i j : Nat} (hx : x < pw i) (hy : y < pw j) : x + y < pw (max i j + 1) := by
  have h1 := pw_mono (Nat.le_max_left i j)
  have h2 := pw_mono (Nat.le_max_right i j)
  rw [pw_succ]; omega
theorem lt_mul {x y i j : Nat} (hx : x < pw i) (hy : y < pw j) : x * y < pw (i + j) := by
  rw [pw_add]
  have h1 : x * y ≤ x * pw j := Nat.mul_le_mul_left x (Nat.le_of_lt hy)
  have h2 : x * pw j < pw i * pw j := Nat.mul_lt_mul_of_pos_right hx (pw_pos j)
  omega
theorem dam_lt {x k : Nat} (h : x < pw k) (y : Nat) : x / y * y + x % y < pw k := by rw [Nat.div_add_mod']; exact h
theorem lt_gcd {x y i j : Nat} (hx : x < pw i) (hy : y < pw j) : Nat.gcd x y < pw (max i j) := by
  rcases Nat.eq_zero_or_pos x with h | h
  · rw [h, Nat.gcd_zero_left]
    exact Nat.lt_of_lt_of_le hy (pw_mono (Nat.le_max_right i j))
  · exact Nat.lt_of_le_of_lt (Nat.gcd_le_left _ h) (Nat.lt_of_lt_of_le hx (pw_mono (Nat.le_max_left i j)))
theorem bl_ne {n : Nat} (h : n ≠ 0) : 0 < bl n := by rw [bl_pos h]; omega
end

section
open Go.RowKit

theorem mod_small {q : Nat} (h : q < 4294967296) : (q : Int) % 4294967296 = q := by omega
theorem or_hi2 (a b : Nat) (ha : a < 4294967296) (hb : b < 4294967296) : bits .or .u64 ((b : Int) * 4294967296) (a : Int) = ((4294967296 * b + a : Nat) : Int) := by
  have e : ((b : Int) * 4294967296) = ((b * 4294967296 : Nat) : Int) := by omega
  rw [e, u64_or_nat _ _ (by omega) (by omega), nat_join 32 (b * 4294967296) a (by omega) (by omega)]
  omega
theorem val_drop {xs : List Nat} {i : Nat} (h : i < xs.length) : val (xs.drop i) = lm xs i + 4294967296 * val (xs.drop (i + 1)) := by
  rw [List.drop_eq_getElem_cons h, val_cons, lm_get h]
theorem val_set_drop {xs : List Nat} {i j x : Nat} (h : i < j) : val ((xs.set i x).drop j) = val (xs.drop j) := by
  unfold val
  rw [List.length_drop, List.length_drop, List.length_set]
  exact vl_congr fun k _ => by rw [lm_drop, lm_drop, lm_set_ne _ (by omega)]

/-- the quotient so far: limbs from i on are divided, r is left -/
def DivRel (w : World) (g : Nat) (os : List Nat) (d i r : Nat) (wr : World) : Prop :=
  ∃ os', os'.length = os.length ∧ (∀ j, j < i → lm os' j = lm os j) ∧ val (os.drop i) = d * val (os'.drop i) + r ∧ Own wr g os' ∧ w.grownBy wr (some g)

theorem div_step {os os' : List Nat} {d i r : Nat} (hl : os'.length = os.length) (hi : i < os.length) (h : val (os.drop (i + 1)) = d * val (os'.drop (i + 1)) + r) (s : Nat) (hs : s = 4294967296 * r + lm os i) :
    val (os.drop i) = d * val ((os'.set i (s / d)).drop i) + s % d := by
  rw [val_drop hi, h, val_drop (xs := os'.set i (s / d)) (by rw [List.length_set, hl]; exact hi), lm_set_eq _ (by omega), val_set_drop (by omega)]
  have := Nat.div_add_mod s d
  subst hs
  grind

def RetDiv (w : World) (g : Nat) (os : List Nat) (d : Nat) (e : Ending) (w' : World) : Prop :=
  ∃ os' : List Nat, e = .returned (.int .u32 ((val os % d : Nat) : Int)) ∧ os'.length = os.length ∧ val os' = val os / d ∧ Own w' g os' ∧ w.grownBy w' (some g)

theorem div_end {os os' : List Nat} {d r : Nat} (h : val os = d * val os' + r) (hr : r < d) : val os' = val os / d ∧ r = val os % d := by
  rw [h, Nat.mul_add_div (by omega), Nat.div_eq_of_lt hr, Nat.mul_add_mod, Nat.mod_eq_of_lt hr]
  exact ⟨by omega, rfl⟩
theorem quo_lt {s d r a : Nat} (hs : s = 4294967296 * r + a) (ha : a < 4294967296) (hr : r < d) : s / d < 4294967296 := by
  rw [Nat.div_lt_iff_lt_mul (by omega)]
  have : 4294967296 * (r + 1) ≤ 4294967296 * d := Nat.mul_le_mul_left _ hr
  omega

set_option maxHeartbeats 1000000 in
theorem divideByLimb_any (w : World) (g n c : Nat) (os : List Nat) (d : Nat) (hO : Own w g os) (hn : os.length = n) (hb : n ≤ 70368744177664) (hd0 : 0 < d) (hd : d < 4294967296) :
    Calls Try.prog 112 #[.slice (some ⟨g, 0, none⟩) n c, .int .u32 (d : Int)] w (RetDiv w g os d) := by
  replace hO := hide hO
  replace hn := hide hn
  go_enter Try.func112, Try.ntmps112
  go_wp2
  go_loopw [5, 6] (fun u i wr => ∃ (z : Int) (r : Nat), -1 ≤ z ∧ z < n ∧ r < d ∧ i = .int .i64 z ∧ u = .int .u64 (r : Int) ∧ DivRel w g os d (z + 1).toNat r wr) (fun _ i _ => (intOf i + 1).toNat)
  case atStart =>
    refine ⟨(n : Int) - 1, 0, by omega, by omega, hd0, rfl, rfl, os, rfl, fun _ _ => rfl, ?_, hO.out, grown_refl _ _⟩
    rw [List.drop_eq_nil_of_le (by rw [hn.out]; omega)]
    rfl
  case round =>
    obtain ⟨z, r, hz1, hz2, hr, rfl, rfl, os', hos, hkeep, hval, hOr, hgr⟩ := hrel
    by_cases hpos : 0 ≤ z
    · obtain ⟨k, rfl⟩ : ∃ k : Nat, z = k := ⟨z.toNat, by omega⟩
      have hk : k < n := by omega
      rw [show ((k : Int) + 1).toNat = k + 1 by omega] at hval hkeep
      have hnl := hn.out
      have hco := hOr.cell (j := k) (by omega)
      have hfo := hOr.frozen k
      have hlo := hOr.limbs k
      have hor := or_hi2 (lm os' k) r hlo (by omega)
      have hst := hide (div_step hos (by omega) hval (4294967296 * r + lm os' k) (by rw [hkeep k (by omega)]))
      have hq := quo_lt (s := 4294967296 * r + lm os' k) rfl hlo hr
      have hm := Nat.mod_lt (4294967296 * r + lm os' k) hd0
      replace hkeep := hide hkeep
      replace hOr := hide hOr
      replace hgr := hide hgr
      clear hval hnl
      go_wp2
      go_roundw
      case rel =>
        have e : ((4294967296 * (r : Int) + (lm os' k : Int)) / (d : Int)) = (((4294967296 * r + lm os' k) / d : Nat) : Int) := by simp
        have e2 : ((4294967296 * (r : Int) + (lm os' k : Int)) % (d : Int)) = (((4294967296 * r + lm os' k) % d : Nat) : Int) := by simp
        refine ⟨(k : Int) - 1, (4294967296 * r + lm os' k) % d, by omega, by omega, hm, rfl, by rw [e2], ?_⟩
        rw [show ((k : Int) - 1 + 1).toNat = k by omega]
        exact ⟨_, by simpa using hos, fun j hj => by rw [lm_set_ne _ (by omega)]; exact hkeep.out j (by omega), hst.out, hOr.out.put hq (by rw [e]; exact mod_small hq), grown_setCell hgr.out _ _⟩
      case measure => simp [intOf]
    · have hz0 : z = -1 := by omega
      subst hz0
      have hE := div_end (by simpa using hval) hr
      replace hE := hide hE
      replace hOr := hide hOr
      replace hgr := hide hgr
      replace hkeep := hide hkeep
      replace hval := hide hval
      go_wp2
      go_ret
      rw [hE.out.2]
      exact ⟨os', rfl, hos, hE.out.1, hOr.out, hgr.out⟩
end

section
open Go.RowKit

/-- quotient and remainder, two numbers that can be read, and true -/
def RetDM (w : World) (x y : Nat) (e : Ending) (w' : World) : Prop :=
  ∃ A c A' c', e = .returned (.tuple #[.slice A (dig (x / y)).length c, .slice A' (dig (x % y)).length c', .bool true]) ∧ Rd w' w'.heap.size A (dig (x / y)).length c (dig (x / y)) ∧ Rd w' w'.heap.size A' (dig (x % y)).length c' (dig (x % y)) ∧ Below w.heap.size w w'
def RetDM0 (w : World) (e : Ending) (w' : World) : Prop := e = .returned (.tuple #[.slice none 0 0, .slice none 0 0, .bool false]) ∧ w = w'

set_option maxHeartbeats 1000000 in
theorem divmod_zero (w : World) (Bd : Nat) (A A' : Option Addr) (n c n' c' : Nat) (xs ys : List Nat) (hx : Rd w Bd A n c xs) (hy : Rd w Bd A' n' c' ys) (h0 : val ys = 0) :
    Calls Try.prog 87 #[.slice A n c, .slice A' n' c'] w (RetDM0 w) := by
  obtain ⟨m, hm⟩ : ∃ m, (dig (val xs)).length = m := ⟨_, rfl⟩
  have hm' : (dig (val ys)).length = 0 := by rw [h0, dig_zero]; rfl
  replace hm := hide hm
  replace hm' := hide hm'
  have H := hide hx
  have H' := hide hy
  clear hx hy h0
  go_enter Try.func87, Try.ntmps87
  go_wp2_with (first
    | (go_at_call 84; ((with_reducible refine (trim_to _ Bd A n c xs H.out m hm.out).mono ?_); rintro e w' ⟨rfl, rfl⟩))
    | (go_at_call 84; ((with_reducible refine (trim_to _ Bd A' n' c' ys H'.out 0 hm'.out).mono ?_); rintro e w' ⟨rfl, rfl⟩)))
  go_ret3
  exact ⟨rfl, rfl⟩

set_option maxHeartbeats 1000000 in
theorem divmod_less (w : World) (Bd : Nat) (A A' : Option Addr) (n c n' c' : Nat) (xs ys : List Nat) (hx : Rd w Bd A n c xs) (hy : Rd w Bd A' n' c' ys) (hB : Bd ≤ w.heap.size) (hlt : val xs < val ys) :
    Calls Try.prog 87 #[.slice A n c, .slice A' n' c'] w (RetDM w (val xs) (val ys)) := by
  obtain ⟨X, m, hm, HX, hmn, hvx, hXd⟩ := hx.trimmed
  obtain ⟨Y, m', hm', HY, hmn', hvy, hYd⟩ := hy.trimmed
  have hC : Hid (cmpN (val X) (val Y) = -1) := hide (by rw [hvx.out, hvy.out]; exact cmpN_lt hlt)
  have hp : 0 < m' := by
    rcases Nat.eq_zero_or_pos m' with h | h
    · have := dig_len_zero.1 (hm'.out.trans h); omega
    · exact h
  have hQ : Hid (val xs / val ys = 0) := hide (Nat.div_eq_of_lt hlt)
  have hM : Hid (val xs % val ys = val xs) := hide (Nat.mod_eq_of_lt hlt)
  have hcap := HX.cap
  have hbig := HX.big
  have hcap' := HY.cap
  have hbig' := HY.big
  replace HX := hide HX
  replace HY := hide HY
  have H := hide hx
  have H' := hide hy
  clear hx hy hlt
  go_enter Try.func87, Try.ntmps87
  go_wp2_with (first
    | (go_at_call 84; ((with_reducible refine (trim_to _ Bd A n c xs H.out m hm.out).mono ?_); rintro e w' ⟨rfl, rfl⟩))
    | (go_at_call 84; ((with_reducible refine (trim_to _ Bd A' n' c' ys H'.out m' hm'.out).mono ?_); rintro e w' ⟨rfl, rfl⟩))
    | (go_at_call 76; ((with_reducible refine (cmp_any _ Bd A A' m c m' c' X Y HX.out HY.out).mono ?_); rw [hC.out]; rintro e w' ⟨rfl, q, rfl⟩)))
  refine (norm_any _ Bd A m c X (HX.out.drewN q) hB).mono ?_
  rintro e w1 ⟨rfl, hown, hb, hlm⟩
  rw [hvx.out] at hown hlm ⊢
  replace hown := hide hown
  replace hb := hide hb
  go_wp2
  go_ret3
  rw [RetDM, hQ.out, hM.out, dig_zero]
  exact ⟨none, 0, _, _, rfl, Rd.empty _ _ _ (by omega), hown.out.rd0 (Nat.le_refl _) hlm hown.out.lt, (below_drewN (Below.refl _ _) _).trans hb.out⟩

set_option maxHeartbeats 1000000 in
theorem divmod_short (w : World) (Bd : Nat) (A A' : Option Addr) (n c n' c' : Nat) (xs ys : List Nat) (hx : Rd w Bd A n c xs) (hy : Rd w Bd A' n' c' ys) (hB : Bd ≤ w.heap.size) (hle : val ys ≤ val xs) (hone : (dig (val ys)).length = 1) :
    Calls Try.prog 87 #[.slice A n c, .slice A' n' c'] w (RetDM w (val xs) (val ys)) := by
  obtain ⟨X, m, hm, HX, hmn, hvx, hXd⟩ := hx.trimmed
  obtain ⟨Y, m', hm', HY, hmn', hvy, hYd⟩ := hy.trimmed
  obtain rfl : m' = 1 := by rw [← hm'.out]; exact hone
  obtain ⟨z, hz⟩ : ∃ z : Int, z = cmpN (val X) (val Y) := ⟨_, rfl⟩
  have hz0 : 0 ≤ z := by rw [hz, hvx.out, hvy.out]; exact cmpN_ge hle
  have hC := hide hz.symm
  clear hz
  have hY1 : val Y = lm Y 0 := by unfold val; rw [HY.len]; simp [vl, pw]
  have hy0 : 0 < lm Y 0 := by
    rw [← hY1, hvy.out]
    rcases Nat.eq_zero_or_pos (val ys) with h | h
    · rw [h, dig_zero] at hone; simp at hone
    · exact h
  have hyl := HY.limbs 0
  rw [hvy.out] at hY1
  replace hY1 := hide hY1
  have hcap := HX.cap
  have hbig := HX.big
  have hcap' := HY.cap
  have hbig' := HY.big
  replace HX := hide HX
  replace HY := hide HY
  have H := hide hx
  have H' := hide hy
  clear hx hy hle hone
  obtain ⟨ad, rfl, hadb, hca⟩ := HY.out.at_ (k := 0) (by omega)
  rw [add_zero_] at hca
  go_enter Try.func87, Try.ntmps87
  go_wp2_with (first
    | (go_at_call 84; ((with_reducible refine (trim_to _ Bd A n c xs H.out m hm.out).mono ?_); rintro e w' ⟨rfl, rfl⟩))
    | (go_at_call 84; ((with_reducible refine (trim_to _ Bd _ n' c' ys H'.out 1 hm'.out).mono ?_); rintro e w' ⟨rfl, rfl⟩))
    | (go_at_call 76; ((with_reducible refine (cmp_any _ Bd A _ m c 1 c' X Y HX.out HY.out).mono ?_); rw [hC.out]; rintro e w' ⟨rfl, q, rfl⟩)))
  refine (norm_any _ Bd A m c X (HX.out.drewN q) hB).mono ?_
  rintro e w1 ⟨rfl, hown, hb, hlm⟩
  rw [hvx.out] at hown hlm ⊢
  have hbw : Below w.heap.size w w1 := (below_drewN (Below.refl _ _) _).trans hb
  have hca2 : w1.cell? ad = some (.int .u32 (lm Y 0 : Int)) := (hbw.cell (by omega)).trans hca
  obtain ⟨L, hL⟩ : ∃ L, L = (dig (val xs)).length := ⟨_, rfl⟩
  rw [← hL] at hlm ⊢
  replace hL := hide hL
  replace hbw := hide hbw
  replace hown := hide hown
  clear hb hca
  go_wp2_with fail
  refine (divideByLimb_any w1 w.heap.size L L (dig (val xs)) (lm Y 0) hown.out hL.out.symm hlm hy0 hyl).mono ?_
  rintro e w2 ⟨os', rfl, hlo, hvo, hO2, hgr⟩
  rw [val_dig] at hvo ⊢
  rw [← hL.out] at hlo
  have hR := hO2.rd0 (c := L) (by omega) hlm (B := w2.heap.size) hO2.lt
  rw [hlo] at hR
  have hb2 := hide (hbw.out.grown hgr (Nat.le_of_lt hown.out.lt) (by simp))
  obtain ⟨r, hr⟩ : ∃ r, r = val xs % lm Y 0 := ⟨_, rfl⟩
  have hrl : r < 18446744073709551616 := by rw [hr]; have := Nat.mod_lt (val xs) hy0; omega
  rw [← hr]
  replace hr := hide hr
  replace hR := hide hR
  replace hvo := hide hvo
  have hsz2 := hide (Nat.le_refl w2.heap.size)
  clear hgr hO2 hlo
  go_wp2_with (first
    | (go_at_call 84; ((with_reducible refine (trim_any _ _ _ _ _ _ hR.out).mono ?_); rintro e w' ⟨rfl, rfl⟩))
    | (go_at_call 53; ((refine (of_any _ r hrl).mono ?_); rintro e w3 ⟨A3, c3, rfl, hR3, hb3⟩; replace hR3 := hide hR3; replace hb3 := hide hb3)))
  go_ret3
  rw [RetDM, hY1.out, hvo.out, ← hr.out]
  have hR' := hR.out.trim
  rw [hvo.out] at hR'
  exact ⟨_, _, _, _, rfl, (hR'.below hb3.out).more hb3.out.size, hR3.out, hb2.out.trans (hb3.out.mono hb2.out.size)⟩
end
end Go.Proofs.Ytdihgmbldnekhaa

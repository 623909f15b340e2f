/-
  addTimes, and Mul.
-/
import Derived.Test.YtjbbapibpcgnhaaNorm
namespace Go.Proofs.Ytjbbapibpcgnhaa
open Go.RowKit

theorem grown_refl (w : World) (row : Option Nat) : w.grownBy w row := ⟨rfl, rfl, rfl, Nat.le_refl _, fun _ _ _ => rfl⟩
theorem grown_setCell {a w : World} {g : Nat} (h : a.grownBy w (some g)) (j : Nat) (u : Value) : a.grownBy (w.setCell ⟨g, j, none⟩ u) (some g) :=
  ⟨h.os, h.tape, h.output, by simpa [World.setCell] using h.size, fun i hi hne => (Below.heap_setCell w _ u i (by
    rintro rfl
    exact hne rfl)).trans (h.block i hi hne)⟩
theorem grown_trans {a b c : World} {row : Option Nat} (h : a.grownBy b row) (k : b.grownBy c row) : a.grownBy c row :=
  ⟨k.os.trans h.os, k.tape.trans h.tape, k.output.trans h.output, Nat.le_trans h.size k.size, fun i hi hne => (k.block i (Nat.lt_of_lt_of_le hi h.size) hne).trans (h.block i hi hne)⟩
theorem below_of_grown {a w : World} {g B : Nat} (h : a.grownBy w (some g)) (hB : B ≤ g) (hs : B ≤ a.heap.size) : Below B a w :=
  ⟨h.os, h.tape, h.output, h.size, fun k hk => h.block k (by omega) (by simp; omega)⟩

/-- the sum so far: os' differs from os at most in the limbs from off to off + k -/
def TimesRel (w : World) (g off : Nat) (os ys : List Nat) (f k q : Nat) (wr : World) : Prop :=
  ∃ os', os'.length = os.length ∧ (∀ j, j < off ∨ off + k ≤ j → lm os' j = lm os j) ∧ vl (os'.drop off) k + pw k * q = vl (os.drop off) k + vl ys k * f ∧ Own wr g os' ∧ w.grownBy wr (some g)

theorem times_step {os os' ys : List Nat} {off f k q : Nat} (hl : os'.length = os.length) (hk : off + k < os.length) (h0 : ∀ j, j < off ∨ off + k ≤ j → lm os' j = lm os j)
    (h : vl (os'.drop off) k + pw k * q = vl (os.drop off) k + vl ys k * f) (s : Nat) (hs : s = q + (lm ys k * f + lm os' (off + k))) :
    vl ((os'.set (off + k) (s % 4294967296)).drop off) (k + 1) + pw (k + 1) * (s / 4294967296) = vl (os.drop off) (k + 1) + vl ys (k + 1) * f := by
  have e : vl ((os'.set (off + k) (s % 4294967296)).drop off) k = vl (os'.drop off) k := vl_congr fun j hj => by
    rw [lm_drop, lm_drop, lm_set_ne _ (by omega)]
  rw [vl_succ, e, lm_drop, lm_set_eq _ (by omega), pw_succ, step_low, vl_succ, vl_succ, lm_drop, ← h0 (off + k) (Or.inr (Nat.le_refl _))]
  subst hs
  grind
theorem times_keep {os os' : List Nat} {off k x : Nat} (h0 : ∀ j, j < off ∨ off + k ≤ j → lm os' j = lm os j) : ∀ j, j < off ∨ off + (k + 1) ≤ j → lm (os'.set (off + k) x) j = lm os j := by
  intro j hj
  rw [lm_set_ne _ (by omega)]
  exact h0 j (by omega)
theorem prod_le {a b : Nat} (ha : a < 4294967296) (hb : b < 4294967296) : (a : Int) * (b : Int) ≤ 18446744065119617025 := by
  have := Nat.mul_le_mul (show a ≤ 4294967295 by omega) (show b ≤ 4294967295 by omega)
  have e : ((a * b : Nat) : Int) = (a : Int) * (b : Int) := by simp
  omega

def RetTimes (w : World) (g off n : Nat) (os ys : List Nat) (f : Nat) (e : Ending) (w' : World) : Prop :=
  ∃ (os' : List Nat) (q : Nat), e = .returned (.int .u32 (q : Int)) ∧ q < 4294967296 ∧ os'.length = os.length ∧ (∀ j, j < off ∨ off + n ≤ j → lm os' j = lm os j) ∧ vl (os'.drop off) n + pw n * q = vl (os.drop off) n + vl ys n * f ∧ Own w' g os' ∧ w.grownBy w' (some g)

set_option maxHeartbeats 1000000 in
theorem addTimes_any (w : World) (g off cS Bd n c : Nat) (A : Option Addr) (os ys : List Nat) (f : Nat) (hO : Own w g os) (hoff : off + n ≤ os.length) (_hbs : os.length ≤ 70368744177664) (hy : Rd w Bd A n c ys) (hB : Bd ≤ g) (hf : f < 4294967296) :
    Calls Try.prog 70 #[.slice (some ⟨g, off, none⟩) n cS, .slice A n c, .int .u32 (f : Int)] w (RetTimes w g off n os ys f) := by
  have hcap := hy.cap
  have hbig := hy.big
  have H := hide hy
  have hO := hide hO
  clear hy
  go_enter Try.func70, Try.ntmps70
  go_wp2
  go_loopw [7, 12] (fun cy i wr => ∃ k q : Nat, k ≤ n ∧ q < 4294967296 ∧ i = .int .i64 k ∧ cy = .int .u64 q ∧ TimesRel w g off os ys f k q wr) (fun _ i _ => n - (intOf i).toNat)
  case atStart => exact ⟨0, 0, by omega, by omega, rfl, rfl, os, rfl, fun _ _ => rfl, by simp [vl], hO.out, grown_refl _ _⟩
  case round =>
    obtain ⟨k, q, hk, hq, rfl, rfl, os', hos, hkeep, hval, hOr, hgr⟩ := hrel
    by_cases hkl : k < n
    · have hco := hOr.cell (j := off + k) (by omega)
      have hfo := hOr.frozen (off + k)
      have hlo := hOr.limbs (off + k)
      obtain ⟨ad, rfl, hadb, hca⟩ := (H.out.below (below_of_grown hgr hB (by have := hO.out.lt; omega))).at_ hkl
      have hly := H.out.limbs k
      have hp := prod_le hly hf
      have hp0 : 0 ≤ (lm ys k : Int) * (f : Int) := Int.mul_nonneg (by omega) (by omega)
      have hst := hide (times_step hos (by omega) hkeep hval _ rfl)
      have hkeep' := hide (fun x => times_keep (x := x) hkeep)
      replace hOr := hide hOr
      replace hgr := hide hgr
      clear hval hkeep
      go_wp2
      go_roundw
      case rel =>
        have e : ((q : Int) + ((lm ys k : Int) * f + lm os' (off + k))) = ((q + (lm ys k * f + lm os' (off + k)) : Nat) : Int) := by simp
        rw [e]
        exact ⟨k + 1, (q + (lm ys k * f + lm os' (off + k))) / 4294967296, by omega, by omega, by go_num, rfl, _, by simpa using hos, hkeep'.out _, hst.out, hOr.out.put (by omega) rfl, grown_setCell hgr.out _ _⟩
      case measure => simp [intOf]; omega
    · have hkm : k = n := by omega
      subst hkm
      replace hOr := hide hOr
      replace hgr := hide hgr
      replace hkeep := hide hkeep
      replace hval := hide hval
      go_wp2
      go_ret
      exact ⟨os', q, rfl, hq, hos, hkeep.out, hval.out, hOr.out, hgr.out⟩

/-- the product so far -/
def MulRel (w : World) (X Y : List Nat) (m m' i : Nat) (wr : World) : Prop :=
  ∃ os, os.length = m + m' ∧ vl os (i + m') = vl X i * val Y ∧ Own wr w.heap.size os ∧ Below w.heap.size w wr

theorem mul_step {X Y os os' : List Nat} {i n q : Nat} (hY : Y.length = n) (hl : os'.length = os.length) (hi : i + n < os.length) (hkeep : ∀ j, j < i ∨ i + n ≤ j → lm os' j = lm os j)
    (h : vl (os'.drop i) n + pw n * q = vl (os.drop i) n + vl Y n * lm X i) (hval : vl os (i + n) = vl X i * val Y) :
    vl (os'.set (i + n) q) (i + 1 + n) = vl X (i + 1) * val Y := by
  rw [show i + 1 + n = (i + n) + 1 by omega, vl_succ, vl_set _ (Nat.le_refl _), lm_set_eq _ (by omega), vl_split, pw_add]
  rw [vl_split] at hval
  have e : vl os' i = vl os i := vl_congr fun j hj => hkeep j (Or.inl hj)
  have e2 : vl Y n = val Y := by unfold val; rw [hY]
  rw [e, vl_succ]
  rw [e2] at h
  generalize vl (os'.drop i) n = a at *
  generalize vl (os.drop i) n = b at *
  grind

set_option maxHeartbeats 1000000 in
theorem mul_any (w : World) (Bd : Nat) (A A' : Option Addr) (n c n' c' : Nat) (xs ys : List Nat) (hx : Rd w Bd A n c xs) (hy : Rd w Bd A' n' c' ys) (hB : Bd ≤ w.heap.size)
    (hn : n + n' ≤ 70368744177664) :
    Calls Try.prog 54 #[.slice A n c, .slice A' n' c'] w (RetNat w (val xs * val ys)) := by
  obtain ⟨X, m, hm, HX, hmn, hvx, _⟩ := hx.trimmed
  obtain ⟨Y, m', hm', HY, hmn', hvy, _⟩ := hy.trimmed
  have hcap := HX.cap
  have hbig := HX.big
  have hcap' := HY.cap
  have hbig' := HY.big
  replace HX := hide HX
  replace HY := hide HY
  have H := hide hx
  have H' := hide hy
  clear hx hy
  go_enter Try.func54, Try.ntmps54
  go_wp2_with (first
    | (go_at_call 63; ((with_reducible refine (trim_to _ Bd A n c xs H.out m hm.out).mono ?_); rintro e w' ⟨rfl, rfl⟩))
    | (go_at_call 63; ((with_reducible refine (trim_to _ Bd A' n' c' ys H'.out m' hm'.out).mono ?_); rintro e w' ⟨rfl, rfl⟩))
    | (at_make; refine wpList_make_nat _ rfl _ _ rfl _ _ _ _ (m + m') rfl rfl (by omega) (by omega) (by omega) ?_; intro w1 hown hb hg))
  go_loopw [20] (fun i wr => ∃ k : Nat, k ≤ m ∧ i = .int .i64 k ∧ MulRel w X Y m m' k wr) (fun i _ => m - (intOf i).toNat)
  case atStart => exact ⟨0, by omega, rfl, List.replicate (m + m') 0, List.length_replicate, by rw [vl_zeros]; simp [vl], hown, hb⟩
  case round =>
    obtain ⟨k, hk, rfl, os, hos, hval, hO, hBl⟩ := hrel
    have hsz := hide (show w.heap.size < wr.heap.size from hO.lt)
    by_cases hkl : k < m
    · replace hO := hide hO
      replace hBl := hide hBl
      replace hval := hide hval
      obtain ⟨ad, rfl, hadb, hca⟩ := (HX.out.below (hBl.out.mono hB)).at_ hkl
      have h1 := HX.out.limbs k
      have HY' := hide (HY.out.below (hBl.out.mono hB))
      go_wp2_with fail
      refine (addTimes_any wr w.heap.size k (m + m' - k) Bd m' c' A' os Y (lm X k) hO.out (by omega) (by omega) HY'.out hB h1).mono ?_
      rintro e w2 ⟨os', q, rfl, hq, hl, hkeep, hv, hO', hgr⟩
      have hco := hO'.cell (j := k + m') (by omega)
      have hfo := hO'.frozen (k + m')
      have hst := hide (mul_step HY.out.len hl (by omega) hkeep hv hval.out)
      have hB2 := hide (hBl.out.grown hgr (Nat.le_of_lt hO.out.lt) (by simp))
      replace hO' := hide hO'
      clear hkeep hv hgr
      go_wp2
      go_roundw
      case rel => exact ⟨k + 1, by omega, by go_num, _, by simpa [hl] using hos, hst.out, hO'.out.put hq rfl, hB2.out.setCell (Nat.le_refl _) _⟩
      case measure => simp [intOf]; omega
    · have hkm : k = m := by omega
      subst hkm
      have hR := hO.rd0 (c := k + m') (by omega) (by omega) (Nat.lt_succ_self _)
      rw [hos] at hR
      have hv : Hid (val os = val xs * val ys) := hide (by
        rw [← hvx.out, ← hvy.out]
        unfold val
        unfold val at hval
        rw [hos, hval, HX.out.len])
      clear hval
      replace hR := hide hR
      replace hO := hide hO
      replace hBl := hide hBl
      go_wp2_with (go_at_call 63; ((with_reducible refine (trim_any _ _ _ _ _ _ hR.out).mono ?_); rintro e w' ⟨rfl, rfl⟩))
      go_ret
      have hR' := hR.out.trim
      rw [hv.out] at hR' ⊢
      exact ⟨_, _, rfl, hR'.more hsz.out, hBl.out⟩

end Go.Proofs.Ytjbbapibpcgnhaa

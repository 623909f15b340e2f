/-
  divideByLimb.
-/
import Derived.Test.YtjbbapibpcgnhaaMul
namespace Go.Proofs.Ytjbbapibpcgnhaa
open Go.RowKit

theorem mod_small {q : Nat} (h : q < 4294967296) : (q : Int) % 4294967296 = q := by omega
theorem or_hi2 (a b : Nat) (ha : a < 4294967296) (hb : b < 4294967296) : bits .or .u64 ((b : Int) * 4294967296) (a : Int) = ((4294967296 * b + a : Nat) : Int) := by
  have e : ((b : Int) * 4294967296) = ((b * 4294967296 : Nat) : Int) := by omega
  rw [e, u64_or_nat _ _ (by omega) (by omega), nat_join 32 (b * 4294967296) a (by omega) (by omega)]
  omega
theorem val_drop {xs : List Nat} {i : Nat} (h : i < xs.length) : val (xs.drop i) = lm xs i + 4294967296 * val (xs.drop (i + 1)) := by
  rw [List.drop_eq_getElem_cons h, val_cons, lm_get h]
theorem val_set_drop {xs : List Nat} {i j x : Nat} (h : i < j) : val ((xs.set i x).drop j) = val (xs.drop j) := by
  unfold val
  rw [List.length_drop, List.length_drop, List.length_set]
  exact vl_congr fun k _ => by rw [lm_drop, lm_drop, lm_set_ne _ (by omega)]

/-- the quotient so far: limbs from i on are divided, r is left -/
def DivRel (w : World) (g : Nat) (os : List Nat) (d i r : Nat) (wr : World) : Prop :=
  ∃ os', os'.length = os.length ∧ (∀ j, j < i → lm os' j = lm os j) ∧ val (os.drop i) = d * val (os'.drop i) + r ∧ Own wr g os' ∧ w.grownBy wr (some g)

theorem div_step {os os' : List Nat} {d i r : Nat} (hl : os'.length = os.length) (hi : i < os.length) (h : val (os.drop (i + 1)) = d * val (os'.drop (i + 1)) + r) (s : Nat) (hs : s = 4294967296 * r + lm os i) :
    val (os.drop i) = d * val ((os'.set i (s / d)).drop i) + s % d := by
  rw [val_drop hi, h, val_drop (xs := os'.set i (s / d)) (by rw [List.length_set, hl]; exact hi), lm_set_eq _ (by omega), val_set_drop (by omega)]
  have := Nat.div_add_mod s d
  subst hs
  grind

def RetDiv (w : World) (g : Nat) (os : List Nat) (d : Nat) (e : Ending) (w' : World) : Prop :=
  ∃ os' : List Nat, e = .returned (.int .u32 ((val os % d : Nat) : Int)) ∧ os'.length = os.length ∧ val os' = val os / d ∧ Own w' g os' ∧ w.grownBy w' (some g)

theorem div_end {os os' : List Nat} {d r : Nat} (h : val os = d * val os' + r) (hr : r < d) : val os' = val os / d ∧ r = val os % d := by
  rw [h, Nat.mul_add_div (by omega), Nat.div_eq_of_lt hr, Nat.mul_add_mod, Nat.mod_eq_of_lt hr]
  exact ⟨by omega, rfl⟩
theorem quo_lt {s d r a : Nat} (hs : s = 4294967296 * r + a) (ha : a < 4294967296) (hr : r < d) : s / d < 4294967296 := by
  rw [Nat.div_lt_iff_lt_mul (by omega)]
  have : 4294967296 * (r + 1) ≤ 4294967296 * d := Nat.mul_le_mul_left _ hr
  omega

set_option maxHeartbeats 1000000 in
theorem divideByLimb_any (w : World) (g n c : Nat) (os : List Nat) (d : Nat) (hO : Own w g os) (hn : os.length = n) (hb : n ≤ 70368744177664) (hd0 : 0 < d) (hd : d < 4294967296) :
    Calls Try.prog 71 #[.slice (some ⟨g, 0, none⟩) n c, .int .u32 (d : Int)] w (RetDiv w g os d) := by
  replace hO := hide hO
  replace hn := hide hn
  go_enter Try.func71, Try.ntmps71
  go_wp2
  go_loopw [5, 6] (fun u i wr => ∃ (z : Int) (r : Nat), -1 ≤ z ∧ z < n ∧ r < d ∧ i = .int .i64 z ∧ u = .int .u64 (r : Int) ∧ DivRel w g os d (z + 1).toNat r wr) (fun _ i _ => (intOf i + 1).toNat)
  case atStart =>
    refine ⟨(n : Int) - 1, 0, by omega, by omega, hd0, rfl, rfl, os, rfl, fun _ _ => rfl, ?_, hO.out, grown_refl _ _⟩
    rw [List.drop_eq_nil_of_le (by rw [hn.out]; omega)]
    rfl
  case round =>
    obtain ⟨z, r, hz1, hz2, hr, rfl, rfl, os', hos, hkeep, hval, hOr, hgr⟩ := hrel
    by_cases hpos : 0 ≤ z
    · obtain ⟨k, rfl⟩ : ∃ k : Nat, z = k := ⟨z.toNat, by omega⟩
      have hk : k < n := by omega
      rw [show ((k : Int) + 1).toNat = k + 1 by omega] at hval hkeep
      have hnl := hn.out
      have hco := hOr.cell (j := k) (by omega)
      have hfo := hOr.frozen k
      have hlo := hOr.limbs k
      have hor := or_hi2 (lm os' k) r hlo (by omega)
      have hst := hide (div_step hos (by omega) hval (4294967296 * r + lm os' k) (by rw [hkeep k (by omega)]))
      have hq := quo_lt (s := 4294967296 * r + lm os' k) rfl hlo hr
      have hm := Nat.mod_lt (4294967296 * r + lm os' k) hd0
      replace hkeep := hide hkeep
      replace hOr := hide hOr
      replace hgr := hide hgr
      clear hval hnl
      go_wp2
      go_roundw
      case rel =>
        have e : ((4294967296 * (r : Int) + (lm os' k : Int)) / (d : Int)) = (((4294967296 * r + lm os' k) / d : Nat) : Int) := by simp
        have e2 : ((4294967296 * (r : Int) + (lm os' k : Int)) % (d : Int)) = (((4294967296 * r + lm os' k) % d : Nat) : Int) := by simp
        refine ⟨(k : Int) - 1, (4294967296 * r + lm os' k) % d, by omega, by omega, hm, rfl, by rw [e2], ?_⟩
        rw [show ((k : Int) - 1 + 1).toNat = k by omega]
        exact ⟨_, by simpa using hos, fun j hj => by rw [lm_set_ne _ (by omega)]; exact hkeep.out j (by omega), hst.out, hOr.out.put hq (by rw [e]; exact mod_small hq), grown_setCell hgr.out _ _⟩
      case measure => simp [intOf]
    · have hz0 : z = -1 := by omega
      subst hz0
      have hE := div_end (by simpa using hval) hr
      replace hE := hide hE
      replace hOr := hide hOr
      replace hgr := hide hgr
      replace hkeep := hide hkeep
      replace hval := hide hval
      go_wp2
      go_ret
      rw [hE.out.2]
      exact ⟨os', rfl, hos, hE.out.1, hOr.out, hgr.out⟩

end Go.Proofs.Ytjbbapibpcgnhaa

/-
  Knuth, Knuth2.
-/
import Derived.Test.YtdihgmbldnekhaaNatMath
import Derived.Test.YtdihgmbldnekhaaNatBits
import Derived.Test.YtdihgmbldnekhaaLen
namespace Go.Proofs.Ytdihgmbldnekhaa
section
open Go.RowKit

theorem zeros_any (w : World) (n : Nat) (hn : n < 4294967296) : Calls Try.prog 130 #[.int .u32 (n : Int)] w fun e w' => e = .returned (.int .i64 (32 - (bl n : Int))) ∧ w = w' := by
  have hb : bl n ≤ 32 := (bl_le 32 n).2 (by omega)
  go_enter Try.func130, Try.ntmps130
  go_wp2_with (go_at_call 114; ((with_reducible refine (len32_any _ n hn).mono ?_); rintro e w' ⟨rfl, rfl⟩))
  go_ret
  exact ⟨rfl, rfl⟩

theorem add32_any (w : World) (x y c : Nat) (hx : x < 4294967296) (hy : y < 4294967296) (hc : c ≤ 1) :
    Calls Try.prog 142 #[.int .u32 (x : Int), .int .u32 (y : Int), .int .u32 (c : Int)] w fun e w' =>
      e = .returned (.tuple #[.int .u32 (((x + y + c) % 4294967296 : Nat) : Int), .int .u32 (((x + y + c) / 4294967296 : Nat) : Int)]) ∧ w = w' := by
  go_enter Try.func142, Try.ntmps142
  go_wp2
  go_ret2
  exact ⟨by congr 3, rfl⟩

theorem natCast_div_ (a : Nat) : ((a : Nat) : Int) / 4294967296 = ((a / 4294967296 : Nat) : Int) := by omega
theorem natCast_mod_ (a : Nat) : ((a : Nat) : Int) % 4294967296 = ((a % 4294967296 : Nat) : Int) := by omega
theorem or_shl {q l s : Nat} (hs : s < 32) (hq : q < 2 ^ s) (hl : l < 4294967296) : bits .or .u64 (q : Int) (IntKind.u64.wrap ((l : Int) * 2 ^ s)) = ((q + l * 2 ^ s : Nat) : Int) := by
  have hP : 2 ^ s ≤ 2147483648 := by
    have : 2 ^ s ≤ 2 ^ 31 := Nat.pow_le_pow_right (by omega) (by omega)
    omega
  have h1 : l * 2 ^ s ≤ 4294967295 * 2147483648 := Nat.mul_le_mul (by omega) hP
  have e : IntKind.u64.wrap ((l : Int) * 2 ^ s) = ((l * 2 ^ s : Nat) : Int) := by
    have e1 : ((l : Int) * 2 ^ s) = ((l * 2 ^ s : Nat) : Int) := by simp
    rw [e1]
    generalize l * 2 ^ s = t at *
    simp only [IntKind.wrap, IntKind.bits, IntKind.signed]
    simp
    omega
  rw [e, u64_or_nat _ _ (by omega) (by omega), Nat.or_comm, nat_join s (l * 2 ^ s) q (Nat.mul_mod_left _ _) hq, Nat.add_comm]
theorem shl_small {P q l : Nat} (_hP : P ≤ 2147483648) (hq : q < P) (hl : l < 4294967296) : (q + l * P) / 4294967296 < P := by
  rw [Nat.div_lt_iff_lt_mul (by omega)]
  have : (l + 1) * P ≤ 4294967296 * P := Nat.mul_le_mul_right P hl
  rw [Nat.add_mul] at this
  rw [Nat.mul_comm P]
  omega

/-- the shifted number so far -/
def ShlRel (w : World) (xs : List Nat) (n s k q : Nat) (wr : World) : Prop :=
  ∃ os, os.length = n + 1 ∧ vl os k + pw k * q = vl xs k * 2 ^ s ∧ Own wr w.heap.size os ∧ Below w.heap.size w wr
def RetShl (w : World) (xs : List Nat) (n s : Nat) (e : Ending) (w' : World) : Prop :=
  ∃ os, e = .returned (.slice (some ⟨w.heap.size, 0, none⟩) (n + 1) (n + 1)) ∧ os.length = n + 1 ∧ val os = val xs * 2 ^ s ∧ Own w' w.heap.size os ∧ Below w.heap.size w w'
theorem shl_step {xs os : List Nat} {s k q : Nat} (hk : k < os.length) (h : vl os k + pw k * q = vl xs k * 2 ^ s) :
    vl (os.set k ((q + lm xs k * 2 ^ s) % 4294967296)) (k + 1) + pw (k + 1) * ((q + lm xs k * 2 ^ s) / 4294967296) = vl xs (k + 1) * 2 ^ s := by
  rw [vl_succ, vl_set _ (Nat.le_refl _), lm_set_eq _ hk, pw_succ, step_low, vl_succ]
  grind

set_option maxHeartbeats 1000000 in
theorem shiftLeft_any (w : World) (Bd : Nat) (A : Option Addr) (n c : Nat) (xs : List Nat) (h : Rd w Bd A n c xs) (hB : Bd ≤ w.heap.size) (hn : n + 1 ≤ 70368744177664) (s : Nat) (hs : s < 32) :
    Calls Try.prog 131 #[.slice A n c, .int .i64 (s : Int)] w (RetShl w xs n s) := by
  have H := hide h
  have hP : Hid (2 ^ s ≤ 2147483648) := hide (by
    have : 2 ^ s ≤ 2 ^ 31 := Nat.pow_le_pow_right (by omega) (by omega)
    omega)
  clear h
  go_enter Try.func131, Try.ntmps131
  go_wp2_with (at_make; refine wpList_make_nat _ rfl _ _ rfl _ _ _ _ (n + 1) rfl rfl (by omega) (by omega) (by omega) ?_; intro w1 hown hb hg)
  go_loopw [6, 15] (fun cy i wr => ∃ k q : Nat, k ≤ n ∧ q < 2147483648 ∧ Hid (q < 2 ^ s) ∧ i = .int .i64 k ∧ cy = .int .u64 q ∧ ShlRel w xs n s k q wr) (fun _ i _ => n - (intOf i).toNat)
  case atStart => exact ⟨0, 0, by omega, by omega, hide (Nat.two_pow_pos s), rfl, rfl, List.replicate (n + 1) 0, List.length_replicate, by simp [vl], hown, hb⟩
  case round =>
    obtain ⟨k, q, hk, hq, hqs, rfl, rfl, os, hos, hval, hO, hBl⟩ := hrel
    have hsz := hide (show w.heap.size < wr.heap.size from hO.lt)
    by_cases hkl : k < n
    · have hko : k < os.length := by omega
      have hco := hO.cell hko
      have hfo := hO.frozen k
      obtain ⟨ad, rfl, hadb, hca⟩ := (H.out.below (hBl.mono hB)).at_ hkl
      have hl := H.out.limbs k
      have hst := hide (shl_step (s := s) hko hval)
      replace hO := hide hO
      replace hBl := hide hBl
      clear hval
      have hor := or_shl (l := lm xs k) hs hqs.out hl
      have hq2 := shl_small hP.out hqs.out hl
      go_wp2
      go_roundw
      case rel => exact ⟨k + 1, (q + lm xs k * 2 ^ s) / 4294967296, by omega, by have := hP.out; have := hq2; omega, hide hq2, by go_num, by simp, _, by simpa using hos, hst.out, hO.out.put (Nat.mod_lt _ (by omega)) (by simp), hBl.out.setCell (Nat.le_refl _) _⟩
      case measure => simp [intOf]; omega
    · have hkm : k = n := by omega
      subst hkm
      have hko : k < os.length := by omega
      have hco := hO.cell hko
      have hfo := hO.frozen k
      have hv : Hid (val (os.set k q) = val xs * 2 ^ s) := hide (by
        unfold val
        rw [List.length_set, hos, H.out.len, ← hval, vl_succ, vl_set _ (Nat.le_refl _), lm_set_eq _ hko])
      replace hO := hide hO
      replace hBl := hide hBl
      clear hval
      go_wp2
      go_ret
      exact ⟨os.set k q, rfl, by simpa using hos, hv.out, hO.out.put (by omega) (by omega), hBl.out.setCell (Nat.le_refl _) _⟩
end

section
open Go.RowKit

def ShrRel (w : World) (g : Nat) (os : List Nat) (s i : Nat) (wr : World) : Prop :=
  ∃ os', os'.length = os.length ∧ (∀ j, j < i → lm os' j = lm os j) ∧ val (os'.drop i) = val (os.drop i) / 2 ^ s ∧ Own wr g os' ∧ w.grownBy wr (some g)
theorem shr_step {os os' : List Nat} {s i : Nat} (hL : Limbs os) (hl : os'.length = os.length) (hi : i < os.length) (hs : s ≤ 32) (h : val (os'.drop (i + 1)) = val (os.drop (i + 1)) / 2 ^ s) :
    val ((os'.set i ((lm os (i + 1) * 4294967296 + lm os i) / 2 ^ s % 4294967296)).drop i) = val (os.drop i) / 2 ^ s := by
  rw [val_drop (xs := os'.set i _) (by rw [List.length_set, hl]; exact hi), lm_set_eq _ (by omega), val_set_drop (by omega), h, val_drop hi]
  by_cases hi2 : i + 1 < os.length
  · exact shr_limb (pw_two hs) (hL i) (val_drop hi2)
  · have e : val (os.drop (i + 1)) = 0 := by rw [List.drop_eq_nil_of_le (by omega)]; rfl
    have e2 : lm os (i + 1) = 0 := lm_ge (by omega)
    exact shr_limb (X2 := 0) (pw_two hs) (hL i) (by rw [e, e2])
theorem shl_wrap (c a : Nat) (ha : a < 4294967296) : bits .or .u64 (IntKind.u64.wrap ((c : Int) * 4294967296)) (a : Int) = ((c % 4294967296 * 4294967296 + a : Nat) : Int) := by
  have e : IntKind.u64.wrap ((c : Int) * 4294967296) = ((c % 4294967296 * 4294967296 : Nat) : Int) := by
    simp only [IntKind.wrap, IntKind.bits, IntKind.signed]
    simp
    omega
  rw [e, u64_or_nat _ _ (by omega) (by omega), nat_join 32 (c % 4294967296 * 4294967296) a (by omega) (by omega)]
def RetShr (w : World) (g : Nat) (os : List Nat) (s : Nat) (e : Ending) (w' : World) : Prop :=
  ∃ os', e = .returned (.tuple #[]) ∧ os'.length = os.length ∧ val os' = val os / 2 ^ s ∧ Own w' g os' ∧ w.grownBy w' (some g)

set_option maxHeartbeats 1000000 in
theorem shiftRight_any (w : World) (g n c : Nat) (os : List Nat) (hO : Own w g os) (hn : os.length = n) (hb : n ≤ 70368744177664) (s : Nat) (hs : s < 32) :
    Calls Try.prog 133 #[.slice (some ⟨g, 0, none⟩) n c, .int .i64 (s : Int)] w (RetShr w g os s) := by
  replace hO := hide hO
  replace hn := hide hn
  go_enter Try.func133, Try.ntmps133
  go_wp2
  go_loopw [4, 5] (fun u i wr => ∃ (z : Int) (cy : Nat), -1 ≤ z ∧ z < n ∧ cy < 18446744073709551616 ∧ Hid (cy % 4294967296 = lm os (z + 1).toNat) ∧ i = .int .i64 z ∧ u = .int .u64 (cy : Int) ∧ ShrRel w g os s (z + 1).toNat wr) (fun _ i _ => (intOf i + 1).toNat)
  case atStart =>
    refine ⟨(n : Int) - 1, 0, by omega, by omega, by omega, hide ?_, rfl, rfl, os, rfl, fun _ _ => rfl, ?_, hO.out, grown_refl _ _⟩
    · rw [lm_ge (by rw [hn.out]; omega)]
    · rw [List.drop_eq_nil_of_le (by rw [hn.out]; omega)]
      show 0 = 0 / 2 ^ s
      simp
  case round =>
    obtain ⟨z, cy, hz1, hz2, hcy, hcm, rfl, rfl, os', hos, hkeep, hval, hOr, hgr⟩ := hrel
    by_cases hpos : 0 ≤ z
    · obtain ⟨k, rfl⟩ : ∃ k : Nat, z = k := ⟨z.toNat, by omega⟩
      have hk : k < n := by omega
      rw [show ((k : Int) + 1).toNat = k + 1 by omega] at hval hkeep hcm
      have hnl := hn.out
      have hco := hOr.cell (j := k) (by omega)
      have hfo := hOr.frozen k
      rw [hkeep k (by omega)] at hco
      have hlo := hO.out.limbs k
      have hl1 := hO.out.limbs (k + 1)
      have hor := shl_wrap cy (lm os k) hlo
      rw [hcm.out] at hor
      have hst := hide (shr_step hO.out.limbs hos (by omega) (by omega) hval)
      replace hkeep := hide hkeep
      replace hOr := hide hOr
      replace hgr := hide hgr
      clear hval hnl
      go_wp2
      go_roundw
      case rel =>
        refine ⟨(k : Int) - 1, lm os (k + 1) * 4294967296 + lm os k, by omega, by omega, by omega, hide ?_, rfl, by simp, ?_⟩
        · rw [show ((k : Int) - 1 + 1).toNat = k by omega]; omega
        · rw [show ((k : Int) - 1 + 1).toNat = k by omega]
          exact ⟨_, by simpa using hos, fun j hj => by rw [lm_set_ne _ (by omega)]; exact hkeep.out j (by omega), hst.out, hOr.out.put (Nat.mod_lt _ (by omega)) (by simp), grown_setCell hgr.out _ _⟩
      case measure => simp [intOf]
    · have hz0 : z = -1 := by omega
      subst hz0
      have hE := hide (show val os' = val os / 2 ^ s by simpa using hval)
      replace hOr := hide hOr
      replace hgr := hide hgr
      clear hkeep hval
      go_wp2
      go_end0
      exact ⟨os', rfl, hos, hE.out, hOr.out, hgr.out⟩

/-- the difference so far -/
def SubTRel (w : World) (g off : Nat) (os ds : List Nat) (ct k q : Nat) (wr : World) : Prop :=
  ∃ os', os'.length = os.length ∧ (∀ j, j < off ∨ off + k ≤ j → lm os' j = lm os j) ∧ vl (os'.drop off) k + vl ds k * ct = vl (os.drop off) k + pw k * q ∧ Own wr g os' ∧ w.grownBy wr (some g)
theorem subt_step {os os' ds : List Nat} {off ct k q : Nat} (hL : Limbs os') (hl : os'.length = os.length) (hk : off + k < os.length) (h0 : ∀ j, j < off ∨ off + k ≤ j → lm os' j = lm os j)
    (h : vl (os'.drop off) k + vl ds k * ct = vl (os.drop off) k + pw k * q) (s : Nat) (hs : s = q + lm ds k * ct) :
    vl ((os'.set (off + k) ((lm os' (off + k) + 4294967296 - s % 4294967296) % 4294967296)).drop off) (k + 1) + vl ds (k + 1) * ct = vl (os.drop off) (k + 1) + pw (k + 1) * (s / 4294967296 + sbl (lm os' (off + k)) (s % 4294967296)) := by
  have e : ∀ x, vl ((os'.set (off + k) x).drop off) k = vl (os'.drop off) k := fun x => vl_congr fun j hj => by
    rw [lm_drop, lm_drop, lm_set_ne _ (by omega)]
  have h1 := sub_limb (o := lm os' (off + k)) (part := s % 4294967296) (hL _) (by omega)
  have h2 := Nat.div_add_mod s 4294967296
  rw [vl_succ, e, lm_drop, lm_set_eq _ (by omega), pw_succ, vl_succ, vl_succ, lm_drop, ← h0 (off + k) (Or.inr (Nat.le_refl _))]
  generalize (lm os' (off + k) + 4294967296 - s % 4294967296) % 4294967296 = x at *
  generalize sbl (lm os' (off + k)) (s % 4294967296) = b at *
  generalize lm os' (off + k) = o at *
  have h3 : x + s = o + 4294967296 * (s / 4294967296 + b) := by omega
  have h4 : pw k * (x + s) = pw k * (o + 4294967296 * (s / 4294967296 + b)) := by rw [h3]
  rw [hs] at h4 ⊢
  grind
/-- at the highest limb -/
theorem subt_end {os os' ds : List Nat} {off ct n q x t : Nat} (hl : os'.length = os.length) (hn : off + n < os.length) (h0 : ∀ j, j < off ∨ off + n ≤ j → lm os' j = lm os j)
    (h : vl (os'.drop off) n + vl ds n * ct = vl (os.drop off) n + pw n * q) (hx : x + q = lm os' (off + n) + 4294967296 * t) :
    vl ((os'.set (off + n) x).drop off) (n + 1) + vl ds n * ct = vl (os.drop off) (n + 1) + pw (n + 1) * t := by
  have e : vl ((os'.set (off + n) x).drop off) n = vl (os'.drop off) n := vl_congr fun j hj => by
    rw [lm_drop, lm_drop, lm_set_ne _ (by omega)]
  rw [vl_succ, e, lm_drop, lm_set_eq _ (by omega), pw_succ, vl_succ, lm_drop, ← h0 (off + n) (Or.inr (Nat.le_refl _))]
  have h4 : pw n * (x + q) = pw n * (lm os' (off + n) + 4294967296 * t) := by rw [hx]
  grind
def RetSubT (w : World) (g off n : Nat) (os ds : List Nat) (ct : Nat) (e : Ending) (w' : World) : Prop :=
  ∃ (os' : List Nat) (sb : Bool), e = .returned (.bool sb) ∧ os'.length = os.length ∧ (∀ j, j < off ∨ off + (n + 1) ≤ j → lm os' j = lm os j) ∧
    vl (os'.drop off) (n + 1) + vl ds n * ct = vl (os.drop off) (n + 1) + pw (n + 1) * (if sb then 1 else 0) ∧ Own w' g os' ∧ w.grownBy w' (some g)
theorem keep_set {os os' : List Nat} {off n x : Nat} (h0 : ∀ j, j < off ∨ off + n ≤ j → lm os' j = lm os j) : ∀ j, j < off ∨ off + (n + 1) ≤ j → lm (os'.set (off + n) x) j = lm os j := by
  intro j hj
  rw [lm_set_ne _ (by omega)]
  exact h0 j (by omega)

set_option maxHeartbeats 1000000 in
theorem subtractTimes_any (w : World) (g off cS Bd n c : Nat) (A : Option Addr) (os ds : List Nat) (ct : Nat) (hO : Own w g os) (hoff : off + (n + 1) ≤ os.length) (hy : Rd w Bd A n c ds) (hB : Bd ≤ g) (hct : ct < 4294967296) :
    Calls Try.prog 140 #[.slice (some ⟨g, off, none⟩) (n + 1) cS, .slice A n c, .int .u32 (ct : Int)] w (RetSubT w g off n os ds ct) := by
  have hbig := hy.big
  have H := hide hy
  replace hO := hide hO
  clear hy
  go_enter Try.func140, Try.ntmps140
  go_wp2
  go_loopw [7, 15] (fun cy i wr => ∃ k q : Nat, k ≤ n ∧ q ≤ 4294967296 ∧ i = .int .i64 k ∧ cy = .int .u64 q ∧ SubTRel w g off os ds ct k q wr) (fun _ i _ => n - (intOf i).toNat)
  case atStart => exact ⟨0, 0, by omega, by omega, rfl, rfl, os, rfl, fun _ _ => rfl, by simp [vl], hO.out, grown_refl _ _⟩
  case round =>
    obtain ⟨k, q, hk, hq, rfl, rfl, os', hos, hkeep, hval, hOr, hgr⟩ := hrel
    by_cases hkl : k < n
    · have hco := hOr.cell (j := off + k) (by omega)
      have hfo := hOr.frozen (off + k)
      have hlo := hOr.limbs (off + k)
      obtain ⟨ad, rfl, hadb, hca⟩ := (H.out.below (below_of_grown hgr hB (by have := hO.out.lt; omega))).at_ hkl
      have hly := H.out.limbs k
      have hp := prod_le hly hct
      have hp0 : 0 ≤ (lm ds k : Int) * (ct : Int) := Int.mul_nonneg (by omega) (by omega)
      obtain ⟨s, hs⟩ : ∃ s, s = q + lm ds k * ct := ⟨_, rfl⟩
      have hsi : (q : Int) + (lm ds k : Int) * (ct : Int) = (s : Int) := by rw [hs]; simp
      have hsb : s ≤ 18446744069414584321 := by omega
      have hst := hide (subt_step hOr.limbs hos (by omega) hkeep hval s hs)
      have hkeep' := hide (fun x => keep_set (x := x) hkeep)
      replace hs := hide hs
      replace hOr := hide hOr
      replace hgr := hide hgr
      clear hval hkeep
      by_cases hlt : lm os' (off + k) < s % 4294967296
      · have hb1 : sbl (lm os' (off + k)) (s % 4294967296) = 1 := by unfold sbl; rw [if_pos hlt]
        rw [hb1] at hst
        clear hb1
        go_wp2
        go_roundw
        case rel => exact ⟨k + 1, s / 4294967296 + 1, by omega, by omega, by go_num, by go_num, _, by simpa using hos, hkeep'.out _, hst.out, hOr.out.put (Nat.mod_lt _ (by omega)) (by omega), grown_setCell hgr.out _ _⟩
        case measure => simp [intOf]; omega
      · have hb1 : sbl (lm os' (off + k)) (s % 4294967296) = 0 := by unfold sbl; rw [if_neg hlt]
        rw [hb1] at hst
        clear hb1
        go_wp2
        go_roundw
        case rel => exact ⟨k + 1, s / 4294967296 + 0, by omega, by omega, by go_num, by go_num, _, by simpa using hos, hkeep'.out _, hst.out, hOr.out.put (Nat.mod_lt _ (by omega)) (by omega), grown_setCell hgr.out _ _⟩
        case measure => simp [intOf]; omega
    · have hkm : k = n := by omega
      subst hkm
      have hco := hOr.cell (j := off + k) (by omega)
      have hfo := hOr.frozen (off + k)
      have hlo := hOr.limbs (off + k)
      have hkeep' := hide (fun x => keep_set (x := x) hkeep)
      have hkeep2 := hide hkeep
      replace hval := hide hval
      replace hOr := hide hOr
      replace hgr := hide hgr
      clear hkeep
      by_cases hlt : lm os' (off + k) < q
      · have hE := hide (subt_end (x := lm os' (off + k) + 4294967296 - q) (t := 1) hos (by omega) hkeep2.out hval.out (by omega))
        go_wp2
        go_ret
        exact ⟨_, true, rfl, by simpa using hos, hkeep'.out _, hE.out, hOr.out.put (by omega) (by omega), grown_setCell hgr.out _ _⟩
      · have hE := hide (subt_end (x := lm os' (off + k) - q) (t := 0) hos (by omega) hkeep2.out hval.out (by omega))
        go_wp2
        go_ret
        exact ⟨_, false, rfl, by simpa using hos, hkeep'.out _, hE.out, hOr.out.put (by omega) (by omega), grown_setCell hgr.out _ _⟩

/-- the sum so far -/
def BackRel (w : World) (g off : Nat) (os ds : List Nat) (k q : Nat) (wr : World) : Prop :=
  ∃ os', os'.length = os.length ∧ (∀ j, j < off ∨ off + k ≤ j → lm os' j = lm os j) ∧ vl (os'.drop off) k + pw k * q = vl (os.drop off) k + vl ds k ∧ Own wr g os' ∧ w.grownBy wr (some g)
theorem back_step {os os' ds : List Nat} {off k q : Nat} (hl : os'.length = os.length) (hk : off + k < os.length) (h0 : ∀ j, j < off ∨ off + k ≤ j → lm os' j = lm os j)
    (h : vl (os'.drop off) k + pw k * q = vl (os.drop off) k + vl ds k) :
    vl ((os'.set (off + k) ((lm os' (off + k) + lm ds k + q) % 4294967296)).drop off) (k + 1) + pw (k + 1) * ((lm os' (off + k) + lm ds k + q) / 4294967296) = vl (os.drop off) (k + 1) + vl ds (k + 1) := by
  have e : ∀ x, vl ((os'.set (off + k) x).drop off) k = vl (os'.drop off) k := fun x => vl_congr fun j hj => by
    rw [lm_drop, lm_drop, lm_set_ne _ (by omega)]
  rw [vl_succ, e, lm_drop, lm_set_eq _ (by omega), pw_succ, step_low, vl_succ, vl_succ, lm_drop, ← h0 (off + k) (Or.inr (Nat.le_refl _))]
  grind
theorem back_end {os os' ds : List Nat} {off n q : Nat} (hl : os'.length = os.length) (hn : off + n < os.length) (h0 : ∀ j, j < off ∨ off + n ≤ j → lm os' j = lm os j)
    (h : vl (os'.drop off) n + pw n * q = vl (os.drop off) n + vl ds n) :
    vl ((os'.set (off + n) ((lm os' (off + n) + q) % 4294967296)).drop off) (n + 1) + pw (n + 1) * ((lm os' (off + n) + q) / 4294967296) = vl (os.drop off) (n + 1) + vl ds n := by
  have e : ∀ x, vl ((os'.set (off + n) x).drop off) n = vl (os'.drop off) n := fun x => vl_congr fun j hj => by
    rw [lm_drop, lm_drop, lm_set_ne _ (by omega)]
  rw [vl_succ, e, lm_drop, lm_set_eq _ (by omega), pw_succ, step_low, vl_succ, lm_drop, ← h0 (off + n) (Or.inr (Nat.le_refl _))]
  grind
def RetBack (w : World) (g off n : Nat) (os ds : List Nat) (e : Ending) (w' : World) : Prop :=
  ∃ (os' : List Nat) (t : Nat), e = .returned (.tuple #[]) ∧ t ≤ 1 ∧ os'.length = os.length ∧ (∀ j, j < off ∨ off + (n + 1) ≤ j → lm os' j = lm os j) ∧
    vl (os'.drop off) (n + 1) + pw (n + 1) * t = vl (os.drop off) (n + 1) + vl ds n ∧ Own w' g os' ∧ w.grownBy w' (some g)

set_option maxHeartbeats 1000000 in
theorem addBack_any (w : World) (g off cS Bd n c : Nat) (A : Option Addr) (os ds : List Nat) (hO : Own w g os) (hoff : off + (n + 1) ≤ os.length) (hy : Rd w Bd A n c ds) (hB : Bd ≤ g) :
    Calls Try.prog 141 #[.slice (some ⟨g, off, none⟩) (n + 1) cS, .slice A n c] w (RetBack w g off n os ds) := by
  have hbig := hy.big
  have H := hide hy
  replace hO := hide hO
  clear hy
  go_enter Try.func141, Try.ntmps141
  go_wp2
  go_loopw [4, 9] (fun cy i wr => ∃ k q : Nat, k ≤ n ∧ q ≤ 1 ∧ i = .int .i64 k ∧ cy = .int .u32 q ∧ BackRel w g off os ds k q wr) (fun _ i _ => n - (intOf i).toNat)
  case atStart => exact ⟨0, 0, by omega, by omega, rfl, rfl, os, rfl, fun _ _ => rfl, by simp [vl], hO.out, grown_refl _ _⟩
  case round =>
    obtain ⟨k, q, hk, hq, rfl, rfl, os', hos, hkeep, hval, hOr, hgr⟩ := hrel
    have hco := hOr.cell (j := off + k) (by omega)
    have hfo := hOr.frozen (off + k)
    have hlo := hOr.limbs (off + k)
    by_cases hkl : k < n
    · obtain ⟨ad, rfl, hadb, hca⟩ := (H.out.below (below_of_grown hgr hB (by have := hO.out.lt; omega))).at_ hkl
      have hly := H.out.limbs k
      have hst := hide (back_step hos (by omega) hkeep hval)
      have hkeep' := hide (fun x => keep_set (x := x) hkeep)
      replace hOr := hide hOr
      replace hgr := hide hgr
      clear hval hkeep
      go_wp2_with (go_at_call 142; ((with_reducible refine (add32_any _ (lm os' (off + k)) (lm ds k) q hlo hly hq).mono ?_); rintro e w' ⟨rfl, rfl⟩))
      go_roundw
      case rel => exact ⟨k + 1, (lm os' (off + k) + lm ds k + q) / 4294967296, by omega, by omega, by go_num, by go_num, _, by simpa using hos, hkeep'.out _, hst.out, hOr.out.put (Nat.mod_lt _ (by omega)) (by omega), grown_setCell hgr.out _ _⟩
      case measure => simp [intOf]; omega
    · have hkm : k = n := by omega
      subst hkm
      have hE := hide (back_end hos (by omega) hkeep hval)
      have hkeep' := hide (fun x => keep_set (x := x) hkeep)
      replace hOr := hide hOr
      replace hgr := hide hgr
      clear hval hkeep
      go_wp2
      go_end0
      exact ⟨_, (lm os' (off + k) + q) / 4294967296, rfl, by omega, by simpa using hos, hkeep'.out _, hE.out, hOr.out.put (Nat.mod_lt _ (by omega)) (by omega), grown_setCell hgr.out _ _⟩
end
end Go.Proofs.Ytdihgmbldnekhaa

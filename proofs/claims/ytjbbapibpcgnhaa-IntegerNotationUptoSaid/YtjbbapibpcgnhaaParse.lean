/-
  Parse and what it calls.
-/
import Derived.Test.YtjbbapibpcgnhaaTextMath
import Derived.Test.YtjbbapibpcgnhaaMul
namespace Go.Proofs.Ytjbbapibpcgnhaa
open Go.RowKit

set_option maxHeartbeats 1000000 in
theorem chunk_any (w : World) (s : ByteArray) (hs : s.size ≤ 9) (hd : ∀ k, k < s.size → 48 ≤ bt s k ∧ bt s k ≤ 57) :
    Calls Try.prog 79 #[.string s] w fun e w' => e = .returned (.int .u32 (dvp s s.size : Int)) ∧ w = w' := by
  have HD := hide hd
  clear hd
  go_enter Try.func79, Try.ntmps79
  go_wp2
  go_loop [3, 7] (fun v i => ∃ k : Nat, k ≤ s.size ∧ i = .int .i64 k ∧ v = .int .u32 (dvp s k : Int)) (fun _ i => s.size - (intOf i).toNat)
  case atStart => exact ⟨0, Nat.zero_le _, rfl, rfl⟩
  case round =>
    obtain ⟨k, hk, rfl, rfl⟩ := hrel
    by_cases hlt : k < s.size
    · have h1 := HD.out k hlt
      have h2 := dvp_lt (s := s) (k := k) (fun j hj => HD.out j (by omega))
      have h3 : 10 ^ k ≤ 10 ^ 8 := Nat.pow_le_pow_right (by omega) (by omega)
      have hS := hide (dvp_succ s k)
      have h4 : dvp s k < 100000000 := by omega
      clear h2 h3
      have hb := bt_get hlt
      go_wp2
      go_round
      case rel => exact ⟨k + 1, by omega, by go_num, by rw [hS.out]; go_num⟩
      case measure => simp [intOf]; omega
    · have hkm : k = s.size := by omega
      have HK := hide hkm
      clear hkm
      go_wp2
      go_ret
      rw [← HK.out]
      exact ⟨rfl, rfl⟩

theorem is_zero (s : ByteArray) : s.toList = [48] ↔ s.size = 1 ∧ bt s 0 = 48 := by
  rw [ByteArray.toList_eq]
  obtain ⟨⟨l⟩⟩ := s
  match l with
  | [] =>
    constructor
    · intro h; cases h
    · rintro ⟨h, _⟩
      cases h
  | [a] =>
    simp only [ByteArray.size, bt]
    constructor
    · intro h
      have : a = 48 := by simpa using h
      subst this
      exact ⟨rfl, rfl⟩
    · rintro ⟨_, h⟩
      have h2 : a.toNat = 48 := h
      have : a = 48 := UInt8.toNat_inj.1 h2
      rw [this]
  | a :: b :: l =>
    constructor
    · intro h; cases h
    · rintro ⟨h, _⟩
      have h2 : (a :: b :: l).length = 1 := h
      simp at h2
theorem is_empty (s : ByteArray) : s.toList = [] ↔ s.size = 0 := by
  rw [ByteArray.toList_eq]
  obtain ⟨⟨l⟩⟩ := s
  simp [ByteArray.size]

set_option maxHeartbeats 1000000 in
theorem notation_true (w : World) (s : ByteArray) (hs : s.size ≤ 9223372036854775807) (h : IsNum s) :
    Calls Try.prog 77 #[.string s] w fun e w' => e = .returned (.bool true) ∧ w = w' := by
  obtain ⟨hd, hpos, h0⟩ := h
  have HD := hide hd
  have H0 := hide h0
  have hb0 := bt_get hpos
  have he : s.toList.isEmpty = false := by
    rw [List.isEmpty_eq_false_iff]; intro h; have := (is_empty s).1 h; omega
  clear hd h0
  go_enter Try.func77, Try.ntmps77
  go_wp2
  go_loop [6] (fun i => ∃ k : Nat, k ≤ s.size ∧ i = .int .i64 k) (fun i => s.size - (intOf i).toNat)
  case atStart => exact ⟨0, Nat.zero_le _, rfl⟩
  case round =>
    obtain ⟨k, hk, rfl⟩ := hrel
    by_cases hlt : k < s.size
    · have h1 := HD.out k hlt
      have hb := bt_get hlt
      go_wp2
      go_round
      case rel => exact ⟨k + 1, by omega, by go_num⟩
      case measure => simp [intOf]; omega
    · have hkm : k = s.size := by omega
      have HK := hide hkm
      clear hkm
      by_cases h48 : s.toList = [48]
      · have hz : (s.toList == [48]) = true := by simpa using h48
        clear h48
        go_wp2
        go_ret
        exact ⟨rfl, rfl⟩
      · have hz : (s.toList == [48]) = false := by simpa using h48
        have hne : ((bt s 0 : Int) != 48) = true := by
          have : bt s 0 ≠ 48 := by
            rcases H0.out with h | h
            · intro h2; exact h48 ((is_zero s).2 ⟨h, h2⟩)
            · exact h
          simp; omega
        clear h48
        go_wp2
        go_ret
        exact ⟨rfl, rfl⟩

set_option maxHeartbeats 1000000 in
theorem notation_false (w : World) (s : ByteArray) (hs : s.size ≤ 9223372036854775807) (h : ¬ IsNum s) :
    Calls Try.prog 77 #[.string s] w fun e w' => e = .returned (.bool false) ∧ w = w' := by
  have HN := hide h
  clear h
  go_enter Try.func77, Try.ntmps77
  go_wp2
  go_loop [6] (fun i => ∃ k : Nat, k ≤ s.size ∧ i = .int .i64 k ∧ Hid (∀ j, j < k → 48 ≤ bt s j ∧ bt s j ≤ 57)) (fun i => s.size - (intOf i).toNat)
  case atStart => exact ⟨0, Nat.zero_le _, rfl, hide fun j hj => by omega⟩
  case round =>
    obtain ⟨k, hk, rfl, hd⟩ := hrel
    by_cases hlt : k < s.size
    · have hb := bt_get hlt
      by_cases h1 : bt s k < 48
      · go_wp2
        go_ret
        exact ⟨rfl, rfl⟩
      · by_cases h2 : 57 < bt s k
        · go_wp2
          go_ret
          exact ⟨rfl, rfl⟩
        · have H1 := hide h1
          have H2 := hide h2
          have h3 : 48 ≤ bt s k ∧ bt s k ≤ 57 := by omega
          clear h1 h2
          go_wp2
          go_round
          case rel =>
            refine ⟨k + 1, by omega, by go_num, hide fun j hj => ?_⟩
            by_cases hjk : j = k
            · subst hjk; exact h3
            · exact hd.out j (by omega)
          case measure => simp [intOf]; omega
    · have hkm : k = s.size := by omega
      have HK := hide hkm
      clear hkm
      have h48 : ¬ s.toList = [48] := fun h => HN.out ⟨fun j hj => hd.out j (by rw [HK.out]; exact hj), by have := (is_zero s).1 h; omega, Or.inl ((is_zero s).1 h).1⟩
      have hz : (s.toList == [48]) = false := by simpa using h48
      clear h48
      by_cases hp : 0 < s.size
      · have hb0 := bt_get hp
        have he : s.toList.isEmpty = false := by
          rw [List.isEmpty_eq_false_iff]; intro h; have := (is_empty s).1 h; omega
        have hne : ((bt s 0 : Int) != 48) = false := by
          have : bt s 0 = 48 := by
            apply Classical.byContradiction
            intro h
            exact HN.out ⟨fun j hj => hd.out j (by rw [HK.out]; exact hj), hp, Or.inr h⟩
          simp; omega
        go_wp2
        go_ret
        exact ⟨rfl, rfl⟩
      · have he : s.toList = [] := (is_empty s).2 (by omega)
        have he2 : (!s.toList.isEmpty) = false := by rw [he]; rfl
        go_wp2
        go_ret
        exact ⟨rfl, rfl⟩

/-- limbs as values -/
def lims (os : List Nat) : List Value := os.map fun x : Nat => Value.int .u32 (x : Int)
theorem lims_len (os : List Nat) : (lims os).length = os.length := by simp [lims]
theorem lims_get {os : List Nat} {j : Nat} (h : j < os.length) : (lims os)[j]? = some (.int .u32 (lm os j : Int)) := by
  unfold lims
  rw [List.getElem?_map, lm_get? h]
  rfl
theorem lims_set (os : List Nat) (j x : Nat) : (lims os).set j (.int .u32 (x : Int)) = lims (os.set j x) := by
  simp [lims, List.map_set]
theorem lims_snoc (os : List Nat) (x : Nat) : lims os ++ [.int .u32 (x : Int)] = lims (os ++ [x]) := by simp [lims]

/-- The slice at the head of block g, of length n and capacity c, owns the limbs os. -/
def Row (w : World) (B g n c : Nat) (os : List Nat) : Prop := w.ownsRow B 51 1 (.slice (some ⟨g, 0, none⟩) n c) n (lims os)
theorem Row.cell {w : World} {B g n c : Nat} {os : List Nat} (h : Row w B g n c os) (hl : os.length = n) {j : Nat} (hj : j < n) : w.cell? ⟨g, j, none⟩ = some (.int .u32 (lm os j : Int)) := by
  rw [World.ownsRow.cellAt h j (by omega), lims_get (by omega)]
theorem Row.put {w : World} {B g n c : Nat} {os : List Nat} (h : Row w B g n c os) {j x : Nat} {u : Int} (hu : u = (x : Int)) : Row (w.setCell ⟨g, j, none⟩ (.int .u32 u)) B g n c (os.set j x) := by
  subst hu
  have := (World.ownsRow.stored h j (.int .u32 (x : Int))).1
  rw [lims_set] at this
  exact this

/-- the product so far, and a carry q -/
def PlusRel (w : World) (B g n c : Nat) (os : List Nat) (f m k q : Nat) (wr : World) : Prop :=
  ∃ os', os'.length = os.length ∧ Limbs os' ∧ (∀ j, k ≤ j → lm os' j = lm os j) ∧ vl os' k + pw k * q = vl os k * f + m ∧ Row wr B g n c os' ∧ w.grownBy wr (some g)
theorem plus_step {os os' : List Nat} {f m k q : Nat} (hl : os'.length = os.length) (hk : k < os.length) (h0 : ∀ j, k ≤ j → lm os' j = lm os j) (h : vl os' k + pw k * q = vl os k * f + m) :
    vl (os'.set k ((q + lm os' k * f) % 4294967296)) (k + 1) + pw (k + 1) * ((q + lm os' k * f) / 4294967296) = vl os (k + 1) * f + m := by
  rw [vl_succ, vl_set _ (Nat.le_refl _), lm_set_eq _ (by omega), pw_succ, step_low, vl_succ, ← h0 k (Nat.le_refl _)]
  grind
def RetPlus (w : World) (B g n c : Nat) (os : List Nat) (f m : Nat) (e : Ending) (w' : World) : Prop :=
  ∃ (os' : List Nat) (q : Nat), e = .returned (.int .u32 (q : Int)) ∧ q < 4294967296 ∧ os'.length = os.length ∧ Limbs os' ∧ vl os' n + pw n * q = vl os n * f + m ∧ Row w' B g n c os' ∧ w.grownBy w' (some g)

set_option maxHeartbeats 1000000 in
theorem timesPlus_any (w : World) (B g n c : Nat) (os : List Nat) (f m : Nat) (hR : Row w B g n c os) (hL : Limbs os) (hl : os.length = n) (hn : n ≤ 70368744177664) (hf : f < 4294967296) (hm : m < 4294967296) (F : Int) (hF : F = (f : Int)) :
    Calls Try.prog 78 #[.slice (some ⟨g, 0, none⟩) n c, .int .u32 F, .int .u32 (m : Int)] w (RetPlus w B g n c os f m) := by
  subst hF
  replace hR := hide hR
  replace hL := hide hL
  replace hl := hide hl
  go_enter Try.func78, Try.ntmps78
  go_wp2
  go_loopw [7, 14] (fun cy i wr => ∃ k q : Nat, k ≤ n ∧ q < 4294967296 ∧ i = .int .i64 k ∧ cy = .int .u64 q ∧ PlusRel w B g n c os f m k q wr) (fun _ i _ => n - (intOf i).toNat)
  case atStart => exact ⟨0, m, by omega, hm, rfl, rfl, os, rfl, hL.out, fun _ _ => rfl, by simp [vl, pw], hR.out, grown_refl _ _⟩
  case round =>
    obtain ⟨k, q, hk, hq, rfl, rfl, os', hos, hlim, hkeep, hval, hOr, hgr⟩ := hrel
    have hlen := hl.out
    by_cases hkl : k < n
    · have hco := hOr.cell (by omega) hkl
      have hfo := World.ownsRow.frozenAt hOr k
      have hlo := hlim k
      have hp := prod_le hlo hf
      have hp0 : 0 ≤ (lm os' k : Int) * (f : Int) := Int.mul_nonneg (by omega) (by omega)
      have hst := hide (plus_step hos (by omega) hkeep hval)
      have hkeep' := hide hkeep
      replace hOr := hide hOr
      replace hgr := hide hgr
      replace hlim := hide hlim
      clear hval hkeep hlen
      go_wp2
      go_roundw
      case rel =>
        have e : ((q : Int) + (lm os' k : Int) * f) = ((q + lm os' k * f : Nat) : Int) := by simp
        rw [e]
        exact ⟨k + 1, (q + lm os' k * f) / 4294967296, by omega, by omega, by go_num, rfl, _, by simpa using hos, Limbs_set hlim.out (by omega), fun j hj => by rw [lm_set_ne _ (by omega)]; exact hkeep'.out j (by omega), hst.out, hOr.out.put rfl, grown_setCell hgr.out _ _⟩
      case measure => simp [intOf]; omega
    · have hkm : k = n := by omega
      subst hkm
      replace hOr := hide hOr
      replace hgr := hide hgr
      replace hlim := hide hlim
      replace hval := hide hval
      clear hkeep hlen
      go_wp2
      go_ret
      exact ⟨os', q, rfl, hq, hos, hlim.out, hval.out, hOr.out, hgr.out⟩

set_option maxHeartbeats 1000000 in
theorem timesPlus_nil (w : World) (A : Option Addr) (c m : Nat) (F : Int) (hm : m < 4294967296) :
    Calls Try.prog 78 #[.slice A 0 c, .int .u32 F, .int .u32 (m : Int)] w fun e w' => e = .returned (.int .u32 (m : Int)) ∧ w = w' := by
  go_enter Try.func78, Try.ntmps78
  go_wp2
  refine wp_loop_rounds 1 ?_
  rw [rounds_succ]
  go_wp2
  go_ret
  exact ⟨rfl, rfl⟩

end Go.Proofs.Ytjbbapibpcgnhaa

/-
  isSubset; the reference's subset; the law's rising.
-/
import Derived.Test.YtdakfpapigieiaaCombD
namespace Go.Proofs.Ytdakfpapigieiaa
open Go.RowKit

/-- the first k numbers rise, from 0 on, below n -/
def SubI (n : Int) (xs : List Int) (k : Nat) : Prop := ∀ i, i < k → 0 ≤ li xs i ∧ li xs i < n ∧ (0 < i → li xs (i - 1) < li xs i)
noncomputable def risB (n : Int) (xs : List Int) : Bool := @decide (SubI n xs xs.length) (Classical.propDecidable _)
noncomputable def sbsB (n : Int) (xs : List Int) : Bool := okI n && risB n xs
theorem ris_yes {n : Int} {xs : List Int} (h : SubI n xs xs.length) : risB n xs = true := by simp [risB, h]
theorem ris_no {n : Int} {xs : List Int} (h : ¬ SubI n xs xs.length) : risB n xs = false := by simp [risB, h]
theorem SubI.start (n : Int) (xs : List Int) : SubI n xs 0 := fun i hi => by omega
theorem SubI.next {n : Int} {xs : List Int} {k : Nat} {z : Int} (h : SubI n xs k) (hz : li xs k = z) (h0 : 0 ≤ z) (h1 : z < n) (h2 : 0 < k → li xs (k - 1) < z) : SubI n xs (k + 1) := fun i hi => by
  by_cases e : i = k
  · subst e; rw [hz]; exact ⟨h0, h1, h2⟩
  · exact h i (by omega)
theorem SubI.bad {n : Int} {xs : List Int} {k : Nat} {z : Int} (hk : k < xs.length) (hz : li xs k = z) (h : ¬ (0 ≤ z ∧ z < n ∧ (0 < k → li xs (k - 1) < z))) : ¬ SubI n xs xs.length := fun h2 => h (by rw [← hz]; exact h2 k hk)
/-- the number before -/
def pvI (xs : List Int) (k : Nat) : Int := if k = 0 then -1 else li xs (k - 1)
theorem pv_succ (xs : List Int) (k : Nat) : pvI xs (k + 1) = li xs k := by simp [pvI]
theorem SubI.pv {n : Int} {xs : List Int} {k : Nat} {z : Int} (h : SubI n xs k) (hz : pvI xs k < z) : 0 ≤ z ∧ (0 < k → li xs (k - 1) < z) := by
  unfold pvI at hz
  split at hz
  · exact ⟨by omega, fun h => by omega⟩
  · have := (h (k - 1) (by omega)).1
    exact ⟨by omega, fun _ => hz⟩
theorem pv_bad {xs : List Int} {k : Nat} {z : Int} (h : z ≤ pvI xs k) : ¬ (0 ≤ z ∧ (0 < k → li xs (k - 1) < z)) := fun h2 => by
  unfold pvI at h
  split at h
  · omega
  · have := h2.2 (by omega)
    omega
theorem pv_i64 {xs : List Int} (h : ∀ j, I64 (li xs j)) (k : Nat) : I64 (pvI xs k) := by
  unfold pvI
  split
  · exact ⟨by omega, by omega⟩
  · exact h _
set_option maxHeartbeats 4000000 in
theorem issubset_any {w : World} {Bd m c : Nat} {A : Option Addr} {xs : List Int} {n : Int} (hx : RdI w Bd A m c xs) (hB : Bd ≤ w.heap.size) : Calls Try.prog 37 #[.int .i64 n, .slice A m c] w (fun e w' => e = .returned (.bool (sbsB n xs)) ∧ Below w.heap.size w w') := by
  have B := hide (Below.refl w.heap.size w)
  have hcap := hx.cap
  have hbig := hx.big
  have hcb := hx.cbig
  have hl := hide hx.len
  have HX := hide (hx.more hB)
  clear hx hB
  obtain ⟨ok, hok⟩ : ∃ b, okI n = b := ⟨_, rfl⟩
  replace hok := hide hok
  cases ok with
  | false =>
    have hs : sbsB n xs = false := by rw [sbsB, hok.out]; rfl
    rw [hs]
    clear hs
    go_enter Try.func37, Try.ntmps37
    go_wp2_with fail
    refine countable_any.mono ?_
    rw [hok.out]
    rintro e w1 ⟨rfl, hb⟩
    replace B := hide (Below.then_ B.out hb)
    clear hb
    go_wp2
    go_ret
    exact ⟨rfl, B.out⟩
  | true =>
    have hs : sbsB n xs = risB n xs := by rw [sbsB, hok.out]; rfl
    rw [hs]
    clear hs
    go_enter Try.func37, Try.ntmps37
    go_wp2_with fail
    refine countable_any.mono ?_
    rw [hok.out]
    rintro e w1 ⟨rfl, hb⟩
    replace B := hide (Below.then_ B.out hb)
    clear hb
    go_wp2
    go_loopw [5, 13] (fun p i wr => ∃ (k : Nat) (pv : Int), k ≤ m ∧ p = .int .i64 pv ∧ i = .int .i64 k ∧ Hid (pvI xs k = pv) ∧ Hid (SubI n xs k) ∧ Hid (Below w.heap.size w wr)) (fun _ i _ => m - (intOf i).toNat)
    case atStart => exact ⟨0, -1, Nat.zero_le _, rfl, rfl, hide rfl, hide (SubI.start n xs), B⟩
    case round =>
      obtain ⟨k, pv, hk, rfl, rfl, hpv, hS, B2⟩ := hrel
      clear B
      by_cases hkl : k < m
      · obtain ⟨ad, rfl, hadb, hca⟩ := (HX.out.then_ B2.out).at_ hkl
        have hkx := hide (show k < xs.length by have := hl.out; omega)
        obtain ⟨z, hz⟩ : ∃ z, li xs k = z := ⟨_, rfl⟩
        rw [hz] at hca
        replace hz := hide hz
        by_cases h1 : z ≤ pv
        · have hno := hide (ris_no (SubI.bad (n := n) hkx.out hz.out fun h => pv_bad (by rw [hpv.out]; exact h1) ⟨h.1, h.2.2⟩))
          have d1 : decide (z ≤ pv) = true := by simpa using h1
          clear h1
          go_wp2
          go_ret
          rw [hno.out]
          exact ⟨rfl, B2.out⟩
        · have d1 : decide (z ≤ pv) = false := by simpa using h1
          by_cases h2 : n ≤ z
          · have hno := hide (ris_no (SubI.bad (n := n) hkx.out hz.out fun h => by have := h.2.1; omega))
            have d2 : decide (n ≤ z) = true := by simpa using h2
            clear h1 h2
            go_wp2
            go_ret
            rw [hno.out]
            exact ⟨rfl, B2.out⟩
          · have d2 : decide (n ≤ z) = false := by simpa using h2
            have hp := hS.out.pv (z := z) (by rw [hpv.out]; omega)
            have hS2 := hide (hS.out.next hz.out hp.1 (by omega) hp.2)
            have hpv2 := hide ((pv_succ xs k).trans hz.out)
            clear h1 h2 hp hS hpv
            go_wp2
            go_roundw
            case rel => exact ⟨k + 1, z, by omega, rfl, by go_num, hpv2, hS2, B2⟩
            case measure => simp [intOf]; omega
      · obtain rfl : k = m := by omega
        have hyes := hide (ris_yes (by have h := hS.out; rw [← hl.out] at h; exact h))
        go_wp2
        go_ret
        rw [hyes.out]
        exact ⟨rfl, B2.out⟩
set_option maxHeartbeats 8000000 in
theorem rsubset_any {w : World} {Bd m c : Nat} {A : Option Addr} {xs : List Int} {n : Int} (hx : RdI w Bd A m c xs) (hB : Bd ≤ w.heap.size) : Calls Try.prog 39 #[.int .i64 n, .slice A m c] w (fun e w' => e = .returned (.bool (sbsB n xs)) ∧ Below w.heap.size w w') := by
  have hcap := hx.cap
  have hbig := hx.big
  have hcb := hx.cbig
  have hl := hide hx.len
  have HX := hide (hx.more hB)
  have B := hide (Below.refl w.heap.size w)
  clear hx hB
  by_cases h : 0 ≤ n ∧ n ≤ 200
  · have hs : sbsB n xs = risB n xs := by rw [sbsB, okI_true h.1 h.2]; rfl
    rw [hs]
    have d0 : decide (n < 0) = false := by simp; omega
    have d9 : decide ((200 : Int) < n) = false := by simp; omega
    clear hs h
    go_enter Try.func39, Try.ntmps39
    go_wp2
    go_loopw [5] (fun i wr => ∃ (k : Nat), k ≤ m ∧ i = .int .i64 k ∧ Hid (SubI n xs k) ∧ Hid (Below w.heap.size w wr)) (fun i _ => m - (intOf i).toNat)
    case atStart => exact ⟨0, Nat.zero_le _, rfl, hide (SubI.start n xs), B⟩
    case round =>
      obtain ⟨k, hk, rfl, hS, B2⟩ := hrel
      clear B
      by_cases hkl : k < m
      · obtain ⟨ad, rfl, hadb, hca0⟩ := (HX.out.then_ B2.out).cells (by omega)
        have hca := hca0 k hkl
        have hkx := hide (show k < xs.length by have := hl.out; omega)
        have hk64 : (k : Int) < (m : Int) := by omega
        obtain ⟨z, hz⟩ : ∃ z, li xs k = z := ⟨_, rfl⟩
        rw [hz] at hca
        replace hz := hide hz
        by_cases h1 : z < 0
        · have d1 : decide (z < 0) = true := by simpa using h1
          have hno := hide (ris_no (SubI.bad (n := n) hkx.out hz.out fun h => by have := h.1; omega))
          clear hca0 h1
          go_wp2_with fail
          go_quiet (fail)
          go_wp2
          go_ret
          rw [hno.out]
          exact ⟨rfl, below_drewN B2.out _⟩
        · have d1 : decide (z < 0) = false := by simpa using h1
          by_cases h2 : n ≤ z
          · have d2 : decide (n ≤ z) = true := by simpa using h2
            have hno := hide (ris_no (SubI.bad (n := n) hkx.out hz.out fun h => by have := h.2.1; omega))
            clear hca0 h1 h2
            go_wp2_with fail
            go_quiet (fail)
            go_wp2
            go_ret
            rw [hno.out]
            exact ⟨rfl, below_drewN B2.out _⟩
          · have d2 : decide (n ≤ z) = false := by simpa using h2
            by_cases h3 : 0 < k
            · have d3 : decide ((0 : Int) < (k : Int)) = true := by simp; omega
              obtain ⟨j, rfl⟩ : ∃ j, k = j + 1 := ⟨k - 1, by omega⟩
              have hcj := hca0 j (by omega)
              have hk65 : (j : Int) + 1 < (m : Int) := by omega
              have hj65 : (j : Int) < (m : Int) := by omega
              have hj66 : (0 : Int) ≤ (j : Int) + 1 := by omega
              have hca2 : wr.cell? ⟨ad.block, ad.off + (j + 1), none⟩ = some (.int .i64 z) := hca
              clear hk64
              obtain ⟨y, hy⟩ : ∃ y, li xs j = y := ⟨_, rfl⟩
              rw [hy] at hcj
              replace hy := hide hy
              by_cases h4 : z ≤ y
              · have d4 : decide (z ≤ y) = true := by simpa using h4
                have hno := hide (ris_no (SubI.bad (n := n) hkx.out hz.out fun h => by have h5 := h.2.2 (by omega); rw [Nat.add_sub_cancel, hy.out] at h5; omega))
                clear hca0 h1 h2 h3 h4
                go_wp2_with fail
                go_quiet (fail)
                go_wp2
                go_ret
                rw [hno.out]
                exact ⟨rfl, below_drewN B2.out _⟩
              · have d4 : decide (z ≤ y) = false := by simpa using h4
                have hS2 := hide (hS.out.next hz.out (by omega) (by omega) (fun _ => by rw [Nat.add_sub_cancel, hy.out]; omega))
                clear hca0 h1 h2 hS
                go_wp2_with fail
                go_quiet (fail)
                go_wp2
                go_roundw
                case rel => exact ⟨j + 1 + 1, by omega, by go_num, hS2, hide (below_drewN B2.out _)⟩
                case measure => simp [intOf]; omega
            · obtain rfl : k = 0 := by omega
              have d3 : decide ((0 : Int) < 0) = false := by decide
              have hk65 : (0 : Int) < (m : Int) := by omega
              have hca1 : wr.cell? ad = some (.int .i64 z) := by rw [add_zero_] at hca; exact hca
              clear hk64
              have hS2 := hide (hS.out.next hz.out (by omega) (by omega) (fun h => by omega))
              clear hca0 h1 h2 hS
              go_wp2_with fail
              go_quiet (fail)
              go_wp2
              go_roundw
              case rel => exact ⟨0 + 1, by omega, by go_num, hS2, hide (below_drewN B2.out _)⟩
              case measure => simp [intOf]; omega
      · obtain rfl : k = m := by omega
        have hyes := hide (ris_yes (by have h := hS.out; rw [← hl.out] at h; exact h))
        go_wp2
        go_ret
        rw [hyes.out]
        exact ⟨rfl, B2.out⟩
  · have hs : sbsB n xs = false := by rw [sbsB, okI_false h]; rfl
    rw [hs]
    have d0 : decide (n < 0) = true ∨ (decide (n < 0) = false ∧ decide ((200 : Int) < n) = true) := by simp; omega
    clear h hs
    rcases d0 with d0 | ⟨d0, d1⟩
    all_goals
      go_enter Try.func39, Try.ntmps39
      go_wp2
      go_ret
      exact ⟨rfl, B.out⟩
set_option maxHeartbeats 8000000 in
theorem rising_any {w : World} {Bd m c : Nat} {A : Option Addr} {xs : List Int} {n k0 : Int} (hx : RdI w Bd A m c xs) (hB : Bd ≤ w.heap.size) (hk0 : k0 = (m : Int)) : Calls Try.prog 26 #[.int .i64 n, .int .i64 k0, .slice A m c] w (fun e w' => e = .returned (.bool (risB n xs)) ∧ Below w.heap.size w w') := by
  subst hk0
  have hcap := hx.cap
  have hbig := hx.big
  have hcb := hx.cbig
  have hl := hide hx.len
  have HX := hide (hx.more hB)
  have B := hide (Below.refl w.heap.size w)
  clear hx hB
  have hm : m ≤ m := Nat.le_refl _
  by_cases hm' : m ≤ m
  · clear hm hm'
    go_enter Try.func26, Try.ntmps26
    go_wp2
    go_loopw [7] (fun i wr => ∃ (k : Nat), k ≤ m ∧ i = .int .i64 k ∧ Hid (SubI n xs k) ∧ Hid (Below w.heap.size w wr)) (fun i _ => m - (intOf i).toNat)
    case atStart => exact ⟨0, Nat.zero_le _, rfl, hide (SubI.start n xs), B⟩
    case round =>
      obtain ⟨k, hk, rfl, hS, B2⟩ := hrel
      clear B
      by_cases hkl : k < m
      · obtain ⟨ad, rfl, hadb, hca0⟩ := (HX.out.then_ B2.out).cells (by omega)
        have hca := hca0 k hkl
        have hkx := hide (show k < xs.length by have := hl.out; omega)
        have hk64 : (k : Int) < (m : Int) := by omega
        obtain ⟨z, hz⟩ : ∃ z, li xs k = z := ⟨_, rfl⟩
        rw [hz] at hca
        replace hz := hide hz
        by_cases h1 : z < 0
        · have d1 : decide (z < 0) = true := by simpa using h1
          have hno := hide (ris_no (SubI.bad (n := n) hkx.out hz.out fun h => by have := h.1; omega))
          clear hca0 h1
          go_wp2_with fail
          go_quiet (fail)
          go_wp2
          go_ret
          rw [hno.out]
          exact ⟨rfl, below_drewN B2.out _⟩
        · have d1 : decide (z < 0) = false := by simpa using h1
          by_cases h2 : n ≤ z
          · have d2 : decide (n ≤ z) = true := by simpa using h2
            have hno := hide (ris_no (SubI.bad (n := n) hkx.out hz.out fun h => by have := h.2.1; omega))
            clear hca0 h1 h2
            go_wp2_with fail
            go_quiet (fail)
            go_wp2
            go_ret
            rw [hno.out]
            exact ⟨rfl, below_drewN B2.out _⟩
          · have d2 : decide (n ≤ z) = false := by simpa using h2
            by_cases h3 : 0 < k
            · have d3 : decide ((0 : Int) < (k : Int)) = true := by simp; omega
              obtain ⟨j, rfl⟩ : ∃ j, k = j + 1 := ⟨k - 1, by omega⟩
              have hcj := hca0 j (by omega)
              have hk65 : (j : Int) + 1 < (m : Int) := by omega
              have hj65 : (j : Int) < (m : Int) := by omega
              have hj66 : (0 : Int) ≤ (j : Int) + 1 := by omega
              have hca2 : wr.cell? ⟨ad.block, ad.off + (j + 1), none⟩ = some (.int .i64 z) := hca
              clear hk64
              obtain ⟨y, hy⟩ : ∃ y, li xs j = y := ⟨_, rfl⟩
              rw [hy] at hcj
              replace hy := hide hy
              by_cases h4 : z ≤ y
              · have d4 : decide (z ≤ y) = true := by simpa using h4
                have hno := hide (ris_no (SubI.bad (n := n) hkx.out hz.out fun h => by have h5 := h.2.2 (by omega); rw [Nat.add_sub_cancel, hy.out] at h5; omega))
                clear hca0 h1 h2 h3 h4
                go_wp2_with fail
                go_quiet (fail)
                go_wp2
                go_ret
                rw [hno.out]
                exact ⟨rfl, below_drewN B2.out _⟩
              · have d4 : decide (z ≤ y) = false := by simpa using h4
                have hS2 := hide (hS.out.next hz.out (by omega) (by omega) (fun _ => by rw [Nat.add_sub_cancel, hy.out]; omega))
                clear hca0 h1 h2 hS
                go_wp2_with fail
                go_quiet (fail)
                go_wp2
                go_roundw
                case rel => exact ⟨j + 1 + 1, by omega, by go_num, hS2, hide (below_drewN B2.out _)⟩
                case measure => simp [intOf]; omega
            · obtain rfl : k = 0 := by omega
              have d3 : decide ((0 : Int) < 0) = false := by decide
              have hk65 : (0 : Int) < (m : Int) := by omega
              have hca1 : wr.cell? ad = some (.int .i64 z) := by rw [add_zero_] at hca; exact hca
              clear hk64
              have hS2 := hide (hS.out.next hz.out (by omega) (by omega) (fun h => by omega))
              clear hca0 h1 h2 hS
              go_wp2_with fail
              go_quiet (fail)
              go_wp2
              go_roundw
              case rel => exact ⟨0 + 1, by omega, by go_num, hS2, hide (below_drewN B2.out _)⟩
              case measure => simp [intOf]; omega
      · obtain rfl : k = m := by omega
        have hyes := hide (ris_yes (by have h := hS.out; rw [← hl.out] at h; exact h))
        go_wp2
        go_ret
        rw [hyes.out]
        exact ⟨rfl, B2.out⟩
  · omega
end Go.Proofs.Ytdakfpapigieiaa

/-
  Add.
-/
import Derived.Test.YtjbbapibpcgnhaaNorm
namespace Go.Proofs.Ytjbbapibpcgnhaa
open Go.RowKit

/-- what a round of Add does to the sum so far -/
theorem add_step {xs ys os : List Nat} {k cy : Nat} (hk : k < os.length) (hi : vl os k + pw k * cy = vl xs k + vl ys k) :
    vl (os.set k ((cy + lm xs k + lm ys k) % 4294967296)) (k + 1) + pw (k + 1) * ((cy + lm xs k + lm ys k) / 4294967296) = vl xs (k + 1) + vl ys (k + 1) := by
  rw [vl_succ, vl_set _ (Nat.le_refl _), lm_set_eq _ hk, pw_succ, step_low, vl_succ, vl_succ]
  grind

theorem add_end {X Y os : List Nat} {k q : Nat} (hos : os.length = k + 1) (hX : X.length ≤ k) (hY : Y.length ≤ k) (hval : vl os k + pw k * q = vl X k + vl Y k) : val (os.set k q) = val X + val Y := by
  rw [← vl_ge hX, ← vl_ge hY, ← hval]
  unfold val
  rw [List.length_set, hos, vl_succ, vl_set _ (Nat.le_refl _), lm_set_eq _ (by omega)]

/-- the sum so far: limbs below k, and a carry q -/
def AddRel (w : World) (X Y : List Nat) (m k q : Nat) (wr : World) : Prop :=
  ∃ os, os.length = m + 1 ∧ vl os k + pw k * q = vl X k + vl Y k ∧ Own wr w.heap.size os ∧ Below w.heap.size w wr

set_option maxHeartbeats 1000000 in
theorem add_ge (w : World) (Bd : Nat) (A A' : Option Addr) (n c n' c' : Nat) (xs ys : List Nat) (hx : Rd w Bd A n c xs) (hy : Rd w Bd A' n' c' ys) (hB : Bd ≤ w.heap.size)
    (hn : n + 1 ≤ 70368744177664) (_hn' : n' + 1 ≤ 70368744177664) (hlt : ¬ (dig (val xs)).length < (dig (val ys)).length) :
    Calls Try.prog 50 #[.slice A n c, .slice A' n' c'] w (RetNat w (val xs + val ys)) := by
  obtain ⟨X, m, hm, HX, hmn, hvx, _⟩ := hx.trimmed
  obtain ⟨Y, m', hm', HY, hmn', hvy, _⟩ := hy.trimmed
  have hlt' : ¬ m < m' := by rw [hm.out, hm'.out] at hlt; exact hlt
  clear hlt
  have hcap := HX.cap
  have hbig := HX.big
  have hcap' := HY.cap
  have hbig' := HY.big
  replace HX := hide HX
  replace HY := hide HY
  have H := hide hx
  have H' := hide hy
  clear hx hy
  go_enter Try.func50, Try.ntmps50
  go_wp2_with (first
    | (go_at_call 63; ((with_reducible refine (trim_to _ Bd A n c xs H.out m hm.out).mono ?_); rintro e w' ⟨rfl, rfl⟩))
    | (go_at_call 63; ((with_reducible refine (trim_to _ Bd A' n' c' ys H'.out m' hm'.out).mono ?_); rintro e w' ⟨rfl, rfl⟩))
    | (at_make; refine wpList_make_nat _ rfl _ _ rfl _ _ _ _ (m + 1) rfl rfl (by omega) (by omega) (by omega) ?_; intro w1 hown hb hg))
  go_loopw [6, 26] (fun cy i wr => ∃ k q : Nat, k ≤ m ∧ q ≤ 1 ∧ i = .int .i64 k ∧ cy = .int .u64 q ∧ AddRel w X Y m k q wr) (fun _ i _ => m - (intOf i).toNat)
  case atStart => exact ⟨0, 0, by omega, by omega, rfl, rfl, List.replicate (m + 1) 0, List.length_replicate, rfl, hown, hb⟩
  case round =>
    obtain ⟨k, q, hk, hq, rfl, rfl, os, hos, hval, hO, hBl⟩ := hrel
    have hsz := hide (show w.heap.size < wr.heap.size from hO.lt)
    have hko : k < os.length := by omega
    have hco := hO.cell hko
    have hfo := hO.frozen k
    replace hO := hide hO
    replace hBl := hide hBl
    by_cases hkl : k < m
    · obtain ⟨ad, rfl, hadb, hca⟩ := (HX.out.below (hBl.out.mono hB)).at_ hkl
      have h1 := HX.out.limbs k
      have h2 := HY.out.limbs k
      have hst := hide (add_step (xs := X) (ys := Y) hko hval)
      clear hval
      by_cases hks : k < m'
      · obtain ⟨ad', rfl, hadb', hca'⟩ := (HY.out.below (hBl.out.mono hB)).at_ hks
        go_wp2
        go_roundw
        case rel => exact ⟨k + 1, (q + lm X k + lm Y k) / 4294967296, by omega, by omega, by go_num, by go_num, _, by simpa using hos, hst.out, hO.out.put (by omega) (by omega), hBl.out.setCell (Nat.le_refl _) _⟩
        case measure => simp [intOf]; omega
      · have h0 := lm_ge (xs := Y) (k := k) (by rw [HY.out.len]; omega)
        have h0 := hide h0
        go_wp2
        go_roundw
        case rel => exact ⟨k + 1, (q + lm X k + lm Y k) / 4294967296, by omega, by omega, by go_num, by rw [h0.out]; go_num, _, by simpa using hos, hst.out, hO.out.put (by omega) (by rw [h0.out]; omega), hBl.out.setCell (Nat.le_refl _) _⟩
        case measure => simp [intOf]; omega
    · have hkm : k = m := by omega
      subst hkm
      have hR : Rd (wr.setCell ⟨w.heap.size, k, none⟩ (.int .u32 (q : Int))) (w.heap.size + 1) (some ⟨w.heap.size, 0, none⟩) (k + 1) (k + 1) (os.set k q) := by
        have := (hO.out.put (j := k) (x := q) (by omega) rfl).rd0 (c := k + 1) (by simp [hos]) (by omega) (Nat.lt_succ_self _)
        rwa [List.length_set, hos] at this
      have hv : Hid (val (os.set k q) = val xs + val ys) := hide (by
        rw [← hvx.out, ← hvy.out]
        exact add_end hos (by rw [HX.out.len]; omega) (by rw [HY.out.len]; omega) hval)
      replace hR := hide hR
      go_wp2_with (go_at_call 63; ((with_reducible refine (trim_any _ _ _ _ _ _ hR.out).mono ?_); rintro e w' ⟨rfl, rfl⟩))
      go_ret
      have hR' := hR.out.trim
      rw [hv.out] at hR' ⊢
      exact ⟨_, _, rfl, hR'.more (by simp [World.setCell]; exact hsz.out), hBl.out.setCell (Nat.le_refl _) _⟩

set_option maxHeartbeats 1000000 in
theorem add_lt (w : World) (Bd : Nat) (A A' : Option Addr) (n c n' c' : Nat) (xs ys : List Nat) (hx : Rd w Bd A n c xs) (hy : Rd w Bd A' n' c' ys) (hB : Bd ≤ w.heap.size)
    (_hn : n + 1 ≤ 70368744177664) (hn' : n' + 1 ≤ 70368744177664) (hlt : (dig (val xs)).length < (dig (val ys)).length) :
    Calls Try.prog 50 #[.slice A n c, .slice A' n' c'] w (RetNat w (val xs + val ys)) := by
  obtain ⟨X, m, hm, HX, hmn, hvx, _⟩ := hx.trimmed
  obtain ⟨Y, m', hm', HY, hmn', hvy, _⟩ := hy.trimmed
  have hlt' : m < m' := by rw [hm.out, hm'.out] at hlt; exact hlt
  clear hlt
  have hcap := HX.cap
  have hbig := HX.big
  have hcap' := HY.cap
  have hbig' := HY.big
  replace HX := hide HX
  replace HY := hide HY
  have H := hide hx
  have H' := hide hy
  clear hx hy
  go_enter Try.func50, Try.ntmps50
  go_wp2_with (first
    | (go_at_call 63; ((with_reducible refine (trim_to _ Bd A n c xs H.out m hm.out).mono ?_); rintro e w' ⟨rfl, rfl⟩))
    | (go_at_call 63; ((with_reducible refine (trim_to _ Bd A' n' c' ys H'.out m' hm'.out).mono ?_); rintro e w' ⟨rfl, rfl⟩))
    | (at_make; refine wpList_make_nat _ rfl _ _ rfl _ _ _ _ (m' + 1) rfl rfl (by omega) (by omega) (by omega) ?_; intro w1 hown hb hg))
  go_loopw [6, 26] (fun cy i wr => ∃ k q : Nat, k ≤ m' ∧ q ≤ 1 ∧ i = .int .i64 k ∧ cy = .int .u64 q ∧ AddRel w X Y m' k q wr) (fun _ i _ => m' - (intOf i).toNat)
  case atStart => exact ⟨0, 0, by omega, by omega, rfl, rfl, List.replicate (m' + 1) 0, List.length_replicate, rfl, hown, hb⟩
  case round =>
    obtain ⟨k, q, hk, hq, rfl, rfl, os, hos, hval, hO, hBl⟩ := hrel
    have hsz := hide (show w.heap.size < wr.heap.size from hO.lt)
    have hko : k < os.length := by omega
    have hco := hO.cell hko
    have hfo := hO.frozen k
    replace hO := hide hO
    replace hBl := hide hBl
    by_cases hkl : k < m'
    · obtain ⟨ad, rfl, hadb, hca⟩ := (HY.out.below (hBl.out.mono hB)).at_ hkl
      have h1 := HY.out.limbs k
      have h2 := HX.out.limbs k
      have hst := hide (add_step (xs := Y) (ys := X) hko (by rw [hval]; exact Nat.add_comm _ _))
      clear hval
      by_cases hks : k < m
      · obtain ⟨ad', rfl, hadb', hca'⟩ := (HX.out.below (hBl.out.mono hB)).at_ hks
        go_wp2
        go_roundw
        case rel => exact ⟨k + 1, (q + lm Y k + lm X k) / 4294967296, by omega, by omega, by go_num, by go_num, _, by simpa using hos, hst.out.trans (Nat.add_comm _ _), hO.out.put (by omega) (by omega), hBl.out.setCell (Nat.le_refl _) _⟩
        case measure => simp [intOf]; omega
      · have h0 := lm_ge (xs := X) (k := k) (by rw [HX.out.len]; omega)
        have h0 := hide h0
        go_wp2
        go_roundw
        case rel => exact ⟨k + 1, (q + lm Y k + lm X k) / 4294967296, by omega, by omega, by go_num, by rw [h0.out]; go_num, _, by simpa using hos, hst.out.trans (Nat.add_comm _ _), hO.out.put (by omega) (by rw [h0.out]; omega), hBl.out.setCell (Nat.le_refl _) _⟩
        case measure => simp [intOf]; omega
    · have hkm : k = m' := by omega
      subst hkm
      have hR : Rd (wr.setCell ⟨w.heap.size, k, none⟩ (.int .u32 (q : Int))) (w.heap.size + 1) (some ⟨w.heap.size, 0, none⟩) (k + 1) (k + 1) (os.set k q) := by
        have := (hO.out.put (j := k) (x := q) (by omega) rfl).rd0 (c := k + 1) (by simp [hos]) (by omega) (Nat.lt_succ_self _)
        rwa [List.length_set, hos] at this
      have hv : Hid (val (os.set k q) = val xs + val ys) := hide (by
        rw [← hvx.out, ← hvy.out]
        exact add_end hos (by rw [HX.out.len]; omega) (by rw [HY.out.len]; omega) hval)
      replace hR := hide hR
      go_wp2_with (go_at_call 63; ((with_reducible refine (trim_any _ _ _ _ _ _ hR.out).mono ?_); rintro e w' ⟨rfl, rfl⟩))
      go_ret
      have hR' := hR.out.trim
      rw [hv.out] at hR' ⊢
      exact ⟨_, _, rfl, hR'.more (by simp [World.setCell]; exact hsz.out), hBl.out.setCell (Nat.le_refl _) _⟩

theorem add_any (w : World) (Bd : Nat) (A A' : Option Addr) (n c n' c' : Nat) (xs ys : List Nat) (hx : Rd w Bd A n c xs) (hy : Rd w Bd A' n' c' ys) (hB : Bd ≤ w.heap.size)
    (hn : n + 1 ≤ 70368744177664) (hn' : n' + 1 ≤ 70368744177664) : Calls Try.prog 50 #[.slice A n c, .slice A' n' c'] w (RetNat w (val xs + val ys)) := by
  by_cases h : (dig (val xs)).length < (dig (val ys)).length
  · exact add_lt w Bd A A' n c n' c' xs ys hx hy hB hn hn' h
  · exact add_ge w Bd A A' n c n' c' xs ys hx hy hB hn hn' h

end Go.Proofs.Ytjbbapibpcgnhaa

/-
  Cmp.
-/
import Derived.Test.YtjbbapibpcgnhaaTrim
namespace Go.Proofs.Ytjbbapibpcgnhaa
open Go.RowKit

theorem compare_int (w : World) (a b : Nat) (_ha : a ≤ 9223372036854775807) (_hb : b ≤ 9223372036854775807) :
    Calls Try.prog 47 #[.int .i64 (a : Int), .int .i64 (b : Int)] w fun e w' => e = .returned (.int .i64 (cmpN a b)) ∧ w' = w := by
  rcases Nat.lt_trichotomy a b with h | h | h
  · have H := hide (cmpN_lt h)
    go_enter Try.func47, Try.ntmps47
    go_wp2
    go_ret
    rw [H.out]
    exact ⟨rfl, rfl⟩
  · subst h
    have H := hide (cmpN_eq (a := a) rfl)
    go_enter Try.func47, Try.ntmps47
    go_wp2
    go_ret
    rw [H.out]
    exact ⟨rfl, rfl⟩
  · have H := hide (cmpN_gt h)
    go_enter Try.func47, Try.ntmps47
    go_wp2
    go_ret
    rw [H.out]
    exact ⟨rfl, rfl⟩

theorem compare_u32 (w : World) (a b : Nat) :
    Calls Try.prog 68 #[.int .u32 (a : Int), .int .u32 (b : Int)] w fun e w' => e = .returned (.int .i64 (cmpN a b)) ∧ w' = w := by
  rcases Nat.lt_trichotomy a b with h | h | h
  · have H := hide (cmpN_lt h)
    go_enter Try.func68, Try.ntmps68
    go_wp2
    go_ret
    rw [H.out]
    exact ⟨rfl, rfl⟩
  · subst h
    have H := hide (cmpN_eq (a := a) rfl)
    go_enter Try.func68, Try.ntmps68
    go_wp2
    go_ret
    rw [H.out]
    exact ⟨rfl, rfl⟩
  · have H := hide (cmpN_gt h)
    go_enter Try.func68, Try.ntmps68
    go_wp2
    go_ret
    rw [H.out]
    exact ⟨rfl, rfl⟩

/-- numbers of different lengths -/
theorem cmp_len {x y : Nat} (h : (dig x).length ≠ (dig y).length) : cmpN (dig x).length (dig y).length = cmpN x y := by
  rcases Nat.lt_or_gt_of_ne h with h | h
  · rw [cmpN_lt h, cmpN_lt]
    have h1 := (dig_len_le x (dig x).length).1 (Nat.le_refl _)
    have h2 := (dig_len_lt y (dig x).length).1 h
    omega
  · rw [cmpN_gt h, cmpN_gt]
    have h1 := (dig_len_le y (dig y).length).1 (Nat.le_refl _)
    have h2 := (dig_len_lt x (dig y).length).1 h
    omega
theorem cmp_top {X Y : List Nat} {m k : Nat} (hX : Limbs X) (hY : Limbs Y) (hx : X.length = m) (hy : Y.length = m) (hk : k < m) (h0 : ∀ j, k < j → j < m → lm X j = lm Y j) (hne : lm X k ≠ lm Y k) :
    cmpN (lm X k) (lm Y k) = cmpN (val X) (val Y) := by
  rcases Nat.lt_or_gt_of_ne hne with h | h
  · rw [cmpN_lt h, cmpN_lt]
    unfold val
    rw [hx, hy]
    exact vl_lt_of_top hX hk h0 h
  · rw [cmpN_gt h, cmpN_gt]
    unfold val
    rw [hx, hy]
    exact vl_lt_of_top hY hk (fun j a b => (h0 j a b).symm) h
theorem cmp_same {X Y : List Nat} {m : Nat} (hx : X.length = m) (hy : Y.length = m) (h0 : ∀ j, 0 ≤ j → j < m → lm X j = lm Y j) : cmpN (val X) (val Y) = 0 := by
  apply cmpN_eq
  unfold val
  rw [hx, hy]
  exact vl_congr fun j hj => h0 j (Nat.zero_le _) hj

set_option maxHeartbeats 1000000 in
theorem cmp_any (w : World) (Bd : Nat) (A A' : Option Addr) (n c n' c' : Nat) (xs ys : List Nat) (hx : Rd w Bd A n c xs) (hy : Rd w Bd A' n' c' ys) :
    Calls Try.prog 48 #[.slice A n c, .slice A' n' c'] w (RetQ w (.int .i64 (cmpN (val xs) (val ys)))) := by
  obtain ⟨X, m, hm, HX, hmn, hvx, hdx⟩ := hx.trimmed
  obtain ⟨Y, m', hm', HY, hmn', hvy, hdy⟩ := hy.trimmed
  have hcap := HX.cap
  have hbig := HX.big
  have hcap' := HY.cap
  have hbig' := HY.big
  replace HX := hide HX
  replace HY := hide HY
  have H := hide hx
  have H' := hide hy
  clear hx hy
  by_cases hne : m = m'
  · subst hne
    go_enter Try.func48, Try.ntmps48
    go_wp2_with (first
      | (go_at_call 63; ((with_reducible refine (trim_to _ Bd A n c xs H.out m hm.out).mono ?_); rintro e w' ⟨rfl, rfl⟩))
      | (go_at_call 63; ((with_reducible refine (trim_to _ Bd A' n' c' ys H'.out m hm'.out).mono ?_); rintro e w' ⟨rfl, rfl⟩)))
    go_loopw [5] (fun i wr => ∃ z : Int, -1 ≤ z ∧ z < m ∧ i = .int .i64 z ∧ Hid (∀ j : Nat, z < j → j < m → lm X j = lm Y j) ∧ ∃ q, wr = w.drewN q) (fun i _ => (intOf i + 1).toNat)
    case atStart => exact ⟨(m : Int) - 1, by omega, by omega, rfl, hide fun j a b => by omega, 0, rfl⟩
    case round =>
      obtain ⟨z, hz1, hz2, rfl, h0, q, rfl⟩ := hrel
      by_cases hpos : 0 ≤ z
      · obtain ⟨k, rfl⟩ : ∃ k : Nat, z = k := ⟨z.toNat, by omega⟩
        have hk : k < m := by omega
        obtain ⟨ad, rfl, hadb, hca⟩ := HX.out.at_ hk
        obtain ⟨ad', rfl, hadb', hca'⟩ := HY.out.at_ hk
        by_cases heq : lm X k = lm Y k
        · have HE := hide heq
          have hd : ((lm X k : Int) != (lm Y k : Int)) = false := by simp [heq]
          clear heq
          go_wp2_with fail
          go_quiet (fail)
          go_wp2
          go_roundw
          case rel =>
            refine ⟨(k : Int) - 1, by omega, by omega, by go_num, hide fun j a b => ?_, _, rfl⟩
            by_cases hj : j = k
            · subst hj; exact HE.out
            · exact h0.out j (by omega) b
          case measure => simp [intOf]
        · have HE := hide heq
          have hd : ((lm X k : Int) != (lm Y k : Int)) = true := by simp; omega
          clear heq
          have hT := hide (cmp_top HX.out.limbs HY.out.limbs HX.out.len HY.out.len (k := k) (by omega) (fun j a b => h0.out j (by omega) b) HE.out)
          go_wp2_with fail
          go_quiet (fail)
          have e1 : ((w.drewN q).drewN nq).cell? (ad.add k) = some (.int .u32 (lm X k : Int)) := hca
          have e2 : ((w.drewN q).drewN nq).cell? (ad'.add k) = some (.int .u32 (lm Y k : Int)) := hca'
          have hW : ∃ q', (w.drewN q).drewN nq = w.drewN q' := ⟨_, World.drewN_drewN _ _ _⟩
          clear hca hca'
          generalize (w.drewN q).drewN nq = W at *
          go_wp2_with fail
          go_quiet ((go_at_call 68; exact Calls.quiet_of_same (compare_u32 _ _ _)))
          obtain ⟨q', rfl⟩ := hW
          go_wp2
          go_ret
          rw [hT.out, hvx.out, hvy.out]
          exact ⟨rfl, _, World.drewN_drewN _ _ _⟩
      · have hz0 : z = -1 := by omega
        subst hz0
        go_wp2
        go_ret
        rw [← hvx.out, ← hvy.out, cmp_same HX.out.len HY.out.len (fun j a b => h0.out j (by omega) b)]
        exact ⟨rfl, q, rfl⟩
  · have hL : Hid (cmpN m m' = cmpN (val xs) (val ys)) := hide (by rw [← hm.out, ← hm'.out]; exact cmp_len (by rw [hm.out, hm'.out]; exact hne))
    have hne' : ((m : Int) != (m' : Int)) = true := by simp; omega
    go_enter Try.func48, Try.ntmps48
    go_wp2_with (first
      | (go_at_call 63; ((with_reducible refine (trim_to _ Bd A n c xs H.out m hm.out).mono ?_); rintro e w' ⟨rfl, rfl⟩))
      | (go_at_call 63; ((with_reducible refine (trim_to _ Bd A' n' c' ys H'.out m' hm'.out).mono ?_); rintro e w' ⟨rfl, rfl⟩))
      | (go_at_call 47; ((with_reducible refine (compare_int _ m m' (by omega) (by omega)).mono ?_); rintro e w' ⟨rfl, rfl⟩)))
    go_ret
    rw [hL.out]
    exact ⟨rfl, 0, rfl⟩
end Go.Proofs.Ytjbbapibpcgnhaa

/-
  same of the law: two integers, field by field.
-/
import Derived.Test.YtjbbapibpcgnhaaInt3
namespace Go.Proofs.Ytjbbapibpcgnhaa
open Go.RowKit

theorem drw_q (W : World) (q : Nat) : Below W.heap.size W (W.drewN q) := below_drewN (Below.refl _ _) q

set_option maxHeartbeats 4000000 in
theorem same_gen (w : World) (s s' : Bool) (A A' : Option Addr) (n c n' c' : Nat) (xs ys : List Nat) (h : Rd w w.heap.size A n c xs) (h' : Rd w w.heap.size A' n' c' ys) :
    Calls Try.prog 14 #[.agg #[.bool s, .slice A n c], .agg #[.bool s', .slice A' n' c']] w (RetB w (.bool (decide (s = s' ∧ xs = ys)))) := by
  have hl := h.len
  have hl' := h'.len
  have hbig := h.big
  have hbig' := h'.big
  have hcap := h.cap
  have hcap' := h'.cap
  obtain ⟨W, hW⟩ : ∃ W, W = (w.alloc (.cells #[.bool s, .slice A n c] 25)).alloc (.cells #[.bool s', .slice A' n' c'] 25) := ⟨_, rfl⟩
  have b0 : Box W w.heap.size (.bool s) (.slice A n c) := by rw [hW]; exact (Box.new _ _ _ rfl).al _
  have b1 : Box W (w.heap.size + 1) (.bool s') (.slice A' n' c') := by rw [hW]; exact Box.new _ _ _ (by simp)
  have hwW : Below w.heap.size w W := by rw [hW]; exact (((Below.refl _ _).alloc (Nat.le_refl _) _).alloc (by simp) _)
  have R := h.then_ hwW
  have R' := h'.then_ hwW
  replace R := hide R
  replace R' := hide R'
  replace hwW := hide hwW
  clear h h'
  have c00 := b0.at0 b0.lt_size (Nat.le_refl _)
  have c01 := b0.at1 b0.lt_size (Nat.le_refl _)
  have c10 := b1.at0 b1.lt_size (Nat.le_refl _)
  have c11 := b1.at1 b1.lt_size (Nat.le_refl _)
  replace b0 := hide b0
  replace b1 := hide b1
  have hS0 : Below W.heap.size W W := Below.refl _ _
  by_cases hs : s = s'
  · subst hs
    by_cases hn : n = n'
    · subst hn
      obtain ⟨r, hr⟩ : ∃ r, r = decide (s = s ∧ xs = ys) := ⟨_, rfl⟩
      rw [← hr]
      replace hr := hide hr
      go_enter Try.func14, Try.ntmps14
      replace hl := hide hl
      replace hl' := hide hl'
      go_wp2
      rw [← hW]
      clear hW
      go_loopw [23] (fun i wr => ∃ k : Nat, k ≤ n ∧ i = .int .i64 k ∧ Hid (∀ j, j < k → lm xs j = lm ys j) ∧ ∃ q, wr = W.drewN q) (fun i _ => n - (intOf i).toNat)
      case atStart => exact ⟨0, Nat.zero_le _, rfl, hide (fun j hj => by omega), 0, rfl⟩
      case round =>
        obtain ⟨k, hk, rfl, hj, q, rfl⟩ := hrel
        have hSq := drw_q W q
        by_cases hkl : k < n
        · obtain ⟨ad, hA, hadb, hca⟩ := R.out.at_ hkl
          obtain ⟨ad', hA', hadb', hca'⟩ := R'.out.at_ hkl
          subst hA hA'
          by_cases he : lm xs k = lm ys k
          · have hne : ((lm xs k : Int) != (lm ys k : Int)) = false := by rw [he]; simp
            have he' := hide he
            clear he
            go_wp2_with fail
            go_quiet (fail)
            go_wp2
            go_roundw
            case rel => exact ⟨k + 1, by omega, by go_num, hide (fun j hj' => by rcases Nat.lt_succ_iff_lt_or_eq.1 hj' with h | h; exact hj.out j h; rw [h]; exact he'.out), _, rfl⟩
            case measure => simp [intOf]; omega
          · have hne : ((lm xs k : Int) != (lm ys k : Int)) = true := by simp; omega
            have hrf : r = false := by rw [hr.out]; exact decide_eq_false (fun h => he (by rw [h.2]))
            replace hrf := hide hrf
            clear he
            go_wp2_with fail
            go_quiet (fail)
            go_wp2
            go_ret
            rw [hrf.out]
            exact ⟨rfl, below_drewN (below_drewN hwW.out _) _⟩
        · obtain rfl : k = n := by omega
          have hrt : r = true := by rw [hr.out]; exact decide_eq_true ⟨by first | rfl | trivial, lm_ext (by rw [hl.out, hl'.out]) (fun j h => hj.out j (by rw [hl.out] at h; exact h))⟩
          replace hrt := hide hrt
          go_wp2
          go_ret
          rw [hrt.out]
          exact ⟨rfl, below_drewN hwW.out _⟩
    · rw [decide_eq_false (fun h => hn (by rw [← hl, ← hl', h.2]))]
      have hne : ((n : Int) != (n' : Int)) = true := by simp; omega
      clear hl hl' hn
      go_enter Try.func14, Try.ntmps14
      go_wp2
      rw [← hW]
      go_ret
      exact ⟨rfl, hwW.out⟩
  · rw [decide_eq_false (fun h => hs h.1)]
    have hne : (s == s') = false := by simpa using hs
    clear hl hl' hs
    go_enter Try.func14, Try.ntmps14
    go_wp2
    rw [← hW]
    go_ret
    exact ⟨rfl, hwW.out⟩

theorem same_eq (w : World) (s s' : Bool) (A A' : Option Addr) (n c n' c' : Nat) (xs ys : List Nat) (h : Rd w w.heap.size A n c xs) (h' : Rd w w.heap.size A' n' c' ys) (hs : s = s') (hx : xs = ys) :
    Calls Try.prog 14 #[.agg #[.bool s, .slice A n c], .agg #[.bool s', .slice A' n' c']] w (RetB w (.bool true)) := by
  have := same_gen w s s' A A' n c n' c' xs ys h h'
  rw [decide_eq_true ⟨hs, hx⟩] at this
  exact this

end Go.Proofs.Ytjbbapibpcgnhaa

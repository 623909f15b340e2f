/-
  The reference's Parse: what it refuses.
-/
import Derived.Test.YtieopcchchebgaaRefSum
import Derived.Test.YtieopcchchebgaaNatText
namespace Go.Proofs.Ytieopcchchebgaa
open Go.RowKit

set_option maxHeartbeats 1000000 in
theorem rparse_syntax (w : World) (s : ByteArray) (hs : s.size ≤ 9223372036854775807) (h : ¬ IsNum s) :
    Calls Try.prog 86 #[.string s] w (RetErr w 2) := by
  have HN := hide h
  clear h
  rcases Nat.eq_zero_or_pos s.size with h0 | h0
  · go_enter Try.func86, Try.ntmps86
    go_wp2
    go_ret2
    exact ⟨rfl, rfl⟩
  · have hb0 := bt_get h0
    have hzz : ((s.size : Int) == 0) = false := by rw [beq_eq_false_iff_ne]; omega
    by_cases hz : 1 < s.size ∧ bt s 0 = 48
    · obtain ⟨hz1, hz2⟩ := hz
      have hz3 : ((bt s 0 : Int) == 48) = true := by rw [hz2]; rfl
      replace hz2 := hide hz2
      go_enter Try.func86, Try.ntmps86
      go_wp2
      go_ret2
      exact ⟨rfl, rfl⟩
    · have hN2 : Hid (s.size = 1 ∨ bt s 0 ≠ 48) := hide (by omega)
      rcases (show s.size = 1 ∨ (1 < s.size ∧ bt s 0 ≠ 48) by omega) with hc | ⟨hc, hc2⟩
      all_goals try (have hz3 : ((bt s 0 : Int) == 48) = false := by simp; omega)
      all_goals try clear hc2
      all_goals
        clear hz
        go_enter Try.func86, Try.ntmps86
        go_wp2
        go_loop [4] (fun i => ∃ k : Nat, k ≤ s.size ∧ i = .int .i64 k ∧ Hid (∀ j, j < k → 48 ≤ bt s j ∧ bt s j ≤ 57)) (fun i => s.size - (intOf i).toNat)
        case atStart => exact ⟨0, Nat.zero_le _, rfl, hide fun j hj => by omega⟩
        case round =>
          obtain ⟨k, hk, rfl, hd⟩ := hrel
          by_cases hlt : k < s.size
          · have hb := bt_get hlt
            by_cases h1 : bt s k < 48
            · go_wp2
              go_ret2
              exact ⟨rfl, rfl⟩
            · by_cases h2 : 57 < bt s k
              · go_wp2
                go_ret2
                exact ⟨rfl, rfl⟩
              · have h3 := hide (show 48 ≤ bt s k ∧ bt s k ≤ 57 by omega)
                go_wp2
                go_round
                case rel =>
                  refine ⟨k + 1, by omega, by go_num, hide fun j hj => ?_⟩
                  by_cases hjk : j = k
                  · subst hjk; exact h3.out
                  · exact hd.out j (by omega)
                case measure => simp [intOf]; omega
          · exact absurd ⟨fun j hj => hd.out j (by omega), h0, hN2.out⟩ HN.out

set_option maxHeartbeats 1000000 in
theorem rparse_long (w : World) (s : ByteArray) (hs : s.size ≤ 9223372036854775807) (h : IsNum s) (hl : 400 < s.size) :
    Calls Try.prog 86 #[.string s] w (RetErr w 5) := by
  obtain ⟨hd, h0, h48⟩ := h
  have HD := hide hd
  have hb0 := bt_get h0
  have hzz : ((s.size : Int) == 0) = false := by rw [beq_eq_false_iff_ne]; omega
  have hz3 : ((bt s 0 : Int) == 48) = false := by simp; omega
  clear hd h48
  go_enter Try.func86, Try.ntmps86
  go_wp2
  go_loop [4] (fun i => ∃ k : Nat, k ≤ s.size ∧ i = .int .i64 k) (fun i => s.size - (intOf i).toNat)
  case atStart => exact ⟨0, Nat.zero_le _, rfl⟩
  case round =>
    obtain ⟨k, hk, rfl⟩ := hrel
    by_cases hlt : k < s.size
    · have hb := bt_get hlt
      have h1 := HD.out k hlt
      go_wp2
      go_round
      case rel => exact ⟨k + 1, by omega, by go_num⟩
      case measure => simp [intOf]; omega
    · go_wp2
      go_ret2
      exact ⟨rfl, rfl⟩

end Go.Proofs.Ytieopcchchebgaa

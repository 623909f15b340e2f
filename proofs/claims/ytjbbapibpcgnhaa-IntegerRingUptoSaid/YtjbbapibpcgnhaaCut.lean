/-
  strings.CutPrefix at the minus sign.
-/
import Derived.Test.YtjbbapibpcgnhaaParse
namespace Go.Proofs.Ytjbbapibpcgnhaa
open Go.RowKit

theorem is_minus (s : ByteArray) : s.toList = [45] ↔ s.size = 1 ∧ bt s 0 = 45 := by
  rw [ByteArray.toList_eq]
  obtain ⟨⟨l⟩⟩ := s
  match l with
  | [] =>
    constructor
    · intro h; cases h
    · rintro ⟨h, _⟩
      cases h
  | [a] =>
    simp only [ByteArray.size, bt]
    constructor
    · intro h
      have : a = 45 := by simpa using h
      subst this
      exact ⟨rfl, rfl⟩
    · rintro ⟨_, h⟩
      have h2 : a.toNat = 45 := h
      have : a = 45 := UInt8.toNat_inj.1 h2
      rw [this]
  | a :: b :: l =>
    constructor
    · intro h; cases h
    · rintro ⟨h, _⟩
      have h2 : (a :: b :: l).length = 1 := h
      simp at h2
theorem minus_test (s : ByteArray) (h0 : 0 < s.size) : ((s.extract 0 1).toList == [45]) = decide (bt s 0 = 45) := by
  have e1 := size_ext (s := s) (a := 0) (b := 1) (by omega)
  have e2 := bt_ext (s := s) (a := 0) (b := 1) (k := 0) (by omega) (by omega)
  have := is_minus (s.extract 0 1)
  rw [e1, e2] at this
  by_cases h : bt s 0 = 45
  · rw [decide_eq_true h, beq_iff_eq]; exact this.2 ⟨rfl, h⟩
  · rw [decide_eq_false h, beq_eq_false_iff_ne]; exact fun k => h (this.1 k).2

set_option maxHeartbeats 1000000 in
theorem cut_yes (w : World) (s : ByteArray) (hs : s.size ≤ 9223372036854775807) (h0 : 0 < s.size) (h1 : bt s 0 = 45) :
    Calls Try.prog 58 #[.string s, .string ⟨#[45]⟩] w fun e w' => e = .returned (.tuple #[.string (s.extract 1 s.size), .bool true]) ∧ w = w' := by
  have ht := minus_test s h0
  rw [decide_eq_true h1] at ht
  clear h1
  have hh : Calls Try.prog 85 #[.string s, .string ⟨#[45]⟩] w fun e w' => e = .returned (.bool true) ∧ w = w' := by
    replace ht := hide ht
    go_enter Try.func85, Try.ntmps85
    go_wp2
    go_ret
    rw [ht.out]
    exact ⟨rfl, rfl⟩
  clear ht
  replace hh := hide hh
  have hc : Calls Try.prog 76 #[.string s, .string ⟨#[45]⟩] w fun e w' => e = .returned (.tuple #[.string (s.extract 1 s.size), .bool true]) ∧ w = w' := by
    go_enter Try.func76, Try.ntmps76
    go_wp2_with fail
    refine hh.out.mono ?_
    clear hh
    rintro e w' ⟨rfl, rfl⟩
    go_wp2
    go_ret2
    exact ⟨rfl, rfl⟩
  clear hh
  replace hc := hide hc
  go_enter Try.func58, Try.ntmps58
  go_wp2_with fail
  refine hc.out.mono ?_
  clear hc
  rintro e w' ⟨rfl, rfl⟩
  go_wp2
  go_ret2
  exact ⟨rfl, rfl⟩

set_option maxHeartbeats 1000000 in
theorem cut_no (w : World) (s : ByteArray) (hs : s.size ≤ 9223372036854775807) (h1 : s.size = 0 ∨ bt s 0 ≠ 45) :
    Calls Try.prog 58 #[.string s, .string ⟨#[45]⟩] w fun e w' => e = .returned (.tuple #[.string s, .bool false]) ∧ w = w' := by
  have hh : Calls Try.prog 85 #[.string s, .string ⟨#[45]⟩] w fun e w' => e = .returned (.bool false) ∧ w = w' := by
    by_cases h0 : 0 < s.size
    · have ht := minus_test s h0
      rw [decide_eq_false (by omega)] at ht
      replace ht := hide ht
      clear h1
      go_enter Try.func85, Try.ntmps85
      go_wp2
      go_ret
      rw [ht.out]
      exact ⟨rfl, rfl⟩
    · clear h1
      have h2 : s.size < 1 := by omega
      go_enter Try.func85, Try.ntmps85
      go_wp2
      go_ret
      exact ⟨rfl, rfl⟩
  replace hh := hide hh
  have hc : Calls Try.prog 76 #[.string s, .string ⟨#[45]⟩] w fun e w' => e = .returned (.tuple #[.string s, .bool false]) ∧ w = w' := by
    clear h1
    go_enter Try.func76, Try.ntmps76
    go_wp2_with fail
    refine hh.out.mono ?_
    clear hh
    rintro e w' ⟨rfl, rfl⟩
    go_wp2
    go_ret2
    exact ⟨rfl, rfl⟩
  clear hh h1
  replace hc := hide hc
  go_enter Try.func58, Try.ntmps58
  go_wp2_with fail
  refine hc.out.mono ?_
  clear hc
  rintro e w' ⟨rfl, rfl⟩
  go_wp2
  go_ret2
  exact ⟨rfl, rfl⟩

end Go.Proofs.Ytjbbapibpcgnhaa

/-
  The calls that only look at a number: trim.
-/
import Derived.Test.YtjbbapibpcgnhaaMem
namespace Go.Proofs.Ytjbbapibpcgnhaa
open Go.RowKit

theorem trim_len {w : World} {Bd : Nat} {A : Option Addr} {n c : Nat} {xs : List Nat} (h : Rd w Bd A n c xs) {k : Nat} (hk : k ≤ n) (h0 : ∀ j, k ≤ j → j < n → lm xs j = 0) (h1 : k = 0 ∨ lm xs (k - 1) ≠ 0) : (dig (val xs)).length = k := by
  rw [← take_dig h.limbs (n := k) (by rw [h.len]; exact hk) (fun j a b => h0 j a (by rw [← h.len]; exact b)) h1, List.length_take, h.len]
  omega

set_option maxHeartbeats 400000 in
theorem trim_any (w : World) (Bd : Nat) (A : Option Addr) (n c : Nat) (xs : List Nat) (h : Rd w Bd A n c xs) :
    Calls Try.prog 63 #[.slice A n c] w fun e w' => e = .returned (.slice A (dig (val xs)).length c) ∧ w = w' := by
  have hcap := h.cap
  have hbig := h.big
  have H := hide h
  clear h
  go_enter Try.func63, Try.ntmps63
  go_wp2
  go_loop [3] (fun i => ∃ k : Nat, k ≤ n ∧ i = .int .i64 k ∧ Hid (∀ j, k ≤ j → j < n → lm xs j = 0)) (fun i => (intOf i).toNat)
  case atStart => exact ⟨n, Nat.le_refl _, rfl, fun j a b => by omega⟩
  case round =>
    obtain ⟨k, hk, rfl, h0⟩ := hrel
    by_cases hpos : 0 < k
    · obtain ⟨ad, rfl, hb, hcell⟩ := H.out.at_ (k := k - 1) (by omega)
      by_cases hz : lm xs (k - 1) = 0
      · have hz' : ((lm xs (k - 1) : Int) == 0) = true := by rw [hz]; rfl
        have HZ := hide hz
        clear hz
        go_wp2
        go_round
        case rel =>
          refine ⟨k - 1, by omega, by go_num, hide fun j a b => ?_⟩
          by_cases hj : j = k - 1
          · subst hj; exact HZ.out
          · exact h0.out j (by omega) b
        case measure => simp [intOf]; omega
      · have hz' : ((lm xs (k - 1) : Int) == 0) = false := by simpa using hz
        have HZ := hide hz
        clear hz
        go_wp2
        go_ret
        rw [trim_len H.out hk h0.out (Or.inr HZ.out)]
        exact ⟨rfl, rfl⟩
    · have hk0 : k = 0 := by omega
      subst hk0
      go_wp2
      go_ret
      rw [trim_len H.out hk h0.out (Or.inl rfl)]
      exact ⟨rfl, rfl⟩

/-- the same, its length under a name -/
theorem trim_to (w : World) (Bd : Nat) (A : Option Addr) (n c : Nat) (xs : List Nat) (h : Rd w Bd A n c xs) (m : Nat) (hm : (dig (val xs)).length = m) :
    Calls Try.prog 63 #[.slice A n c] w fun e w' => e = .returned (.slice A m c) ∧ w = w' := by
  subst hm
  exact trim_any w Bd A n c xs h

/-- A number that is to be trimmed: its digits X, so many, lie at the same place. -/
theorem Rd.trimmed {w : World} {Bd : Nat} {A : Option Addr} {n c : Nat} {xs : List Nat} (h : Rd w Bd A n c xs) :
    ∃ X m, Hid ((dig (val xs)).length = m) ∧ Rd w Bd A m c X ∧ m ≤ n ∧ Hid (val X = val xs) ∧ Hid (X = dig (val xs)) :=
  ⟨_, _, hide rfl, h.trim, by rw [← h.len]; exact dig_len_val h.limbs, hide (val_dig _), hide rfl⟩

end Go.Proofs.Ytjbbapibpcgnhaa

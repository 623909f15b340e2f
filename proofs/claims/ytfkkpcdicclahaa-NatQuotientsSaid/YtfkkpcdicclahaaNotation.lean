/-
  What is proved: examboardlaw01.NatNotation answers true: a number of at most 400 digits is parsed from what is printed of it, and a string that is parsed is what is printed of the number.
  Conditions: the arguments hold together at most 1048576 values and letters (the statement '..UptoSaid').
-/
import Derived.Test.YtfkkpcdicclahaaAwake
import Derived.Test.YtfkkpcdicclahaaText2
import Derived.Test.YtfkkpcdicclahaaOpen
namespace Go.Proofs.Ytfkkpcdicclahaa
open Go.RowKit

/-- what Parse gives at any string: an error, or the number -/
def RetPar (w : World) (s : ByteArray) (e : Ending) (w' : World) : Prop :=
  ∃ (A : Option Addr) (m c : Nat) (k : Int), e = .returned (.tuple #[.slice A m c, .int .i64 k]) ∧ Below w.heap.size w w' ∧
    ((k = 0 ∧ IsNum s ∧ s.size ≤ 400 ∧ m = (dig (dvp s s.size)).length ∧ Rd w' w'.heap.size A m c (dig (dvp s s.size))) ∨ (k = 5 ∧ IsNum s ∧ 400 < s.size ∧ A = none ∧ m = 0 ∧ c = 0) ∨ (k = 2 ∧ ¬ IsNum s ∧ A = none ∧ m = 0 ∧ c = 0))
theorem parse_any (w : World) (s : ByteArray) (hs : s.size ≤ 9223372036854775807) : Calls Try.prog 36 #[.string s] w (RetPar w s) := by
  by_cases h : IsNum s
  · by_cases hl : s.size ≤ 400
    · refine (parse_ok w s h hl).mono ?_
      rintro e w' ⟨A, c, rfl, hR, hb⟩
      exact ⟨A, _, c, 0, rfl, hb, Or.inl ⟨rfl, h, hl, rfl, hR⟩⟩
    · refine (parse_long w s hs h (by omega)).mono ?_
      rintro e w' ⟨rfl, rfl⟩
      exact ⟨none, 0, 0, 5, rfl, Below.refl _ _, Or.inr (Or.inl ⟨rfl, h, by omega, rfl, rfl, rfl⟩)⟩
  · refine (parse_syntax w s hs h).mono ?_
    rintro e w' ⟨rfl, rfl⟩
    exact ⟨none, 0, 0, 2, rfl, Below.refl _ _, Or.inr (Or.inr ⟨rfl, h, rfl, rfl, rfl⟩)⟩
theorem ten_le_pw (k : Nat) : 10 ^ k ≤ pw k := by
  induction k with
  | zero => simp [pw]
  | succ k ih => rw [Nat.pow_succ, pw_succ]; omega
theorem dec_len {m n : Nat} (h : m < pw n) : (dec m).length ≤ 10 * n + 1 := by
  unfold dec
  split
  · simp
  · have := (ddig_len (10 * n) m).2 (by have := pw_le_ten n; omega)
    omega

set_option maxHeartbeats 4000000 in
theorem notation_walk (w : World) (A : Option Addr) (n c : Nat) (xs : List Nat) (s : ByteArray) (hx : Rd w w.heap.size A n c xs) (hn : n ≤ 1048576) (hs : s.size ≤ 9223372036854775807) :
    Calls Try.prog 10 #[.slice A n c, .string s] w fun e w' => e = .returned (.bool true) ∧ Below w.heap.size w w' := by
  have hm := val_lt hx.limbs
  rw [hx.len] at hm
  have H := hide hx
  obtain ⟨T, hT⟩ : ∃ T, T = strN (dec (val xs)) := ⟨_, rfl⟩
  have hTs : T.size ≤ 10485761 := by
    rw [hT, strN_size]
    have := dec_len hm
    omega
  have hTn : Hid (IsNum T) := hide (by rw [hT]; exact dec_isNum _)
  have hTv : Hid (dvp T T.size = val xs) := hide (by rw [hT]; exact dec_val _)
  replace hT := hide hT
  clear hx hm
  go_enter Try.func10, Try.ntmps10
  go_wp2_with fail
  refine (print_any w w.heap.size A n c xs H.out (Nat.le_refl _) (by omega)).mono ?_
  rintro e w1 ⟨rfl, hb1⟩
  rw [← hT.out]
  replace hb1 := hide hb1
  by_cases hl : T.size ≤ 400
  · go_wp2_with fail
    refine (parse_ok w1 T hTn.out hl).mono ?_
    rintro e w2 ⟨Ab, cb, rfl, hRb, hb2⟩
    rw [hTv.out] at hRb ⊢
    have hC : Hid (cmpN (val xs) (val (dig (val xs))) = 0) := hide (by rw [val_dig]; exact cmpN_eq rfl)
    have hb2' := hide (hb1.out.trans (hb2.mono hb1.out.size))
    have HA := hide ((H.out.below hb2'.out).more hb2'.out.size)
    replace hRb := hide hRb
    clear hb2
    go_wp2_with (go_at_call 16; ((with_reducible refine (cmp_any _ _ _ _ _ _ _ _ _ _ HA.out hRb.out).mono ?_); rw [hC.out]; rintro e w' ⟨rfl, q, rfl⟩))
    have hbq := hide (below_drewN hb2'.out q)
    generalize w2.drewN q = w3 at *
    refine (parse_any w3 s hs).mono ?_
    rintro e w4 ⟨As, ms, cs, k, rfl, hb4, hk⟩
    have hb4' := hide (hbq.out.trans (hb4.mono hbq.out.size))
    rcases hk with ⟨rfl, hi, hl4, rfl, hR4⟩ | hk
    · have hns := hide (num_dec hi)
      have hL4 : (dig (dvp s s.size)).length ≤ 17592186044416 := by
        have h1 := (dig_len_le (dvp s s.size) s.size).2 (Nat.lt_of_lt_of_le (dvp_lt (s := s) (k := s.size) hi.1) (ten_le_pw _))
        omega
      replace hR4 := hide hR4
      replace hi := hide hi
      clear hb4
      go_wp2_with fail
      refine (print_any w4 w4.heap.size _ _ _ _ hR4.out (Nat.le_refl _) hL4).mono ?_
      rintro e w5 ⟨rfl, hb5⟩
      rw [val_dig, hns.out]
      have hb5' := hide (hb4'.out.trans (hb5.mono hb4'.out.size))
      clear hb5
      go_wp2_with fail
      refine (awake_any w5).mono ?_
      rintro e w6 ⟨rfl, hb6⟩
      have hb6' := hide (hb5'.out.trans (hb6.mono hb5'.out.size))
      clear hb6
      go_wp2
      go_ret
      exact ⟨rfl, hb6'.out⟩
    · have hk0 : k ≠ 0 := by rcases hk with ⟨h, _⟩ | ⟨h, _⟩ <;> omega
      have hkb : (k != 0) = true := by simpa using hk0
      replace hk := hide hk
      replace hk0 := hide hk0
      clear hb4
      go_wp2_with fail
      refine (awake_any w4).mono ?_
      rintro e w6 ⟨rfl, hb6⟩
      have hb6' := hide (hb4'.out.trans (hb6.mono hb4'.out.size))
      clear hb6
      go_wp2
      go_ret
      exact ⟨rfl, hb6'.out⟩
  · go_wp2_with fail
    refine (parse_long w1 T (by omega) hTn.out (by omega)).mono ?_
    rintro e w3 ⟨rfl, rfl⟩
    go_wp2_with fail
    refine (parse_any w1 s hs).mono ?_
    rintro e w4 ⟨As, ms, cs, k, rfl, hb4, hk⟩
    have hb4' := hide (hb1.out.trans (hb4.mono hb1.out.size))
    rcases hk with ⟨rfl, hi, hl4, rfl, hR4⟩ | hk
    · have hns := hide (num_dec hi)
      have hL4 : (dig (dvp s s.size)).length ≤ 17592186044416 := by
        have h1 := (dig_len_le (dvp s s.size) s.size).2 (Nat.lt_of_lt_of_le (dvp_lt (s := s) (k := s.size) hi.1) (ten_le_pw _))
        omega
      replace hR4 := hide hR4
      replace hi := hide hi
      clear hb4
      go_wp2_with fail
      refine (print_any w4 w4.heap.size _ _ _ _ hR4.out (Nat.le_refl _) hL4).mono ?_
      rintro e w5 ⟨rfl, hb5⟩
      rw [val_dig, hns.out]
      have hb5' := hide (hb4'.out.trans (hb5.mono hb4'.out.size))
      clear hb5
      go_wp2_with fail
      refine (awake_any w5).mono ?_
      rintro e w6 ⟨rfl, hb6⟩
      have hb6' := hide (hb5'.out.trans (hb6.mono hb5'.out.size))
      clear hb6
      go_wp2
      go_ret
      exact ⟨rfl, hb6'.out⟩
    · have hk0 : k ≠ 0 := by rcases hk with ⟨h, _⟩ | ⟨h, _⟩ <;> omega
      have hkb : (k != 0) = true := by simpa using hk0
      replace hk := hide hk
      replace hk0 := hide hk0
      clear hb4
      go_wp2_with fail
      refine (awake_any w4).mono ?_
      rintro e w6 ⟨rfl, hb6⟩
      have hb6' := hide (hb4'.out.trans (hb6.mono hb4'.out.size))
      clear hb6
      go_wp2
      go_ret
      exact ⟨rfl, hb6'.out⟩

end Go.Proofs.Ytfkkpcdicclahaa

/-
  Pow.
-/
import Derived.Test.YtdihgmbldnekhaaNatSum
import Derived.Test.YtdihgmbldnekhaaNatBits
import Derived.Test.YtdihgmbldnekhaaLen64
namespace Go.Proofs.Ytdihgmbldnekhaa
open Go.RowKit

set_option maxHeartbeats 1000000 in
theorem len_any (w : World) (n : Nat) (hn : n < 18446744073709551616) : Calls Try.prog 110 #[.int .u64 (n : Int)] w fun e w' => e = .returned (.int .i64 (bl n : Int)) ∧ w = w' := by
  go_enter Try.func110, Try.ntmps110
  go_wp2_with (go_at_call 129; ((with_reducible refine (len64_any _ n hn).mono ?_); rintro e w' ⟨rfl, rfl⟩))
  go_ret
  exact ⟨rfl, rfl⟩

set_option maxHeartbeats 1000000 in
theorem pow_out (w : World) (A : Option Addr) (n c : Nat) (k : Int) (hk : k < 0 ∨ 512 < k) :
    Calls Try.prog 80 #[.slice A n c, .int .i64 k] w fun e w' => e = .returned (.tuple #[.slice none 0 0, .bool false]) ∧ w = w' := by
  rcases (show k < 0 ∨ (¬ k < 0 ∧ 512 < k) by omega) with h | ⟨h, h2⟩
  all_goals
    clear hk
    go_enter Try.func80, Try.ntmps80
    go_wp2
    go_ret2
    exact ⟨rfl, rfl⟩

theorem pow_len {x n : Nat} (h : x < pw n) (j : Nat) : (dig (x ^ j)).length ≤ j * n + 1 := by
  rw [dig_len_le, pw_succ]
  have : x ^ j ≤ pw (j * n) := by
    induction j with
    | zero => simp [pw]
    | succ j ih =>
      rw [Nat.pow_succ, Nat.add_mul, Nat.one_mul, pw_add]
      exact Nat.mul_le_mul ih (Nat.le_of_lt h)
  have := pw_pos (j * n)
  omega

theorem wraps_i64 (n : Int) (h0 : 0 ≤ n) (h1 : n < 2 ^ 63) : IntKind.i64.wrap n = n := by rw [IntKind.wrap_i64]; omega
theorem bit_test (k j : Nat) (hk : k ≤ 9223372036854775807) : bits BinOp.and IntKind.i64 ((k : Int) / 2 ^ j) 1 = ((k / 2 ^ j % 2 : Nat) : Int) := by
  have e : ((k : Int) / 2 ^ j) = ((k / 2 ^ j : Nat) : Int) := by simp
  have hl := Nat.div_le_self k (2 ^ j)
  rw [e]
  generalize k / 2 ^ j = q at *
  have := bits_mask .i64 63 (by decide) wraps_i64 1 (by decide) (q : Int) (by omega) (by omega)
  simpa using this

/-- the power so far -/
def PowRel (w : World) (x k e : Nat) (A : Option Addr) (c : Nat) (wr : World) : Prop :=
  Rd wr wr.heap.size A (dig (x ^ (k / 2 ^ e))).length c (dig (x ^ (k / 2 ^ e))) ∧ Below w.heap.size w wr

set_option maxHeartbeats 1000000 in
theorem pow_any (w : World) (Bd : Nat) (A : Option Addr) (n c : Nat) (xs : List Nat) (h : Rd w Bd A n c xs) (hB : Bd ≤ w.heap.size) (hn : n ≤ 68719476736) (k : Nat) (hk : k ≤ 512) :
    Calls Try.prog 80 #[.slice A n c, .int .i64 (k : Int)] w (RetNat2 w (val xs ^ k) true) := by
  have H := hide h
  have hx : Hid (val xs < pw n) := hide (by have := val_lt h.limbs; rw [h.len] at this; exact this)
  clear h
  have hb10 : bl k ≤ 10 := (bl_le 10 k).2 (by omega)
  go_enter Try.func80, Try.ntmps80
  go_wp2_with (first
    | (go_at_call 53; ((refine (of_any _ 1 (by omega)).mono ?_); rintro e w1 ⟨A1, c1, rfl, hR1, hb1⟩; replace hR1 := hide hR1; replace hb1 := hide hb1))
    | (go_at_call 110; ((refine (len_any _ k (by omega)).mono ?_); rintro e w' ⟨rfl, rfl⟩)))
  have hst := hide (show PowRel w (val xs) k (bl k) A1 c1 w1 from ⟨by
    have : k / 2 ^ bl k = 0 := Nat.div_eq_of_lt ((bl_le (bl k) k).1 (Nat.le_refl _))
    rw [this]; exact hR1.out, hb1.out⟩)
  go_loopw [6, 7] (fun p i wr => ∃ (z : Int) (A2 : Option Addr) (c2 m : Nat), -1 ≤ z ∧ z < bl k ∧ i = .int .i64 z ∧ p = .slice A2 m c2 ∧ Hid (m = (dig (val xs ^ (k / 2 ^ (z + 1).toNat))).length) ∧ PowRel w (val xs) k (z + 1).toNat A2 c2 wr) (fun _ i _ => (intOf i + 1).toNat)
  case atStart =>
    refine ⟨(bl k : Int) - 1, A1, c1, (dig 1).length, by omega, by omega, rfl, rfl, ?_, ?_⟩
    · have : k / 2 ^ bl k = 0 := Nat.div_eq_of_lt ((bl_le (bl k) k).1 (Nat.le_refl _))
      rw [show ((bl k : Int) - 1 + 1).toNat = bl k by omega, this]
      exact hide rfl
    · rw [show ((bl k : Int) - 1 + 1).toNat = bl k by omega]
      exact hst.out
  case round =>
    obtain ⟨z, A2, c2, m, hz1, hz2, rfl, rfl, hm, hR2, hb2⟩ := hrel
    by_cases hpos : 0 ≤ z
    · obtain ⟨j, rfl⟩ : ∃ j : Nat, z = j := ⟨z.toNat, by omega⟩
      rw [show ((j : Int) + 1).toNat = j + 1 by omega] at hm hR2
      rw [← hm.out] at hR2
      replace hR2 := hide hR2
      replace hb2 := hide hb2
      obtain ⟨E, hE⟩ : ∃ E, E = k / 2 ^ (j + 1) := ⟨_, rfl⟩
      rw [← hE] at hm hR2
      have hE2 : E ≤ 256 := by
        rw [hE, Nat.pow_succ, Nat.mul_comm, ← Nat.div_div_eq_div_mul]
        have := Nat.div_le_self (k / 2) (2 ^ j)
        omega
      have hml : m ≤ 17592186044417 := by
        have h1 := pow_len hx.out E
        rw [← hm.out] at h1
        have h2 : E * n ≤ 256 * 68719476736 := Nat.mul_le_mul hE2 hn
        omega
      have hEn : Hid ((dig (val xs ^ (E + E))).length ≤ 35184372088833) := hide (by
        have h1 := pow_len hx.out (E + E)
        have h2 : (E + E) * n ≤ 512 * 68719476736 := Nat.mul_le_mul (by omega) hn
        omega)
      replace hE := hide hE
      go_wp2_with fail
      refine (mul_any wr wr.heap.size A2 A2 m c2 m c2 _ _ hR2.out hR2.out (Nat.le_refl _) (by omega)).mono ?_
      rintro e w2 ⟨A3, c3, rfl, hR3, hb3⟩
      rw [val_dig, ← Nat.pow_add] at hR3 ⊢
      obtain ⟨m3, hm3⟩ : ∃ m3, m3 = (dig (val xs ^ (E + E))).length := ⟨_, rfl⟩
      rw [← hm3] at hR3 ⊢
      have hml3 : m3 ≤ 35184372088833 := by rw [hm3]; exact hEn.out
      have hb4 := hide (hb2.out.trans (hb3.mono hb2.out.size))
      have hR1 := hide (H.out.below (hb4.out.mono hB))
      have hszB : Bd ≤ w2.heap.size := Nat.le_trans hB hb4.out.size
      replace hR3 := hide hR3
      replace hm3 := hide hm3
      clear hb3
      obtain ⟨b, hb⟩ : ∃ b, b = k / 2 ^ j % 2 := ⟨_, rfl⟩
      have hand := bit_test k j (by omega)
      rw [← hb] at hand
      have hkj : Hid (k / 2 ^ j = E + E + b) := hide (by
        have h1 := hE.out
        rw [Nat.pow_succ, ← Nat.div_div_eq_div_mul] at h1
        omega)
      have hb01 : b = 0 ∨ b = 1 := by omega
      clear hb
      rcases hb01 with hb01 | hb01
      · have ht : (bits BinOp.and IntKind.i64 ((k : Int) / 2 ^ j) 1 == 1) = false := by rw [hand, hb01]; rfl
        rw [hb01] at hkj
        clear hand hb01
        go_wp2
        go_roundw
        case rel =>
          refine ⟨(j : Int) - 1, A3, c3, m3, by omega, by omega, rfl, rfl, ?_, ?_⟩
          · rw [show ((j : Int) - 1 + 1).toNat = j by omega, hkj.out]
            exact hide hm3.out
          · rw [show ((j : Int) - 1 + 1).toNat = j by omega, PowRel, hkj.out]
            refine ⟨?_, hb4.out⟩
            rw [Nat.add_zero, ← hm3.out]
            exact hR3.out
        case measure => simp [intOf]
      · have ht : (bits BinOp.and IntKind.i64 ((k : Int) / 2 ^ j) 1 == 1) = true := by rw [hand, hb01]; rfl
        rw [hb01] at hkj
        clear hand hb01
        go_wp2_with fail
        refine (mul_any w2 w2.heap.size A3 A m3 c3 n c _ _ hR3.out (hR1.out.more hszB) (Nat.le_refl _) (by omega)).mono ?_
        rintro e w3 ⟨A5, c5, rfl, hR5, hb5⟩
        rw [val_dig, ← Nat.pow_succ] at hR5 ⊢
        have hb6 := hide (hb4.out.trans (hb5.mono hb4.out.size))
        obtain ⟨m5, hm5⟩ : ∃ m5, m5 = (dig (val xs ^ (E + E + 1))).length := ⟨_, rfl⟩
        rw [← hm5] at hR5 ⊢
        replace hR5 := hide hR5
        replace hm5 := hide hm5
        clear hb5
        go_wp2
        go_roundw
        case rel =>
          refine ⟨(j : Int) - 1, A5, c5, m5, by omega, by omega, rfl, rfl, ?_, ?_⟩
          · rw [show ((j : Int) - 1 + 1).toNat = j by omega, hkj.out]
            exact hide hm5.out
          · rw [show ((j : Int) - 1 + 1).toNat = j by omega, PowRel, hkj.out]
            refine ⟨?_, hb6.out⟩
            rw [← hm5.out]
            exact hR5.out
        case measure => simp [intOf]
    · have hz0 : z = -1 := by omega
      subst hz0
      have hx1 : Hid (val xs ^ (k / 2 ^ (-1 + 1 : Int).toNat) = val xs ^ k) := hide (by simp)
      rw [hx1.out] at hm hR2
      replace hR2 := hide hR2
      replace hb2 := hide hb2
      go_wp2
      go_ret2
      rw [hm.out]
      exact ⟨_, _, rfl, hR2.out, hb2.out⟩

end Go.Proofs.Ytdihgmbldnekhaa

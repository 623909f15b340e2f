/-
  DrawsReplay.
-/
import Derived.Test.YtdihgmbldnekhaaDrw10
import Derived.Test.YtdihgmbldnekhaaDrw3
import Derived.Test.YtdihgmbldnekhaaDrw9
namespace Go.Proofs.Ytdihgmbldnekhaa
open Go.RowKit

theorem wrap_i64n {n : Nat} (h : n < 9223372036854775808) : IntKind.i64.wrap (n : Int) = (n : Int) := by rw [IntKind.wrap_i64]; omega
theorem sk_nat {k : Nat} (h : k ≤ 9999999) : skN (k : Int) = k := by unfold skN; omega
theorem skip_e {w : World} {s k t : Nat} {z : Int} (hs : s < 18446744073709551616) (hk : k ≤ 9999999) (hz : z = (k : Int)) (h : dit k s = t) : Calls Try.prog 25 #[.int .u64 (s : Int), .int .i64 z] w (RetB w (.int .u64 (t : Int))) := by
  subst hz
  have e := skip_p (w := w) hs (n := (k : Int)) ⟨by omega, by omega⟩
  rw [sk_nat hk, h] at e
  exact e
theorem skip_0 {w : World} {s : Nat} (hs : s < 18446744073709551616) : Calls Try.prog 25 #[.int .u64 (s : Int), .int .i64 0] w (RetB w (.int .u64 (s : Int))) := skip_e hs (k := 0) (by omega) rfl rfl
set_option maxHeartbeats 16000000 in
set_option maxRecDepth 100000 in
theorem replay_walk (hA : ∀ w : World, Calls Try.prog 27 #[] w (RetB w (.bool true))) {w : World} {a m n : Nat} (ha : a < 18446744073709551616) (hm : m < 256) (hn : n < 256) : Calls Try.prog 7 #[.int .u64 (a : Int), .int .u8 (m : Int), .int .u8 (n : Int)] w (RetB w (.bool true)) := by
  have B := hide (Below.refl w.heap.size w)
  have wm := wrap_i64n (n := m) (by omega)
  have wn := wrap_i64n (n := n) (by omega)
  have hnew := hide (fun w => new_p (w := w) ha)
  obtain ⟨s0, hs0⟩ : ∃ s, s = dnx a := ⟨_, rfl⟩
  have hl0 := dnx_lt a
  rw [← hs0] at hnew hl0
  clear hs0
  go_enter Try.func7, Try.ntmps7
  go_wp2_with fail
  refine (hnew.out _).mono ?_
  rintro e w1 ⟨rfl, hb⟩
  replace B := hide (Below.then_ B.out hb)
  clear hb
  go_wp2_with fail
  refine (hnew.out _).mono ?_
  rintro e w2 ⟨rfl, hb⟩
  replace B := hide (Below.then_ B.out hb)
  clear hb
  go_wp2
  go_loopw [7, 8, 9] (fun dv ev iv wr => ∃ (i s : Nat), i ≤ m ∧ s < 18446744073709551616 ∧ dv = .int .u64 (s : Int) ∧ ev = .int .u64 (s : Int) ∧ iv = .int .i64 (i : Int) ∧ Hid (dit i s0 = s) ∧ Hid (Below w.heap.size w wr)) (fun _ _ iv _ => m - (intOf iv).toNat)
  case atStart => exact ⟨0, s0, Nat.zero_le _, hl0, by go_num, by go_num, by go_num, hide rfl, B⟩
  case round =>
    obtain ⟨i, s, hi, hs, rfl, rfl, rfl, hD, B⟩ := hrel
    by_cases hil : i < m
    · have hi64 : (i : Int) < (m : Int) := by omega
      have hnx := hide (fun w => next_p (w := w) hs)
      obtain ⟨s2, hs2⟩ : ∃ s2, s2 = dnx s := ⟨_, rfl⟩
      obtain ⟨u, hu⟩ : ∃ u, u = dup s := ⟨_, rfl⟩
      have hl2 := dnx_lt s
      have hul := dup_lt s
      have hD2 := hide (show dit (i + 1) s0 = s2 by rw [dit_snoc, hD.out, hs2])
      rw [← hs2] at hnx hl2
      rw [← hu] at hnx hul
      clear hs2 hu hD
      go_wp2_with fail
      refine (hnx.out _).mono ?_
      rintro e w21 ⟨rfl, hb⟩
      replace B := hide (Below.then_ B.out hb)
      clear hb
      go_wp2_with fail
      refine (hnx.out _).mono ?_
      rintro e w22 ⟨rfl, hb⟩
      replace B := hide (Below.then_ B.out hb)
      clear hb
      go_wp2
      go_roundw
      case rel => exact ⟨i + 1, s2, by omega, hl2, by go_num, by go_num, by go_num, hD2, B⟩
      case measure => simp [intOf]; omega
    · obtain rfl : i = m := by omega
      have hi64 : decide ((i : Int) < (i : Int)) = false := by simp
      have hin : (i : Int) + (n : Int) = ((i + n : Nat) : Int) := by omega
      obtain ⟨t1, ht1⟩ : ∃ t, dit n s = t := ⟨_, rfl⟩
      have ht1h := hide ht1
      have hsum := hide (show dit (i + n) s0 = t1 by rw [dit_add, hD.out, ht1])
      obtain ⟨mn, hmn⟩ : ∃ mn, mn = i + n := ⟨_, rfl⟩
      rw [← hmn] at hin hsum
      have wmn : IntKind.i64.wrap (mn : Int) = (mn : Int) := wrap_i64n (by omega)
      have hmnl : mn ≤ 9999999 := by omega
      have hsu := su_yes (s := s) (m := n) (by omega)
      have hpm := hide (show PmI n (suL s (n : Int)) by
        rw [hsu.1]
        rcases Nat.eq_zero_or_pos n with rfl | h
        · exact pm_id 0
        · exact pm_sh (by omega) _ _ _ (pm_id n) (by omega))
      have hse := hide hsu.2
      obtain ⟨xs, hxs⟩ : ∃ xs, xs = suL s (n : Int) := ⟨_, rfl⟩
      obtain ⟨e1, he1⟩ : ∃ e1, e1 = suS s (n : Int) := ⟨_, rfl⟩
      have hsh := hide (fun w => shuffle_p (w := w) hs (n := (n : Int)) ⟨by omega, by omega⟩)
      rw [← hxs] at hpm hsh
      rw [← he1] at hse hsh
      clear hmn ht1 hsu hxs he1 hil hi
      go_wp2_with fail
      refine (hnew.out _).mono ?_
      rintro e w31 ⟨rfl, hb⟩
      replace B := hide (Below.then_ B.out hb)
      clear hb
      go_wp2_with fail
      refine (skip_e hl0 (by omega) rfl hD.out).mono ?_
      rintro e w32 ⟨rfl, hb⟩
      replace B := hide (Below.then_ B.out hb)
      clear hb
      go_wp2_with fail
      refine (skip_e hs (by omega) rfl ht1h.out).mono ?_
      rintro e w33 ⟨rfl, hb⟩
      replace B := hide (Below.then_ B.out hb)
      clear hb
      go_wp2_with fail
      refine (hnew.out _).mono ?_
      rintro e w34 ⟨rfl, hb⟩
      replace B := hide (Below.then_ B.out hb)
      clear hb
      go_wp2_with fail
      refine (skip_e hl0 hmnl rfl hsum.out).mono ?_
      rintro e w35 ⟨rfl, hb⟩
      replace B := hide (Below.then_ B.out hb)
      clear hb
      go_wp2_with fail
      refine (skip_0 hs).mono ?_
      rintro e w36 ⟨rfl, hb⟩
      replace B := hide (Below.then_ B.out hb)
      clear hb
      go_wp2_with fail
      refine (hsh.out _).mono ?_
      rintro e w37 ⟨A_l, n_l, c_l, rfl, H_l, hb⟩
      replace B := hide (Below.then_ B.out hb)
      clear hb
      replace H_l := hide H_l
      obtain rfl : n_l = n := by rw [← H_l.out.len, hpm.out.1]
      have hcl := H_l.out.cap
      have hbl := H_l.out.big
      have hccl := H_l.out.cbig
      go_wp2_with fail
      refine (permutation_p H_l.out (Nat.le_refl _) hpm.out (by omega)).mono ?_
      rintro e w38 ⟨rfl, hb⟩
      replace H_l := hide (H_l.out.then_ hb)
      replace B := hide (Below.then_ B.out hb)
      clear hb
      rcases Nat.eq_zero_or_pos n_l with rfl | hpos
      · obtain rfl : e1 = s := by rw [hse.out]; rfl
        go_wp2_with fail
        refine (hA _).mono ?_
        rintro e w61 ⟨rfl, hb⟩
        replace B := hide (Below.then_ B.out hb)
        clear hb
        go_wp2
        go_ret
        exact ⟨rfl, B.out⟩
      · have q1 : ((n_l : Int) == 0) = false := by simp; omega
        have q2 : (n_l : Int) - 1 = ((n_l - 1 : Nat) : Int) := by omega
        have hse2 := hide hse.out.symm
        obtain ⟨n1, hn1⟩ : ∃ n1, n1 = n_l - 1 := ⟨_, rfl⟩
        rw [← hn1] at q2 hse2
        have wn1 : IntKind.i64.wrap (n1 : Int) = (n1 : Int) := wrap_i64n (by omega)
        have hn1l : n1 ≤ 9999999 := by omega
        have q3 : (0 : Int) < (n_l : Int) := by omega
        clear hn1 hse
        go_wp2_with fail
        refine (skip_e hs hn1l rfl hse2.out).mono ?_
        rintro e w61 ⟨rfl, hb⟩
        replace B := hide (Below.then_ B.out hb)
        clear hb
        go_wp2_with fail
        refine (hA _).mono ?_
        rintro e w62 ⟨rfl, hb⟩
        replace B := hide (Below.then_ B.out hb)
        clear hb
        go_wp2
        go_ret
        exact ⟨rfl, B.out⟩
end Go.Proofs.Ytdihgmbldnekhaa

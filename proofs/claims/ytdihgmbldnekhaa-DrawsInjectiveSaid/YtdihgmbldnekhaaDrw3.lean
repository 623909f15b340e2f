/-
  Draws: Skip of the program and of the reference.
-/
import Derived.Test.YtdihgmbldnekhaaDrw2
namespace Go.Proofs.Ytdihgmbldnekhaa
open Go.RowKit

theorem wrap_aff (f c s : Nat) : IntKind.u64.wrap (((s * f % 18446744073709551616 : Nat) : Int) + (c : Int)) = (aff f c s : Int) := by
  rw [wrapU (a := s * f % 18446744073709551616 + c) (by rw [Int.natCast_add]), Nat.mod_add_mod, ← aff]
theorem aff_lt (f c s : Nat) : aff f c s < 18446744073709551616 := by unfold aff; omega
set_option maxHeartbeats 4000000 in
theorem skip_p {w : World} {d : Nat} {n : Int} (hd : d < 18446744073709551616) (hn : I64 n) : Calls Try.prog 25 #[.int .u64 (d : Int), .int .i64 n] w (RetB w (.int .u64 (dit (skN n) d : Int))) := by
  obtain ⟨hn0, hn1⟩ := hn
  obtain ⟨r0, hr0⟩ : ∃ r : Nat, skN n = r := ⟨_, rfl⟩
  obtain ⟨t, ht⟩ : ∃ t, t = dit (skN n) d := ⟨_, rfl⟩
  have hT := hide (show dap 6364136223846793005 1442695040888963407 r0 d = t by rw [dap_dit, ← hr0]; exact ht.symm)
  have hr1 : r0 ≤ 9999999 := by rw [← hr0, skN]; omega
  have hmm : min (max n 0) 9999999 = (r0 : Int) := by rw [← hr0, skN]; omega
  rw [← ht]
  clear ht hr0
  have B := hide (Below.refl w.heap.size w)
  go_enter Try.func25, Try.ntmps25
  go_wp2
  go_loopw [0, 5, 6, 7] (fun dv fv cv rv wr => ∃ s f c r : Nat, s < 18446744073709551616 ∧ f < 18446744073709551616 ∧ c < 18446744073709551616 ∧ r ≤ 9999999 ∧ dv = .int .u64 s ∧ fv = .int .u64 f ∧ cv = .int .u64 c ∧ rv = .int .i64 r ∧ Hid (dap f c r s = t) ∧ Hid (Below w.heap.size w wr)) (fun _ _ _ rv _ => (intOf rv).toNat)
  case atStart => exact ⟨d, 6364136223846793005, 1442695040888963407, r0, hd, by decide, by decide, hr1, by go_num, by go_num, by go_num, by go_num, hT, B⟩
  case round =>
    obtain ⟨s, f, c, r, hs, hf, hc, hr, rfl, rfl, rfl, rfl, hD, B⟩ := hrel
    by_cases hr0 : r = 0
    · subst hr0
      have e := hD.out
      rw [dap] at e
      subst e
      go_wp2
      go_ret
      exact ⟨rfl, B.out⟩
    · have hrp : (0 : Int) < (r : Int) := by omega
      have hr2 : (r : Int).tmod 2 = ((r % 2 : Nat) : Int) := (Int.ofNat_tmod r 2).symm
      obtain ⟨q, hq⟩ : ∃ q, q = r / 2 := ⟨_, rfl⟩
      have hr3 : (r : Int).tdiv 2 = ((r / 2 : Nat) : Int) := (Int.ofNat_tdiv r 2).symm
      have hql : q < r := by omega
      have hq3 := hq
      by_cases hodd : r % 2 = 1
      · rw [← hq] at hr3
        obtain ⟨f2, hf2⟩ : ∃ x, x = f * f % 18446744073709551616 := ⟨_, rfl⟩
        obtain ⟨m2, hm2⟩ : ∃ x, x = c * f % 18446744073709551616 := ⟨_, rfl⟩
        obtain ⟨c2, hc2⟩ : ∃ x, x = (c * f % 18446744073709551616 + c) % 18446744073709551616 := ⟨_, rfl⟩
        have lf2 : f2 < 18446744073709551616 := by rw [hf2]; exact Nat.mod_lt _ (by decide)
        have lc2 : c2 < 18446744073709551616 := by rw [hc2]; exact Nat.mod_lt _ (by decide)
        have e1 : IntKind.u64.wrap ((f : Int) * (f : Int)) = (f2 : Int) := by rw [hf2]; exact wrapU (by simp)
        have e2 : IntKind.u64.wrap ((c : Int) * (f : Int)) = (m2 : Int) := by rw [hm2]; exact wrapU (by simp)
        have e3 : IntKind.u64.wrap ((m2 : Int) + (c : Int)) = (c2 : Int) := by rw [hc2, hm2]; exact wrapU (by simp)
        have hD2 := hide ((dap_odd f c s r hodd).symm.trans hD.out)
        obtain ⟨p2, hp2⟩ : ∃ x, x = s * f % 18446744073709551616 := ⟨_, rfl⟩
        obtain ⟨s2, hs2⟩ : ∃ x, x = aff f c s := ⟨_, rfl⟩
        have ls2 : s2 < 18446744073709551616 := by rw [hs2]; exact aff_lt _ _ _
        have e4 : IntKind.u64.wrap ((s : Int) * (f : Int)) = (p2 : Int) := by rw [hp2]; exact wrapU (by simp)
        have e5 : IntKind.u64.wrap ((p2 : Int) + (c : Int)) = (s2 : Int) := by rw [hp2, hs2]; exact wrap_aff f c s
        have t1 : (((r % 2 : Nat) : Int) == 1) = true := by rw [hodd]; rfl
        rw [← hf2, ← hc2, ← hs2, ← hq] at hD2
        clear hf2 hm2 hc2 hp2 hs2 hq
        obtain ⟨m, hm⟩ : ∃ m, m = r % 2 := ⟨_, rfl⟩
        rw [← hm] at t1 hr2
        clear hm hodd hD
        go_wp2
        go_roundw
        case rel => exact ⟨s2, f2, c2, q, by omega, by omega, by omega, by omega, by go_num, by go_num, by go_num, by go_num, hD2, B⟩
        case measure => simp [intOf]; omega
      · rw [← hq] at hr3
        obtain ⟨f2, hf2⟩ : ∃ x, x = f * f % 18446744073709551616 := ⟨_, rfl⟩
        obtain ⟨m2, hm2⟩ : ∃ x, x = c * f % 18446744073709551616 := ⟨_, rfl⟩
        obtain ⟨c2, hc2⟩ : ∃ x, x = (c * f % 18446744073709551616 + c) % 18446744073709551616 := ⟨_, rfl⟩
        have lf2 : f2 < 18446744073709551616 := by rw [hf2]; exact Nat.mod_lt _ (by decide)
        have lc2 : c2 < 18446744073709551616 := by rw [hc2]; exact Nat.mod_lt _ (by decide)
        have e1 : IntKind.u64.wrap ((f : Int) * (f : Int)) = (f2 : Int) := by rw [hf2]; exact wrapU (by simp)
        have e2 : IntKind.u64.wrap ((c : Int) * (f : Int)) = (m2 : Int) := by rw [hm2]; exact wrapU (by simp)
        have e3 : IntKind.u64.wrap ((m2 : Int) + (c : Int)) = (c2 : Int) := by rw [hc2, hm2]; exact wrapU (by simp)
        have hD2 := hide ((dap_even f c s r hodd).symm.trans hD.out)
        have t1 : (((r % 2 : Nat) : Int) == 1) = false := by simp; omega
        rw [← hf2, ← hc2, ← hq] at hD2
        clear hf2 hm2 hc2 hq
        obtain ⟨m, hm⟩ : ∃ m, m = r % 2 := ⟨_, rfl⟩
        rw [← hm] at t1 hr2
        clear hm hodd hD
        go_wp2
        go_roundw
        case rel => exact ⟨s, f2, c2, q, by omega, by omega, by omega, by omega, by go_num, by go_num, by go_num, by go_num, hD2, B⟩
        case measure => simp [intOf]; omega
set_option maxHeartbeats 4000000 in
theorem rskip_p {w : World} {d : Nat} {n : Int} (hd : d < 18446744073709551616) (hn : I64 n) : Calls Try.prog 26 #[.int .u64 (d : Int), .int .i64 n] w (RetB w (.int .u64 (dit (skN n) d : Int))) := by
  obtain ⟨hn0, hn1⟩ := hn
  have B := hide (Below.refl w.heap.size w)
  obtain ⟨t, ht⟩ : ∃ t, t = dit (skN n) d := ⟨_, rfl⟩
  rw [← ht]
  obtain ⟨n2, hn2⟩ : ∃ n2 : Int, n2 = min n 9999999 := ⟨_, rfl⟩
  have h2 : n2 ≤ 9999999 := by omega
  have h20 : -9223372036854775808 ≤ n2 := by omega
  have hs2 : skN n = (max n2 0).toNat := by rw [skN, hn2]; omega
  rw [hs2] at ht
  replace ht := hide ht
  by_cases hbig : 9999999 < n
  · have d0 : decide ((9999999 : Int) < n) = true := decide_eq_true hbig
    obtain rfl : n2 = 9999999 := by omega
    clear hn2 hs2 hbig
    go_enter Try.func26, Try.ntmps26
    go_wp2
    go_loopw [5, 6] (fun sv iv wr => ∃ s i : Nat, s < 18446744073709551616 ∧ i ≤ 9999999 ∧ sv = .int .u64 s ∧ iv = .int .i64 i ∧ Hid (dit ((max (9999999 : Int) 0).toNat - i) s = t) ∧ Hid (Below w.heap.size w wr)) (fun _ iv _ => 9999999 - (intOf iv).toNat)
    case atStart => exact ⟨d, 0, hd, by omega, by go_num, by go_num, hide ht.out.symm, B⟩
    case round =>
      obtain ⟨s, i, hs, hi, rfl, rfl, hD, B⟩ := hrel
      by_cases hil : (i : Int) < 9999999
      · have d1 : decide ((i : Int) < 9999999) = true := decide_eq_true hil
        have hD2 := hide (show dit ((max (9999999 : Int) 0).toNat - (i + 1)) (dnx s) = t by
          rw [← hD.out, show (max (9999999 : Int) 0).toNat - i = ((max (9999999 : Int) 0).toNat - (i + 1)) + 1 by omega, dit])
        have hl2 := dnx_lt s
        clear hD
        go_wp2_with fail
        refine (rstep_p hs).mono ?_
        rintro e w1 ⟨rfl, hb⟩
        replace B := hide (Below.then_ B.out hb)
        clear hb
        go_wp2
        go_roundw
        case rel => exact ⟨dnx s, i + 1, hl2, by omega, by go_num, by go_num, hD2, B⟩
        case measure => simp [intOf]; omega
      · have d1 : decide ((i : Int) < 9999999) = false := decide_eq_false hil
        have e := hD.out
        rw [show (max (9999999 : Int) 0).toNat - i = 0 by omega, dit] at e
        subst e
        go_wp2
        go_ret
        exact ⟨rfl, B.out⟩
  · have d0 : decide ((9999999 : Int) < n) = false := decide_eq_false hbig
    obtain rfl : n2 = n := by omega
    clear hn2 hs2 hbig
    go_enter Try.func26, Try.ntmps26
    go_wp2
    go_loopw [5, 6] (fun sv iv wr => ∃ s i : Nat, s < 18446744073709551616 ∧ i ≤ 9999999 ∧ sv = .int .u64 s ∧ iv = .int .i64 i ∧ Hid (dit ((max n2 0).toNat - i) s = t) ∧ Hid (Below w.heap.size w wr)) (fun _ iv _ => 9999999 - (intOf iv).toNat)
    case atStart => exact ⟨d, 0, hd, by omega, by go_num, by go_num, hide ht.out.symm, B⟩
    case round =>
      obtain ⟨s, i, hs, hi, rfl, rfl, hD, B⟩ := hrel
      by_cases hil : (i : Int) < n2
      · have d1 : decide ((i : Int) < n2) = true := decide_eq_true hil
        have hD2 := hide (show dit ((max n2 0).toNat - (i + 1)) (dnx s) = t by
          rw [← hD.out, show (max n2 0).toNat - i = ((max n2 0).toNat - (i + 1)) + 1 by omega, dit])
        have hl2 := dnx_lt s
        clear hD
        go_wp2_with fail
        refine (rstep_p hs).mono ?_
        rintro e w1 ⟨rfl, hb⟩
        replace B := hide (Below.then_ B.out hb)
        clear hb
        go_wp2
        go_roundw
        case rel => exact ⟨dnx s, i + 1, hl2, by omega, by go_num, by go_num, hD2, B⟩
        case measure => simp [intOf]; omega
      · have d1 : decide ((i : Int) < n2) = false := decide_eq_false hil
        have e := hD.out
        rw [show (max n2 0).toNat - i = 0 by omega, dit] at e
        subst e
        go_wp2
        go_ret
        exact ⟨rfl, B.out⟩
end Go.Proofs.Ytdihgmbldnekhaa

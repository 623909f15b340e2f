/-
  Draws: Shuffle of the reference.
-/
import Derived.Test.YtdihgmbldnekhaaDrw5
namespace Go.Proofs.Ytdihgmbldnekhaa
open Go.RowKit Go.Builtin

set_option maxHeartbeats 16000000 in
set_option maxRecDepth 100000 in
theorem rshuffle_p {w : World} {d : Nat} {n : Int} (hd : d < 18446744073709551616) (hn : I64 n) : Calls Try.prog 33 #[.int .u64 (d : Int), .int .i64 n] w (RetLS w (suL d n) (suS d n)) := by
  obtain ⟨hn0, hn1⟩ := hn
  by_cases h1 : n < 0
  · have d1 : decide (n < 0) = true := decide_eq_true h1
    have h0 : shfB n = false := by simp only [shfB, decide_eq_false_iff_not]; omega
    clear h1
    have B := hide (Below.refl w.heap.size w)
    rw [(su_no h0).1, (su_no h0).2]
    clear h0
    go_enter Try.func33, Try.ntmps33
    go_wp2
    go_ret2
    exact ⟨_, _, _, rfl, RdI.empty _ _ _ (by omega), B.out⟩
  by_cases h2 : 1024 < n
  · have d1 : decide (n < 0) = false := decide_eq_false h1
    have d2 : decide ((1024 : Int) < n) = true := decide_eq_true h2
    have h0 : shfB n = false := by simp only [shfB, decide_eq_false_iff_not]; omega
    clear h1 h2
    have B := hide (Below.refl w.heap.size w)
    rw [(su_no h0).1, (su_no h0).2]
    clear h0
    go_enter Try.func33, Try.ntmps33
    go_wp2
    go_ret2
    exact ⟨_, _, _, rfl, RdI.empty _ _ _ (by omega), B.out⟩
  obtain ⟨m, rfl⟩ : ∃ m : Nat, n = (m : Int) := ⟨n.toNat, by omega⟩
  have d1 : decide ((m : Int) < 0) = false := decide_eq_false h1
  have d2 : decide ((1024 : Int) < (m : Int)) = false := decide_eq_false h2
  have hm : m ≤ 1024 := by omega
  have hsu := su_yes (s := d) hm
  obtain ⟨T, hT⟩ : ∃ T, T = suL d (m : Int) := ⟨_, rfl⟩
  obtain ⟨S, hS⟩ : ∃ S, S = suS d (m : Int) := ⟨_, rfl⟩
  rw [← hT, ← hS] at hsu
  rw [← hT, ← hS]
  have hTe := hide hsu.1.symm
  have hSe := hide hsu.2.symm
  clear hT hS hsu h1 h2
  have B := hide (Below.refl w.heap.size w)
  go_enter Try.func33, Try.ntmps33
  go_wp2
  go_loopw [6, 7] (fun ov iv wr => ∃ (i : Nat), i ≤ m ∧ iv = .int .i64 i ∧ Hid (OwnI wr w.heap.size ov (idI i)) ∧ Hid (Below w.heap.size w wr)) (fun _ iv _ => m - (intOf iv).toNat)
  case atStart => exact ⟨0, Nat.zero_le _, by go_num, hide (OwnI.nil _ _), B⟩
  case round =>
    obtain ⟨i, hi, rfl, hO, B⟩ := hrel
    obtain ⟨A, c, rfl, hc1, hc2⟩ := hO.out.form
    rw [id_length] at hO hc1
    rw [id_length]
    by_cases hil : i < m
    · have hi64 : (i : Int) < (m : Int) := by omega
      go_wp2_with (at_builtin; refine wpList_append_int rfl (.tmp 24) (.tmp 26) rfl w.heap.size _ _ rfl (hO.out.alloc _) ⟨wr.heap.size, 0, none⟩ 1 (i : Int) rfl (by simp) (I64.of (by omega)) (by rw [id_length]; omega) (by have := B.out.size; simp; omega) ?_; intro v' w6 hO5 hg5)
      have B3 := hide (hO.out.pushed hg5 B.out B.out.size)
      rw [← id_snoc] at hO5
      replace hO5 := hide hO5
      clear hg5 hO
      go_wp2
      go_roundw
      case rel => exact ⟨i + 1, by omega, by go_num, hO5, B3⟩
      case measure => simp [intOf]; omega
    · obtain rfl : i = m := by omega
      have d3 : decide ((i : Int) < (i : Int)) = false := by simp
      go_wp2
      rcases Nat.eq_zero_or_pos i with rfl | hpos
      · have e1 := hTe.out
        have e2 := hSe.out
        rw [Nat.zero_sub, shL] at e1
        rw [Nat.zero_sub, dit] at e2
        subst e1 e2
        obtain ⟨A2, n2, c2, e3, hR⟩ := hO.out.rd (by decide)
        simp only [Value.slice.injEq] at e3
        obtain ⟨rfl, rfl, rfl⟩ := e3
        replace hR := hide hR
        clear hO hTe hSe
        go_wp2
        go_loopw [0, 8] (fun dv iv wr => dv = .int .u64 (d : Int) ∧ iv = .int .i64 (-1) ∧ Hid (RdI wr wr.heap.size A 0 c (idI 0)) ∧ Hid (Below w.heap.size w wr)) (fun _ _ _ => 0)
        case atStart => exact ⟨rfl, by go_num, hR, B⟩
        case round =>
          obtain ⟨rfl, rfl, hR, B⟩ := hrel
          go_wp2
          go_ret2
          exact ⟨_, _, _, rfl, hR.out, B.out⟩
      obtain ⟨g, rfl⟩ : ∃ g, A = some ⟨g, 0, none⟩ := by
        rcases hO.out.1.2 with ⟨h, h0⟩ | ⟨g, cap, cur, h, _⟩
        · rw [id_length] at h0; omega
        · simp only [Value.slice.injEq] at h; exact ⟨g, h.1⟩
      have hgo := hide (hO.out.lt (g := g) rfl).1
      go_loopw [0, 8] (fun dv iv wr => ∃ (s : Nat) (z : Int) (l : List Int), s < 18446744073709551616 ∧ -1 ≤ z ∧ z < (i : Int) ∧ dv = .int .u64 (s : Int) ∧ iv = .int .i64 z ∧ Hid (OwnI wr w.heap.size (.slice (some ⟨g, 0, none⟩) i c) l) ∧ Hid (l.length = i) ∧ Hid (shL z.toNat s l = T) ∧ Hid (dit z.toNat s = S) ∧ Hid (Below w.heap.size w wr)) (fun _ iv _ => (intOf iv).toNat)
      case atStart => exact ⟨d, (i : Int) - 1, _, hd, by omega, by omega, rfl, by go_num, hO, hide (id_length i), hide (by rw [show ((i : Int) - 1).toNat = i - 1 by omega]; exact hTe.out), hide (by rw [show ((i : Int) - 1).toNat = i - 1 by omega]; exact hSe.out), B⟩
      case round =>
        clear hO hTe hSe B
        obtain ⟨s, z, l, hs, hz0, hz1, rfl, rfl, hO, hl, hT, hS, B⟩ := hrel
        by_cases hzp : 1 ≤ z
        · obtain ⟨j, rfl⟩ : ∃ j : Nat, z = ((j + 1 : Nat) : Int) := ⟨z.toNat - 1, by omega⟩
          have hT2 := hT.out
          have hS2 := hS.out
          rw [Int.toNat_natCast, shL] at hT2
          rw [Int.toNat_natCast, dit] at hS2
          have hji : j + 1 < i := by omega
          have hbl := bw_lt (s := s) (n := ((j + 2 : Nat) : Int)) (by simp only [bwB, decide_eq_true_eq]; omega)
          have hbs : bwS s ((j + 2 : Nat) : Int) = dnx s := bwS_nat (by omega) (by omega)
          have hcall := hide (rbelow_p (w := wr) (n := ((j + 2 : Nat) : Int)) hs (I64.of (by omega)))
          rw [hbs] at hcall
          obtain ⟨k, hk⟩ : ∃ k, k = bwN s ((j + 2 : Nat) : Int) := ⟨_, rfl⟩
          obtain ⟨s2, hs2⟩ : ∃ s2, s2 = dnx s := ⟨_, rfl⟩
          have hs2l := dnx_lt s
          rw [← hk] at hcall hbl hT2
          rw [← hs2] at hcall hT2 hS2 hs2l
          have hki : k < i := by omega
          have ej : ((j + 1 : Nat) : Int) + 1 = ((j + 2 : Nat) : Int) := by omega
          obtain ⟨j1, hj1⟩ : ∃ j1, j1 = j + 1 := ⟨_, rfl⟩
          obtain ⟨j2, hj2⟩ : ∃ j2, j2 = j + 2 := ⟨_, rfl⟩
          rw [← hj1, ← hj2] at ej
          rw [← hj2] at hcall
          rw [← hj1] at hT2 hji ⊢
          have wj : IntKind.i64.wrap (j2 : Int) = (j2 : Int) := wrap_i (by omega)
          replace hT := hide hT2
          replace hS := hide hS2
          have hjj := hide hj1
          have hj1p : 1 ≤ j1 := by omega
          have d4 : decide ((1 : Int) ≤ (j1 : Int)) = true := by simp; omega
          clear hT2 hS2 hbl hbs hk hs2 hzp hj2 hj1 hz0 hz1
          go_wp2_with fail
          refine hcall.out.mono ?_
          rintro e w2 ⟨rfl, hb⟩
          replace B := hide (Below.then_ B.out hb)
          replace hO := hide (hO.out.then_ hb)
          clear hb hcall
          have cj := hO.out.cell (j := j1) (by rw [hl.out]; exact hji)
          have ck := hO.out.cell (j := k) (by rw [hl.out]; exact hki)
          have fj := hO.out.frozen j1
          have fk := hO.out.frozen k
          have hj64 : (j1 : Int) < (i : Int) := by omega
          have hk64 : (k : Int) < (i : Int) := by omega
          have hls := hide (show (swI l j1 k).length = i by rw [sw_length]; exact hl.out)
          obtain ⟨lj, hlj⟩ : ∃ x, x = li l j1 := ⟨_, rfl⟩
          obtain ⟨lk, hlk⟩ : ∃ x, x = li l k := ⟨_, rfl⟩
          have hij := hO.out.2.1 j1
          have hik := hO.out.2.1 k
          have hsw : swI l j1 k = (l.set j1 lk).set k lj := by rw [swI, hlj, hlk]
          rw [← hlj] at cj hij
          rw [← hlk] at ck hik
          have hOs := hO.out.set (j := j1) hik
          have ck2 := hOs.cell (j := k) (by rw [List.length_set, hl.out]; exact hki)
          have fk2 := hOs.frozen k
          have hO3 := hide ((hOs.set (j := k) hij))
          rw [← hsw] at hO3
          have B3 := hide ((B.out.setCell (p := ⟨g, j1, none⟩) hgo.out (.int .i64 lk)).setCell (p := ⟨g, k, none⟩) hgo.out (.int .i64 lj))
          clear hlj hlk hsw hij hik hO B hOs
          go_wp2
          go_roundw
          case rel => exact ⟨s2, (j : Int), _, hs2l, by omega, by have := hjj.out; omega, rfl, by have := hjj.out; go_num, hO3, hls, hide (by rw [Int.toNat_natCast]; exact hT.out), hide (by rw [Int.toNat_natCast]; exact hS.out), B3⟩
          case measure => have := hjj.out; simp [intOf]; omega
        · have dz : decide ((1 : Int) ≤ z) = false := decide_eq_false hzp
          have e1 := hT.out
          have e2 := hS.out
          rw [show z.toNat = 0 by omega, shL] at e1
          rw [show z.toNat = 0 by omega, dit] at e2
          subst e1 e2
          obtain ⟨A2, n2, c2, e3, hR⟩ := hO.out.rd (by rw [hl.out]; omega)
          simp only [Value.slice.injEq] at e3
          obtain ⟨rfl, rfl, rfl⟩ := e3
          replace hR := hide hR
          clear hO hT hS hzp
          go_wp2
          go_ret2
          exact ⟨_, _, _, rfl, hR.out, B.out⟩
end Go.Proofs.Ytdihgmbldnekhaa

/-
  Draws: Pick of the program and of the reference.
-/
import Derived.Test.YtdihgmbldnekhaaDrw2
import Derived.Deep.QuietTactic
import Derived.BigQuiet
namespace Go.Proofs.Ytdihgmbldnekhaa
open Go.RowKit

theorem wg_long {xs : List Int} (h : 1024 < xs.length) : wgT xs = 0 := by
  rw [wgT, if_neg]
  simp only [wgB, decide_eq_true_eq]
  omega
theorem wg_bad {xs : List Int} {j : Nat} (hj : j < xs.length) (h : ¬ (0 ≤ li xs j ∧ li xs j ≤ 1000000)) : wgT xs = 0 := by
  rw [wgT, if_neg]
  simp only [wgB, decide_eq_true_eq]
  exact fun e => h (e.2 j hj)
theorem wg_ok {xs : List Int} {n : Nat} (hn : xs.length = n) (hl : n ≤ 1024) (h : ∀ j, j < n → 0 ≤ li xs j ∧ li xs j ≤ 1000000) : wgT xs = wsum xs n := by
  rw [wgT, if_pos (by simp only [wgB, decide_eq_true_eq]; exact ⟨by omega, fun j hj => h j (by omega)⟩), hn]
theorem wg_pos {xs : List Int} (h : wgT xs ≠ 0) : wgB xs = true ∧ wgT xs = wsum xs xs.length := by
  unfold wgT at h ⊢
  split at h
  · rename_i e
    exact ⟨e, if_pos e⟩
  · exact absurd rfl h
theorem pk_zero {s : Nat} {xs : List Int} (h : wgT xs = 0) : pkI s xs = -1 ∧ pkS s xs = s := ⟨by rw [pkI, if_pos h], by rw [pkS, if_pos h]⟩
theorem pk_pos {s k x : Nat} {xs : List Int} (h : wgT xs ≠ 0) (hx : x = bwN s (wgT xs : Int)) (hk : k < xs.length) (h1 : ¬ x < wsum xs k) (h2 : x < wsum xs (k + 1)) : pkI s xs = (k : Int) ∧ pkS s xs = dnx s := by
  refine ⟨?_, by rw [pkS, if_neg h]⟩
  rw [pkI, if_neg h, ← hx]
  congr 1
  refine wfind_eq (Nat.zero_le _) (by omega) (fun j _ hj h3 => h1 (Nat.lt_of_lt_of_le h3 (wsum_mono xs (by omega)))) h2
theorem bw_pos {s : Nat} {xs : List Int} {T : Nat} (hT : wgT xs = T) (h0 : T ≠ 0) : bwN s (T : Int) < wsum xs xs.length ∧ bwS s (T : Int) = dnx s := by
  have h1 := (wg_pos (xs := xs) (by omega)).2
  have h2 := wgT_le xs
  have h3 := bw_lt (s := s) (n := (T : Int)) (by simp only [bwB, decide_eq_true_eq]; omega)
  exact ⟨by omega, bwS_nat (by omega) (by omega)⟩
theorem li_nat {xs : List Int} (h : wgB xs = true) {j : Nat} (hj : j < xs.length) : ∃ v : Nat, li xs j = (v : Int) ∧ v ≤ 1000000 ∧ wsum xs (j + 1) = wsum xs j + v := by
  simp only [wgB, decide_eq_true_eq] at h
  have h2 := h.2 j hj
  exact ⟨(li xs j).toNat, by omega, by omega, rfl⟩
set_option maxHeartbeats 4000000 in
set_option maxRecDepth 100000 in
theorem total_p {w : World} {Bd n c : Nat} {A : Option Addr} {xs : List Int} (hx : RdI w Bd A n c xs) (hB : Bd ≤ w.heap.size) : Calls Try.prog 70 #[.slice A n c] w (RetB w (.int .i64 (wgT xs : Int))) := by
  have hcap := hx.cap
  have hbig := hx.big
  have hcb := hx.cbig
  have HX := hide (hx.more hB)
  have B := hide (Below.refl w.heap.size w)
  have hl := hide hx.len
  clear hx hB
  by_cases hlong : 1024 < n
  · have d0 : decide ((1024 : Int) < (n : Int)) = true := by simp; omega
    rw [wg_long (by rw [hl.out]; exact hlong)]
    clear hlong
    go_enter Try.func70, Try.ntmps70
    go_wp2
    go_ret
    exact ⟨rfl, B.out⟩
  · have d0 : decide ((1024 : Int) < (n : Int)) = false := by simp; omega
    have hn : n ≤ 1024 := by omega
    clear hlong
    go_enter Try.func70, Try.ntmps70
    go_wp2
    go_loopw [3, 11] (fun sv iv wr => ∃ (i s : Nat), i ≤ n ∧ s ≤ i * 1000000 ∧ sv = .int .i64 (s : Int) ∧ iv = .int .i64 (i : Int) ∧ Hid (s = wsum xs i) ∧ Hid (∀ j, j < i → 0 ≤ li xs j ∧ li xs j ≤ 1000000) ∧ Hid (Below w.heap.size w wr)) (fun _ iv _ => n - (intOf iv).toNat)
    case atStart => exact ⟨0, 0, Nat.zero_le _, by omega, rfl, by go_num, hide rfl, hide fun j hj => by omega, B⟩
    case round =>
      obtain ⟨i, s, hi, hs, rfl, rfl, hsum, hall, B⟩ := hrel
      by_cases hil : i < n
      · have hi64 : (i : Int) < (n : Int) := by omega
        obtain ⟨ad, rfl, hadb, hca⟩ := (HX.out.then_ B.out).at_ hil
        have hz := (HX.out.wf i)
        obtain ⟨z, hzv⟩ : ∃ z, z = li xs i := ⟨_, rfl⟩
        rw [← hzv] at hca hz
        have hzh := hide hzv
        obtain ⟨hz0, hz1⟩ := hz
        by_cases hbad : 0 ≤ z ∧ z ≤ 1000000
        · obtain ⟨v, rfl⟩ : ∃ v : Nat, z = (v : Int) := ⟨z.toNat, by omega⟩
          have e1 : decide ((v : Int) < 0) = false := by simp
          have e2 : decide ((1000000 : Int) < (v : Int)) = false := by simp; omega
          have e4 : (s : Int) + (v : Int) = ((s + v : Nat) : Int) := by omega
          have e5 : IntKind.i64.wrap ((s + v : Nat) : Int) = ((s + v : Nat) : Int) := by rw [IntKind.wrap_i64]; omega
          have hsum2 := hide (show s + v = wsum xs (i + 1) by rw [wsum, ← hsum.out, ← hzh.out, Int.toNat_natCast])
          have hall2 := hide (show ∀ j, j < i + 1 → 0 ≤ li xs j ∧ li xs j ≤ 1000000 from fun j hj => by
            by_cases e : j = i
            · subst e; rw [← hzh.out]; exact hbad
            · exact hall.out j (by omega))
          have hsv : s + v ≤ (i + 1) * 1000000 := by omega
          obtain ⟨s2, hs2⟩ : ∃ s2, s2 = s + v := ⟨_, rfl⟩
          rw [← hs2] at e4 e5 hsum2 hsv
          clear hs2 hbad hsum hall hzv hz0 hz1 hs
          go_wp2
          go_roundw
          case rel => exact ⟨i + 1, s2, by omega, hsv, by go_num, by go_num, hsum2, hall2, B⟩
          case measure => simp [intOf]; omega
        · rw [wg_bad (j := i) (by rw [hl.out]; exact hil) (by rw [← hzh.out]; exact hbad)]
          by_cases hneg : z < 0
          · have e1 : decide (z < 0) = true := decide_eq_true hneg
            clear hbad hzv hsum hall hneg
            go_wp2
            go_ret
            exact ⟨rfl, B.out⟩
          · have e1 : decide (z < 0) = false := decide_eq_false hneg
            have e2 : decide ((1000000 : Int) < z) = true := decide_eq_true (by omega)
            clear hbad hzv hsum hall hneg
            go_wp2
            go_ret
            exact ⟨rfl, B.out⟩
      · obtain rfl : i = n := by omega
        have he := hide (show wgT xs = s from (wg_ok hl.out hn hall.out).trans hsum.out.symm)
        clear hil hi hsum hall
        go_wp2
        go_ret
        exact ⟨by rw [he.out]; rfl, B.out⟩
set_option maxHeartbeats 4000000 in
set_option maxRecDepth 100000 in
theorem pick_p {w : World} {Bd n c d : Nat} {A : Option Addr} {xs : List Int} (hd : d < 18446744073709551616) (hx : RdI w Bd A n c xs) (hB : Bd ≤ w.heap.size) : Calls Try.prog 35 #[.int .u64 (d : Int), .slice A n c] w (RetNS w (pkI d xs) (pkS d xs)) := by
  have hcap := hx.cap
  have hbig := hx.big
  have hcb := hx.cbig
  have HX := hide (hx.more hB)
  have B := hide (Below.refl w.heap.size w)
  have hl := hide hx.len
  clear hx hB
  obtain ⟨T, hT⟩ : ∃ T, wgT xs = T := ⟨_, rfl⟩
  have htot := hide (total_p (w := w) HX.out (Nat.le_refl _))
  rw [hT] at htot
  by_cases h0 : T = 0
  · subst h0
    rw [(pk_zero hT).1, (pk_zero hT).2]
    clear hT
    go_enter Try.func35, Try.ntmps35
    go_wp2_with fail
    refine htot.out.mono ?_
    rintro e w1 ⟨rfl, hb⟩
    replace B := hide (Below.then_ B.out hb)
    clear hb htot
    go_wp2
    go_ret2
    exact ⟨rfl, B.out⟩
  · have e0 : ((T : Int) == 0) = false := by simp; omega
    have hTl : T ≤ 1024000000 := by rw [← hT]; exact wgT_le xs
    have hbw := bw_pos (s := d) hT h0
    have hok := hide (wg_pos (xs := xs) (by omega)).1
    have hpk := hide (fun (k : Nat) => pk_pos (s := d) (k := k) (xs := xs) (x := bwN d (T : Int)) (by omega) (by rw [hT]))
    obtain ⟨x0, hx0⟩ : ∃ x0, x0 = bwN d (T : Int) := ⟨_, rfl⟩
    have hcall := hide (fun w => below_p (w := w) (n := (T : Int)) hd ⟨by omega, by omega⟩)
    obtain ⟨s, hs⟩ : ∃ s, s = dnx d := ⟨_, rfl⟩
    rw [hbw.2] at hcall
    rw [← hx0] at hbw hpk hcall
    rw [← hs] at hcall hpk
    have hxT : x0 ≤ 1024000000 := by have := hbw.1; rw [← (wg_pos (xs := xs) (by omega)).2, hT] at this; omega
    have hxl := hide hbw.1
    have hsl := dnx_lt d
    rw [← hs] at hsl
    obtain ⟨P, hP⟩ : ∃ P, P = pkI d xs := ⟨_, rfl⟩
    obtain ⟨PS, hPS⟩ : ∃ P, P = pkS d xs := ⟨_, rfl⟩
    rw [← hP, ← hPS] at hpk
    rw [← hP, ← hPS]
    clear hbw hT h0 hx0 hs hP hPS
    go_enter Try.func35, Try.ntmps35
    go_wp2_with fail
    refine htot.out.mono ?_
    rintro e w1 ⟨rfl, hb⟩
    replace B := hide (Below.then_ B.out hb)
    clear hb htot
    go_wp2_with fail
    refine (hcall.out _).mono ?_
    rintro e w2 ⟨rfl, hb⟩
    replace B := hide (Below.then_ B.out hb)
    clear hb hcall
    go_wp2
    go_loopw [7, 9] (fun xv iv wr => ∃ (i y : Nat), i < n ∧ y ≤ x0 ∧ xv = .int .i64 (y : Int) ∧ iv = .int .i64 (i : Int) ∧ Hid (y + wsum xs i = x0) ∧ Hid (Below w.heap.size w wr)) (fun _ iv _ => n - (intOf iv).toNat)
    case atStart => exact ⟨0, x0, by have h1 := hxl.out; have h2 := hl.out; rcases Nat.eq_zero_or_pos n with e | e; rw [h2, e, wsum] at h1; omega; exact e, Nat.le_refl _, by go_num, by go_num, hide (by simp [wsum]), B⟩
    case round =>
      obtain ⟨i, y, hi, hy, rfl, rfl, hsum, B⟩ := hrel
      have hi64 : (i : Int) < (n : Int) := by omega
      obtain ⟨ad, rfl, hadb, hca⟩ := (HX.out.then_ B.out).at_ hi
      obtain ⟨v, hv, hvl, hws⟩ := li_nat hok.out (j := i) (by rw [hl.out]; exact hi)
      rw [hv] at hca
      have hwsh := hide hws
      clear hv hws
      by_cases hge : v ≤ y
      · have e1 : decide ((v : Int) ≤ (y : Int)) = true := by simp; exact hge
        have e1' : decide (v ≤ y) = true := decide_eq_true hge
        have e2 : (y : Int) - (v : Int) = ((y - v : Nat) : Int) := by omega
        have hsum2 := hide (show (y - v) + wsum xs (i + 1) = x0 by rw [hwsh.out]; have := hsum.out; omega)
        have hi1 : i + 1 < n := by
          have h1 := hxl.out
          rw [hl.out] at h1
          rcases Nat.lt_or_ge (i + 1) n with h | h
          · exact h
          · obtain rfl : n = i + 1 := by omega
            have := hsum2.out
            omega
        obtain ⟨y2, hy2⟩ : ∃ y2, y2 = y - v := ⟨_, rfl⟩
        have hy2l : y2 ≤ x0 := by omega
        rw [← hy2] at e2 hsum2
        have e3 : IntKind.i64.wrap (y2 : Int) = (y2 : Int) := by rw [IntKind.wrap_i64]; omega
        clear hy2 hge hsum hwsh
        go_wp2
        go_roundw
        case rel => exact ⟨i + 1, y2, hi1, hy2l, by go_num, by go_num, hsum2, B⟩
        case measure => simp [intOf]; omega
      · have e1 : decide ((v : Int) ≤ (y : Int)) = false := by simp; omega
        have e1' : decide (v ≤ y) = false := decide_eq_false hge
        have hp := hpk.out i (by rw [hl.out]; exact hi) (by have := hsum.out; omega) (by rw [hwsh.out]; have := hsum.out; omega)
        replace hp := hide hp
        clear hpk hge hsum hwsh
        go_wp2
        go_ret2
        exact ⟨by rw [hp.out.1, hp.out.2]; rfl, B.out⟩
end Go.Proofs.Ytdihgmbldnekhaa

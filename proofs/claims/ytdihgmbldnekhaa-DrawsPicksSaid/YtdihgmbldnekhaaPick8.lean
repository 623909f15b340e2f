/-
  DrawsPicks.
-/
import Derived.Test.YtdihgmbldnekhaaDrw10
import Derived.Test.YtdihgmbldnekhaaDrw3
import Derived.Test.YtdihgmbldnekhaaDrw5
import Derived.Test.YtdihgmbldnekhaaDrw7
namespace Go.Proofs.Ytdihgmbldnekhaa
open Go.RowKit

open Go.Builtin
theorem wrap_i64p {n : Nat} (h : n < 9223372036854775808) : IntKind.i64.wrap (n : Int) = (n : Int) := by rw [IntKind.wrap_i64]; omega
/-- the place of a number below the sum -/
theorem w_place {xs : List Int} {x : Nat} : ∀ {n : Nat}, x < wsum xs n → ∃ k, k < n ∧ ¬ x < wsum xs k ∧ x < wsum xs (k + 1)
  | 0, h => by rw [wsum] at h; omega
  | n + 1, h => by
    by_cases h2 : x < wsum xs n
    · obtain ⟨k, h3, h4, h5⟩ := w_place h2
      exact ⟨k, by omega, h4, h5⟩
    · exact ⟨n, by omega, h2, h⟩
/-- what Pick finds -/
theorem pk_some {s : Nat} {xs : List Int} (h : wgT xs ≠ 0) : ∃ k v : Nat, k < xs.length ∧ pkI s xs = (k : Int) ∧ pkS s xs = dnx s ∧ li xs k = (v : Int) ∧ 1 ≤ v ∧ v ≤ 1000000 := by
  have h1 := (bw_pos (s := s) (xs := xs) rfl h).1
  obtain ⟨k, hk, h2, h3⟩ := w_place h1
  obtain ⟨v, h4, h5, h6⟩ := li_nat (wg_pos h).1 hk
  have h7 := pk_pos h rfl hk h2 h3
  exact ⟨k, v, hk, h7.1, h7.2, h4, by omega, h5⟩
/-- equal weights -/
theorem eq_sum {xs : List Int} {n v : Nat} (h : ∀ k, k < n → li xs k = (v : Int)) : ∀ k, k ≤ n → wsum xs k = k * v
  | 0, _ => by simp [wsum]
  | k + 1, hk => by rw [wsum, eq_sum h k (by omega), h k (by omega), Int.toNat_natCast, Nat.succ_mul]
theorem eq_tot {xs : List Int} {n v : Nat} (hl : xs.length = n) (hn : n ≤ 255) (hv : v ≤ 1000000) (h : ∀ k, k < n → li xs k = (v : Int)) : wgT xs = n * v := by
  rw [wg_ok hl (by omega) (fun j hj => by rw [h j hj]; omega), eq_sum h n (Nat.le_refl _)]
theorem eq_pick {s : Nat} {xs : List Int} {n v : Nat} (hl : xs.length = n) (hn : n ≤ 255) (hn1 : 1 ≤ n) (hv : v ≤ 256) (hv1 : 1 ≤ v) (h : ∀ k, k < n → li xs k = (v : Int)) : pkI s xs = (bwN s (n : Int) : Int) ∧ pkS s xs = dnx s := by
  have hT := eq_tot hl hn (by omega) h
  have hp : 0 < n * v := Nat.mul_pos (by omega) (by omega)
  have hle : n * v ≤ 255 * 256 := Nat.mul_le_mul hn hv
  have hb : bwN s ((n * v : Nat) : Int) = dup s * (n * v) / 4294967296 := bwN_nat (by omega) (by omega)
  have hc : bwN s (n : Int) = dup s * n / 4294967296 := bwN_nat (by omega) (by omega)
  have hlt := bw_lt (s := s) (n := (n : Int)) (by simp only [bwB, decide_eq_true_eq]; omega)
  have hq : dup s * (n * v) / 4294967296 / v = dup s * n / 4294967296 := by
    rw [Nat.div_div_eq_div_mul, ← Nat.mul_assoc, Nat.mul_div_mul_right _ _ (by omega)]
  refine pk_pos (by omega) (x := dup s * (n * v) / 4294967296) (by rw [hT, hb]) (by rw [hl]; omega) ?_ ?_
  · rw [eq_sum h _ (by omega), hc, ← hq]
    exact Nat.not_lt.2 (Nat.div_mul_le_self _ _)
  · rw [eq_sum h _ (by omega), hc, ← hq]
    exact Nat.lt_mul_of_div_lt (Nat.lt_succ_self _) (by omega)
theorem below_out {w : World} {d : Nat} (hd : d < 18446744073709551616) : Calls Try.prog 28 #[.int .u64 (d : Int), .int .i64 0] w (RetB w (.tuple #[.int .i64 0, .int .u64 (d : Int)])) := below_p (n := 0) hd ⟨by decide, by decide⟩
set_option maxHeartbeats 16000000 in
set_option maxRecDepth 100000 in
theorem picks_walk (hA : ∀ w : World, Calls Try.prog 27 #[] w (RetB w (.bool true))) {w : World} {d m c n v : Nat} {A : Option Addr} {xs : List Int} (hd : d < 18446744073709551616) (hx : RdI w w.heap.size A m c xs) (hn : n < 256) (hv : v < 256) : Calls Try.prog 9 #[.int .u64 (d : Int), .slice A m c, .int .u8 (n : Int), .int .u8 (v : Int)] w (RetB w (.bool true)) := by
  have B := hide (Below.refl w.heap.size w)
  have H_x := hide hx
  have hcap := hx.cap
  have hbig := hx.big
  have hcb := hx.cbig
  have hxl := hide hx.len
  have wn := wrap_i64p (n := n) (by omega)
  have wv := wrap_i64p (n := v) (by omega)
  obtain ⟨v1, hv1⟩ : ∃ v1, v1 = v + 1 := ⟨_, rfl⟩
  have ev : (v : Int) + 1 = (v1 : Int) := by omega
  have wv1 := wrap_i64p (n := v1) (by omega)
  have hv1l : v1 ≤ 256 := by omega
  replace hv1 := hide hv1
  clear hx
  have hnx := hide (fun w => next_p (w := w) hd)
  have hul := dup_lt d
  have hsl := dnx_lt d
  obtain ⟨t, ht⟩ : ∃ t, t = dnx d := ⟨_, rfl⟩
  rw [← ht] at hnx hsl
  have htv := hide ht
  obtain ⟨u, hu⟩ : ∃ x, x = dup d := ⟨_, rfl⟩
  rw [← hu] at hnx hul
  clear hu ht
  by_cases h0 : wgT xs = 0
  · have hpk0 := hide (pk_zero (s := d) h0)
    clear h0
    go_enter Try.func9, Try.ntmps9
    go_wp2_with fail
    refine (hnx.out _).mono ?_
    rintro e w1 ⟨rfl, hb⟩
    replace H_x := hide (H_x.out.then_ hb)
    replace B := hide (Below.then_ B.out hb)
    clear hb
    go_wp2_with fail
    refine ((pick_p hd H_x.out (Nat.le_refl _)).mono fun e w' h => by rw [RetNS, hpk0.out.1, hpk0.out.2] at h; exact h).mono ?_
    rintro e w2 ⟨rfl, hb⟩
    replace H_x := hide (H_x.out.then_ hb)
    replace B := hide (Below.then_ B.out hb)
    clear hb
    have HSZ := hide B.out.size
    clear H_x
    go_wp2_with (at_make; refine wpList_make_zeros rfl _ _ rfl _ _ _ _ n rfl rfl rfl rfl (by omega) w2.heap.size (Nat.le_refl _) ?_; intro w3 hO hb)
    replace B := hide (Below.then_ B.out hb)
    clear hb
    obtain ⟨g, hg⟩ : ∃ g, g = w2.heap.size := ⟨_, rfl⟩
    have hgo := hide (show w.heap.size ≤ g by rw [hg]; exact HSZ.out)
    simp only [← hg] at hO ⊢
    replace hO := hide hO
    clear hg HSZ
    go_wp2
    go_loopw [67] (fun iv wr => ∃ (i : Nat) (xs : List Int), i ≤ n ∧ iv = .int .i64 i ∧ Hid (OwnI wr g (.slice (some ⟨g, 0, none⟩) n n) xs) ∧ Hid (xs.length = n) ∧ Hid (∀ k, k < i → li xs k = ((v + 1 : Nat) : Int)) ∧ Hid (Below w.heap.size w wr)) (fun iv _ => n - (intOf iv).toNat)
    case atStart => exact ⟨0, _, Nat.zero_le _, rfl, hO, hide (by simp), hide fun k hk => by omega, B⟩
    case round =>
      clear hO B
      obtain ⟨i, ys, hi, rfl, hO, hl, hk, B⟩ := hrel
      by_cases hil : i < n
      · have hi64 : (i : Int) < (n : Int) := by omega
        have cO := hO.out.cell (j := i) (by rw [hl.out]; exact hil)
        have fO := hO.out.frozen i
        have hS2 := hide (hO.out.set (j := i) (z := (v1 : Int)) ⟨by omega, by omega⟩)
        have hl2 := hide (show (ys.set i (v1 : Int)).length = n by rw [List.length_set]; exact hl.out)
        have hk2 := hide (show ∀ k, k < i + 1 → li (ys.set i (v1 : Int)) k = ((v + 1 : Nat) : Int) from fun k hk' => by
          by_cases e : k = i
          · subst e; rw [li_set_same (by rw [hl.out]; exact hil), hv1.out]
          · rw [li_set_ne (fun x => e x.symm)]; exact hk.out k (by omega))
        have B2 := hide (show Below w.heap.size w (wr.setCell ⟨g, i, none⟩ (.int .i64 (v1 : Int))) from B.out.setCell hgo.out _)
        clear hO hl hk B
        go_wp2
        go_roundw
        case rel => exact ⟨i + 1, _, by omega, by go_num, hS2, hl2, hk2, B2⟩
        case measure => simp [intOf]; omega
      · obtain rfl : i = n := by omega
        clear hil hi
        obtain ⟨A2, n2, c2, e3, hR⟩ := hO.out.rd (by rw [hl.out]; omega)
        simp only [Value.slice.injEq] at e3
        obtain ⟨rfl, rfl, rfl⟩ := e3
        have H_y := hide hR
        clear hO hR
        rcases Nat.eq_zero_or_pos i with rfl | hpos
        · have hz := pk_zero (s := d) (show wgT ys = 0 by rw [eq_tot hl.out (by omega) (by omega) (v := 0) (fun k hk => by omega), Nat.zero_mul])
          have hzh := hide hz
          clear hz hk hl
          go_wp2_with fail
          refine ((pick_p hd H_y.out (Nat.le_refl _)).mono fun e w' h => by rw [hzh.out.1, hzh.out.2] at h; exact h).mono ?_
          rintro e w41 ⟨rfl, hb⟩
          replace H_y := hide (H_y.out.then_ hb)
          replace B := hide (Below.then_ B.out hb)
          clear hb
          go_wp2_with fail
          refine (below_out hd).mono ?_
          rintro e w42 ⟨rfl, hb⟩
          replace H_y := hide (H_y.out.then_ hb)
          replace B := hide (Below.then_ B.out hb)
          clear hb
          go_wp2_with fail
          refine (hA _).mono ?_
          rintro e w43 ⟨rfl, hb⟩
          replace H_y := hide (H_y.out.then_ hb)
          replace B := hide (Below.then_ B.out hb)
          clear hb
          go_wp2
          go_ret
          exact ⟨rfl, B.out⟩
        · have hpk := hide (eq_pick (s := d) hl.out (by omega) hpos (by omega) (by omega) hk.out)
          have hbs : bwS d (i : Int) = dnx d := bwS_nat (by omega) (by omega)
          have hbe := hide (fun w => below_p (w := w) hd (n := (i : Int)) ⟨by omega, by omega⟩)
          rw [hbs] at hbe
          obtain ⟨x0, hx0⟩ : ∃ x, x = bwN d (i : Int) := ⟨_, rfl⟩
          rw [← hx0] at hpk hbe
          rw [← htv.out] at hpk hbe
          have q0 : ((i : Int) == 0) = false := by simp; omega
          clear hbs hx0 hk hl
          go_wp2_with fail
          refine ((pick_p hd H_y.out (Nat.le_refl _)).mono fun e w' h => by rw [RetNS, hpk.out.1, hpk.out.2] at h; exact h).mono ?_
          rintro e w41 ⟨rfl, hb⟩
          replace H_y := hide (H_y.out.then_ hb)
          replace B := hide (Below.then_ B.out hb)
          clear hb
          go_wp2_with fail
          refine (hbe.out _).mono ?_
          rintro e w42 ⟨rfl, hb⟩
          replace H_y := hide (H_y.out.then_ hb)
          replace B := hide (Below.then_ B.out hb)
          clear hb
          go_wp2_with fail
          refine (hA _).mono ?_
          rintro e w43 ⟨rfl, hb⟩
          replace H_y := hide (H_y.out.then_ hb)
          replace B := hide (Below.then_ B.out hb)
          clear hb
          go_wp2
          go_ret
          exact ⟨rfl, B.out⟩
  · have hps := pk_some (s := d) h0
    obtain ⟨k, y, hk, h1, h2, h3, h4, h5⟩ := hps
    rw [hxl.out] at hk
    rw [← htv.out] at h2
    have hk64 : (k : Int) < (m : Int) := by omega
    have e1 : decide ((k : Int) < 0) = false := by simp
    have e2 : decide ((m : Int) ≤ (k : Int)) = false := by simp; omega
    have e2' : decide (m ≤ k) = false := by simp; omega
    have e3 : decide ((y : Int) ≤ 0) = false := by simp; omega
    have e4 : decide ((1000000 : Int) < (y : Int)) = false := by simp; omega
    have hpk0 := hide (And.intro h1 h2)
    have hy3 := hide h3
    clear h0 h1 h2 h3 h5
    go_enter Try.func9, Try.ntmps9
    go_wp2_with fail
    refine (hnx.out _).mono ?_
    rintro e w1 ⟨rfl, hb⟩
    replace H_x := hide (H_x.out.then_ hb)
    replace B := hide (Below.then_ B.out hb)
    clear hb
    go_wp2_with fail
    refine ((pick_p hd H_x.out (Nat.le_refl _)).mono fun e w' h => by rw [RetNS, hpk0.out.1, hpk0.out.2] at h; exact h).mono ?_
    rintro e w2 ⟨rfl, hb⟩
    replace H_x := hide (H_x.out.then_ hb)
    replace B := hide (Below.then_ B.out hb)
    clear hb
    obtain ⟨ad, rfl, hadb, hca⟩ := H_x.out.at_ hk
    rw [hy3.out] at hca
    have HSZ := hide B.out.size
    clear H_x
    go_wp2_with (at_make; refine wpList_make_zeros rfl _ _ rfl _ _ _ _ n rfl rfl rfl rfl (by omega) w2.heap.size (Nat.le_refl _) ?_; intro w3 hO hb)
    replace B := hide (Below.then_ B.out hb)
    clear hb
    obtain ⟨g, hg⟩ : ∃ g, g = w2.heap.size := ⟨_, rfl⟩
    have hgo := hide (show w.heap.size ≤ g by rw [hg]; exact HSZ.out)
    simp only [← hg] at hO ⊢
    replace hO := hide hO
    clear hg HSZ
    go_wp2
    go_loopw [67] (fun iv wr => ∃ (i : Nat) (xs : List Int), i ≤ n ∧ iv = .int .i64 i ∧ Hid (OwnI wr g (.slice (some ⟨g, 0, none⟩) n n) xs) ∧ Hid (xs.length = n) ∧ Hid (∀ k, k < i → li xs k = ((v + 1 : Nat) : Int)) ∧ Hid (Below w.heap.size w wr)) (fun iv _ => n - (intOf iv).toNat)
    case atStart => exact ⟨0, _, Nat.zero_le _, rfl, hO, hide (by simp), hide fun k hk => by omega, B⟩
    case round =>
      clear hO B
      obtain ⟨i, ys, hi, rfl, hO, hl, hk, B⟩ := hrel
      by_cases hil : i < n
      · have hi64 : (i : Int) < (n : Int) := by omega
        have cO := hO.out.cell (j := i) (by rw [hl.out]; exact hil)
        have fO := hO.out.frozen i
        have hS2 := hide (hO.out.set (j := i) (z := (v1 : Int)) ⟨by omega, by omega⟩)
        have hl2 := hide (show (ys.set i (v1 : Int)).length = n by rw [List.length_set]; exact hl.out)
        have hk2 := hide (show ∀ k, k < i + 1 → li (ys.set i (v1 : Int)) k = ((v + 1 : Nat) : Int) from fun k hk' => by
          by_cases e : k = i
          · subst e; rw [li_set_same (by rw [hl.out]; exact hil), hv1.out]
          · rw [li_set_ne (fun x => e x.symm)]; exact hk.out k (by omega))
        have B2 := hide (show Below w.heap.size w (wr.setCell ⟨g, i, none⟩ (.int .i64 (v1 : Int))) from B.out.setCell hgo.out _)
        clear hO hl hk B
        go_wp2
        go_roundw
        case rel => exact ⟨i + 1, _, by omega, by go_num, hS2, hl2, hk2, B2⟩
        case measure => simp [intOf]; omega
      · obtain rfl : i = n := by omega
        clear hil hi
        obtain ⟨A2, n2, c2, e3, hR⟩ := hO.out.rd (by rw [hl.out]; omega)
        simp only [Value.slice.injEq] at e3
        obtain ⟨rfl, rfl, rfl⟩ := e3
        have H_y := hide hR
        clear hO hR
        rcases Nat.eq_zero_or_pos i with rfl | hpos
        · have hz := pk_zero (s := d) (show wgT ys = 0 by rw [eq_tot hl.out (by omega) (by omega) (v := 0) (fun k hk => by omega), Nat.zero_mul])
          have hzh := hide hz
          clear hz hk hl
          go_wp2_with fail
          refine ((pick_p hd H_y.out (Nat.le_refl _)).mono fun e w' h => by rw [hzh.out.1, hzh.out.2] at h; exact h).mono ?_
          rintro e w41 ⟨rfl, hb⟩
          replace H_y := hide (H_y.out.then_ hb)
          replace B := hide (Below.then_ B.out hb)
          clear hb
          go_wp2_with fail
          refine (below_out hd).mono ?_
          rintro e w42 ⟨rfl, hb⟩
          replace H_y := hide (H_y.out.then_ hb)
          replace B := hide (Below.then_ B.out hb)
          clear hb
          go_wp2_with fail
          refine (hA _).mono ?_
          rintro e w43 ⟨rfl, hb⟩
          replace H_y := hide (H_y.out.then_ hb)
          replace B := hide (Below.then_ B.out hb)
          clear hb
          go_wp2
          go_ret
          exact ⟨rfl, B.out⟩
        · have hpk := hide (eq_pick (s := d) hl.out (by omega) hpos (by omega) (by omega) hk.out)
          have hbs : bwS d (i : Int) = dnx d := bwS_nat (by omega) (by omega)
          have hbe := hide (fun w => below_p (w := w) hd (n := (i : Int)) ⟨by omega, by omega⟩)
          rw [hbs] at hbe
          obtain ⟨x0, hx0⟩ : ∃ x, x = bwN d (i : Int) := ⟨_, rfl⟩
          rw [← hx0] at hpk hbe
          rw [← htv.out] at hpk hbe
          have q0 : ((i : Int) == 0) = false := by simp; omega
          clear hbs hx0 hk hl
          go_wp2_with fail
          refine ((pick_p hd H_y.out (Nat.le_refl _)).mono fun e w' h => by rw [RetNS, hpk.out.1, hpk.out.2] at h; exact h).mono ?_
          rintro e w41 ⟨rfl, hb⟩
          replace H_y := hide (H_y.out.then_ hb)
          replace B := hide (Below.then_ B.out hb)
          clear hb
          go_wp2_with fail
          refine (hbe.out _).mono ?_
          rintro e w42 ⟨rfl, hb⟩
          replace H_y := hide (H_y.out.then_ hb)
          replace B := hide (Below.then_ B.out hb)
          clear hb
          go_wp2_with fail
          refine (hA _).mono ?_
          rintro e w43 ⟨rfl, hb⟩
          replace H_y := hide (H_y.out.then_ hb)
          replace B := hide (Below.then_ B.out hb)
          clear hb
          go_wp2
          go_ret
          exact ⟨rfl, B.out⟩
end Go.Proofs.Ytdihgmbldnekhaa

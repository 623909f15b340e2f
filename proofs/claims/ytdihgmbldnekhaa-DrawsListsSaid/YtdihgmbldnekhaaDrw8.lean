/-
  Draws: Pick of the reference.
-/
import Derived.Test.YtdihgmbldnekhaaDrw7
namespace Go.Proofs.Ytdihgmbldnekhaa
open Go.RowKit

set_option maxHeartbeats 8000000 in
set_option maxRecDepth 100000 in
theorem rpick_p {w : World} {Bd n c d : Nat} {A : Option Addr} {xs : List Int} (hd : d < 18446744073709551616) (hx : RdI w Bd A n c xs) (hB : Bd ≤ w.heap.size) : Calls Try.prog 36 #[.int .u64 (d : Int), .slice A n c] w (RetNS w (pkI d xs) (pkS d xs)) := by
  have hcap := hx.cap
  have hbig := hx.big
  have hcb := hx.cbig
  have HX := hide (hx.more hB)
  have B := hide (Below.refl w.heap.size w)
  have hl := hide hx.len
  clear hx hB
  by_cases hone : n < 1
  · obtain rfl : n = 0 := by omega
    have hz := pk_zero (s := d) (show wgT xs = 0 by rw [wg_ok hl.out (by omega) (fun j hj => by omega), wsum])
    rw [hz.1, hz.2]
    clear hone hz
    go_enter Try.func36, Try.ntmps36
    go_wp2
    go_ret2
    exact ⟨rfl, B.out⟩
  have d1 : decide ((n : Int) < 1) = false := by simp; omega
  by_cases hlong : 1024 < n
  · have d0 : decide ((1024 : Int) < (n : Int)) = true := by simp; omega
    have hz := pk_zero (s := d) (wg_long (xs := xs) (by rw [hl.out]; exact hlong))
    rw [hz.1, hz.2]
    clear hone hz hlong
    go_enter Try.func36, Try.ntmps36
    go_wp2
    go_ret2
    exact ⟨rfl, B.out⟩
  · have d0 : decide ((1024 : Int) < (n : Int)) = false := by simp; omega
    have hn : n ≤ 1024 := by omega
    clear hlong hone
    go_enter Try.func36, Try.ntmps36
    go_wp2
    go_loopw [6, 25] (fun sv iv wr => ∃ (i s : Nat), i ≤ n ∧ s ≤ i * 1000000 ∧ sv = .int .i64 (s : Int) ∧ iv = .int .i64 (i : Int) ∧ Hid (s = wsum xs i) ∧ Hid (∀ j, j < i → 0 ≤ li xs j ∧ li xs j ≤ 1000000) ∧ Hid (Below w.heap.size w wr)) (fun _ iv _ => n - (intOf iv).toNat)
    case atStart => exact ⟨0, 0, Nat.zero_le _, by omega, rfl, by go_num, hide rfl, hide fun j hj => by omega, B⟩
    case round =>
      obtain ⟨i, s, hi, hs, rfl, rfl, hsum, hall, B⟩ := hrel
      by_cases hil : i < n
      · have hi64 : (i : Int) < (n : Int) := by omega
        obtain ⟨ad, rfl, hadb, hca⟩ := (HX.out.then_ B.out).at_ hil
        have hz := (HX.out.wf i)
        obtain ⟨z, hzv⟩ : ∃ z, z = li xs i := ⟨_, rfl⟩
        rw [← hzv] at hca hz
        have hzh := hide hzv
        obtain ⟨hz0, hz1⟩ := hz
        by_cases hbad : 0 ≤ z ∧ z ≤ 1000000
        · obtain ⟨v, rfl⟩ : ∃ v : Nat, z = (v : Int) := ⟨z.toNat, by omega⟩
          have e1 : decide ((v : Int) < 0) = false := by simp
          have e2 : decide ((1000000 : Int) < (v : Int)) = false := by simp; omega
          have e4 : (s : Int) + (v : Int) = ((s + v : Nat) : Int) := by omega
          have e5 : IntKind.i64.wrap ((s + v : Nat) : Int) = ((s + v : Nat) : Int) := by rw [IntKind.wrap_i64]; omega
          have hsum2 := hide (show s + v = wsum xs (i + 1) by rw [wsum, ← hsum.out, ← hzh.out, Int.toNat_natCast])
          have hall2 := hide (show ∀ j, j < i + 1 → 0 ≤ li xs j ∧ li xs j ≤ 1000000 from fun j hj => by
            by_cases e : j = i
            · subst e; rw [← hzh.out]; exact hbad
            · exact hall.out j (by omega))
          have hsv : s + v ≤ (i + 1) * 1000000 := by omega
          obtain ⟨s2, hs2⟩ : ∃ s2, s2 = s + v := ⟨_, rfl⟩
          rw [← hs2] at e4 e5 hsum2 hsv
          clear hs2 hbad hsum hall hzv hz0 hz1 hs
          go_wp2
          go_roundw
          case rel => exact ⟨i + 1, s2, by omega, hsv, by go_num, by go_num, hsum2, hall2, B⟩
          case measure => simp [intOf]; omega
        · have hz := pk_zero (s := d) (wg_bad (xs := xs) (j := i) (by rw [hl.out]; exact hil) (by rw [← hzh.out]; exact hbad))
          rw [hz.1, hz.2]
          by_cases hneg : z < 0
          · have e1 : decide (z < 0) = true := decide_eq_true hneg
            clear hbad hzv hsum hall hneg hz
            go_wp2
            go_ret2
            exact ⟨rfl, B.out⟩
          · have e1 : decide (z < 0) = false := decide_eq_false hneg
            have e2 : decide ((1000000 : Int) < z) = true := decide_eq_true (by omega)
            clear hbad hzv hsum hall hneg hz
            go_wp2
            go_ret2
            exact ⟨rfl, B.out⟩
      · obtain rfl : i = n := by omega
        have hT : wgT xs = s := by rw [wg_ok hl.out hn hall.out, ← hsum.out]
        clear hil hi hall
        by_cases h0 : s = 0
        · subst h0
          have hz := hide (pk_zero (s := d) hT)
          clear hT hsum
          go_wp2
          go_ret2
          exact ⟨by rw [hz.out.1, hz.out.2]; rfl, B.out⟩
        · have e0 : ((s : Int) == 0) = false := by simp; omega
          have hbw := bw_pos (s := d) hT h0
          have hpk := hide (fun (k : Nat) => pk_pos (s := d) (k := k) (xs := xs) (x := bwN d (s : Int)) (by omega) (by rw [hT]))
          have hok := hide (wg_pos (xs := xs) (by omega)).1
          obtain ⟨x0, hx0⟩ : ∃ x0, x0 = bwN d (s : Int) := ⟨_, rfl⟩
          have hcall := hide (fun w => rbelow_p (w := w) (n := (s : Int)) hd ⟨by omega, by omega⟩)
          obtain ⟨s2, hs2⟩ : ∃ s2, s2 = dnx d := ⟨_, rfl⟩
          rw [hbw.2] at hcall
          rw [← hx0] at hbw hpk hcall
          rw [← hs2] at hcall hpk
          have hxT : x0 ≤ 1024000000 := by have := hbw.1; rw [← (wg_pos (xs := xs) (by omega)).2, hT] at this; omega
          have hxl := hide hbw.1
          have hsl := dnx_lt d
          rw [← hs2] at hsl
          clear hbw hT h0 hx0 hs2 hsum
          go_wp2_with fail
          refine (hcall.out _).mono ?_
          rintro e w2 ⟨rfl, hb⟩
          replace B := hide (Below.then_ B.out hb)
          clear hb hcall hs
          go_wp2
          go_loopw [11, 51] (fun pv iv wr => ∃ (j p : Nat), j ≤ i ∧ p ≤ j * 1000000 ∧ pv = .int .i64 (p : Int) ∧ iv = .int .i64 (j : Int) ∧ Hid (p = wsum xs j) ∧ Hid (p ≤ x0) ∧ Hid (Below w.heap.size w wr)) (fun _ iv _ => i - (intOf iv).toNat)
          case atStart => exact ⟨0, 0, Nat.zero_le _, by omega, by go_num, by go_num, hide rfl, hide (Nat.zero_le _), B⟩
          case round =>
            clear B
            obtain ⟨j, p, hj, hp, rfl, rfl, hsum, hle, B⟩ := hrel
            by_cases hjl : j < i
            · have hj64 : (j : Int) < (i : Int) := by omega
              obtain ⟨ad, rfl, hadb, hca⟩ := (HX.out.then_ B.out).at_ hjl
              obtain ⟨v, hv, hvl, hws⟩ := li_nat hok.out (j := j) (by rw [hl.out]; exact hjl)
              rw [hv] at hca
              have e4 : (p : Int) + (v : Int) = ((p + v : Nat) : Int) := by omega
              have e5 : IntKind.i64.wrap ((p + v : Nat) : Int) = ((p + v : Nat) : Int) := by rw [IntKind.wrap_i64]; omega
              have hsum2 := hide (show p + v = wsum xs (j + 1) by rw [hws, ← hsum.out])
              have hsv : p + v ≤ (j + 1) * 1000000 := by omega
              obtain ⟨p2, hp2⟩ : ∃ p2, p2 = p + v := ⟨_, rfl⟩
              rw [← hp2] at e4 e5 hsum2 hsv
              have hsumh := hide hsum.out
              clear hp2 hsum hv hws hvl
              by_cases hgt : x0 < p2
              · have e1 : decide ((x0 : Int) < (p2 : Int)) = true := by simp; exact hgt
                have e1' : decide (x0 < p2) = true := decide_eq_true hgt
                have hpp := hpk.out j (by rw [hl.out]; exact hjl) (by rw [← hsumh.out]; have := hle.out; omega) (by rw [← hsum2.out]; exact hgt)
                replace hpp := hide hpp
                clear hpk hgt hsum2 hsumh hle
                go_wp2
                go_ret2
                exact ⟨by rw [hpp.out.1, hpp.out.2]; rfl, B.out⟩
              · have e1 : decide ((x0 : Int) < (p2 : Int)) = false := by simp; omega
                have e1' : decide (x0 < p2) = false := decide_eq_false hgt
                have hle2 := hide (Nat.not_lt.1 hgt)
                clear hgt hsumh hle hp
                go_wp2
                go_roundw
                case rel => exact ⟨j + 1, p2, by omega, hsv, by go_num, by go_num, hsum2, hle2, B⟩
                case measure => simp [intOf]; omega
            · obtain rfl : j = i := by omega
              exact absurd hxl.out (by rw [hl.out, ← hsum.out]; have := hle.out; omega)
end Go.Proofs.Ytdihgmbldnekhaa

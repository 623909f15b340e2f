/-
  CombinDivides.
-/
import Derived.Test.YtdakfpapigieiaaPasc6
namespace Go.Proofs.Ytdakfpapigieiaa
open Go.RowKit

theorem ns_reverse (xs : List Int) : nsI xs.reverse = (nsI xs).reverse := by simp [nsI]
theorem MokI.reverse {xs : List Int} (h : MokI xs) : MokI xs.reverse := by
  obtain ⟨h1, h2, h3⟩ := h
  refine ⟨by simpa using h1, fun j hj => ?_, by rw [ns_reverse, tot_reverse]; exact h3⟩
  have hj' : j < xs.length := by simpa using hj
  have e : li xs.reverse j = li xs (xs.length - 1 - j) := by simp [li, List.getD, List.getElem?_reverse hj']
  rw [e]
  exact h2 _ (by omega)
theorem drop_rev {xs : List Int} {k : Nat} (hk : k < xs.length) : (xs.drop k).reverse = (xs.drop (k + 1)).reverse ++ [li xs k] := by
  rw [List.drop_eq_getElem_cons hk, List.reverse_cons, li_get hk]
set_option maxHeartbeats 4000000 in
set_option maxRecDepth 100000 in
theorem divides_walk {w : World} {Bd n c : Nat} {A : Option Addr} {xs : List Int} (hx : RdI w Bd A n c xs) (hB : Bd ≤ w.heap.size) : Calls Try.prog 9 #[.slice A n c] w (fun e w' => e = .returned (.bool true) ∧ Below w.heap.size w w') := by
  have hcap := hx.cap
  have hbig := hx.big
  have hcb := hx.cbig
  have hl := hide hx.len
  have hwf := hide hx.wf
  have h_x := hx
  clear hx
  by_cases h201 : 201 < n
  · have hno := hide (mok_no (xs := xs) (fun h => by have := h.1; have := hl.out; omega))
    have d0 : decide ((201 : Int) < (n : Int)) = true := by simp; omega
    clear h201
    have R_x := hide (h_x.upto (Below.refl _ _) hB)
    clear h_x
    have B := hide (Below.refl w.heap.size w)
    go_enter Try.func9, Try.ntmps9
    go_wp2_with fail
    refine (multinomial_b R_x.out (Nat.le_refl _) hno.out.1).mono ?_
    rintro e w1 ⟨x_m, rfl, R_m, hb⟩
    replace R_x := hide (R_x.out.then_ hb)
    replace B := hide (Below.then_ B.out hb)
    clear hb
    replace R_m := hide R_m
    go_wp2
    go_ret
    exact ⟨rfl, B.out⟩
  · have d0 : decide ((201 : Int) < (n : Int)) = false := by simp; omega
    obtain ⟨bm, hbm⟩ : ∃ b, mokB xs = b := ⟨_, rfl⟩
    replace hbm := hide hbm
    have HX0 := hide (h_x.more hB)
    have R_x := hide (h_x.upto (Below.refl _ _) hB)
    clear h_x
    have B := hide (Below.refl w.heap.size w)
    go_enter Try.func9, Try.ntmps9
    go_wp2_with fail
    refine (multinomial_b R_x.out (Nat.le_refl _) hbm.out).mono ?_
    rintro e w1 ⟨x_m, rfl, R_m, hb⟩
    replace R_x := hide (R_x.out.then_ hb)
    replace B := hide (Below.then_ B.out hb)
    clear hb
    replace R_m := hide R_m
    go_wp2_with fail
    refine (of_c (m := 1) (by omega)).mono ?_
    rintro e w2 ⟨x_p, rfl, R_p, hb⟩
    replace R_x := hide (R_x.out.then_ hb)
    replace R_m := hide (R_m.out.then_ hb)
    replace B := hide (Below.then_ B.out hb)
    clear hb
    replace R_p := hide R_p
    replace R_p := hide (show Nn w2 w2.heap.size x_p (mlt 0 (nsI (xs.take 0))) from R_p.out)
    go_wp2
    go_loopw [5, 6, 7] (fun p t i wr => ∃ (k s : Nat) (x : Nc), k ≤ n ∧ s ≤ 200 ∧ p = .slice x.A x.n x.c ∧ t = .int .i64 s ∧ i = .int .i64 k ∧ Hid (Good xs k s) ∧ Hid (Nn wr wr.heap.size x (mlt 0 (nsI (xs.take k)))) ∧ Hid (Nn wr wr.heap.size x_m (mltI xs)) ∧ Hid (RdI wr wr.heap.size A n c xs) ∧ Hid (Below w.heap.size w wr)) (fun _ _ i _ => n - (intOf i).toNat)
    case atStart => exact ⟨0, 0, x_p, Nat.zero_le _, by omega, rfl, rfl, rfl, hide (Good.start xs), R_p, R_m, R_x, B⟩
    case round =>
      obtain ⟨k, s, x, hk, hs, rfl, rfl, rfl, G, Rp, Rm, RX, B2⟩ := hrel
      clear R_p R_m R_x B
      by_cases hkl : k < n
      · obtain ⟨ad, hA, hadb, hca⟩ := RX.out.at_ hkl
        subst hA
        have hkx := hide (show k < xs.length by have := hl.out; omega)
        have hk64 : (k : Int) < (n : Int) := by omega
        obtain ⟨z, hz⟩ : ∃ z, li xs k = z := ⟨_, rfl⟩
        rw [hz] at hca
        replace hz := hide hz
        by_cases hneg : z < 0
        · have hno := hide ((mok_no (Good.neg hkx.out (by rw [hz.out]; exact hneg))).1.symm.trans hbm.out)
          obtain rfl : bm = false := hno.out.symm
          have d1 : decide (z < 0) = true := by simpa using hneg
          clear hneg
          go_wp2
          go_ret
          exact ⟨rfl, B2.out⟩
        · obtain ⟨p, rfl⟩ : ∃ p : Nat, z = (p : Int) := ⟨z.toNat, by omega⟩
          have d1 : decide ((p : Int) < 0) = false := by simp
          clear hneg
          by_cases hhi : 200 < s + p
          · have hno := hide ((mok_no (Good.high G.out hkx.out hz.out hhi)).1.symm.trans hbm.out)
            obtain rfl : bm = false := hno.out.symm
            have d2 : decide ((200 : Int) - (s : Int) < (p : Int)) = true := by simp; omega
            clear hhi
            go_wp2
            go_ret
            exact ⟨rfl, B2.out⟩
          · have d2 : decide ((200 : Int) - (s : Int) < (p : Int)) = false := by simp; omega
            have hm := hide (Good.mltn G.out hkx.out hz.out)
            have G2 := hide (Good.next G.out hkx.out hz.out (by omega))
            go_wp2_with fail
            refine (choose_nat (N := s + p) (K := p) (by omega) rfl (by omega) (by omega) rfl).mono ?_
            rintro e w3 ⟨x3, rfl, R3, hb⟩
            replace Rp := hide (Rp.out.then_ hb)
            replace Rm := hide (Rm.out.then_ hb)
            replace RX := hide (RX.out.then_ hb)
            replace B2 := hide (Below.then_ B2.out hb)
            replace R3 := hide R3
            clear hb hca
            go_wp2_with fail
            refine (mul_c (Rp.out.nv G.out.sm) (R3.out.nv (ch_sm (by omega))) (Nat.le_refl _) hm.out).mono ?_
            rintro e w4 ⟨x4, rfl, R4, hb⟩
            replace Rm := hide (Rm.out.then_ hb)
            replace RX := hide (RX.out.then_ hb)
            replace B2 := hide (Below.then_ B2.out hb)
            replace R4 := hide R4
            clear hb Rp R3
            go_wp2
            go_roundw
            case rel => exact ⟨k + 1, s + p, x4, by omega, by omega, rfl, by go_num, by go_num, G2, R4, Rm, RX, B2⟩
            case measure => simp [intOf]; omega
      · obtain rfl : k = n := by omega
        have hok := hide (Good.mok (by have h := G.out; rw [← hl.out] at h; exact h) (by have := hl.out; omega))
        have hyes := hide (mok_yes hok.out)
        have hyesr := hide (mok_yes hok.out.reverse)
        have hrv := hide (show mltI xs.reverse = mltI xs by rw [hyes.out.2, hyesr.out.2, ns_reverse, mlt_reverse])
        obtain rfl : bm = true := hbm.out.symm.trans hyes.out.1
        replace Rp := hide (show Nn wr wr.heap.size x (mltI xs) by have h3 := Rp.out; rw [← hl.out, List.take_length] at h3; rw [hyes.out.2]; exact h3)
        have hsm := hide (show Sm (mltI xs) by rw [hyes.out.2]; exact mlt_sm hok.out.2.2)
        obtain ⟨z, hz⟩ : ∃ z, bl (mltI xs) = z := ⟨_, rfl⟩
        have hz0 : z ≠ 0 := by
          intro h
          rw [h, bl_eq_zero, hyes.out.2] at hz
          have := mlt_pos (nsI xs)
          omega
        have e5 : decide ((0 : Int) < (z : Int)) = true := by simp; omega
        have e6 : decide (0 < z) = true := by simp; omega
        replace hz := hide hz
        clear hz0 G
        go_wp2
        go_loopw [10, 11] (fun v i wr => ∃ (j J c' : Nat) (zi : Int) (A' : Option Addr), j + J = k ∧ J ≤ c' ∧ c' ≤ 9223372036854775807 ∧ zi + 1 = (j : Int) ∧ v = .slice A' J c' ∧ i = .int .i64 zi ∧ Hid (OwnI wr w.heap.size (.slice A' J c') (xs.drop j).reverse) ∧ Hid (Nn wr wr.heap.size x (mltI xs)) ∧ Hid (Nn wr wr.heap.size x_m (mltI xs)) ∧ Hid (RdI wr wr.heap.size A k c xs) ∧ Hid (Below w.heap.size w wr)) (fun _ i _ => (intOf i + 1).toNat)
        case atStart => exact ⟨k, 0, 0, (k : Int) - 1, none, by omega, by omega, by omega, by omega, rfl, by go_num, hide (by rw [← hl.out, List.drop_length]; exact OwnI.nil _ _), Rp, Rm, RX, B2⟩
        case round =>
          obtain ⟨j, J, c', zi, A', hjJ, hJc, hcc, hzi, rfl, rfl, hOw, Rp2, Rm2, RX2, B3⟩ := hrel
          clear Rp Rm RX B2
          have hrl := hide (show (xs.drop j).reverse.length = J by rw [List.length_reverse, List.length_drop, hl.out]; omega)
          by_cases hj0 : j = 0
          · subst hj0
            obtain rfl : zi = -1 := by omega
            obtain rfl : J = k := by omega
            obtain ⟨A6, n6, c6, e6, hR6⟩ := hOw.out.rd (by rw [hrl.out]; omega)
            simp only [Value.slice.injEq] at e6
            obtain ⟨rfl, rfl, rfl⟩ := e6
            rw [List.drop_zero] at hR6
            replace hR6 := hide hR6
            go_wp2_with fail
            refine (multinomial_b hR6.out (Nat.le_refl _) hyesr.out.1).mono ?_
            rintro e w5 ⟨x5, rfl, R5, hb⟩
            rw [hrv.out] at R5
            replace Rp2 := hide (Rp2.out.then_ hb)
            replace Rm2 := hide (Rm2.out.then_ hb)
            replace B3 := hide (Below.then_ B3.out hb)
            replace R5 := hide R5
            clear hb
            go_wp2_with fail
            refine (limbs_c Rm2.out Rp2.out rfl).mono ?_
            rintro e w6 ⟨rfl, hb⟩
            replace Rm2 := hide (Rm2.out.then_ hb)
            replace B3 := hide (Below.then_ B3.out hb)
            replace R5 := hide (R5.out.then_ hb)
            clear hb Rp2
            go_wp2_with fail
            refine (limbs_c R5.out Rm2.out rfl).mono ?_
            rintro e w7 ⟨rfl, hb⟩
            replace Rm2 := hide (Rm2.out.then_ hb)
            replace B3 := hide (Below.then_ B3.out hb)
            clear hb R5
            go_wp2_with fail
            refine (bits_b (Rm2.out.nv hsm.out) hz.out).mono ?_
            rintro e w8 ⟨rfl, hb⟩
            replace B3 := hide (Below.then_ B3.out hb)
            clear hb Rm2
            go_wp2
            go_ret
            exact ⟨rfl, B3.out⟩
          · obtain ⟨i', rfl⟩ : ∃ i, j = i + 1 := ⟨j - 1, by omega⟩
            obtain rfl : zi = (i' : Int) := by omega
            obtain ⟨ad, hA, hadb, hca⟩ := RX2.out.at_ (k := i') (by omega)
            subst hA
            obtain ⟨y, hy⟩ : ∃ y, li xs i' = y := ⟨_, rfl⟩
            rw [hy] at hca
            have hi64 : (i' : Int) < (k : Int) := by omega
            have hyw := hide (show I64 y by rw [← hy]; exact hwf.out _)
            have hsn := hide (show (xs.drop (i' + 1)).reverse ++ [y] = (xs.drop i').reverse by rw [drop_rev (xs := xs) (k := i') (by have := hl.out; omega), hy])
            clear hy hj0 hzi
            go_wp2_with (at_builtin; refine wpList_append_int rfl (.tmp 74) (.tmp 79) rfl w.heap.size _ _ rfl (hOw.out.alloc _) ⟨wr.heap.size, 0, none⟩ 1 y rfl (by simp) hyw.out (by rw [hrl.out]; omega) (by have := B3.out.size; simp; omega) ?_; intro v' w6 hO5 hg5)
            replace Rp2 := hide (Rp2.out.push hOw.out hg5)
            replace Rm2 := hide (Rm2.out.push hOw.out hg5)
            replace RX2 := hide (HX0.out.then_ (hOw.out.pushed hg5 B3.out B3.out.size))
            replace B3 := hide (hOw.out.pushed hg5 B3.out B3.out.size)
            rw [hsn.out] at hO5
            obtain ⟨A5, c5, rfl, hl5, hc5⟩ := hO5.form
            have hlen5 : (xs.drop i').reverse.length = J + 1 := by rw [List.length_reverse, List.length_drop, hl.out]; omega
            rw [hlen5] at hO5 hl5
            rw [hlen5]
            replace hO5 := hide hO5
            clear hlen5 hg5 hOw
            go_wp2
            go_roundw
            case rel => exact ⟨i', J + 1, c5, (i' : Int) - 1, A5, by omega, hl5, hc5, by omega, by go_num, by go_num, hO5, Rp2, Rm2, RX2, B3⟩
            case measure => simp [intOf]
end Go.Proofs.Ytdakfpapigieiaa

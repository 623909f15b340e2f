/-
  The reference's Multinomial.
-/
import Derived.Test.YtdakfpapigieiaaCombC
namespace Go.Proofs.Ytdakfpapigieiaa
open Go.RowKit

set_option maxHeartbeats 4000000 in
theorem rmultinomial_any {w : World} {Bd n c : Nat} {A : Option Addr} {xs : List Int} (hx : RdI w Bd A n c xs) (hB : Bd ≤ w.heap.size) : Calls Try.prog 17 #[.slice A n c] w (RetCB w (mltI xs) (mokB xs)) := by
  have B := hide (Below.refl w.heap.size w)
  have hcap := hx.cap
  have hbig := hx.big
  have hcb := hx.cbig
  have hl := hide hx.len
  have HX := hide (hx.more hB)
  have hwf := hide hx.wf
  clear hx hB
  by_cases h201 : 201 < n
  · have hno := mok_no (xs := xs) (fun h => by have := h.1; have := hl.out; omega)
    rw [hno.1, hno.2]
    have d0 : decide ((201 : Int) < (n : Int)) = true := by simp; omega
    clear h201 hno
    go_enter Try.func17, Try.ntmps17
    go_wp2
    go_ret2
    exact cb_nil rfl B.out
  · have d0 : decide ((201 : Int) < (n : Int)) = false := by simp; omega
    go_enter Try.func17, Try.ntmps17
    go_wp2
    go_loopw [4, 5] (fun t i wr => ∃ (k s : Nat), k ≤ n ∧ s ≤ 200 ∧ t = .int .i64 s ∧ i = .int .i64 k ∧ Hid (Good xs k s) ∧ Hid (Below w.heap.size w wr)) (fun _ i _ => n - (intOf i).toNat)
    case atStart => exact ⟨0, 0, Nat.zero_le _, by omega, rfl, rfl, hide (Good.start xs), B⟩
    case round =>
      obtain ⟨k, s, hk, hs, rfl, rfl, G, B2⟩ := hrel
      clear B
      by_cases hkl : k < n
      · obtain ⟨ad, rfl, hadb, hca⟩ := (HX.out.then_ B2.out).at_ hkl
        have hkx := hide (show k < xs.length by have := hl.out; omega)
        obtain ⟨z, hz⟩ : ∃ z, li xs k = z := ⟨_, rfl⟩
        rw [hz] at hca
        replace hz := hide hz
        by_cases hneg : z < 0
        · have hno := hide (mok_no (Good.neg hkx.out (by rw [hz.out]; exact hneg)))
          have d1 : decide (z < 0) = true := by simpa using hneg
          clear hneg
          go_wp2
          go_ret2
          rw [hno.out.1, hno.out.2]
          exact cb_nil rfl B2.out
        · obtain ⟨p, rfl⟩ : ∃ p : Nat, z = (p : Int) := ⟨z.toNat, by omega⟩
          have d1 : decide ((p : Int) < 0) = false := by simp
          clear hneg
          by_cases hp : 200 < p
          · have hno := hide (mok_no (Good.high G.out hkx.out hz.out (by omega)))
            have d2 : decide ((200 : Int) < (p : Int)) = true := by simp; omega
            clear hp
            go_wp2
            go_ret2
            rw [hno.out.1, hno.out.2]
            exact cb_nil rfl B2.out
          · have d2 : decide ((200 : Int) < (p : Int)) = false := by simp; omega
            by_cases hhi : 200 < s + p
            · have hno := hide (mok_no (Good.high G.out hkx.out hz.out hhi))
              have d3 : decide ((200 : Int) < (s : Int) + (p : Int)) = true := by simp; omega
              clear hhi
              go_wp2
              go_ret2
              rw [hno.out.1, hno.out.2]
              exact cb_nil rfl B2.out
            · have d3 : decide ((200 : Int) < (s : Int) + (p : Int)) = false := by simp; omega
              have G2 := hide (Good.next G.out hkx.out hz.out (by omega))
              go_wp2
              go_roundw
              case rel => exact ⟨k + 1, s + p, by omega, by omega, by go_num, by go_num, G2, B2⟩
              case measure => simp [intOf]; omega
      · obtain rfl : k = n := by omega
        have hG := hide (show Good xs xs.length s by have h := G.out; rw [← hl.out] at h; exact h)
        have hyes := hide (mok_yes (Good.mok hG.out (by have := hl.out; omega)))
        have hsum := hide (show tot (nsI xs) = s by have h := hG.out.sum; rw [List.take_length] at h; exact h)
        clear G
        go_wp2_with fail
        refine (rproduct_any (L := 1) (c := s) (r := fac s / facs (nsI (xs.take 0))) rfl (by omega) (by omega) (by omega) (by rw [prd_one]; simp [nsI, facs])).mono ?_
        rintro e w1 ⟨x1, rfl, R1, hb⟩
        replace B2 := hide (Below.then_ B2.out hb)
        replace R1 := hide R1
        clear hb
        go_wp2
        go_loopw [6, 7] (fun p i wr => ∃ (j : Nat) (x : Nc), j ≤ k ∧ p = .slice x.A x.n x.c ∧ i = .int .i64 j ∧ Hid (Nn wr wr.heap.size x (fac s / facs (nsI (xs.take j)))) ∧ Hid (Below w.heap.size w wr)) (fun _ i _ => k - (intOf i).toNat)
        case atStart => exact ⟨0, x1, Nat.zero_le _, rfl, rfl, R1, B2⟩
        case round =>
          obtain ⟨j, x, hj, rfl, rfl, R, B3⟩ := hrel
          clear R1 B2
          by_cases hjl : j < k
          · obtain ⟨ad, rfl, hadb, hca⟩ := (HX.out.then_ B3.out).at_ hjl
            have hjx := hide (show j < xs.length by have := hl.out; omega)
            obtain ⟨z, hz⟩ : ∃ z, li xs j = z := ⟨_, rfl⟩
            rw [hz] at hca
            obtain ⟨p, rfl⟩ : ∃ p : Nat, z = (p : Int) := ⟨z.toNat, by have := hG.out.pos j hjx.out; omega⟩
            have hp : p ≤ s := by
              have h1 := tot_take_le xs (j + 1)
              rw [tot_take hjx.out, hz, hsum.out, Int.toNat_natCast] at h1
              omega
            have hst := hide (show fac s / facs (nsI (xs.take j)) / fac p = fac s / facs (nsI (xs.take (j + 1))) by rw [facs_take hjx.out, hz, Int.toNat_natCast, Nat.div_div_eq_div_mul])
            replace hz := hide hz
            go_wp2_with fail
            refine (rproduct_any (L := 1) (c := p) (r := fac p) rfl (by omega) (by omega) (by omega) (prd_one p)).mono ?_
            rintro e w3 ⟨x3, rfl, R3, hb⟩
            replace R := hide (R.out.then_ hb)
            replace B3 := hide (Below.then_ B3.out hb)
            replace R3 := hide R3
            clear hb
            go_wp2_with fail
            refine (rdivmod_c (R.out.nv (Sm.mono (Nat.div_le_self _ _) (fac_sm hs))) (R3.out.nv (fac_sm (by omega))) (Nat.le_refl _) (Nat.pos_iff_ne_zero.1 (fac_pos p)) hst.out rfl).mono ?_
            rintro e w4 ⟨x4, x5, rfl, R4, _, hb⟩
            replace B3 := hide (Below.then_ B3.out hb)
            replace R4 := hide R4
            clear hb R R3
            go_wp2
            go_roundw
            case rel => exact ⟨j + 1, x4, by omega, rfl, by go_num, R4, B3⟩
            case measure => simp [intOf]; omega
          · obtain rfl : j = k := by omega
            replace R := hide (show Nn wr wr.heap.size x (mlt 0 (nsI xs)) by have h3 := R.out; rw [← hl.out, List.take_length, ← hsum.out, mlt_quo] at h3; exact h3)
            go_wp2
            go_ret2
            rw [hyes.out.1, hyes.out.2]
            exact ⟨x, rfl, R.out, B3.out⟩
end Go.Proofs.Ytdakfpapigieiaa

/-
  Multinomial, and the reference's.
-/
import Derived.Test.YtdakfpapigieiaaCombB
namespace Go.Proofs.Ytdakfpapigieiaa
open Go.RowKit

def nsI (xs : List Int) : List Nat := xs.map Int.toNat
def MokI (xs : List Int) : Prop := xs.length ≤ 201 ∧ (∀ j, j < xs.length → 0 ≤ li xs j) ∧ tot (nsI xs) ≤ 200
noncomputable def mokB (xs : List Int) : Bool := @decide (MokI xs) (Classical.propDecidable _)
noncomputable def mltI (xs : List Int) : Nat := if mokB xs = true then mlt 0 (nsI xs) else 0
theorem mok_yes {xs : List Int} (h : MokI xs) : mokB xs = true ∧ mltI xs = mlt 0 (nsI xs) := by
  have e : mokB xs = true := by simp [mokB, h]
  exact ⟨e, if_pos e⟩
theorem mok_no {xs : List Int} (h : ¬ MokI xs) : mokB xs = false ∧ mltI xs = 0 := by
  have e : mokB xs = false := by simp [mokB, h]
  exact ⟨e, if_neg (by rw [e]; simp)⟩
theorem take_one {xs : List Int} {k : Nat} (hk : k < xs.length) : xs.take (k + 1) = xs.take k ++ [li xs k] := by
  rw [List.take_add_one, li_get? hk]
  rfl
theorem ns_take {xs : List Int} {k : Nat} (hk : k < xs.length) : nsI (xs.take (k + 1)) = nsI (xs.take k) ++ [(li xs k).toNat] := by
  rw [take_one hk, nsI, List.map_append]
  rfl
theorem tot_take {xs : List Int} {k : Nat} (hk : k < xs.length) : tot (nsI (xs.take (k + 1))) = tot (nsI (xs.take k)) + (li xs k).toNat := by
  rw [ns_take hk, tot_append]
  simp [tot]
theorem mlt_take {xs : List Int} {k : Nat} (hk : k < xs.length) : mlt 0 (nsI (xs.take (k + 1))) = mlt 0 (nsI (xs.take k)) * ch (tot (nsI (xs.take k)) + (li xs k).toNat) (li xs k).toNat := by
  rw [ns_take hk, mlt_append]
  simp [mlt]
theorem facs_take {xs : List Int} {k : Nat} (hk : k < xs.length) : facs (nsI (xs.take (k + 1))) = facs (nsI (xs.take k)) * fac (li xs k).toNat := by
  rw [ns_take hk, facs_append]
  simp [facs]
theorem tot_take_le (xs : List Int) (k : Nat) : tot (nsI (xs.take k)) ≤ tot (nsI xs) := by
  have e : nsI xs = nsI (xs.take k) ++ nsI (xs.drop k) := by rw [nsI, nsI, nsI, ← List.map_append, List.take_append_drop]
  rw [e, tot_append]
  omega
/-- the first k parts are good, s is their sum -/
structure Good (xs : List Int) (k s : Nat) : Prop where
  pos : ∀ j, j < k → 0 ≤ li xs j
  sum : tot (nsI (xs.take k)) = s
  le : s ≤ 200
theorem Good.start (xs : List Int) : Good xs 0 0 := ⟨fun j hj => by omega, by simp [nsI, tot], by omega⟩
theorem Good.next {xs : List Int} {k s p : Nat} (h : Good xs k s) (hk : k < xs.length) (hp : li xs k = (p : Int)) (hs : s + p ≤ 200) : Good xs (k + 1) (s + p) :=
  ⟨fun j hj => by
    by_cases e : j = k
    · subst e; omega
    · exact h.pos j (by omega), by rw [tot_take hk, h.sum, hp]; rfl, hs⟩
theorem Good.mok {xs : List Int} {s : Nat} (h : Good xs xs.length s) (hl : xs.length ≤ 201) : MokI xs := by
  have e := h.sum
  rw [List.take_length] at e
  exact ⟨hl, h.pos, by rw [e]; exact h.le⟩
theorem Good.neg {xs : List Int} {k : Nat} (hk : k < xs.length) (hp : li xs k < 0) : ¬ MokI xs := fun h => by
  have := h.2.1 k hk
  omega
theorem Good.high {xs : List Int} {k s p : Nat} (h : Good xs k s) (hk : k < xs.length) (hp : li xs k = (p : Int)) (hs : 200 < s + p) : ¬ MokI xs := fun h2 => by
  have h3 := tot_take_le xs (k + 1)
  rw [tot_take hk, h.sum, hp] at h3
  have := h2.2.2
  omega
theorem Good.mltn {xs : List Int} {k s p : Nat} (h : Good xs k s) (hk : k < xs.length) (hp : li xs k = (p : Int)) : mlt 0 (nsI (xs.take k)) * ch (s + p) p = mlt 0 (nsI (xs.take (k + 1))) := by
  rw [mlt_take hk, h.sum, hp]
  rfl
theorem Good.sm {xs : List Int} {k s : Nat} (h : Good xs k s) : Sm (mlt 0 (nsI (xs.take k))) := mlt_sm (by rw [h.sum]; exact h.le)
set_option maxHeartbeats 4000000 in
theorem multinomial_any {w : World} {Bd n c : Nat} {A : Option Addr} {xs : List Int} (hx : RdI w Bd A n c xs) (hB : Bd ≤ w.heap.size) : Calls Try.prog 16 #[.slice A n c] w (RetCB w (mltI xs) (mokB xs)) := by
  have B := hide (Below.refl w.heap.size w)
  have hcap := hx.cap
  have hbig := hx.big
  have hcb := hx.cbig
  have hl := hide hx.len
  have HX := hide (hx.more hB)
  clear hx hB
  by_cases h201 : 201 < n
  · have hno := mok_no (xs := xs) (fun h => by have := h.1; have := hl.out; omega)
    rw [hno.1, hno.2]
    have d0 : decide ((201 : Int) < (n : Int)) = true := by simp; omega
    clear h201 hno
    go_enter Try.func16, Try.ntmps16
    go_wp2
    go_ret2
    exact cb_nil rfl B.out
  · have d0 : decide ((201 : Int) < (n : Int)) = false := by simp; omega
    go_enter Try.func16, Try.ntmps16
    go_wp2_with fail
    refine (number_any (m := 1) rfl (by omega)).mono ?_
    rintro e w2 ⟨x1, rfl, R1, hb⟩
    replace B := hide (Below.then_ B.out hb)
    replace R1 := hide (show Nn w2 w2.heap.size x1 (mlt 0 (nsI (xs.take 0))) from R1)
    clear hb
    go_wp2
    go_loopw [4, 5, 16] (fun p t i wr => ∃ (k s : Nat) (x : Nc), k ≤ n ∧ s ≤ 200 ∧ p = .slice x.A x.n x.c ∧ t = .int .i64 s ∧ i = .int .i64 k ∧ Hid (Good xs k s) ∧ Hid (Nn wr wr.heap.size x (mlt 0 (nsI (xs.take k)))) ∧ Hid (Below w.heap.size w wr)) (fun _ _ i _ => n - (intOf i).toNat)
    case atStart => exact ⟨0, 0, x1, Nat.zero_le _, by omega, rfl, rfl, rfl, hide (Good.start xs), R1, B⟩
    case round =>
      obtain ⟨k, s, x, hk, hs, rfl, rfl, rfl, G, R, B2⟩ := hrel
      clear R1 B
      by_cases hkl : k < n
      · obtain ⟨ad, rfl, hadb, hca⟩ := (HX.out.then_ B2.out).at_ hkl
        have hkx := hide (show k < xs.length by have := hl.out; omega)
        obtain ⟨z, hz⟩ : ∃ z, li xs k = z := ⟨_, rfl⟩
        rw [hz] at hca
        replace hz := hide hz
        by_cases hneg : z < 0
        · have hno := hide (mok_no (Good.neg hkx.out (by rw [hz.out]; exact hneg)))
          have d1 : decide (z < 0) = true := by simpa using hneg
          clear hneg
          go_wp2
          go_ret2
          rw [hno.out.1, hno.out.2]
          exact cb_nil rfl B2.out
        · obtain ⟨p, rfl⟩ : ∃ p : Nat, z = (p : Int) := ⟨z.toNat, by omega⟩
          have d1 : decide ((p : Int) < 0) = false := by simp
          clear hneg
          by_cases hhi : 200 < s + p
          · have hno := hide (mok_no (Good.high G.out hkx.out hz.out hhi))
            have d2 : decide ((200 : Int) - (s : Int) < (p : Int)) = true := by simp; omega
            clear hhi
            go_wp2
            go_ret2
            rw [hno.out.1, hno.out.2]
            exact cb_nil rfl B2.out
          · have d2 : decide ((200 : Int) - (s : Int) < (p : Int)) = false := by simp; omega
            have hm := hide (Good.mltn G.out hkx.out hz.out)
            have G2 := hide (Good.next G.out hkx.out hz.out (by omega))
            go_wp2_with fail
            refine (choose_nat (N := s + p) (K := p) (by omega) rfl (by omega) (by omega) rfl).mono ?_
            rintro e w3 ⟨x3, rfl, R3, hb⟩
            replace R := hide (R.out.then_ hb)
            replace B2 := hide (Below.then_ B2.out hb)
            replace R3 := hide R3
            clear hb
            go_wp2_with fail
            refine (mul_c (R.out.nv G.out.sm) (R3.out.nv (ch_sm (by omega))) (Nat.le_refl _) hm.out).mono ?_
            rintro e w4 ⟨x4, rfl, R4, hb⟩
            replace B2 := hide (Below.then_ B2.out hb)
            replace R4 := hide R4
            clear hb R R3
            go_wp2
            go_roundw
            case rel => exact ⟨k + 1, s + p, x4, by omega, by omega, rfl, by go_num, by go_num, G2, R4, B2⟩
            case measure => simp [intOf]; omega
      · obtain rfl : k = n := by omega
        have hyes := hide (mok_yes (Good.mok (by have h := G.out; rw [← hl.out] at h; exact h) (by have := hl.out; omega)))
        replace R := hide (show Nn wr wr.heap.size x (mlt 0 (nsI xs)) by have h3 := R.out; rw [← hl.out, List.take_length] at h3; exact h3)
        go_wp2
        go_ret2
        rw [hyes.out.1, hyes.out.2]
        exact ⟨x, rfl, R.out, B2.out⟩
end Go.Proofs.Ytdakfpapigieiaa

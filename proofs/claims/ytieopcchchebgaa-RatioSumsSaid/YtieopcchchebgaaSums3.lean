/-
  RatioSums.
-/
import Derived.Test.YtieopcchchebgaaRRats
namespace Go.Proofs.Ytieopcchchebgaa
open Go.ChangeShapes Go.WideShapes Go.ChangeAt Go.RowKit

set_option maxRecDepth 100000 in
theorem Try.readRats : Try.prog.readableRec 43 = true := by kernel_rfl
set_option maxRecDepth 100000 in
theorem Try.typesRats : 43 < Try.prog.types.size := of_decide_eq_true (by kernel_rfl)

set_option maxHeartbeats 4000000 in
set_option maxRecDepth 100000 in
theorem sums_walk {w : World} {A0 : Option Addr} {n c0 : Nat} {E : Nat → Rt} (hE : Rats w A0 n c0 E) :
    Calls Try.prog 6 #[.slice A0 n c0] w (RetB w (.bool true)) := by
  have hcap := hE.1
  have hcm := hE.2.1
  replace hE := hide hE
  by_cases hn : n ≤ 20
  · have h20 : decide ((20 : Int) < (n : Int)) = false := by simp; omega
    go_enter Try.func6, Try.ntmps6
    go_wp2
    go_loop [3] (fun i => ∃ k : Nat, k ≤ n ∧ i = .int .i64 k ∧ Hid (∀ i, i < k → (E i).n ≤ 6 ∧ (E i).m ≤ 6)) (fun i => n - (intOf i).toNat)
    case atStart => exact ⟨0, Nat.zero_le _, rfl, hide (fun i hi => by omega)⟩
    case round =>
      obtain ⟨k, hk, rfl, hs⟩ := hrel
      by_cases hkl : k < n
      · obtain ⟨ad, hA, hab, hi⟩ := hE.out.2.2 (by omega)
        subst hA
        obtain ⟨e0, e1, e2, _, _⟩ := hi k hkl
        rw [← Go.Deep.add_add] at e1 e2
        replace e1 : w.cell? ⟨(ad.add (k * 3)).block, (ad.add (k * 3)).off + 1, none⟩ = some (.slice (E k).A (E k).n (E k).c) := e1
        replace e2 : w.cell? ⟨(ad.add (k * 3)).block, (ad.add (k * 3)).off + 2, none⟩ = some (.slice (E k).B (E k).m (E k).d) := e2
        clear hi
        obtain ⟨n1, hn1⟩ : ∃ x, (E k).n = x := ⟨_, rfl⟩
        obtain ⟨m1, hm1⟩ : ∃ x, (E k).m = x := ⟨_, rfl⟩
        rw [hn1] at e1
        rw [hm1] at e2
        by_cases h1 : n1 ≤ 6
        · have d1 : decide ((6 : Int) < (n1 : Int)) = false := by simp; omega
          by_cases h2 : m1 ≤ 6
          · have d2 : decide ((6 : Int) < (m1 : Int)) = false := by simp; omega
            have hs' : Hid (∀ i, i < k + 1 → (E i).n ≤ 6 ∧ (E i).m ≤ 6) := hide (fun i hi => by
              rcases Nat.lt_succ_iff_lt_or_eq.1 hi with h | h
              · exact hs.out i h
              · rw [h, hn1, hm1]; exact ⟨h1, h2⟩)
            clear hn1 hm1 h1 h2 hs
            go_wp2
            go_round
            case rel => exact ⟨k + 1, by omega, by go_num, hs'⟩
            case measure => simp [intOf]; omega
          · have d2 : decide ((6 : Int) < (m1 : Int)) = true := by simp; omega
            clear hn1 hm1 h1 h2
            go_wp2
            go_ret
            exact ⟨rfl, Below.refl _ _⟩
        · have d1 : decide ((6 : Int) < (n1 : Int)) = true := by simp; omega
          clear hn1 hm1 h1
          go_wp2
          go_ret
          exact ⟨rfl, Below.refl _ _⟩
      · obtain rfl : k = n := by omega
        obtain ⟨q, hq⟩ : ∃ q, psum E k = q := ⟨_, rfl⟩
        replace hq := hide hq
        have hn' := hide hn
        clear hk hkl h20 hcap hcm hn
        go_wp2_with fail
        refine (psum_any hE.out hn'.out hs.out hq.out).mono ?_
        rintro e w1 ⟨A1, c1, B1, d1, rfl, R1, R1', hb1⟩
        have hE1 := hide (hE.out.keep hb1)
        have B := hide hb1
        replace R1 := hide R1
        replace R1' := hide R1'
        clear hb1
        go_wp2_with fail
        refine (rsum_any hE1.out hn'.out hs.out hq.out).mono ?_
        rintro e w2 ⟨A2, c2, B2, d2, rfl, R2, R2', hb2⟩
        replace B := hide (Below.then_ B.out hb2)
        replace R1 := hide (R1.out.then_ hb2)
        replace R1' := hide (R1'.out.then_ hb2)
        replace R2 := hide R2
        replace R2' := hide R2'
        clear hb2
        go_wp2_with fail
        refine (same_t R1.out R1'.out R2.out R2'.out (Nat.le_refl _) rfl).mono ?_
        rintro e w3 ⟨rfl, hb3⟩
        replace B := hide (Below.then_ B.out hb3)
        clear hb3
        go_wp2
        go_ret
        exact ⟨rfl, B.out⟩
  · have h20 : decide ((20 : Int) < (n : Int)) = true := by simp; omega
    go_enter Try.func6, Try.ntmps6
    go_wp2
    go_ret
    exact ⟨rfl, Below.refl _ _⟩

end Go.Proofs.Ytieopcchchebgaa

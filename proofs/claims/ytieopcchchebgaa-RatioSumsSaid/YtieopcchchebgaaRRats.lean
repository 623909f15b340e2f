/-
  Sum of the reference.
-/
import Derived.Test.YtieopcchchebgaaRats
import Derived.Test.YtieopcchchebgaaRRat4
import Derived.Deep.RegionWith
namespace Go.Proofs.Ytieopcchchebgaa
open Go.ChangeShapes Go.WideShapes Go.ChangeAt Go.RowKit

set_option maxHeartbeats 4000000 in
set_option maxRecDepth 100000 in
theorem rsum_any {w : World} {A0 : Option Addr} {n c0 : Nat} {E : Nat → Rt} (hE : Rats w A0 n c0 E) (hn : n ≤ 20) (hs : ∀ i, i < n → (E i).n ≤ 6 ∧ (E i).m ≤ 6) {q : Rat} (hq : psum E n = q) :
    Calls Try.prog 42 #[.slice A0 n c0] w (RetRat w q) := by
  have hsz := hide (psum_sz hE hs)
  have hcap := hE.1
  have hcm := hE.2.1
  replace hE := hide hE
  replace hs := hide hs
  replace hq := hide hq
  go_enter Try.func42, Try.ntmps42
  go_wp2_with fail
  refine (rzero_any (q := psum E 0) rfl).mono ?_
  rintro e w1 ⟨A1, c1, B1, d1, rfl, R1, R1', hb1⟩
  have hstart := hide (SumInv.start hb1 R1 R1')
  clear R1 R1' hb1
  go_wp2
  generalize w1.heap.size = g at *
  go_loopw [4] (fun i wr => ∃ k : Nat, k ≤ n ∧ i = .int .i64 k ∧ ∃ (A : Option Addr) (c : Nat) (B : Option Addr) (d : Nat), Hid (SumInv w wr g (psum E k) A c B d)) (fun i _ => n - (intOf i).toNat)
  case atStart => exact ⟨0, Nat.zero_le _, rfl, A1, c1, B1, d1, hstart⟩
  case round =>
    obtain ⟨k, hk, rfl, A, c, B, d, hI⟩ := hrel
    have U0 : Below wr.heap.size wr wr := Below.refl _ _
    have hg := hI.out.2.2.1
    have hr := hI.out.2.1
    have c_g0 := hg.at0 hg.lt_size (Nat.le_refl _)
    have c_g1 := hg.at1 hg.lt_size (Nat.le_refl _)
    have c_g2 := hg.at2 hg.lt_size (Nat.le_refl _)
    by_cases hkl : k < n
    · have f_g0 := hg.free0 hg.lt_size (Nat.le_refl _)
      have f_g1 := hg.free1 hg.lt_size (Nat.le_refl _)
      have f_g2 := hg.free2 hg.lt_size (Nat.le_refl _)
      have l_g := hg.lt hg.lt_size (Nat.le_refl _)
      obtain ⟨ad, hA, hab, hi⟩ := (hE.out.keep hI.out.1).2.2 (by omega)
      subst hA
      obtain ⟨e0, e1, e2, eR, eR'⟩ := hi k hkl
      rw [← Go.Deep.add_add] at e1 e2
      replace e1 : wr.cell? ⟨(ad.add (k * 3)).block, (ad.add (k * 3)).off + 1, none⟩ = some (.slice (E k).A (E k).n (E k).c) := e1
      replace e2 : wr.cell? ⟨(ad.add (k * 3)).block, (ad.add (k * 3)).off + 2, none⟩ = some (.slice (E k).B (E k).m (E k).d) := e2
      obtain ⟨p, hp⟩ : ∃ p, psum E k = p := ⟨_, rfl⟩
      obtain ⟨t, ht⟩ : ∃ t, psum E (k + 1) = t := ⟨_, rfl⟩
      have hs6 := hs.out k hkl
      have R2 := hide (eR (by omega))
      have R3 := hide (eR' (by omega))
      have hpz := hsz.out k (by omega)
      have hsum : p + (E k).q = t := by rw [← hp, ← ht]; rfl
      have hsum' := hide (show qv (zneg p.num) (val (dig (zmag p.num))) (val (dig p.den)) + qv (E k).s (val (E k).xs) (val (E k).ys) = t by rw [qv_eta]; exact hsum)
      rw [hp] at hI c_g0 c_g1 c_g2 hpz
      have b1 := hide (show (dig (zmag p.num)).length ≤ 1000000000 ∧ (dig p.den).length ≤ 1000000000 by omega)
      have b2 := hide (show (E k).n ≤ 1000000000 ∧ (E k).m ≤ 1000000000 by omega)
      obtain ⟨_, _, _, Rp, Rp', _⟩ := hI.out
      replace Rp := hide Rp
      replace Rp' := hide Rp'
      replace hp := hide hp
      replace ht := hide ht
      clear hg hr eR eR' hi hs6 hpz hsum
      have hbx := Below.drw_ wr
      have hI2 := hI
      go_wp2_with fail
      go_region_with (go_at_call 34; refine (radd3_any (Rp.out.then_ hbx) b1.out.1 (Rp'.out.then_ hbx) b1.out.2 (R2.out.then_ hbx) b2.out.1 (R3.out.then_ hbx) b2.out.2 (Nat.le_refl _) hsum'.out).mono ?_; rintro e w5 ⟨A5, c5, B5, d5, rfl, R5, R5', hb5⟩; have U5 : Below wr.heap.size wr w5 := Below.then_ hbx hb5; have hN := hide (SumInv.set hI2.out U5 R5 R5'); clear hb5 R5 R5')
      all_goals
        go_wp2
        go_roundw
        case rel => exact ⟨k + 1, by omega, by go_num, A5, c5, B5, d5, by rw [ht.out]; exact hN⟩
        case measure => simp [intOf]; omega
    · obtain rfl : k = n := by omega
      have c_r0 := hr.at0 hr.lt_size (Nat.le_refl _)
      have c_r1 := hr.at1 hr.lt_size (Nat.le_refl _)
      have c_r2 := hr.at2 hr.lt_size (Nat.le_refl _)
      have f_r0 := hr.free0 hr.lt_size (Nat.le_refl _)
      have f_r1 := hr.free1 hr.lt_size (Nat.le_refl _)
      have f_r2 := hr.free2 hr.lt_size (Nat.le_refl _)
      have l_r := hr.lt hr.lt_size (Nat.le_refl _)
      rw [hq.out] at hI c_g0 c_g1 c_g2
      clear hg hr
      go_wp2
      obtain ⟨hB, _, _, Rp, Rp', _⟩ := hI.out
      exact bodyPost_ret (v := .agg #[.bool (zneg q.num), .slice A (dig (zmag q.num)).length c, .slice B (dig q.den).length d]) (by simp [results, Try.results42, go_sem, c_r0 _ U0, c_r1 _ U0, c_r2 _ U0]) rfl (RetRat.box hB (by omega) (c_r0 _ U0) (c_r1 _ U0) (c_r2 _ U0) Rp Rp')

end Go.Proofs.Ytieopcchchebgaa

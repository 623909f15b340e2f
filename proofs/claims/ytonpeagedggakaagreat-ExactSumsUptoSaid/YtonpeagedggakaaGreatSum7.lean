/-
  ExactSums.
-/
import Derived.Test.YtonpeagedggakaaGreatExch7
namespace Go.Proofs.YtonpeagedggakaaGreat
open Go.RowKit

theorem cvK_small {na nb n : Nat} {ra rb : Bool} {k : Int} (h : cvK ra rb na nb = (k, n)) : n ≤ 1000000 := by
  unfold cvK at h
  split at h
  · split at h
    · obtain ⟨_, rfl⟩ := Prod.mk.inj h; omega
    · obtain ⟨_, rfl⟩ := Prod.mk.inj h; omega
  · obtain ⟨_, rfl⟩ := Prod.mk.inj h; omega
set_option maxHeartbeats 8000000 in
set_option maxRecDepth 100000 in
theorem sums_walk (hA : ∀ w : World, Calls Tryz.prog 14 #[] w (RetB w (.bool true))) {w : World} {A A' : Option Addr} {n c n' c' : Nat} {X Y : Nat → Rc} {q r : Nat → Rat} (hx : LQ (fun _ => false) w w.heap.size 1048576 A n c X q) (hs : n + szs X n ≤ 1048576) (hy : LQ (fun _ => false) w w.heap.size 1048576 A' n' c' Y r) (hs' : n' + szs Y n' ≤ 1048576) : Calls Tryz.prog 6 #[.slice A n c, .slice A' n' c'] w (RetB w (.bool true)) := by
  have B := hide (Below.refl w.heap.size w)
  have H_l := hide hx
  have H_m := hide hy
  have hcap := hx.cap
  have hcb := hx.cbig
  have hcap' := hy.cap
  have hcb' := hy.cbig
  have hsh := hide (show szs X n + 1 ≤ 1048577 by omega)
  have hsh' := hide (show szs Y n' + 1 ≤ 1048577 by omega)
  obtain ⟨ra, hra⟩ : ∃ b, vlB n q = b := ⟨_, rfl⟩
  obtain ⟨rb, hrb⟩ : ∃ b, vlB n' r = b := ⟨_, rfl⟩
  obtain ⟨k, N, hk⟩ : ∃ k N, cvK ra rb n n' = (k, N) := ⟨_, _, rfl⟩
  have hN := hide (cvK_small hk)
  replace hk := hide hk
  replace hra := hide hra
  replace hrb := hide hrb
  have hkk : (k == k) = true := by simp
  clear hx hs hy hs'
  go_enter Tryz.func6, Tryz.ntmps6
  go_wp2_with fail
  refine ((convolve_p (K := 1048577) H_l.out H_m.out (by decide) (Nat.le_refl _) (CmH.any H_l.out (by decide) (by decide) hsh.out) (CmH.any H_m.out (by decide) (by decide) hsh'.out) (by decide) hra.out hrb.out hk.out).mono fun _ _ h => RetLE.fix h).mono ?_
  rintro e w1 ⟨A_a, c_a, Z_a, rfl, H_a, hb⟩
  replace H_l := hide (H_l.out.then_ hb)
  replace H_m := hide (H_m.out.then_ hb)
  replace B := hide (Below.then_ B.out hb)
  clear hb
  replace H_a := hide H_a
  go_wp2_with fail
  refine ((rconvolve_q H_l.out H_m.out (Nat.le_refl _) hra.out hrb.out hk.out).mono fun _ _ h => RetLE.fix h).mono ?_
  rintro e w2 ⟨A_b, c_b, Z_b, rfl, H_b, hb⟩
  replace H_l := hide (H_l.out.then_ hb)
  replace H_m := hide (H_m.out.then_ hb)
  replace H_a := hide (H_a.out.then_ hb)
  replace B := hide (Below.then_ B.out hb)
  clear hb
  replace H_b := hide H_b
  go_wp2_with fail
  refine (samelist_c H_a.out H_b.out (Nat.le_refl _) (fun _ _ => rfl) hN.out).mono ?_
  rintro e w3 ⟨rfl, hb⟩
  replace H_l := hide (H_l.out.then_ hb)
  replace H_m := hide (H_m.out.then_ hb)
  replace H_a := hide (H_a.out.then_ hb)
  replace H_b := hide (H_b.out.then_ hb)
  replace B := hide (Below.then_ B.out hb)
  clear hb
  go_wp2_with fail
  refine (hA _).mono ?_
  rintro e w4 ⟨rfl, hb⟩
  replace H_l := hide (H_l.out.then_ hb)
  replace H_m := hide (H_m.out.then_ hb)
  replace H_a := hide (H_a.out.then_ hb)
  replace H_b := hide (H_b.out.then_ hb)
  replace B := hide (Below.then_ B.out hb)
  clear hb
  go_wp2
  go_ret
  exact ⟨rfl, B.out⟩
end Go.Proofs.YtonpeagedggakaaGreat

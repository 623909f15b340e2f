/-
  ExactTrials.
-/
import Derived.Test.YtonpeagedggakaaGreatExch7
namespace Go.Proofs.YtonpeagedggakaaGreat
open Go.RowKit

theorem trK_small {n N : Nat} {q : Nat → Rat} {k : Int} (h : trK n q = (k, N)) : N ≤ 1000000 := by
  unfold trK at h
  split at h
  · split at h
    · obtain ⟨_, rfl⟩ := Prod.mk.inj h; omega
    · obtain ⟨_, rfl⟩ := Prod.mk.inj h; omega
  · obtain ⟨_, rfl⟩ := Prod.mk.inj h; omega
set_option maxHeartbeats 8000000 in
set_option maxRecDepth 100000 in
theorem trials_walk (hA : ∀ w : World, Calls Tryz.prog 14 #[] w (RetB w (.bool true))) {w : World} {A : Option Addr} {n c : Nat} {X : Nat → Rc} {q : Nat → Rat} (hx : LQ (fun _ => false) w w.heap.size 1048576 A n c X q) (hs : n + szs X n ≤ 1048576) : Calls Tryz.prog 5 #[.slice A n c] w (RetB w (.bool true)) := by
  have B := hide (Below.refl w.heap.size w)
  have H_l := hide hx
  have hcap := hx.cap
  have hcb := hx.cbig
  have hsh := hide hs
  obtain ⟨k, N, hk⟩ : ∃ k N, trK n q = (k, N) := ⟨_, _, rfl⟩
  have hN := hide (trK_small hk)
  replace hk := hide hk
  have hkk : (k == k) = true := by simp
  clear hx hs
  go_enter Tryz.func5, Tryz.ntmps5
  go_wp2_with fail
  refine ((trials_p H_l.out hsh.out (Nat.le_refl _) hk.out).mono fun _ _ h => RetLE.fix h).mono ?_
  rintro e w1 ⟨A_a, c_a, Z_a, rfl, H_a, hb⟩
  replace H_l := hide (H_l.out.then_ hb)
  replace B := hide (Below.then_ B.out hb)
  clear hb
  replace H_a := hide H_a
  go_wp2_with fail
  refine ((rtrials_q H_l.out hsh.out (Nat.le_refl _) hk.out).mono fun _ _ h => RetLE.fix h).mono ?_
  rintro e w2 ⟨A_b, c_b, Z_b, rfl, H_b, hb⟩
  replace H_l := hide (H_l.out.then_ hb)
  replace H_a := hide (H_a.out.then_ hb)
  replace B := hide (Below.then_ B.out hb)
  clear hb
  replace H_b := hide H_b
  go_wp2_with fail
  refine (samelist_c H_a.out H_b.out (Nat.le_refl _) (fun _ _ => rfl) hN.out).mono ?_
  rintro e w3 ⟨rfl, hb⟩
  replace H_l := hide (H_l.out.then_ hb)
  replace H_a := hide (H_a.out.then_ hb)
  replace H_b := hide (H_b.out.then_ hb)
  replace B := hide (Below.then_ B.out hb)
  clear hb
  go_wp2_with fail
  refine (hA _).mono ?_
  rintro e w4 ⟨rfl, hb⟩
  replace H_l := hide (H_l.out.then_ hb)
  replace H_a := hide (H_a.out.then_ hb)
  replace H_b := hide (H_b.out.then_ hb)
  replace B := hide (Below.then_ B.out hb)
  clear hb
  go_wp2
  go_ret
  exact ⟨rfl, B.out⟩
end Go.Proofs.YtonpeagedggakaaGreat

/-
  ExactHyper.
-/
import Derived.Test.YtonpeagedggakaaGreatExch7
import Derived.Test.YtonpeagedggakaaGreatCombX
namespace Go.Proofs.YtonpeagedggakaaGreat
open Go.RowKit

theorem hyN_small {t m d k : Int} {N : Nat} (h : hyN t m d = (k, N)) : N ≤ 1000000 := by
  by_cases e : HyOk t m d
  · have h2 := h.symm.trans (if_pos (by simp [e]))
    obtain ⟨_, rfl⟩ := Prod.mk.inj h2
    obtain ⟨⟨_, _⟩, ⟨_, _⟩, _, _⟩ := e
    omega
  · have h2 := h.symm.trans (if_neg (by simp [e]))
    obtain ⟨_, rfl⟩ := Prod.mk.inj h2
    omega
set_option maxHeartbeats 8000000 in
set_option maxRecDepth 100000 in
theorem hyper_walk (hA : ∀ w : World, Calls Tryz.prog 14 #[] w (RetB w (.bool true))) {w : World} {t m d : Int} : Calls Tryz.prog 4 #[.int .i64 t, .int .i64 m, .int .i64 d] w (RetB w (.bool true)) := by
  have B := hide (Below.refl w.heap.size w)
  obtain ⟨k, N, hk⟩ : ∃ k N, hyN t m d = (k, N) := ⟨_, _, rfl⟩
  have hN := hide (hyN_small hk)
  replace hk := hide hk
  have hkk : (k == k) = true := by simp
  go_enter Tryz.func4, Tryz.ntmps4
  go_wp2_with fail
  refine ((hyper_p hk.out).mono fun _ _ h => RetLE.fix h).mono ?_
  rintro e w1 ⟨A_a, c_a, Z_a, rfl, H_a, hb⟩
  replace B := hide (Below.then_ B.out hb)
  clear hb
  replace H_a := hide H_a
  go_wp2_with fail
  refine ((rhyper_q hk.out).mono fun _ _ h => RetLE.fix h).mono ?_
  rintro e w2 ⟨A_b, c_b, Z_b, rfl, H_b, hb⟩
  replace H_a := hide (H_a.out.then_ hb)
  replace B := hide (Below.then_ B.out hb)
  clear hb
  replace H_b := hide H_b
  go_wp2_with fail
  refine (samelist_c H_a.out H_b.out (Nat.le_refl _) (fun _ _ => rfl) hN.out).mono ?_
  rintro e w3 ⟨rfl, hb⟩
  replace H_a := hide (H_a.out.then_ hb)
  replace H_b := hide (H_b.out.then_ hb)
  replace B := hide (Below.then_ B.out hb)
  clear hb
  go_wp2_with fail
  refine (hA _).mono ?_
  rintro e w4 ⟨rfl, hb⟩
  replace H_a := hide (H_a.out.then_ hb)
  replace H_b := hide (H_b.out.then_ hb)
  replace B := hide (Below.then_ B.out hb)
  clear hb
  go_wp2
  go_ret
  exact ⟨rfl, B.out⟩
end Go.Proofs.YtonpeagedggakaaGreat

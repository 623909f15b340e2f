/-
  DrawsInjective.
-/
import Derived.Test.YtdihgmbldnekhaaDrw10
import Derived.Test.YtdihgmbldnekhaaDrw3
namespace Go.Proofs.Ytdihgmbldnekhaa
open Go.RowKit

set_option maxHeartbeats 16000000 in
set_option maxRecDepth 100000 in
theorem injective_walk (hA : ∀ w : World, Calls Try.prog 27 #[] w (RetB w (.bool true))) {w : World} {a b : Nat} (ha : a < 18446744073709551616) (hb' : b < 18446744073709551616) : Calls Try.prog 10 #[.int .u64 (a : Int), .int .u64 (b : Int)] w (RetB w (.bool true)) := by
  have B := hide (Below.refl w.heap.size w)
  by_cases hab : a = b
  · subst hab
    have na := hide (fun w => next_p (w := w) ha)
    have wa := hide (fun w => new_p (w := w) ha)
    have nb := hide na.out
    have wb := hide wa.out
    go_enter Try.func10, Try.ntmps10
    go_wp2_with fail
    refine (na.out _).mono ?_
    rintro e w1 ⟨rfl, hb⟩
    replace B := hide (Below.then_ B.out hb)
    clear hb
    go_wp2_with fail
    refine (nb.out _).mono ?_
    rintro e w2 ⟨rfl, hb⟩
    replace B := hide (Below.then_ B.out hb)
    clear hb
    go_wp2_with fail
    refine (wa.out _).mono ?_
    rintro e w3 ⟨rfl, hb⟩
    replace B := hide (Below.then_ B.out hb)
    clear hb
    go_wp2_with fail
    refine (wb.out _).mono ?_
    rintro e w4 ⟨rfl, hb⟩
    replace B := hide (Below.then_ B.out hb)
    clear hb
    go_wp2_with fail
    refine (wa.out _).mono ?_
    rintro e w5 ⟨rfl, hb⟩
    replace B := hide (Below.then_ B.out hb)
    clear hb
    go_wp2_with fail
    refine (hA _).mono ?_
    rintro e w6 ⟨rfl, hb⟩
    replace B := hide (Below.then_ B.out hb)
    clear hb
    go_wp2
    go_ret
    exact ⟨rfl, B.out⟩
  · have hne : dnx a ≠ dnx b := fun e => hab (dnx_inj ha hb' e)
    have na := hide (fun w => next_p (w := w) ha)
    have wa := hide (fun w => new_p (w := w) ha)
    have nb := hide (fun w => next_p (w := w) hb')
    have wb := hide (fun w => new_p (w := w) hb')
    obtain ⟨x, hx⟩ : ∃ x, x = dnx a := ⟨_, rfl⟩
    obtain ⟨y, hy⟩ : ∃ y, y = dnx b := ⟨_, rfl⟩
    have hxl := dnx_lt a
    have hyl := dnx_lt b
    rw [← hx] at hne na wa hxl
    rw [← hy] at hne nb wb hyl
    have e1 : ((x : Int) == (y : Int)) = false := by simp; omega
    have e2 : ((a : Int) == (b : Int)) = false := by simp; omega
    clear hx hy hab hne
    go_enter Try.func10, Try.ntmps10
    go_wp2_with fail
    refine (na.out _).mono ?_
    rintro e w1 ⟨rfl, hb⟩
    replace B := hide (Below.then_ B.out hb)
    clear hb
    go_wp2_with fail
    refine (nb.out _).mono ?_
    rintro e w2 ⟨rfl, hb⟩
    replace B := hide (Below.then_ B.out hb)
    clear hb
    go_wp2_with fail
    refine (wa.out _).mono ?_
    rintro e w3 ⟨rfl, hb⟩
    replace B := hide (Below.then_ B.out hb)
    clear hb
    go_wp2_with fail
    refine (wb.out _).mono ?_
    rintro e w4 ⟨rfl, hb⟩
    replace B := hide (Below.then_ B.out hb)
    clear hb
    go_wp2_with fail
    refine (wa.out _).mono ?_
    rintro e w5 ⟨rfl, hb⟩
    replace B := hide (Below.then_ B.out hb)
    clear hb
    go_wp2_with fail
    refine (hA _).mono ?_
    rintro e w6 ⟨rfl, hb⟩
    replace B := hide (Below.then_ B.out hb)
    clear hb
    go_wp2
    go_ret
    exact ⟨rfl, B.out⟩
end Go.Proofs.Ytdihgmbldnekhaa

/-
  RRat1, RRat2.
-/
import Derived.Test.YtonpeagedggakaaRatB
import Derived.Test.YtonpeagedggakaaRefGcd
import Derived.Test.YtonpeagedggakaaRInt4
namespace Go.Proofs.Ytonpeagedggakaa
section
open Go.RowKit


/-- numerator and denominator where the denominator is not 0; 0/1 where it is -/
def tp (s : Bool) (m d : Nat) : Int := if d = 0 then 0 else iv s m
def lw (d : Nat) : Nat := if d = 0 then 1 else d
theorem tp_0 {s : Bool} {m d : Nat} (h : d = 0) : tp s m d = 0 := if_pos h
theorem tp_1 {s : Bool} {m d : Nat} (h : d ≠ 0) : tp s m d = iv s m := if_neg h
theorem lw_0 {d : Nat} (h : d = 0) : lw d = 1 := if_pos h
theorem lw_1 {d : Nat} (h : d ≠ 0) : lw d = d := if_neg h
theorem lw_ne (d : Nat) : lw d ≠ 0 := by unfold lw; split <;> omega
theorem qv_tp (s : Bool) (m d : Nat) : mkRat (tp s m d) (lw d) = qv s m d := by
  by_cases h : d = 0
  · rw [tp_0 h, lw_0 h, h, qv_zero]; rfl
  · rw [tp_1 h, lw_1 h]; rfl
theorem tp_lt {s : Bool} {m d i : Nat} (h : m < pw i) : zmag (tp s m d) < pw i := by
  by_cases hd : d = 0
  · rw [tp_0 hd]; exact pw_pos i
  · rw [tp_1 hd]; exact zl_iv h
theorem lw_lt {d i : Nat} (h : d < pw i) : lw d < pw (i + 1) := by
  by_cases hd : d = 0
  · rw [lw_0 hd]; have := pw_pos i; rw [pw_succ]; omega
  · rw [lw_1 hd]; exact lt_up h

end

section
open Go.RowKit


end
end Go.Proofs.Ytonpeagedggakaa

/-
  No cell of these rows narrows 'for every input' (looked for: loops, veiled, ifaces, maps, wideKeys, modest, calm, conditions, laid).
  DERIVED. THE GIVEN ROWS OF THIS SEAT. 4 by the template 'for every input the law returns true; each argument reads behind the call as it read before'; 0 by the template 'total and deterministic' (their statements: YtogafnfpncbgiaaTotals.lean).
  GIVEN WITH THE SEED: the statements are not yours to turn. If you find one false, say at which input.
  Laid BY PROGRAM, IN A SANDBOX (cutbox-rows.mjs): the forced cells as the released guide's own fill.sh prints them over the translation b66dde5c7b2f7c58… (all of the seat's roots in one cut). By AI agents, Wed Nov 11 2026. No macro, syntax, notation, axiom, sorry.
-/
import Derived.Test.YtogafnfpncbgiaaChecked
import GoSem.Claim
import GoSem.ClaimJoined
import GoSem.ClaimMapViews
import Derived.JoinedTies
import Derived.KernelRfl
namespace Go.Proofs.Ytogafnfpncbgiaa
/- THE CELL 'sum', in the pinned program and in every row, IS THE sha256 OF THE DUMP (.gsa) THAT YtogafnfpncbgiaaProg.lean LOADS. Nothing in Lean hashes anything: it is a label: what it is worth is what the hold of that sum in a sandbox is worth. -/
noncomputable def Try.pinned : Pinned := { name := "ytogafnfpncbgiaa", sum := "b66dde5c7b2f7c58074a378934be50a710e0970ee05b0296949747906e27b1f4", checked := Try.checked }
namespace Rows
def none {H : Type} : Left H := { results := [], args := [] }

/-- 'examboardlaw05.SpanEncloses': WHATEVER THE INPUT: true; the input reads as it did. -/
def spanEnclosesSpec : ChangeSpec := { name := "spanEncloses", fn := fun _ => fun
  | [d1, d2, d3, d4] => { results := [.lit (.bool true)], args := [d1, d2, d3, d4] }
  | _ => none }
def spanEnclosesRow : OpenClaim := { program := "ytogafnfpncbgiaa", sum := "b66dde5c7b2f7c58074a378934be50a710e0970ee05b0296949747906e27b1f4", func := "examboard/examboardlaw05.SpanEncloses", spec := "spanEncloses", unfollowed := true, recurses := true, apart := false }
def SpanEnclosesSaid : Prop := spanEnclosesRow.holds Try.pinned (OpenSpec.ofChange spanEnclosesSpec)

/-- ITS FALSE NEIGHBOUR: 'it returns false'. Refute it at one input. -/
def spanEnclosesWrong : ChangeSpec := { name := "spanEncloses", fn := fun _ => fun
  | [d1, d2, d3, d4] => { results := [.lit (.bool false)], args := [d1, d2, d3, d4] }
  | _ => none }
def SpanEnclosesWrongFalsely : Prop := spanEnclosesRow.holds Try.pinned (OpenSpec.ofChange spanEnclosesWrong)

/-- 'examboardlaw05.SpanLattice': WHATEVER THE INPUT: true; the input reads as it did. -/
def spanLatticeSpec : ChangeSpec := { name := "spanLattice", fn := fun _ => fun
  | [d1, d2, d3, d4] => { results := [.lit (.bool true)], args := [d1, d2, d3, d4] }
  | _ => none }
def spanLatticeRow : OpenClaim := { program := "ytogafnfpncbgiaa", sum := "b66dde5c7b2f7c58074a378934be50a710e0970ee05b0296949747906e27b1f4", func := "examboard/examboardlaw05.SpanLattice", spec := "spanLattice", unfollowed := true, recurses := true, apart := false }
def SpanLatticeSaid : Prop := spanLatticeRow.holds Try.pinned (OpenSpec.ofChange spanLatticeSpec)

/-- ITS FALSE NEIGHBOUR: 'it returns false'. Refute it at one input. -/
def spanLatticeWrong : ChangeSpec := { name := "spanLattice", fn := fun _ => fun
  | [d1, d2, d3, d4] => { results := [.lit (.bool false)], args := [d1, d2, d3, d4] }
  | _ => none }
def SpanLatticeWrongFalsely : Prop := spanLatticeRow.holds Try.pinned (OpenSpec.ofChange spanLatticeWrong)

/-- 'examboardlaw05.SpanWidth': WHATEVER THE INPUT: true; the input reads as it did. -/
def spanWidthSpec : ChangeSpec := { name := "spanWidth", fn := fun _ => fun
  | [d1, d2, d3] => { results := [.lit (.bool true)], args := [d1, d2, d3] }
  | _ => none }
def spanWidthRow : OpenClaim := { program := "ytogafnfpncbgiaa", sum := "b66dde5c7b2f7c58074a378934be50a710e0970ee05b0296949747906e27b1f4", func := "examboard/examboardlaw05.SpanWidth", spec := "spanWidth", unfollowed := true, recurses := true, apart := false }
def SpanWidthSaid : Prop := spanWidthRow.holds Try.pinned (OpenSpec.ofChange spanWidthSpec)

/-- ITS FALSE NEIGHBOUR: 'it returns false'. Refute it at one input. -/
def spanWidthWrong : ChangeSpec := { name := "spanWidth", fn := fun _ => fun
  | [d1, d2, d3] => { results := [.lit (.bool false)], args := [d1, d2, d3] }
  | _ => none }
def SpanWidthWrongFalsely : Prop := spanWidthRow.holds Try.pinned (OpenSpec.ofChange spanWidthWrong)

/-- 'examboardlaw05.SpanMonotone': WHATEVER THE INPUT: true; the input reads as it did. -/
def spanMonotoneSpec : ChangeSpec := { name := "spanMonotone", fn := fun _ => fun
  | [d1, d2, d3] => { results := [.lit (.bool true)], args := [d1, d2, d3] }
  | _ => none }
def spanMonotoneRow : OpenClaim := { program := "ytogafnfpncbgiaa", sum := "b66dde5c7b2f7c58074a378934be50a710e0970ee05b0296949747906e27b1f4", func := "examboard/examboardlaw05.SpanMonotone", spec := "spanMonotone", unfollowed := true, recurses := true, apart := false }
def SpanMonotoneSaid : Prop := spanMonotoneRow.holds Try.pinned (OpenSpec.ofChange spanMonotoneSpec)

/-- ITS FALSE NEIGHBOUR: 'it returns false'. Refute it at one input. -/
def spanMonotoneWrong : ChangeSpec := { name := "spanMonotone", fn := fun _ => fun
  | [d1, d2, d3] => { results := [.lit (.bool false)], args := [d1, d2, d3] }
  | _ => none }
def SpanMonotoneWrongFalsely : Prop := spanMonotoneRow.holds Try.pinned (OpenSpec.ofChange spanMonotoneWrong)

/- THE SECOND FORM. 'bulk': how many values and letters a reading holds, each counted each time it is reached (what is shared counts as often as it is met; a slice's spare places count too). A statement '..UptoSaid' is the law's where the arguments, and the package variables that the reading takes, are together of bulk at most 1048576: NARROWER than '..Said'. Prove '..Said' where nothing that the law and all that it calls make is longer than what came in: it says more and counts as full. Else prove '..UptoSaid'. A law counts once. -/
mutual
def uptoBulk {H : Type} : DataW H → Nat
  | .lit (.string bytes) => bytes.length + 1
  | .lit _ => 1
  | .nil => 1
  | .ptr d => uptoBulk d + 1
  | .slice elems spare => uptoBulkAll elems + uptoBulkAll spare + 1
  | .agg parts => uptoBulkAll parts + 1
  | .iface _ d => uptoBulk d + 1
  | .map entries => uptoBulkEntries entries + 1
  | .held _ => 1
def uptoBulkAll {H : Type} : List (DataW H) → Nat
  | [] => 0
  | d :: r => uptoBulk d + uptoBulkAll r
def uptoBulkEntries {H : Type} : List (Lit × DataW H) → Nat
  | [] => 0
  | x :: r => uptoBulkEntry x + uptoBulkEntries r
def uptoBulkEntry {H : Type} : Lit × DataW H → Nat
  | (.string bytes, d) => bytes.length + uptoBulk d + 1
  | (_, d) => uptoBulk d + 1
 end
def uptoSmall : (H : Type) → List (DataW H) → Bool := fun _ ds => decide (uptoBulkAll ds ≤ 1048576)
def OpenSpec.upto (s : _root_.Go.ChangeSpec) : _root_.Go.OpenSpec := { _root_.Go.OpenSpec.ofChange s with cond := some uptoSmall }

/-- 'examboardlaw05.SpanEncloses', WHERE WHAT IT READS IS OF BULK AT MOST 1048576: true; the input reads as it did. -/
def spanEnclosesUptoRow : OpenClaim := { program := "ytogafnfpncbgiaa", sum := "b66dde5c7b2f7c58074a378934be50a710e0970ee05b0296949747906e27b1f4", func := "examboard/examboardlaw05.SpanEncloses", spec := "spanEncloses", unfollowed := true, recurses := true, apart := false, narrowed := true }
def SpanEnclosesUptoSaid : Prop := spanEnclosesUptoRow.holds Try.pinned (OpenSpec.upto spanEnclosesSpec)

/-- 'examboardlaw05.SpanLattice', WHERE WHAT IT READS IS OF BULK AT MOST 1048576: true; the input reads as it did. -/
def spanLatticeUptoRow : OpenClaim := { program := "ytogafnfpncbgiaa", sum := "b66dde5c7b2f7c58074a378934be50a710e0970ee05b0296949747906e27b1f4", func := "examboard/examboardlaw05.SpanLattice", spec := "spanLattice", unfollowed := true, recurses := true, apart := false, narrowed := true }
def SpanLatticeUptoSaid : Prop := spanLatticeUptoRow.holds Try.pinned (OpenSpec.upto spanLatticeSpec)

/-- 'examboardlaw05.SpanWidth', WHERE WHAT IT READS IS OF BULK AT MOST 1048576: true; the input reads as it did. -/
def spanWidthUptoRow : OpenClaim := { program := "ytogafnfpncbgiaa", sum := "b66dde5c7b2f7c58074a378934be50a710e0970ee05b0296949747906e27b1f4", func := "examboard/examboardlaw05.SpanWidth", spec := "spanWidth", unfollowed := true, recurses := true, apart := false, narrowed := true }
def SpanWidthUptoSaid : Prop := spanWidthUptoRow.holds Try.pinned (OpenSpec.upto spanWidthSpec)

/-- 'examboardlaw05.SpanMonotone', WHERE WHAT IT READS IS OF BULK AT MOST 1048576: true; the input reads as it did. -/
def spanMonotoneUptoRow : OpenClaim := { program := "ytogafnfpncbgiaa", sum := "b66dde5c7b2f7c58074a378934be50a710e0970ee05b0296949747906e27b1f4", func := "examboard/examboardlaw05.SpanMonotone", spec := "spanMonotone", unfollowed := true, recurses := true, apart := false, narrowed := true }
def SpanMonotoneUptoSaid : Prop := spanMonotoneUptoRow.holds Try.pinned (OpenSpec.upto spanMonotoneSpec)

end Rows
end Go.Proofs.Ytogafnfpncbgiaa

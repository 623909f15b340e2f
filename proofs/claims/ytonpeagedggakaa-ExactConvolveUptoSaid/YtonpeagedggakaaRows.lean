/-
  No cell of these rows narrows 'for every input' (looked for: loops, veiled, ifaces, maps, wideKeys, modest, calm, conditions, laid).
  DERIVED. THE GIVEN ROWS OF THIS SEAT. 3 by the template 'for every input the law returns true; each argument reads behind the call as it read before'; 0 by the template 'total and deterministic' (their statements: YtonpeagedggakaaTotals.lean).
  GIVEN WITH THE SEED: the statements are not yours to turn. If you find one false, say at which input.
  Laid BY PROGRAM, IN A SANDBOX (cutbox-rows.mjs): the forced cells as the released guide's own fill.sh prints them over the translation 2d18c1d11e8ed87a… (all of the seat's roots in one cut). By AI agents, Wed Nov 11 2026. No macro, syntax, notation, axiom, sorry.
-/
import Derived.Test.YtonpeagedggakaaChecked
import GoSem.Claim
import GoSem.ClaimJoined
import GoSem.ClaimMapViews
import Derived.JoinedTies
import Derived.KernelRfl
namespace Go.Proofs.Ytonpeagedggakaa
/- THE CELL 'sum', in the pinned program and in every row, IS THE sha256 OF THE DUMP (.gsa) THAT YtonpeagedggakaaProg.lean LOADS. Nothing in Lean hashes anything: it is a label: what it is worth is what the hold of that sum in a sandbox is worth. -/
noncomputable def Try.pinned : Pinned := { name := "ytonpeagedggakaa", sum := "2d18c1d11e8ed87a9f91ecd5d4b9a3b24a63043d61e04cc3cdf60b9e50cb6ffc", checked := Try.checked }
namespace Rows
def none {H : Type} : Left H := { results := [], args := [] }

/-- 'examboardlaw07.ExactConvolve': WHATEVER THE INPUT: true; the input reads as it did. -/
def exactConvolveSpec : ChangeSpec := { name := "exactConvolve", fn := fun _ => fun
  | [d1, d2] => { results := [.lit (.bool true)], args := [d1, d2] }
  | _ => none }
def exactConvolveRow : OpenClaim := { program := "ytonpeagedggakaa", sum := "2d18c1d11e8ed87a9f91ecd5d4b9a3b24a63043d61e04cc3cdf60b9e50cb6ffc", func := "examboard/examboardlaw07.ExactConvolve", spec := "exactConvolve", apart := false }
def ExactConvolveSaid : Prop := exactConvolveRow.holds Try.pinned (OpenSpec.ofChange exactConvolveSpec)

/-- ITS FALSE NEIGHBOUR: 'it returns false'. Refute it at one input. -/
def exactConvolveWrong : ChangeSpec := { name := "exactConvolve", fn := fun _ => fun
  | [d1, d2] => { results := [.lit (.bool false)], args := [d1, d2] }
  | _ => none }
def ExactConvolveWrongFalsely : Prop := exactConvolveRow.holds Try.pinned (OpenSpec.ofChange exactConvolveWrong)

/-- 'examboardlaw07.ExactExchange': WHATEVER THE INPUT: true; the input reads as it did. -/
def exactExchangeSpec : ChangeSpec := { name := "exactExchange", fn := fun _ => fun
  | [d1, d2, d3] => { results := [.lit (.bool true)], args := [d1, d2, d3] }
  | _ => none }
def exactExchangeRow : OpenClaim := { program := "ytonpeagedggakaa", sum := "2d18c1d11e8ed87a9f91ecd5d4b9a3b24a63043d61e04cc3cdf60b9e50cb6ffc", func := "examboard/examboardlaw07.ExactExchange", spec := "exactExchange", apart := false }
def ExactExchangeSaid : Prop := exactExchangeRow.holds Try.pinned (OpenSpec.ofChange exactExchangeSpec)

/-- ITS FALSE NEIGHBOUR: 'it returns false'. Refute it at one input. -/
def exactExchangeWrong : ChangeSpec := { name := "exactExchange", fn := fun _ => fun
  | [d1, d2, d3] => { results := [.lit (.bool false)], args := [d1, d2, d3] }
  | _ => none }
def ExactExchangeWrongFalsely : Prop := exactExchangeRow.holds Try.pinned (OpenSpec.ofChange exactExchangeWrong)

/-- 'examboardlaw07.ExactTwoSided': WHATEVER THE INPUT: true; the input reads as it did. -/
def exactTwoSidedSpec : ChangeSpec := { name := "exactTwoSided", fn := fun _ => fun
  | [d1, d2] => { results := [.lit (.bool true)], args := [d1, d2] }
  | _ => none }
def exactTwoSidedRow : OpenClaim := { program := "ytonpeagedggakaa", sum := "2d18c1d11e8ed87a9f91ecd5d4b9a3b24a63043d61e04cc3cdf60b9e50cb6ffc", func := "examboard/examboardlaw07.ExactTwoSided", spec := "exactTwoSided", apart := false }
def ExactTwoSidedSaid : Prop := exactTwoSidedRow.holds Try.pinned (OpenSpec.ofChange exactTwoSidedSpec)

/-- ITS FALSE NEIGHBOUR: 'it returns false'. Refute it at one input. -/
def exactTwoSidedWrong : ChangeSpec := { name := "exactTwoSided", fn := fun _ => fun
  | [d1, d2] => { results := [.lit (.bool false)], args := [d1, d2] }
  | _ => none }
def ExactTwoSidedWrongFalsely : Prop := exactTwoSidedRow.holds Try.pinned (OpenSpec.ofChange exactTwoSidedWrong)

/- THE SECOND FORM. 'bulk': how many values and letters a reading holds, each counted each time it is reached (what is shared counts as often as it is met; a slice's spare places count too). A statement '..UptoSaid' is the law's where the arguments, and the package variables that the reading takes, are together of bulk at most 1048576: NARROWER than '..Said'. Prove '..Said' where nothing that the law and all that it calls make is longer than what came in: it says more and counts as full. Else prove '..UptoSaid'. A law counts once. -/
mutual
def uptoBulk {H : Type} : DataW H → Nat
  | .lit (.string bytes) => bytes.length + 1
  | .lit _ => 1
  | .nil => 1
  | .ptr d => uptoBulk d + 1
  | .slice elems spare => uptoBulkAll elems + uptoBulkAll spare + 1
  | .agg parts => uptoBulkAll parts + 1
  | .iface _ d => uptoBulk d + 1
  | .map entries => uptoBulkEntries entries + 1
  | .held _ => 1
def uptoBulkAll {H : Type} : List (DataW H) → Nat
  | [] => 0
  | d :: r => uptoBulk d + uptoBulkAll r
def uptoBulkEntries {H : Type} : List (Lit × DataW H) → Nat
  | [] => 0
  | x :: r => uptoBulkEntry x + uptoBulkEntries r
def uptoBulkEntry {H : Type} : Lit × DataW H → Nat
  | (.string bytes, d) => bytes.length + uptoBulk d + 1
  | (_, d) => uptoBulk d + 1
 end
def uptoSmall : (H : Type) → List (DataW H) → Bool := fun _ ds => decide (uptoBulkAll ds ≤ 1048576)
def OpenSpec.upto (s : _root_.Go.ChangeSpec) : _root_.Go.OpenSpec := { _root_.Go.OpenSpec.ofChange s with cond := some uptoSmall }

/-- 'examboardlaw07.ExactConvolve', WHERE WHAT IT READS IS OF BULK AT MOST 1048576: true; the input reads as it did. -/
def exactConvolveUptoRow : OpenClaim := { program := "ytonpeagedggakaa", sum := "2d18c1d11e8ed87a9f91ecd5d4b9a3b24a63043d61e04cc3cdf60b9e50cb6ffc", func := "examboard/examboardlaw07.ExactConvolve", spec := "exactConvolve", apart := false, narrowed := true }
def ExactConvolveUptoSaid : Prop := exactConvolveUptoRow.holds Try.pinned (OpenSpec.upto exactConvolveSpec)

/-- 'examboardlaw07.ExactExchange', WHERE WHAT IT READS IS OF BULK AT MOST 1048576: true; the input reads as it did. -/
def exactExchangeUptoRow : OpenClaim := { program := "ytonpeagedggakaa", sum := "2d18c1d11e8ed87a9f91ecd5d4b9a3b24a63043d61e04cc3cdf60b9e50cb6ffc", func := "examboard/examboardlaw07.ExactExchange", spec := "exactExchange", apart := false, narrowed := true }
def ExactExchangeUptoSaid : Prop := exactExchangeUptoRow.holds Try.pinned (OpenSpec.upto exactExchangeSpec)

/-- 'examboardlaw07.ExactTwoSided', WHERE WHAT IT READS IS OF BULK AT MOST 1048576: true; the input reads as it did. -/
def exactTwoSidedUptoRow : OpenClaim := { program := "ytonpeagedggakaa", sum := "2d18c1d11e8ed87a9f91ecd5d4b9a3b24a63043d61e04cc3cdf60b9e50cb6ffc", func := "examboard/examboardlaw07.ExactTwoSided", spec := "exactTwoSided", apart := false, narrowed := true }
def ExactTwoSidedUptoSaid : Prop := exactTwoSidedUptoRow.holds Try.pinned (OpenSpec.upto exactTwoSidedSpec)

end Rows
end Go.Proofs.Ytonpeagedggakaa

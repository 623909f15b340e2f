/-
  No cell of these rows narrows 'for every input' (looked for: loops, veiled, ifaces, maps, wideKeys, modest, calm, conditions, laid).
  DERIVED. THE GIVEN ROWS OF THIS SEAT. 4 by the template 'for every input the law returns true; each argument reads behind the call as it read before'; 0 by the template 'total and deterministic' (their statements: YtonpeagedggakaaGreatTotals.lean).
  GIVEN WITH THE SEED: the statements are not yours to turn. If you find one false, say at which input.
  Laid BY PROGRAM, IN A SANDBOX (cutbox-rows.mjs): the forced cells as the released guide's own fill.sh prints them over the translation e9bac4200caa6584… (all of the seat's roots in one cut). By AI agents, Wed Nov 11 2026. No macro, syntax, notation, axiom, sorry.
-/
import Derived.Test.YtonpeagedggakaaGreatChecked
import GoSem.Claim
import GoSem.ClaimJoined
import GoSem.ClaimMapViews
import Derived.JoinedTies
import Derived.KernelRfl
namespace Go.Proofs.YtonpeagedggakaaGreat
/- THE CELL 'sum', in the pinned program and in every row, IS THE sha256 OF THE DUMP (.gsa) THAT YtonpeagedggakaaGreatProg.lean LOADS. Nothing in Lean hashes anything: it is a label: what it is worth is what the hold of that sum in a sandbox is worth. -/
noncomputable def Tryz.pinned : Pinned := { name := "ytonpeagedggakaagreat", sum := "e9bac4200caa658448244b5bad7155bbab228fbd86b2057febc804c32c43436c", checked := Tryz.checked }
namespace Rows
def none {H : Type} : Left H := { results := [], args := [] }

/-- 'examboardlaw07.ExactMoments': WHATEVER THE INPUT: true; the input reads as it did. -/
def exactMomentsSpec : ChangeSpec := { name := "exactMoments", fn := fun _ => fun
  | [d] => { results := [.lit (.bool true)], args := [d] }
  | _ => none }
def exactMomentsRow : OpenClaim := { program := "ytonpeagedggakaagreat", sum := "e9bac4200caa658448244b5bad7155bbab228fbd86b2057febc804c32c43436c", func := "examboard/examboardlaw07.ExactMoments", spec := "exactMoments", apart := false }
def ExactMomentsSaid : Prop := exactMomentsRow.holds Tryz.pinned (OpenSpec.ofChange exactMomentsSpec)

/-- ITS FALSE NEIGHBOUR: 'it returns false'. Refute it at one input. -/
def exactMomentsWrong : ChangeSpec := { name := "exactMoments", fn := fun _ => fun
  | [d] => { results := [.lit (.bool false)], args := [d] }
  | _ => none }
def ExactMomentsWrongFalsely : Prop := exactMomentsRow.holds Tryz.pinned (OpenSpec.ofChange exactMomentsWrong)

/-- 'examboardlaw07.ExactHyper': WHATEVER THE INPUT: true; the input reads as it did. -/
def exactHyperSpec : ChangeSpec := { name := "exactHyper", fn := fun _ => fun
  | [d1, d2, d3] => { results := [.lit (.bool true)], args := [d1, d2, d3] }
  | _ => none }
def exactHyperRow : OpenClaim := { program := "ytonpeagedggakaagreat", sum := "e9bac4200caa658448244b5bad7155bbab228fbd86b2057febc804c32c43436c", func := "examboard/examboardlaw07.ExactHyper", spec := "exactHyper", apart := false }
def ExactHyperSaid : Prop := exactHyperRow.holds Tryz.pinned (OpenSpec.ofChange exactHyperSpec)

/-- ITS FALSE NEIGHBOUR: 'it returns false'. Refute it at one input. -/
def exactHyperWrong : ChangeSpec := { name := "exactHyper", fn := fun _ => fun
  | [d1, d2, d3] => { results := [.lit (.bool false)], args := [d1, d2, d3] }
  | _ => none }
def ExactHyperWrongFalsely : Prop := exactHyperRow.holds Tryz.pinned (OpenSpec.ofChange exactHyperWrong)

/-- 'examboardlaw07.ExactTrials': WHATEVER THE INPUT: true; the input reads as it did. -/
def exactTrialsSpec : ChangeSpec := { name := "exactTrials", fn := fun _ => fun
  | [d] => { results := [.lit (.bool true)], args := [d] }
  | _ => none }
def exactTrialsRow : OpenClaim := { program := "ytonpeagedggakaagreat", sum := "e9bac4200caa658448244b5bad7155bbab228fbd86b2057febc804c32c43436c", func := "examboard/examboardlaw07.ExactTrials", spec := "exactTrials", apart := false }
def ExactTrialsSaid : Prop := exactTrialsRow.holds Tryz.pinned (OpenSpec.ofChange exactTrialsSpec)

/-- ITS FALSE NEIGHBOUR: 'it returns false'. Refute it at one input. -/
def exactTrialsWrong : ChangeSpec := { name := "exactTrials", fn := fun _ => fun
  | [d] => { results := [.lit (.bool false)], args := [d] }
  | _ => none }
def ExactTrialsWrongFalsely : Prop := exactTrialsRow.holds Tryz.pinned (OpenSpec.ofChange exactTrialsWrong)

/-- 'examboardlaw07.ExactSums': WHATEVER THE INPUT: true; the input reads as it did. -/
def exactSumsSpec : ChangeSpec := { name := "exactSums", fn := fun _ => fun
  | [d1, d2] => { results := [.lit (.bool true)], args := [d1, d2] }
  | _ => none }
def exactSumsRow : OpenClaim := { program := "ytonpeagedggakaagreat", sum := "e9bac4200caa658448244b5bad7155bbab228fbd86b2057febc804c32c43436c", func := "examboard/examboardlaw07.ExactSums", spec := "exactSums", apart := false }
def ExactSumsSaid : Prop := exactSumsRow.holds Tryz.pinned (OpenSpec.ofChange exactSumsSpec)

/-- ITS FALSE NEIGHBOUR: 'it returns false'. Refute it at one input. -/
def exactSumsWrong : ChangeSpec := { name := "exactSums", fn := fun _ => fun
  | [d1, d2] => { results := [.lit (.bool false)], args := [d1, d2] }
  | _ => none }
def ExactSumsWrongFalsely : Prop := exactSumsRow.holds Tryz.pinned (OpenSpec.ofChange exactSumsWrong)

/- THE SECOND FORM. 'bulk': how many values and letters a reading holds, each counted each time it is reached (what is shared counts as often as it is met; a slice's spare places count too). A statement '..UptoSaid' is the law's where the arguments, and the package variables that the reading takes, are together of bulk at most 1048576: NARROWER than '..Said'. Prove '..Said' where nothing that the law and all that it calls make is longer than what came in: it says more and counts as full. Else prove '..UptoSaid'. A law counts once. -/
mutual
def uptoBulk {H : Type} : DataW H → Nat
  | .lit (.string bytes) => bytes.length + 1
  | .lit _ => 1
  | .nil => 1
  | .ptr d => uptoBulk d + 1
  | .slice elems spare => uptoBulkAll elems + uptoBulkAll spare + 1
  | .agg parts => uptoBulkAll parts + 1
  | .iface _ d => uptoBulk d + 1
  | .map entries => uptoBulkEntries entries + 1
  | .held _ => 1
def uptoBulkAll {H : Type} : List (DataW H) → Nat
  | [] => 0
  | d :: r => uptoBulk d + uptoBulkAll r
def uptoBulkEntries {H : Type} : List (Lit × DataW H) → Nat
  | [] => 0
  | x :: r => uptoBulkEntry x + uptoBulkEntries r
def uptoBulkEntry {H : Type} : Lit × DataW H → Nat
  | (.string bytes, d) => bytes.length + uptoBulk d + 1
  | (_, d) => uptoBulk d + 1
 end
def uptoSmall : (H : Type) → List (DataW H) → Bool := fun _ ds => decide (uptoBulkAll ds ≤ 1048576)
def OpenSpec.upto (s : _root_.Go.ChangeSpec) : _root_.Go.OpenSpec := { _root_.Go.OpenSpec.ofChange s with cond := some uptoSmall }

/-- 'examboardlaw07.ExactMoments', WHERE WHAT IT READS IS OF BULK AT MOST 1048576: true; the input reads as it did. -/
def exactMomentsUptoRow : OpenClaim := { program := "ytonpeagedggakaagreat", sum := "e9bac4200caa658448244b5bad7155bbab228fbd86b2057febc804c32c43436c", func := "examboard/examboardlaw07.ExactMoments", spec := "exactMoments", apart := false, narrowed := true }
def ExactMomentsUptoSaid : Prop := exactMomentsUptoRow.holds Tryz.pinned (OpenSpec.upto exactMomentsSpec)

/-- 'examboardlaw07.ExactHyper', WHERE WHAT IT READS IS OF BULK AT MOST 1048576: true; the input reads as it did. -/
def exactHyperUptoRow : OpenClaim := { program := "ytonpeagedggakaagreat", sum := "e9bac4200caa658448244b5bad7155bbab228fbd86b2057febc804c32c43436c", func := "examboard/examboardlaw07.ExactHyper", spec := "exactHyper", apart := false, narrowed := true }
def ExactHyperUptoSaid : Prop := exactHyperUptoRow.holds Tryz.pinned (OpenSpec.upto exactHyperSpec)

/-- 'examboardlaw07.ExactTrials', WHERE WHAT IT READS IS OF BULK AT MOST 1048576: true; the input reads as it did. -/
def exactTrialsUptoRow : OpenClaim := { program := "ytonpeagedggakaagreat", sum := "e9bac4200caa658448244b5bad7155bbab228fbd86b2057febc804c32c43436c", func := "examboard/examboardlaw07.ExactTrials", spec := "exactTrials", apart := false, narrowed := true }
def ExactTrialsUptoSaid : Prop := exactTrialsUptoRow.holds Tryz.pinned (OpenSpec.upto exactTrialsSpec)

/-- 'examboardlaw07.ExactSums', WHERE WHAT IT READS IS OF BULK AT MOST 1048576: true; the input reads as it did. -/
def exactSumsUptoRow : OpenClaim := { program := "ytonpeagedggakaagreat", sum := "e9bac4200caa658448244b5bad7155bbab228fbd86b2057febc804c32c43436c", func := "examboard/examboardlaw07.ExactSums", spec := "exactSums", apart := false, narrowed := true }
def ExactSumsUptoSaid : Prop := exactSumsUptoRow.holds Tryz.pinned (OpenSpec.upto exactSumsSpec)

end Rows
end Go.Proofs.YtonpeagedggakaaGreat

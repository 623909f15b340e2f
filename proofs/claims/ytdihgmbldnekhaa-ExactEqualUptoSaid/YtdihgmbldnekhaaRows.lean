/-
  No cell of these rows narrows 'for every input' (looked for: loops, veiled, ifaces, maps, wideKeys, modest, calm, conditions, laid).
  DERIVED. THE GIVEN ROWS OF THIS SEAT. 8 by the template 'for every input the law returns true; each argument reads behind the call as it read before'; 0 by the template 'total and deterministic' (their statements: YtdihgmbldnekhaaTotals.lean).
  GIVEN WITH THE SEED: the statements are not yours to turn. If you find one false, say at which input.
  Laid BY PROGRAM, IN A SANDBOX (cutbox-rows.mjs): the forced cells as the released guide's own fill.sh prints them over the translation d670be0931b884e8… (all of the seat's roots in one cut). By AI agents, Wed Nov 11 2026. No macro, syntax, notation, axiom, sorry.
-/
import Derived.Test.YtdihgmbldnekhaaChecked
import GoSem.Claim
import GoSem.ClaimJoined
import GoSem.ClaimMapViews
import Derived.JoinedTies
import Derived.KernelRfl
namespace Go.Proofs.Ytdihgmbldnekhaa
/- THE CELL 'sum', in the pinned program and in every row, IS THE sha256 OF THE DUMP (.gsa) THAT YtdihgmbldnekhaaProg.lean LOADS. Nothing in Lean hashes anything: it is a label: what it is worth is what the hold of that sum in a sandbox is worth. -/
noncomputable def Try.pinned : Pinned := { name := "ytdihgmbldnekhaa", sum := "d670be0931b884e8b588b8a4d5241c7895069016115c506a475a0951026de8a1", checked := Try.checked }
namespace Rows
def none {H : Type} : Left H := { results := [], args := [] }

/-- 'examboardlaw07.ExactEqual': WHATEVER THE INPUT: true; the input reads as it did. -/
def exactEqualSpec : ChangeSpec := { name := "exactEqual", fn := fun _ => fun
  | [d1, d2] => { results := [.lit (.bool true)], args := [d1, d2] }
  | _ => none }
def exactEqualRow : OpenClaim := { program := "ytdihgmbldnekhaa", sum := "d670be0931b884e8b588b8a4d5241c7895069016115c506a475a0951026de8a1", func := "examboard/examboardlaw07.ExactEqual", spec := "exactEqual", apart := false }
def ExactEqualSaid : Prop := exactEqualRow.holds Try.pinned (OpenSpec.ofChange exactEqualSpec)

/-- ITS FALSE NEIGHBOUR: 'it returns false'. Refute it at one input. -/
def exactEqualWrong : ChangeSpec := { name := "exactEqual", fn := fun _ => fun
  | [d1, d2] => { results := [.lit (.bool false)], args := [d1, d2] }
  | _ => none }
def ExactEqualWrongFalsely : Prop := exactEqualRow.holds Try.pinned (OpenSpec.ofChange exactEqualWrong)

/-- 'examboardlaw08.DrawsSteps': WHATEVER THE INPUT: true; the input reads as it did. -/
def drawsStepsSpec : ChangeSpec := { name := "drawsSteps", fn := fun _ => fun
  | [d1, d2, d3] => { results := [.lit (.bool true)], args := [d1, d2, d3] }
  | _ => none }
def drawsStepsRow : OpenClaim := { program := "ytdihgmbldnekhaa", sum := "d670be0931b884e8b588b8a4d5241c7895069016115c506a475a0951026de8a1", func := "examboard/examboardlaw08.DrawsSteps", spec := "drawsSteps", apart := false }
def DrawsStepsSaid : Prop := drawsStepsRow.holds Try.pinned (OpenSpec.ofChange drawsStepsSpec)

/-- ITS FALSE NEIGHBOUR: 'it returns false'. Refute it at one input. -/
def drawsStepsWrong : ChangeSpec := { name := "drawsSteps", fn := fun _ => fun
  | [d1, d2, d3] => { results := [.lit (.bool false)], args := [d1, d2, d3] }
  | _ => none }
def DrawsStepsWrongFalsely : Prop := drawsStepsRow.holds Try.pinned (OpenSpec.ofChange drawsStepsWrong)

/-- 'examboardlaw08.DrawsNumbers': WHATEVER THE INPUT: true; the input reads as it did. -/
def drawsNumbersSpec : ChangeSpec := { name := "drawsNumbers", fn := fun _ => fun
  | [d1, d2, d3] => { results := [.lit (.bool true)], args := [d1, d2, d3] }
  | _ => none }
def drawsNumbersRow : OpenClaim := { program := "ytdihgmbldnekhaa", sum := "d670be0931b884e8b588b8a4d5241c7895069016115c506a475a0951026de8a1", func := "examboard/examboardlaw08.DrawsNumbers", spec := "drawsNumbers", apart := false }
def DrawsNumbersSaid : Prop := drawsNumbersRow.holds Try.pinned (OpenSpec.ofChange drawsNumbersSpec)

/-- ITS FALSE NEIGHBOUR: 'it returns false'. Refute it at one input. -/
def drawsNumbersWrong : ChangeSpec := { name := "drawsNumbers", fn := fun _ => fun
  | [d1, d2, d3] => { results := [.lit (.bool false)], args := [d1, d2, d3] }
  | _ => none }
def DrawsNumbersWrongFalsely : Prop := drawsNumbersRow.holds Try.pinned (OpenSpec.ofChange drawsNumbersWrong)

/-- 'examboardlaw08.DrawsLists': WHATEVER THE INPUT: true; the input reads as it did. -/
def drawsListsSpec : ChangeSpec := { name := "drawsLists", fn := fun _ => fun
  | [d1, d2, d3] => { results := [.lit (.bool true)], args := [d1, d2, d3] }
  | _ => none }
def drawsListsRow : OpenClaim := { program := "ytdihgmbldnekhaa", sum := "d670be0931b884e8b588b8a4d5241c7895069016115c506a475a0951026de8a1", func := "examboard/examboardlaw08.DrawsLists", spec := "drawsLists", apart := false }
def DrawsListsSaid : Prop := drawsListsRow.holds Try.pinned (OpenSpec.ofChange drawsListsSpec)

/-- ITS FALSE NEIGHBOUR: 'it returns false'. Refute it at one input. -/
def drawsListsWrong : ChangeSpec := { name := "drawsLists", fn := fun _ => fun
  | [d1, d2, d3] => { results := [.lit (.bool false)], args := [d1, d2, d3] }
  | _ => none }
def DrawsListsWrongFalsely : Prop := drawsListsRow.holds Try.pinned (OpenSpec.ofChange drawsListsWrong)

/-- 'examboardlaw08.DrawsReplay': WHATEVER THE INPUT: true; the input reads as it did. -/
def drawsReplaySpec : ChangeSpec := { name := "drawsReplay", fn := fun _ => fun
  | [d1, d2, d3] => { results := [.lit (.bool true)], args := [d1, d2, d3] }
  | _ => none }
def drawsReplayRow : OpenClaim := { program := "ytdihgmbldnekhaa", sum := "d670be0931b884e8b588b8a4d5241c7895069016115c506a475a0951026de8a1", func := "examboard/examboardlaw08.DrawsReplay", spec := "drawsReplay", apart := false }
def DrawsReplaySaid : Prop := drawsReplayRow.holds Try.pinned (OpenSpec.ofChange drawsReplaySpec)

/-- ITS FALSE NEIGHBOUR: 'it returns false'. Refute it at one input. -/
def drawsReplayWrong : ChangeSpec := { name := "drawsReplay", fn := fun _ => fun
  | [d1, d2, d3] => { results := [.lit (.bool false)], args := [d1, d2, d3] }
  | _ => none }
def DrawsReplayWrongFalsely : Prop := drawsReplayRow.holds Try.pinned (OpenSpec.ofChange drawsReplayWrong)

/-- 'examboardlaw08.DrawsRanges': WHATEVER THE INPUT: true; the input reads as it did. -/
def drawsRangesSpec : ChangeSpec := { name := "drawsRanges", fn := fun _ => fun
  | [d1, d2, d3, d4, d5] => { results := [.lit (.bool true)], args := [d1, d2, d3, d4, d5] }
  | _ => none }
def drawsRangesRow : OpenClaim := { program := "ytdihgmbldnekhaa", sum := "d670be0931b884e8b588b8a4d5241c7895069016115c506a475a0951026de8a1", func := "examboard/examboardlaw08.DrawsRanges", spec := "drawsRanges", apart := false }
def DrawsRangesSaid : Prop := drawsRangesRow.holds Try.pinned (OpenSpec.ofChange drawsRangesSpec)

/-- ITS FALSE NEIGHBOUR: 'it returns false'. Refute it at one input. -/
def drawsRangesWrong : ChangeSpec := { name := "drawsRanges", fn := fun _ => fun
  | [d1, d2, d3, d4, d5] => { results := [.lit (.bool false)], args := [d1, d2, d3, d4, d5] }
  | _ => none }
def DrawsRangesWrongFalsely : Prop := drawsRangesRow.holds Try.pinned (OpenSpec.ofChange drawsRangesWrong)

/-- 'examboardlaw08.DrawsPicks': WHATEVER THE INPUT: true; the input reads as it did. -/
def drawsPicksSpec : ChangeSpec := { name := "drawsPicks", fn := fun _ => fun
  | [d1, d2, d3, d4] => { results := [.lit (.bool true)], args := [d1, d2, d3, d4] }
  | _ => none }
def drawsPicksRow : OpenClaim := { program := "ytdihgmbldnekhaa", sum := "d670be0931b884e8b588b8a4d5241c7895069016115c506a475a0951026de8a1", func := "examboard/examboardlaw08.DrawsPicks", spec := "drawsPicks", apart := false }
def DrawsPicksSaid : Prop := drawsPicksRow.holds Try.pinned (OpenSpec.ofChange drawsPicksSpec)

/-- ITS FALSE NEIGHBOUR: 'it returns false'. Refute it at one input. -/
def drawsPicksWrong : ChangeSpec := { name := "drawsPicks", fn := fun _ => fun
  | [d1, d2, d3, d4] => { results := [.lit (.bool false)], args := [d1, d2, d3, d4] }
  | _ => none }
def DrawsPicksWrongFalsely : Prop := drawsPicksRow.holds Try.pinned (OpenSpec.ofChange drawsPicksWrong)

/-- 'examboardlaw08.DrawsInjective': WHATEVER THE INPUT: true; the input reads as it did. -/
def drawsInjectiveSpec : ChangeSpec := { name := "drawsInjective", fn := fun _ => fun
  | [d1, d2] => { results := [.lit (.bool true)], args := [d1, d2] }
  | _ => none }
def drawsInjectiveRow : OpenClaim := { program := "ytdihgmbldnekhaa", sum := "d670be0931b884e8b588b8a4d5241c7895069016115c506a475a0951026de8a1", func := "examboard/examboardlaw08.DrawsInjective", spec := "drawsInjective", apart := false }
def DrawsInjectiveSaid : Prop := drawsInjectiveRow.holds Try.pinned (OpenSpec.ofChange drawsInjectiveSpec)

/-- ITS FALSE NEIGHBOUR: 'it returns false'. Refute it at one input. -/
def drawsInjectiveWrong : ChangeSpec := { name := "drawsInjective", fn := fun _ => fun
  | [d1, d2] => { results := [.lit (.bool false)], args := [d1, d2] }
  | _ => none }
def DrawsInjectiveWrongFalsely : Prop := drawsInjectiveRow.holds Try.pinned (OpenSpec.ofChange drawsInjectiveWrong)

/- THE SECOND FORM. 'bulk': how many values and letters a reading holds, each counted each time it is reached (what is shared counts as often as it is met; a slice's spare places count too). A statement '..UptoSaid' is the law's where the arguments, and the package variables that the reading takes, are together of bulk at most 1048576: NARROWER than '..Said'. Prove '..Said' where nothing that the law and all that it calls make is longer than what came in: it says more and counts as full. Else prove '..UptoSaid'. A law counts once. -/
mutual
def uptoBulk {H : Type} : DataW H → Nat
  | .lit (.string bytes) => bytes.length + 1
  | .lit _ => 1
  | .nil => 1
  | .ptr d => uptoBulk d + 1
  | .slice elems spare => uptoBulkAll elems + uptoBulkAll spare + 1
  | .agg parts => uptoBulkAll parts + 1
  | .iface _ d => uptoBulk d + 1
  | .map entries => uptoBulkEntries entries + 1
  | .held _ => 1
def uptoBulkAll {H : Type} : List (DataW H) → Nat
  | [] => 0
  | d :: r => uptoBulk d + uptoBulkAll r
def uptoBulkEntries {H : Type} : List (Lit × DataW H) → Nat
  | [] => 0
  | x :: r => uptoBulkEntry x + uptoBulkEntries r
def uptoBulkEntry {H : Type} : Lit × DataW H → Nat
  | (.string bytes, d) => bytes.length + uptoBulk d + 1
  | (_, d) => uptoBulk d + 1
 end
def uptoSmall : (H : Type) → List (DataW H) → Bool := fun _ ds => decide (uptoBulkAll ds ≤ 1048576)
def OpenSpec.upto (s : _root_.Go.ChangeSpec) : _root_.Go.OpenSpec := { _root_.Go.OpenSpec.ofChange s with cond := some uptoSmall }

/-- 'examboardlaw07.ExactEqual', WHERE WHAT IT READS IS OF BULK AT MOST 1048576: true; the input reads as it did. -/
def exactEqualUptoRow : OpenClaim := { program := "ytdihgmbldnekhaa", sum := "d670be0931b884e8b588b8a4d5241c7895069016115c506a475a0951026de8a1", func := "examboard/examboardlaw07.ExactEqual", spec := "exactEqual", apart := false, narrowed := true }
def ExactEqualUptoSaid : Prop := exactEqualUptoRow.holds Try.pinned (OpenSpec.upto exactEqualSpec)

/-- 'examboardlaw08.DrawsSteps', WHERE WHAT IT READS IS OF BULK AT MOST 1048576: true; the input reads as it did. -/
def drawsStepsUptoRow : OpenClaim := { program := "ytdihgmbldnekhaa", sum := "d670be0931b884e8b588b8a4d5241c7895069016115c506a475a0951026de8a1", func := "examboard/examboardlaw08.DrawsSteps", spec := "drawsSteps", apart := false, narrowed := true }
def DrawsStepsUptoSaid : Prop := drawsStepsUptoRow.holds Try.pinned (OpenSpec.upto drawsStepsSpec)

/-- 'examboardlaw08.DrawsNumbers', WHERE WHAT IT READS IS OF BULK AT MOST 1048576: true; the input reads as it did. -/
def drawsNumbersUptoRow : OpenClaim := { program := "ytdihgmbldnekhaa", sum := "d670be0931b884e8b588b8a4d5241c7895069016115c506a475a0951026de8a1", func := "examboard/examboardlaw08.DrawsNumbers", spec := "drawsNumbers", apart := false, narrowed := true }
def DrawsNumbersUptoSaid : Prop := drawsNumbersUptoRow.holds Try.pinned (OpenSpec.upto drawsNumbersSpec)

/-- 'examboardlaw08.DrawsLists', WHERE WHAT IT READS IS OF BULK AT MOST 1048576: true; the input reads as it did. -/
def drawsListsUptoRow : OpenClaim := { program := "ytdihgmbldnekhaa", sum := "d670be0931b884e8b588b8a4d5241c7895069016115c506a475a0951026de8a1", func := "examboard/examboardlaw08.DrawsLists", spec := "drawsLists", apart := false, narrowed := true }
def DrawsListsUptoSaid : Prop := drawsListsUptoRow.holds Try.pinned (OpenSpec.upto drawsListsSpec)

/-- 'examboardlaw08.DrawsReplay', WHERE WHAT IT READS IS OF BULK AT MOST 1048576: true; the input reads as it did. -/
def drawsReplayUptoRow : OpenClaim := { program := "ytdihgmbldnekhaa", sum := "d670be0931b884e8b588b8a4d5241c7895069016115c506a475a0951026de8a1", func := "examboard/examboardlaw08.DrawsReplay", spec := "drawsReplay", apart := false, narrowed := true }
def DrawsReplayUptoSaid : Prop := drawsReplayUptoRow.holds Try.pinned (OpenSpec.upto drawsReplaySpec)

/-- 'examboardlaw08.DrawsRanges', WHERE WHAT IT READS IS OF BULK AT MOST 1048576: true; the input reads as it did. -/
def drawsRangesUptoRow : OpenClaim := { program := "ytdihgmbldnekhaa", sum := "d670be0931b884e8b588b8a4d5241c7895069016115c506a475a0951026de8a1", func := "examboard/examboardlaw08.DrawsRanges", spec := "drawsRanges", apart := false, narrowed := true }
def DrawsRangesUptoSaid : Prop := drawsRangesUptoRow.holds Try.pinned (OpenSpec.upto drawsRangesSpec)

/-- 'examboardlaw08.DrawsPicks', WHERE WHAT IT READS IS OF BULK AT MOST 1048576: true; the input reads as it did. -/
def drawsPicksUptoRow : OpenClaim := { program := "ytdihgmbldnekhaa", sum := "d670be0931b884e8b588b8a4d5241c7895069016115c506a475a0951026de8a1", func := "examboard/examboardlaw08.DrawsPicks", spec := "drawsPicks", apart := false, narrowed := true }
def DrawsPicksUptoSaid : Prop := drawsPicksUptoRow.holds Try.pinned (OpenSpec.upto drawsPicksSpec)

/-- 'examboardlaw08.DrawsInjective', WHERE WHAT IT READS IS OF BULK AT MOST 1048576: true; the input reads as it did. -/
def drawsInjectiveUptoRow : OpenClaim := { program := "ytdihgmbldnekhaa", sum := "d670be0931b884e8b588b8a4d5241c7895069016115c506a475a0951026de8a1", func := "examboard/examboardlaw08.DrawsInjective", spec := "drawsInjective", apart := false, narrowed := true }
def DrawsInjectiveUptoSaid : Prop := drawsInjectiveUptoRow.holds Try.pinned (OpenSpec.upto drawsInjectiveSpec)

end Rows
end Go.Proofs.Ytdihgmbldnekhaa

/-
  No cell of these rows narrows 'for every input' (looked for: loops, veiled, ifaces, maps, wideKeys, modest, calm, conditions, laid).
  DERIVED. THE GIVEN ROWS OF THIS SEAT. 8 by the template 'for every input the law returns true; each argument reads behind the call as it read before'; 0 by the template 'total and deterministic' (their statements: YtdakfpapigieiaaTotals.lean).
  GIVEN WITH THE SEED: the statements are not yours to turn. If you find one false, say at which input.
  Laid BY PROGRAM, IN A SANDBOX (cutbox-rows.mjs): the forced cells as the released guide's own fill.sh prints them over the translation 63ffa2a2c0adf8c7… (all of the seat's roots in one cut). By AI agents, Wed Nov 11 2026. No macro, syntax, notation, axiom, sorry.
-/
import Derived.Test.YtdakfpapigieiaaChecked
import GoSem.Claim
import GoSem.ClaimJoined
import GoSem.ClaimMapViews
import Derived.JoinedTies
import Derived.KernelRfl
namespace Go.Proofs.Ytdakfpapigieiaa
/- THE CELL 'sum', in the pinned program and in every row, IS THE sha256 OF THE DUMP (.gsa) THAT YtdakfpapigieiaaProg.lean LOADS. Nothing in Lean hashes anything: it is a label: what it is worth is what the hold of that sum in a sandbox is worth. -/
noncomputable def Try.pinned : Pinned := { name := "ytdakfpapigieiaa", sum := "63ffa2a2c0adf8c7fd79443cdebd06ad2f80ae4f964ea987e5b2948d11a56424", checked := Try.checked }
namespace Rows
def none {H : Type} : Left H := { results := [], args := [] }

/-- 'examboardlaw06.CombinNumbers': WHATEVER THE INPUT: true; the input reads as it did. -/
def combinNumbersSpec : ChangeSpec := { name := "combinNumbers", fn := fun _ => fun
  | [d1, d2] => { results := [.lit (.bool true)], args := [d1, d2] }
  | _ => none }
def combinNumbersRow : OpenClaim := { program := "ytdakfpapigieiaa", sum := "63ffa2a2c0adf8c7fd79443cdebd06ad2f80ae4f964ea987e5b2948d11a56424", func := "examboard/examboardlaw06.CombinNumbers", spec := "combinNumbers", apart := false }
def CombinNumbersSaid : Prop := combinNumbersRow.holds Try.pinned (OpenSpec.ofChange combinNumbersSpec)

/-- ITS FALSE NEIGHBOUR: 'it returns false'. Refute it at one input. -/
def combinNumbersWrong : ChangeSpec := { name := "combinNumbers", fn := fun _ => fun
  | [d1, d2] => { results := [.lit (.bool false)], args := [d1, d2] }
  | _ => none }
def CombinNumbersWrongFalsely : Prop := combinNumbersRow.holds Try.pinned (OpenSpec.ofChange combinNumbersWrong)

/-- 'examboardlaw06.CombinParts': WHATEVER THE INPUT: true; the input reads as it did. -/
def combinPartsSpec : ChangeSpec := { name := "combinParts", fn := fun _ => fun
  | [d] => { results := [.lit (.bool true)], args := [d] }
  | _ => none }
def combinPartsRow : OpenClaim := { program := "ytdakfpapigieiaa", sum := "63ffa2a2c0adf8c7fd79443cdebd06ad2f80ae4f964ea987e5b2948d11a56424", func := "examboard/examboardlaw06.CombinParts", spec := "combinParts", apart := false }
def CombinPartsSaid : Prop := combinPartsRow.holds Try.pinned (OpenSpec.ofChange combinPartsSpec)

/-- ITS FALSE NEIGHBOUR: 'it returns false'. Refute it at one input. -/
def combinPartsWrong : ChangeSpec := { name := "combinParts", fn := fun _ => fun
  | [d] => { results := [.lit (.bool false)], args := [d] }
  | _ => none }
def CombinPartsWrongFalsely : Prop := combinPartsRow.holds Try.pinned (OpenSpec.ofChange combinPartsWrong)

/-- 'examboardlaw06.CombinSubsets': WHATEVER THE INPUT: true; the input reads as it did. -/
def combinSubsetsSpec : ChangeSpec := { name := "combinSubsets", fn := fun _ => fun
  | [d1, d2] => { results := [.lit (.bool true)], args := [d1, d2] }
  | _ => none }
def combinSubsetsRow : OpenClaim := { program := "ytdakfpapigieiaa", sum := "63ffa2a2c0adf8c7fd79443cdebd06ad2f80ae4f964ea987e5b2948d11a56424", func := "examboard/examboardlaw06.CombinSubsets", spec := "combinSubsets", apart := false }
def CombinSubsetsSaid : Prop := combinSubsetsRow.holds Try.pinned (OpenSpec.ofChange combinSubsetsSpec)

/-- ITS FALSE NEIGHBOUR: 'it returns false'. Refute it at one input. -/
def combinSubsetsWrong : ChangeSpec := { name := "combinSubsets", fn := fun _ => fun
  | [d1, d2] => { results := [.lit (.bool false)], args := [d1, d2] }
  | _ => none }
def CombinSubsetsWrongFalsely : Prop := combinSubsetsRow.holds Try.pinned (OpenSpec.ofChange combinSubsetsWrong)

/-- 'examboardlaw06.CombinUnranks': WHATEVER THE INPUT: true; the input reads as it did. -/
def combinUnranksSpec : ChangeSpec := { name := "combinUnranks", fn := fun _ => fun
  | [d1, d2, d3] => { results := [.lit (.bool true)], args := [d1, d2, d3] }
  | _ => none }
def combinUnranksRow : OpenClaim := { program := "ytdakfpapigieiaa", sum := "63ffa2a2c0adf8c7fd79443cdebd06ad2f80ae4f964ea987e5b2948d11a56424", func := "examboard/examboardlaw06.CombinUnranks", spec := "combinUnranks", apart := false }
def CombinUnranksSaid : Prop := combinUnranksRow.holds Try.pinned (OpenSpec.ofChange combinUnranksSpec)

/-- ITS FALSE NEIGHBOUR: 'it returns false'. Refute it at one input. -/
def combinUnranksWrong : ChangeSpec := { name := "combinUnranks", fn := fun _ => fun
  | [d1, d2, d3] => { results := [.lit (.bool false)], args := [d1, d2, d3] }
  | _ => none }
def CombinUnranksWrongFalsely : Prop := combinUnranksRow.holds Try.pinned (OpenSpec.ofChange combinUnranksWrong)

/-- 'examboardlaw06.CombinRank': WHATEVER THE INPUT: true; the input reads as it did. -/
def combinRankSpec : ChangeSpec := { name := "combinRank", fn := fun _ => fun
  | [d1, d2, d3] => { results := [.lit (.bool true)], args := [d1, d2, d3] }
  | _ => none }
def combinRankRow : OpenClaim := { program := "ytdakfpapigieiaa", sum := "63ffa2a2c0adf8c7fd79443cdebd06ad2f80ae4f964ea987e5b2948d11a56424", func := "examboard/examboardlaw06.CombinRank", spec := "combinRank", apart := false }
def CombinRankSaid : Prop := combinRankRow.holds Try.pinned (OpenSpec.ofChange combinRankSpec)

/-- ITS FALSE NEIGHBOUR: 'it returns false'. Refute it at one input. -/
def combinRankWrong : ChangeSpec := { name := "combinRank", fn := fun _ => fun
  | [d1, d2, d3] => { results := [.lit (.bool false)], args := [d1, d2, d3] }
  | _ => none }
def CombinRankWrongFalsely : Prop := combinRankRow.holds Try.pinned (OpenSpec.ofChange combinRankWrong)

/-- 'examboardlaw06.CombinPascal': WHATEVER THE INPUT: true; the input reads as it did. -/
def combinPascalSpec : ChangeSpec := { name := "combinPascal", fn := fun _ => fun
  | [d1, d2] => { results := [.lit (.bool true)], args := [d1, d2] }
  | _ => none }
def combinPascalRow : OpenClaim := { program := "ytdakfpapigieiaa", sum := "63ffa2a2c0adf8c7fd79443cdebd06ad2f80ae4f964ea987e5b2948d11a56424", func := "examboard/examboardlaw06.CombinPascal", spec := "combinPascal", apart := false }
def CombinPascalSaid : Prop := combinPascalRow.holds Try.pinned (OpenSpec.ofChange combinPascalSpec)

/-- ITS FALSE NEIGHBOUR: 'it returns false'. Refute it at one input. -/
def combinPascalWrong : ChangeSpec := { name := "combinPascal", fn := fun _ => fun
  | [d1, d2] => { results := [.lit (.bool false)], args := [d1, d2] }
  | _ => none }
def CombinPascalWrongFalsely : Prop := combinPascalRow.holds Try.pinned (OpenSpec.ofChange combinPascalWrong)

/-- 'examboardlaw06.CombinDivides': WHATEVER THE INPUT: true; the input reads as it did. -/
def combinDividesSpec : ChangeSpec := { name := "combinDivides", fn := fun _ => fun
  | [d] => { results := [.lit (.bool true)], args := [d] }
  | _ => none }
def combinDividesRow : OpenClaim := { program := "ytdakfpapigieiaa", sum := "63ffa2a2c0adf8c7fd79443cdebd06ad2f80ae4f964ea987e5b2948d11a56424", func := "examboard/examboardlaw06.CombinDivides", spec := "combinDivides", apart := false }
def CombinDividesSaid : Prop := combinDividesRow.holds Try.pinned (OpenSpec.ofChange combinDividesSpec)

/-- ITS FALSE NEIGHBOUR: 'it returns false'. Refute it at one input. -/
def combinDividesWrong : ChangeSpec := { name := "combinDivides", fn := fun _ => fun
  | [d] => { results := [.lit (.bool false)], args := [d] }
  | _ => none }
def CombinDividesWrongFalsely : Prop := combinDividesRow.holds Try.pinned (OpenSpec.ofChange combinDividesWrong)

/-- 'examboardlaw06.CombinOrder': WHATEVER THE INPUT: true; the input reads as it did. -/
def combinOrderSpec : ChangeSpec := { name := "combinOrder", fn := fun _ => fun
  | [d1, d2, d3] => { results := [.lit (.bool true)], args := [d1, d2, d3] }
  | _ => none }
def combinOrderRow : OpenClaim := { program := "ytdakfpapigieiaa", sum := "63ffa2a2c0adf8c7fd79443cdebd06ad2f80ae4f964ea987e5b2948d11a56424", func := "examboard/examboardlaw06.CombinOrder", spec := "combinOrder", apart := false }
def CombinOrderSaid : Prop := combinOrderRow.holds Try.pinned (OpenSpec.ofChange combinOrderSpec)

/-- ITS FALSE NEIGHBOUR: 'it returns false'. Refute it at one input. -/
def combinOrderWrong : ChangeSpec := { name := "combinOrder", fn := fun _ => fun
  | [d1, d2, d3] => { results := [.lit (.bool false)], args := [d1, d2, d3] }
  | _ => none }
def CombinOrderWrongFalsely : Prop := combinOrderRow.holds Try.pinned (OpenSpec.ofChange combinOrderWrong)

/- THE SECOND FORM. 'bulk': how many values and letters a reading holds, each counted each time it is reached (what is shared counts as often as it is met; a slice's spare places count too). A statement '..UptoSaid' is the law's where the arguments, and the package variables that the reading takes, are together of bulk at most 1048576: NARROWER than '..Said'. Prove '..Said' where nothing that the law and all that it calls make is longer than what came in: it says more and counts as full. Else prove '..UptoSaid'. A law counts once. -/
mutual
def uptoBulk {H : Type} : DataW H → Nat
  | .lit (.string bytes) => bytes.length + 1
  | .lit _ => 1
  | .nil => 1
  | .ptr d => uptoBulk d + 1
  | .slice elems spare => uptoBulkAll elems + uptoBulkAll spare + 1
  | .agg parts => uptoBulkAll parts + 1
  | .iface _ d => uptoBulk d + 1
  | .map entries => uptoBulkEntries entries + 1
  | .held _ => 1
def uptoBulkAll {H : Type} : List (DataW H) → Nat
  | [] => 0
  | d :: r => uptoBulk d + uptoBulkAll r
def uptoBulkEntries {H : Type} : List (Lit × DataW H) → Nat
  | [] => 0
  | x :: r => uptoBulkEntry x + uptoBulkEntries r
def uptoBulkEntry {H : Type} : Lit × DataW H → Nat
  | (.string bytes, d) => bytes.length + uptoBulk d + 1
  | (_, d) => uptoBulk d + 1
 end
def uptoSmall : (H : Type) → List (DataW H) → Bool := fun _ ds => decide (uptoBulkAll ds ≤ 1048576)
def OpenSpec.upto (s : _root_.Go.ChangeSpec) : _root_.Go.OpenSpec := { _root_.Go.OpenSpec.ofChange s with cond := some uptoSmall }

/-- 'examboardlaw06.CombinNumbers', WHERE WHAT IT READS IS OF BULK AT MOST 1048576: true; the input reads as it did. -/
def combinNumbersUptoRow : OpenClaim := { program := "ytdakfpapigieiaa", sum := "63ffa2a2c0adf8c7fd79443cdebd06ad2f80ae4f964ea987e5b2948d11a56424", func := "examboard/examboardlaw06.CombinNumbers", spec := "combinNumbers", apart := false, narrowed := true }
def CombinNumbersUptoSaid : Prop := combinNumbersUptoRow.holds Try.pinned (OpenSpec.upto combinNumbersSpec)

/-- 'examboardlaw06.CombinParts', WHERE WHAT IT READS IS OF BULK AT MOST 1048576: true; the input reads as it did. -/
def combinPartsUptoRow : OpenClaim := { program := "ytdakfpapigieiaa", sum := "63ffa2a2c0adf8c7fd79443cdebd06ad2f80ae4f964ea987e5b2948d11a56424", func := "examboard/examboardlaw06.CombinParts", spec := "combinParts", apart := false, narrowed := true }
def CombinPartsUptoSaid : Prop := combinPartsUptoRow.holds Try.pinned (OpenSpec.upto combinPartsSpec)

/-- 'examboardlaw06.CombinSubsets', WHERE WHAT IT READS IS OF BULK AT MOST 1048576: true; the input reads as it did. -/
def combinSubsetsUptoRow : OpenClaim := { program := "ytdakfpapigieiaa", sum := "63ffa2a2c0adf8c7fd79443cdebd06ad2f80ae4f964ea987e5b2948d11a56424", func := "examboard/examboardlaw06.CombinSubsets", spec := "combinSubsets", apart := false, narrowed := true }
def CombinSubsetsUptoSaid : Prop := combinSubsetsUptoRow.holds Try.pinned (OpenSpec.upto combinSubsetsSpec)

/-- 'examboardlaw06.CombinUnranks', WHERE WHAT IT READS IS OF BULK AT MOST 1048576: true; the input reads as it did. -/
def combinUnranksUptoRow : OpenClaim := { program := "ytdakfpapigieiaa", sum := "63ffa2a2c0adf8c7fd79443cdebd06ad2f80ae4f964ea987e5b2948d11a56424", func := "examboard/examboardlaw06.CombinUnranks", spec := "combinUnranks", apart := false, narrowed := true }
def CombinUnranksUptoSaid : Prop := combinUnranksUptoRow.holds Try.pinned (OpenSpec.upto combinUnranksSpec)

/-- 'examboardlaw06.CombinRank', WHERE WHAT IT READS IS OF BULK AT MOST 1048576: true; the input reads as it did. -/
def combinRankUptoRow : OpenClaim := { program := "ytdakfpapigieiaa", sum := "63ffa2a2c0adf8c7fd79443cdebd06ad2f80ae4f964ea987e5b2948d11a56424", func := "examboard/examboardlaw06.CombinRank", spec := "combinRank", apart := false, narrowed := true }
def CombinRankUptoSaid : Prop := combinRankUptoRow.holds Try.pinned (OpenSpec.upto combinRankSpec)

/-- 'examboardlaw06.CombinPascal', WHERE WHAT IT READS IS OF BULK AT MOST 1048576: true; the input reads as it did. -/
def combinPascalUptoRow : OpenClaim := { program := "ytdakfpapigieiaa", sum := "63ffa2a2c0adf8c7fd79443cdebd06ad2f80ae4f964ea987e5b2948d11a56424", func := "examboard/examboardlaw06.CombinPascal", spec := "combinPascal", apart := false, narrowed := true }
def CombinPascalUptoSaid : Prop := combinPascalUptoRow.holds Try.pinned (OpenSpec.upto combinPascalSpec)

/-- 'examboardlaw06.CombinDivides', WHERE WHAT IT READS IS OF BULK AT MOST 1048576: true; the input reads as it did. -/
def combinDividesUptoRow : OpenClaim := { program := "ytdakfpapigieiaa", sum := "63ffa2a2c0adf8c7fd79443cdebd06ad2f80ae4f964ea987e5b2948d11a56424", func := "examboard/examboardlaw06.CombinDivides", spec := "combinDivides", apart := false, narrowed := true }
def CombinDividesUptoSaid : Prop := combinDividesUptoRow.holds Try.pinned (OpenSpec.upto combinDividesSpec)

/-- 'examboardlaw06.CombinOrder', WHERE WHAT IT READS IS OF BULK AT MOST 1048576: true; the input reads as it did. -/
def combinOrderUptoRow : OpenClaim := { program := "ytdakfpapigieiaa", sum := "63ffa2a2c0adf8c7fd79443cdebd06ad2f80ae4f964ea987e5b2948d11a56424", func := "examboard/examboardlaw06.CombinOrder", spec := "combinOrder", apart := false, narrowed := true }
def CombinOrderUptoSaid : Prop := combinOrderUptoRow.holds Try.pinned (OpenSpec.upto combinOrderSpec)

end Rows
end Go.Proofs.Ytdakfpapigieiaa

/-
  NARROWER THAN 'FOR EVERY INPUT', by the rows' own cells (each row's printed sentence says how): DecimalRounds: laid · DecimalNearest: laid · DecimalNotation: laid · DecimalKeeps: laid · DecimalMirror: laid · DecimalMonotone: laid.
  DERIVED. THE GIVEN ROWS OF THIS SEAT. 6 by the template 'for every input the law returns true; each argument reads behind the call as it read before'; 0 by the template 'total and deterministic' (their statements: YtdlmfembnmomjaaGreatDoorTotals.lean).
  GIVEN WITH THE SEED: the statements are not yours to turn. If you find one false, say at which input.
  Laid BY PROGRAM, IN A SANDBOX (cutbox-rows.mjs): the forced cells as the released guide's own fill.sh prints them over the translation 958338e862a9cc88… (all of the seat's roots in one cut). By AI agents, Wed Nov 11 2026. No macro, syntax, notation, axiom, sorry.
-/
import Derived.Test.YtdlmfembnmomjaaGreatDoorChecked
import GoSem.PinnedTables
import GoSem.Claim
import GoSem.ClaimJoined
import GoSem.ClaimMapViews
import Derived.JoinedTies
import Derived.KernelRfl
namespace Go.Proofs.YtdlmfembnmomjaaGreatDoor
/- THE CELL 'sum', in the pinned program and in every row, IS THE sha256 OF THE DUMP (.gsa) THAT YtdlmfembnmomjaaGreatDoorProg.lean LOADS. Nothing in Lean hashes anything: it is a label: what it is worth is what the hold of that sum in a sandbox is worth. -/
noncomputable def Tryz.pinned : Pinned := { name := "ytdlmfembnmomjaagreatdoor", sum := "958338e862a9cc88aeab3eb0c3cc36432a55fb2626e1feb3fbf88e48bdc67e37", checked := Tryz.checked }
namespace Rows
def none {H : Type} : Left H := { results := [], args := [] }

/- WHAT THE LISTED PACKAGE-LEVEL VARIABLES READ AS WHEN THE CALL BEGINS. Each datum BY PROGRAM (the guide's laid-datum.mjs) off the statement by which the dump's own 'gosem.cut.vars' lays the variable. In a bare row this is a premise. The card (YtdlmfembnmomjaaGreatDoorCards.lean) ties it to the program's text. -/
def laid_unicode_utf8_acceptRanges {H : Type} : DataW H := .agg [.agg [.lit (.int .u8 128), .lit (.int .u8 191)], .agg [.lit (.int .u8 160), .lit (.int .u8 191)], .agg [.lit (.int .u8 128), .lit (.int .u8 159)], .agg [.lit (.int .u8 144), .lit (.int .u8 191)], .agg [.lit (.int .u8 128), .lit (.int .u8 143)], .agg [.lit (.int .u8 0), .lit (.int .u8 0)], .agg [.lit (.int .u8 0), .lit (.int .u8 0)], .agg [.lit (.int .u8 0), .lit (.int .u8 0)], .agg [.lit (.int .u8 0), .lit (.int .u8 0)], .agg [.lit (.int .u8 0), .lit (.int .u8 0)], .agg [.lit (.int .u8 0), .lit (.int .u8 0)], .agg [.lit (.int .u8 0), .lit (.int .u8 0)], .agg [.lit (.int .u8 0), .lit (.int .u8 0)], .agg [.lit (.int .u8 0), .lit (.int .u8 0)], .agg [.lit (.int .u8 0), .lit (.int .u8 0)], .agg [.lit (.int .u8 0), .lit (.int .u8 0)]]
/-- One of Go's own tables, pinned by name: the form's constant. -/
def laid_unicode_utf8_first : DataW Unit := Go.Pinned.utf8First

/-- 'examboardlaw04.DecimalRounds': WHATEVER THE INPUT: true; the input reads as it did. -/
def decimalRoundsSpec : ChangeSpec := { name := "decimalRounds", fn := fun _ => fun
  | [d1, d2, d3] => { results := [.lit (.bool true)], args := [d1, d2, d3] }
  | _ => none }
def decimalRoundsRow : OpenClaim := { program := "ytdlmfembnmomjaagreatdoor", sum := "958338e862a9cc88aeab3eb0c3cc36432a55fb2626e1feb3fbf88e48bdc67e37", func := "examboard/examboardlaw04.DecimalRounds", spec := "decimalRounds", inPlace := ["internal/abi.NoEscape", "internal/bytealg.MakeNoZero", "internal/bytealg.IndexByteString", "internal/bytealg.IndexString"], named := ["internal/bytealg.MaxLen", "unicode/utf8.first", "unicode/utf8.acceptRanges"], apart := false, laid := [("unicode/utf8.acceptRanges", laid_unicode_utf8_acceptRanges), ("unicode/utf8.first", laid_unicode_utf8_first)] }
def DecimalRoundsSaid : Prop := decimalRoundsRow.holds Tryz.pinned (OpenSpec.ofChange decimalRoundsSpec)

/-- ITS FALSE NEIGHBOUR: 'it returns false'. Refute it at one input. -/
def decimalRoundsWrong : ChangeSpec := { name := "decimalRounds", fn := fun _ => fun
  | [d1, d2, d3] => { results := [.lit (.bool false)], args := [d1, d2, d3] }
  | _ => none }
def DecimalRoundsWrongFalsely : Prop := decimalRoundsRow.holds Tryz.pinned (OpenSpec.ofChange decimalRoundsWrong)

/-- 'examboardlaw04.DecimalNearest': WHATEVER THE INPUT: true; the input reads as it did. -/
def decimalNearestSpec : ChangeSpec := { name := "decimalNearest", fn := fun _ => fun
  | [d1, d2, d3] => { results := [.lit (.bool true)], args := [d1, d2, d3] }
  | _ => none }
def decimalNearestRow : OpenClaim := { program := "ytdlmfembnmomjaagreatdoor", sum := "958338e862a9cc88aeab3eb0c3cc36432a55fb2626e1feb3fbf88e48bdc67e37", func := "examboard/examboardlaw04.DecimalNearest", spec := "decimalNearest", inPlace := ["internal/abi.NoEscape", "internal/bytealg.MakeNoZero", "internal/bytealg.IndexByteString", "internal/bytealg.IndexString"], named := ["internal/bytealg.MaxLen", "unicode/utf8.first", "unicode/utf8.acceptRanges"], apart := false, laid := [("unicode/utf8.acceptRanges", laid_unicode_utf8_acceptRanges), ("unicode/utf8.first", laid_unicode_utf8_first)] }
def DecimalNearestSaid : Prop := decimalNearestRow.holds Tryz.pinned (OpenSpec.ofChange decimalNearestSpec)

/-- ITS FALSE NEIGHBOUR: 'it returns false'. Refute it at one input. -/
def decimalNearestWrong : ChangeSpec := { name := "decimalNearest", fn := fun _ => fun
  | [d1, d2, d3] => { results := [.lit (.bool false)], args := [d1, d2, d3] }
  | _ => none }
def DecimalNearestWrongFalsely : Prop := decimalNearestRow.holds Tryz.pinned (OpenSpec.ofChange decimalNearestWrong)

/-- 'examboardlaw04.DecimalNotation': WHATEVER THE INPUT: true; the input reads as it did. -/
def decimalNotationSpec : ChangeSpec := { name := "decimalNotation", fn := fun _ => fun
  | [d1, d2] => { results := [.lit (.bool true)], args := [d1, d2] }
  | _ => none }
def decimalNotationRow : OpenClaim := { program := "ytdlmfembnmomjaagreatdoor", sum := "958338e862a9cc88aeab3eb0c3cc36432a55fb2626e1feb3fbf88e48bdc67e37", func := "examboard/examboardlaw04.DecimalNotation", spec := "decimalNotation", inPlace := ["internal/bytealg.IndexByteString", "internal/bytealg.IndexString", "internal/abi.NoEscape", "internal/bytealg.MakeNoZero"], named := ["internal/bytealg.MaxLen", "unicode/utf8.first", "unicode/utf8.acceptRanges"], apart := false, laid := [("unicode/utf8.acceptRanges", laid_unicode_utf8_acceptRanges), ("unicode/utf8.first", laid_unicode_utf8_first)] }
def DecimalNotationSaid : Prop := decimalNotationRow.holds Tryz.pinned (OpenSpec.ofChange decimalNotationSpec)

/-- ITS FALSE NEIGHBOUR: 'it returns false'. Refute it at one input. -/
def decimalNotationWrong : ChangeSpec := { name := "decimalNotation", fn := fun _ => fun
  | [d1, d2] => { results := [.lit (.bool false)], args := [d1, d2] }
  | _ => none }
def DecimalNotationWrongFalsely : Prop := decimalNotationRow.holds Tryz.pinned (OpenSpec.ofChange decimalNotationWrong)

/-- 'examboardlaw04.DecimalKeeps': WHATEVER THE INPUT: true; the input reads as it did. -/
def decimalKeepsSpec : ChangeSpec := { name := "decimalKeeps", fn := fun _ => fun
  | [d1, d2, d3, d4] => { results := [.lit (.bool true)], args := [d1, d2, d3, d4] }
  | _ => none }
def decimalKeepsRow : OpenClaim := { program := "ytdlmfembnmomjaagreatdoor", sum := "958338e862a9cc88aeab3eb0c3cc36432a55fb2626e1feb3fbf88e48bdc67e37", func := "examboard/examboardlaw04.DecimalKeeps", spec := "decimalKeeps", inPlace := ["internal/abi.NoEscape", "internal/bytealg.MakeNoZero", "internal/bytealg.IndexByteString", "internal/bytealg.IndexString"], named := ["internal/bytealg.MaxLen", "unicode/utf8.first", "unicode/utf8.acceptRanges"], apart := false, laid := [("unicode/utf8.acceptRanges", laid_unicode_utf8_acceptRanges), ("unicode/utf8.first", laid_unicode_utf8_first)] }
def DecimalKeepsSaid : Prop := decimalKeepsRow.holds Tryz.pinned (OpenSpec.ofChange decimalKeepsSpec)

/-- ITS FALSE NEIGHBOUR: 'it returns false'. Refute it at one input. -/
def decimalKeepsWrong : ChangeSpec := { name := "decimalKeeps", fn := fun _ => fun
  | [d1, d2, d3, d4] => { results := [.lit (.bool false)], args := [d1, d2, d3, d4] }
  | _ => none }
def DecimalKeepsWrongFalsely : Prop := decimalKeepsRow.holds Tryz.pinned (OpenSpec.ofChange decimalKeepsWrong)

/-- 'examboardlaw04.DecimalMirror': WHATEVER THE INPUT: true; the input reads as it did. -/
def decimalMirrorSpec : ChangeSpec := { name := "decimalMirror", fn := fun _ => fun
  | [d1, d2, d3] => { results := [.lit (.bool true)], args := [d1, d2, d3] }
  | _ => none }
def decimalMirrorRow : OpenClaim := { program := "ytdlmfembnmomjaagreatdoor", sum := "958338e862a9cc88aeab3eb0c3cc36432a55fb2626e1feb3fbf88e48bdc67e37", func := "examboard/examboardlaw04.DecimalMirror", spec := "decimalMirror", inPlace := ["internal/abi.NoEscape", "internal/bytealg.MakeNoZero", "internal/bytealg.IndexByteString", "internal/bytealg.IndexString"], named := ["internal/bytealg.MaxLen", "unicode/utf8.first", "unicode/utf8.acceptRanges"], apart := false, laid := [("unicode/utf8.acceptRanges", laid_unicode_utf8_acceptRanges), ("unicode/utf8.first", laid_unicode_utf8_first)] }
def DecimalMirrorSaid : Prop := decimalMirrorRow.holds Tryz.pinned (OpenSpec.ofChange decimalMirrorSpec)

/-- ITS FALSE NEIGHBOUR: 'it returns false'. Refute it at one input. -/
def decimalMirrorWrong : ChangeSpec := { name := "decimalMirror", fn := fun _ => fun
  | [d1, d2, d3] => { results := [.lit (.bool false)], args := [d1, d2, d3] }
  | _ => none }
def DecimalMirrorWrongFalsely : Prop := decimalMirrorRow.holds Tryz.pinned (OpenSpec.ofChange decimalMirrorWrong)

/-- 'examboardlaw04.DecimalMonotone': WHATEVER THE INPUT: true; the input reads as it did. -/
def decimalMonotoneSpec : ChangeSpec := { name := "decimalMonotone", fn := fun _ => fun
  | [d1, d2, d3, d4] => { results := [.lit (.bool true)], args := [d1, d2, d3, d4] }
  | _ => none }
def decimalMonotoneRow : OpenClaim := { program := "ytdlmfembnmomjaagreatdoor", sum := "958338e862a9cc88aeab3eb0c3cc36432a55fb2626e1feb3fbf88e48bdc67e37", func := "examboard/examboardlaw04.DecimalMonotone", spec := "decimalMonotone", inPlace := ["internal/abi.NoEscape", "internal/bytealg.MakeNoZero", "internal/bytealg.IndexByteString", "internal/bytealg.IndexString"], named := ["internal/bytealg.MaxLen", "unicode/utf8.first", "unicode/utf8.acceptRanges"], apart := false, laid := [("unicode/utf8.acceptRanges", laid_unicode_utf8_acceptRanges), ("unicode/utf8.first", laid_unicode_utf8_first)] }
def DecimalMonotoneSaid : Prop := decimalMonotoneRow.holds Tryz.pinned (OpenSpec.ofChange decimalMonotoneSpec)

/-- ITS FALSE NEIGHBOUR: 'it returns false'. Refute it at one input. -/
def decimalMonotoneWrong : ChangeSpec := { name := "decimalMonotone", fn := fun _ => fun
  | [d1, d2, d3, d4] => { results := [.lit (.bool false)], args := [d1, d2, d3, d4] }
  | _ => none }
def DecimalMonotoneWrongFalsely : Prop := decimalMonotoneRow.holds Tryz.pinned (OpenSpec.ofChange decimalMonotoneWrong)

/- THE SECOND FORM. 'bulk': how many values and letters a reading holds, each counted each time it is reached (what is shared counts as often as it is met; a slice's spare places count too). A statement '..UptoSaid' is the law's where the arguments, and the package variables that the reading takes, are together of bulk at most 1048576: NARROWER than '..Said'. Prove '..Said' where nothing that the law and all that it calls make is longer than what came in: it says more and counts as full. Else prove '..UptoSaid'. A law counts once. -/
mutual
def uptoBulk {H : Type} : DataW H → Nat
  | .lit (.string bytes) => bytes.length + 1
  | .lit _ => 1
  | .nil => 1
  | .ptr d => uptoBulk d + 1
  | .slice elems spare => uptoBulkAll elems + uptoBulkAll spare + 1
  | .agg parts => uptoBulkAll parts + 1
  | .iface _ d => uptoBulk d + 1
  | .map entries => uptoBulkEntries entries + 1
  | .held _ => 1
def uptoBulkAll {H : Type} : List (DataW H) → Nat
  | [] => 0
  | d :: r => uptoBulk d + uptoBulkAll r
def uptoBulkEntries {H : Type} : List (Lit × DataW H) → Nat
  | [] => 0
  | x :: r => uptoBulkEntry x + uptoBulkEntries r
def uptoBulkEntry {H : Type} : Lit × DataW H → Nat
  | (.string bytes, d) => bytes.length + uptoBulk d + 1
  | (_, d) => uptoBulk d + 1
 end
def uptoSmall : (H : Type) → List (DataW H) → Bool := fun _ ds => decide (uptoBulkAll ds ≤ 1048576)
def OpenSpec.upto (s : _root_.Go.ChangeSpec) : _root_.Go.OpenSpec := { _root_.Go.OpenSpec.ofChange s with cond := some uptoSmall }

/-- 'examboardlaw04.DecimalRounds', WHERE WHAT IT READS IS OF BULK AT MOST 1048576: true; the input reads as it did. -/
def decimalRoundsUptoRow : OpenClaim := { program := "ytdlmfembnmomjaagreatdoor", sum := "958338e862a9cc88aeab3eb0c3cc36432a55fb2626e1feb3fbf88e48bdc67e37", func := "examboard/examboardlaw04.DecimalRounds", spec := "decimalRounds", inPlace := ["internal/abi.NoEscape", "internal/bytealg.MakeNoZero", "internal/bytealg.IndexByteString", "internal/bytealg.IndexString"], named := ["internal/bytealg.MaxLen", "unicode/utf8.first", "unicode/utf8.acceptRanges"], apart := false, laid := [("unicode/utf8.acceptRanges", laid_unicode_utf8_acceptRanges), ("unicode/utf8.first", laid_unicode_utf8_first)], narrowed := true }
def DecimalRoundsUptoSaid : Prop := decimalRoundsUptoRow.holds Tryz.pinned (OpenSpec.upto decimalRoundsSpec)

/-- 'examboardlaw04.DecimalNearest', WHERE WHAT IT READS IS OF BULK AT MOST 1048576: true; the input reads as it did. -/
def decimalNearestUptoRow : OpenClaim := { program := "ytdlmfembnmomjaagreatdoor", sum := "958338e862a9cc88aeab3eb0c3cc36432a55fb2626e1feb3fbf88e48bdc67e37", func := "examboard/examboardlaw04.DecimalNearest", spec := "decimalNearest", inPlace := ["internal/abi.NoEscape", "internal/bytealg.MakeNoZero", "internal/bytealg.IndexByteString", "internal/bytealg.IndexString"], named := ["internal/bytealg.MaxLen", "unicode/utf8.first", "unicode/utf8.acceptRanges"], apart := false, laid := [("unicode/utf8.acceptRanges", laid_unicode_utf8_acceptRanges), ("unicode/utf8.first", laid_unicode_utf8_first)], narrowed := true }
def DecimalNearestUptoSaid : Prop := decimalNearestUptoRow.holds Tryz.pinned (OpenSpec.upto decimalNearestSpec)

/-- 'examboardlaw04.DecimalNotation', WHERE WHAT IT READS IS OF BULK AT MOST 1048576: true; the input reads as it did. -/
def decimalNotationUptoRow : OpenClaim := { program := "ytdlmfembnmomjaagreatdoor", sum := "958338e862a9cc88aeab3eb0c3cc36432a55fb2626e1feb3fbf88e48bdc67e37", func := "examboard/examboardlaw04.DecimalNotation", spec := "decimalNotation", inPlace := ["internal/bytealg.IndexByteString", "internal/bytealg.IndexString", "internal/abi.NoEscape", "internal/bytealg.MakeNoZero"], named := ["internal/bytealg.MaxLen", "unicode/utf8.first", "unicode/utf8.acceptRanges"], apart := false, laid := [("unicode/utf8.acceptRanges", laid_unicode_utf8_acceptRanges), ("unicode/utf8.first", laid_unicode_utf8_first)], narrowed := true }
def DecimalNotationUptoSaid : Prop := decimalNotationUptoRow.holds Tryz.pinned (OpenSpec.upto decimalNotationSpec)

/-- 'examboardlaw04.DecimalKeeps', WHERE WHAT IT READS IS OF BULK AT MOST 1048576: true; the input reads as it did. -/
def decimalKeepsUptoRow : OpenClaim := { program := "ytdlmfembnmomjaagreatdoor", sum := "958338e862a9cc88aeab3eb0c3cc36432a55fb2626e1feb3fbf88e48bdc67e37", func := "examboard/examboardlaw04.DecimalKeeps", spec := "decimalKeeps", inPlace := ["internal/abi.NoEscape", "internal/bytealg.MakeNoZero", "internal/bytealg.IndexByteString", "internal/bytealg.IndexString"], named := ["internal/bytealg.MaxLen", "unicode/utf8.first", "unicode/utf8.acceptRanges"], apart := false, laid := [("unicode/utf8.acceptRanges", laid_unicode_utf8_acceptRanges), ("unicode/utf8.first", laid_unicode_utf8_first)], narrowed := true }
def DecimalKeepsUptoSaid : Prop := decimalKeepsUptoRow.holds Tryz.pinned (OpenSpec.upto decimalKeepsSpec)

/-- 'examboardlaw04.DecimalMirror', WHERE WHAT IT READS IS OF BULK AT MOST 1048576: true; the input reads as it did. -/
def decimalMirrorUptoRow : OpenClaim := { program := "ytdlmfembnmomjaagreatdoor", sum := "958338e862a9cc88aeab3eb0c3cc36432a55fb2626e1feb3fbf88e48bdc67e37", func := "examboard/examboardlaw04.DecimalMirror", spec := "decimalMirror", inPlace := ["internal/abi.NoEscape", "internal/bytealg.MakeNoZero", "internal/bytealg.IndexByteString", "internal/bytealg.IndexString"], named := ["internal/bytealg.MaxLen", "unicode/utf8.first", "unicode/utf8.acceptRanges"], apart := false, laid := [("unicode/utf8.acceptRanges", laid_unicode_utf8_acceptRanges), ("unicode/utf8.first", laid_unicode_utf8_first)], narrowed := true }
def DecimalMirrorUptoSaid : Prop := decimalMirrorUptoRow.holds Tryz.pinned (OpenSpec.upto decimalMirrorSpec)

/-- 'examboardlaw04.DecimalMonotone', WHERE WHAT IT READS IS OF BULK AT MOST 1048576: true; the input reads as it did. -/
def decimalMonotoneUptoRow : OpenClaim := { program := "ytdlmfembnmomjaagreatdoor", sum := "958338e862a9cc88aeab3eb0c3cc36432a55fb2626e1feb3fbf88e48bdc67e37", func := "examboard/examboardlaw04.DecimalMonotone", spec := "decimalMonotone", inPlace := ["internal/abi.NoEscape", "internal/bytealg.MakeNoZero", "internal/bytealg.IndexByteString", "internal/bytealg.IndexString"], named := ["internal/bytealg.MaxLen", "unicode/utf8.first", "unicode/utf8.acceptRanges"], apart := false, laid := [("unicode/utf8.acceptRanges", laid_unicode_utf8_acceptRanges), ("unicode/utf8.first", laid_unicode_utf8_first)], narrowed := true }
def DecimalMonotoneUptoSaid : Prop := decimalMonotoneUptoRow.holds Tryz.pinned (OpenSpec.upto decimalMonotoneSpec)

end Rows
end Go.Proofs.YtdlmfembnmomjaaGreatDoor

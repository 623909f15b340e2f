/-
  DERIVED. GIVEN WITH THE SEED: THE CARDS: each row of YtdlmfembnmomjaaGreatDoorRows.lean that lists a variable, with what it lists TIED to the program's text (the seventh form; the later family's looks); each row that meets fmt, with fmt's text TOLD by the authors' own Lean function (tested against real Go, not proved from fmt's source: count such statements apart). THE CARD IS WHAT COUNTS. Prove the row's statement (the work); the ties are given (YtdlmfembnmomjaaGreatDoorTie.lean); close each card by the builder's one call (the guide's Derived/Test/ToyasCard.lean, 'card_holds'). Laid BY PROGRAM, IN A SANDBOX (cutbox-door.mjs). By AI agents, Wed Nov 11 2026. No macro, syntax, notation, axiom, sorry.
-/
import Derived.Test.YtdlmfembnmomjaaGreatDoorRows
import GoSem.ClaimSeven
namespace Go.Proofs.YtdlmfembnmomjaaGreatDoor
namespace Rows

/-- THE TIED CARD OF 'examboardlaw04.DecimalRounds'. -/
def decimalRoundsCard : Claim7 := { stood := { row := decimalRoundsRow, standIns := [], harness := (true, "1aa04b77de2e838178ec0d38f200ffbf23aebf08d0f0c93147901081e0754cf1"), looks := false }, kinds := [], alts := [], laidByText := true, laidKinds := [.data, .pinned], laidTests := true, laidLooks := .later }
def DecimalRoundsCardSaid : Prop := Claim7.holds Tryz.pinned (.plain (OpenSpec.ofChange decimalRoundsSpec)) decimalRoundsCard

/-- THE TIED CARD OF 'examboardlaw04.DecimalNearest'. -/
def decimalNearestCard : Claim7 := { stood := { row := decimalNearestRow, standIns := [], harness := (true, "1aa04b77de2e838178ec0d38f200ffbf23aebf08d0f0c93147901081e0754cf1"), looks := false }, kinds := [], alts := [], laidByText := true, laidKinds := [.data, .pinned], laidTests := true, laidLooks := .later }
def DecimalNearestCardSaid : Prop := Claim7.holds Tryz.pinned (.plain (OpenSpec.ofChange decimalNearestSpec)) decimalNearestCard

/-- THE TIED CARD OF 'examboardlaw04.DecimalNotation'. -/
def decimalNotationCard : Claim7 := { stood := { row := decimalNotationRow, standIns := [], harness := (true, "1aa04b77de2e838178ec0d38f200ffbf23aebf08d0f0c93147901081e0754cf1"), looks := false }, kinds := [], alts := [], laidByText := true, laidKinds := [.data, .pinned], laidTests := true, laidLooks := .later }
def DecimalNotationCardSaid : Prop := Claim7.holds Tryz.pinned (.plain (OpenSpec.ofChange decimalNotationSpec)) decimalNotationCard

/-- THE TIED CARD OF 'examboardlaw04.DecimalKeeps'. -/
def decimalKeepsCard : Claim7 := { stood := { row := decimalKeepsRow, standIns := [], harness := (true, "1aa04b77de2e838178ec0d38f200ffbf23aebf08d0f0c93147901081e0754cf1"), looks := false }, kinds := [], alts := [], laidByText := true, laidKinds := [.data, .pinned], laidTests := true, laidLooks := .later }
def DecimalKeepsCardSaid : Prop := Claim7.holds Tryz.pinned (.plain (OpenSpec.ofChange decimalKeepsSpec)) decimalKeepsCard

/-- THE TIED CARD OF 'examboardlaw04.DecimalMirror'. -/
def decimalMirrorCard : Claim7 := { stood := { row := decimalMirrorRow, standIns := [], harness := (true, "1aa04b77de2e838178ec0d38f200ffbf23aebf08d0f0c93147901081e0754cf1"), looks := false }, kinds := [], alts := [], laidByText := true, laidKinds := [.data, .pinned], laidTests := true, laidLooks := .later }
def DecimalMirrorCardSaid : Prop := Claim7.holds Tryz.pinned (.plain (OpenSpec.ofChange decimalMirrorSpec)) decimalMirrorCard

/-- THE TIED CARD OF 'examboardlaw04.DecimalMonotone'. -/
def decimalMonotoneCard : Claim7 := { stood := { row := decimalMonotoneRow, standIns := [], harness := (true, "1aa04b77de2e838178ec0d38f200ffbf23aebf08d0f0c93147901081e0754cf1"), looks := false }, kinds := [], alts := [], laidByText := true, laidKinds := [.data, .pinned], laidTests := true, laidLooks := .later }
def DecimalMonotoneCardSaid : Prop := Claim7.holds Tryz.pinned (.plain (OpenSpec.ofChange decimalMonotoneSpec)) decimalMonotoneCard

/-- THE SECOND FORM's CARD OF 'examboardlaw04.DecimalRounds'. -/
def decimalRoundsUptoCard : Claim7 := { stood := { row := decimalRoundsUptoRow, standIns := [], harness := (true, "1aa04b77de2e838178ec0d38f200ffbf23aebf08d0f0c93147901081e0754cf1"), looks := false }, kinds := [], alts := [], laidByText := true, laidKinds := [.data, .pinned], laidTests := true, laidLooks := .later }
def DecimalRoundsUptoCardSaid : Prop := Claim7.holds Tryz.pinned (.plain (OpenSpec.upto decimalRoundsSpec)) decimalRoundsUptoCard

/-- THE SECOND FORM's CARD OF 'examboardlaw04.DecimalNearest'. -/
def decimalNearestUptoCard : Claim7 := { stood := { row := decimalNearestUptoRow, standIns := [], harness := (true, "1aa04b77de2e838178ec0d38f200ffbf23aebf08d0f0c93147901081e0754cf1"), looks := false }, kinds := [], alts := [], laidByText := true, laidKinds := [.data, .pinned], laidTests := true, laidLooks := .later }
def DecimalNearestUptoCardSaid : Prop := Claim7.holds Tryz.pinned (.plain (OpenSpec.upto decimalNearestSpec)) decimalNearestUptoCard

/-- THE SECOND FORM's CARD OF 'examboardlaw04.DecimalNotation'. -/
def decimalNotationUptoCard : Claim7 := { stood := { row := decimalNotationUptoRow, standIns := [], harness := (true, "1aa04b77de2e838178ec0d38f200ffbf23aebf08d0f0c93147901081e0754cf1"), looks := false }, kinds := [], alts := [], laidByText := true, laidKinds := [.data, .pinned], laidTests := true, laidLooks := .later }
def DecimalNotationUptoCardSaid : Prop := Claim7.holds Tryz.pinned (.plain (OpenSpec.upto decimalNotationSpec)) decimalNotationUptoCard

/-- THE SECOND FORM's CARD OF 'examboardlaw04.DecimalKeeps'. -/
def decimalKeepsUptoCard : Claim7 := { stood := { row := decimalKeepsUptoRow, standIns := [], harness := (true, "1aa04b77de2e838178ec0d38f200ffbf23aebf08d0f0c93147901081e0754cf1"), looks := false }, kinds := [], alts := [], laidByText := true, laidKinds := [.data, .pinned], laidTests := true, laidLooks := .later }
def DecimalKeepsUptoCardSaid : Prop := Claim7.holds Tryz.pinned (.plain (OpenSpec.upto decimalKeepsSpec)) decimalKeepsUptoCard

/-- THE SECOND FORM's CARD OF 'examboardlaw04.DecimalMirror'. -/
def decimalMirrorUptoCard : Claim7 := { stood := { row := decimalMirrorUptoRow, standIns := [], harness := (true, "1aa04b77de2e838178ec0d38f200ffbf23aebf08d0f0c93147901081e0754cf1"), looks := false }, kinds := [], alts := [], laidByText := true, laidKinds := [.data, .pinned], laidTests := true, laidLooks := .later }
def DecimalMirrorUptoCardSaid : Prop := Claim7.holds Tryz.pinned (.plain (OpenSpec.upto decimalMirrorSpec)) decimalMirrorUptoCard

/-- THE SECOND FORM's CARD OF 'examboardlaw04.DecimalMonotone'. -/
def decimalMonotoneUptoCard : Claim7 := { stood := { row := decimalMonotoneUptoRow, standIns := [], harness := (true, "1aa04b77de2e838178ec0d38f200ffbf23aebf08d0f0c93147901081e0754cf1"), looks := false }, kinds := [], alts := [], laidByText := true, laidKinds := [.data, .pinned], laidTests := true, laidLooks := .later }
def DecimalMonotoneUptoCardSaid : Prop := Claim7.holds Tryz.pinned (.plain (OpenSpec.upto decimalMonotoneSpec)) decimalMonotoneUptoCard
end Rows
end Go.Proofs.YtdlmfembnmomjaaGreatDoor

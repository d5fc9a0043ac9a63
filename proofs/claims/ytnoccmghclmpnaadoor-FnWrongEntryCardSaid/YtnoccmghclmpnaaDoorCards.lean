/-
  DERIVED. GIVEN WITH THE SEED: THE CARDS: each row of YtnoccmghclmpnaaDoorRows.lean that lists a variable, with what it lists TIED to the program's text (the seventh form; the later family's looks); each row that meets fmt, with fmt's text TOLD by the authors' own Lean function (tested against real Go, not proved from fmt's source: count such statements apart). THE CARD IS WHAT COUNTS. Prove the row's statement (the work); the ties are given (YtnoccmghclmpnaaDoorTie.lean); close each card by the builder's one call (the guide's Derived/Test/ToyasCard.lean, 'card_holds'). Laid BY PROGRAM, IN A SANDBOX (cutbox-door.mjs). By AI agents, Wed Nov 11 2026. No macro, syntax, notation, axiom, sorry.
-/
import Derived.Test.YtnoccmghclmpnaaDoorRows
import GoSem.ClaimSeven
namespace Go.Proofs.YtnoccmghclmpnaaDoor
namespace Rows

/-- THE TIED CARD OF 'laws.FnTapeText'. -/
def fnTapeTextCard : Claim7 := { stood := { row := fnTapeTextRow, standIns := [], harness := (true, "27fbe6b2d11071a219e97a074dbdb6026f71e96f65489db66b31cfde9aea29c0"), looks := true }, kinds := [], alts := [], laidByText := true, laidKinds := [.data, .data, .data, .data, .data], laidTests := true, laidLooks := .later }
def FnTapeTextCardSaid : Prop := Claim7.holds Tryd.pinned (.plain (OpenSpec.ofChange fnTapeTextSpec)) fnTapeTextCard

/-- THE TIED CARD OF 'laws.FnReadTape'. -/
def fnReadTapeCard : Claim7 := { stood := { row := fnReadTapeRow, standIns := [], harness := (true, "27fbe6b2d11071a219e97a074dbdb6026f71e96f65489db66b31cfde9aea29c0"), looks := true }, kinds := [], alts := [], laidByText := true, laidKinds := [.data, .data, .data, .data, .data], laidTests := true, laidLooks := .later }
def FnReadTapeCardSaid : Prop := Claim7.holds Tryd.pinned (.plain (OpenSpec.ofChange fnReadTapeSpec)) fnReadTapeCard

/-- THE TIED CARD OF 'laws.FnWrongEntry'. -/
def fnWrongEntryCard : Claim7 := { stood := { row := fnWrongEntryRow, standIns := [], harness := (true, "27fbe6b2d11071a219e97a074dbdb6026f71e96f65489db66b31cfde9aea29c0"), looks := true }, kinds := [], alts := [], laidByText := true, laidKinds := [.data, .data], laidTests := true, laidLooks := .later }
def FnWrongEntryCardSaid : Prop := Claim7.holds Tryd.pinned (.plain (OpenSpec.ofChange fnWrongEntrySpec)) fnWrongEntryCard

/-- THE TIED CARD OF 'laws.FnTakingsOf'. -/
def fnTakingsOfCard : Claim7 := { stood := { row := fnTakingsOfRow, standIns := [], harness := (true, "27fbe6b2d11071a219e97a074dbdb6026f71e96f65489db66b31cfde9aea29c0"), looks := true }, kinds := [], alts := [], laidByText := true, laidKinds := [.data, .data], laidTests := true, laidLooks := .later }
def FnTakingsOfCardSaid : Prop := Claim7.holds Tryd.pinned (.plain (OpenSpec.ofChange fnTakingsOfSpec)) fnTakingsOfCard

/-- THE TIED CARD OF 'laws.FnWrittenFor'. -/
def fnWrittenForCard : Claim7 := { stood := { row := fnWrittenForRow, standIns := [], harness := (true, "27fbe6b2d11071a219e97a074dbdb6026f71e96f65489db66b31cfde9aea29c0"), looks := true }, kinds := [], alts := [], laidByText := true, laidKinds := [.data, .data], laidTests := true, laidLooks := .later }
def FnWrittenForCardSaid : Prop := Claim7.holds Tryd.pinned (.plain (OpenSpec.ofChange fnWrittenForSpec)) fnWrittenForCard

/-- THE SECOND FORM's CARD OF 'laws.FnTapeText'. -/
def fnTapeTextUptoCard : Claim7 := { stood := { row := fnTapeTextUptoRow, standIns := [], harness := (true, "27fbe6b2d11071a219e97a074dbdb6026f71e96f65489db66b31cfde9aea29c0"), looks := true }, kinds := [], alts := [], laidByText := true, laidKinds := [.data, .data, .data, .data, .data], laidTests := true, laidLooks := .later }
def FnTapeTextUptoCardSaid : Prop := Claim7.holds Tryd.pinned (.plain (OpenSpec.upto fnTapeTextSpec)) fnTapeTextUptoCard

/-- THE SECOND FORM's CARD OF 'laws.FnReadTape'. -/
def fnReadTapeUptoCard : Claim7 := { stood := { row := fnReadTapeUptoRow, standIns := [], harness := (true, "27fbe6b2d11071a219e97a074dbdb6026f71e96f65489db66b31cfde9aea29c0"), looks := true }, kinds := [], alts := [], laidByText := true, laidKinds := [.data, .data, .data, .data, .data], laidTests := true, laidLooks := .later }
def FnReadTapeUptoCardSaid : Prop := Claim7.holds Tryd.pinned (.plain (OpenSpec.upto fnReadTapeSpec)) fnReadTapeUptoCard

/-- THE SECOND FORM's CARD OF 'laws.FnWrongEntry'. -/
def fnWrongEntryUptoCard : Claim7 := { stood := { row := fnWrongEntryUptoRow, standIns := [], harness := (true, "27fbe6b2d11071a219e97a074dbdb6026f71e96f65489db66b31cfde9aea29c0"), looks := true }, kinds := [], alts := [], laidByText := true, laidKinds := [.data, .data], laidTests := true, laidLooks := .later }
def FnWrongEntryUptoCardSaid : Prop := Claim7.holds Tryd.pinned (.plain (OpenSpec.upto fnWrongEntrySpec)) fnWrongEntryUptoCard

/-- THE SECOND FORM's CARD OF 'laws.FnTakingsOf'. -/
def fnTakingsOfUptoCard : Claim7 := { stood := { row := fnTakingsOfUptoRow, standIns := [], harness := (true, "27fbe6b2d11071a219e97a074dbdb6026f71e96f65489db66b31cfde9aea29c0"), looks := true }, kinds := [], alts := [], laidByText := true, laidKinds := [.data, .data], laidTests := true, laidLooks := .later }
def FnTakingsOfUptoCardSaid : Prop := Claim7.holds Tryd.pinned (.plain (OpenSpec.upto fnTakingsOfSpec)) fnTakingsOfUptoCard

/-- THE SECOND FORM's CARD OF 'laws.FnWrittenFor'. -/
def fnWrittenForUptoCard : Claim7 := { stood := { row := fnWrittenForUptoRow, standIns := [], harness := (true, "27fbe6b2d11071a219e97a074dbdb6026f71e96f65489db66b31cfde9aea29c0"), looks := true }, kinds := [], alts := [], laidByText := true, laidKinds := [.data, .data], laidTests := true, laidLooks := .later }
def FnWrittenForUptoCardSaid : Prop := Claim7.holds Tryd.pinned (.plain (OpenSpec.upto fnWrittenForSpec)) fnWrittenForUptoCard
end Rows
end Go.Proofs.YtnoccmghclmpnaaDoor

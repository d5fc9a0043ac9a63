/-
  DERIVED. GIVEN WITH THE SEED: THE CARDS: each row of YtmhipmllpkkhjaaDoorRows.lean that lists a variable, with what it lists TIED to the program's text (the seventh form; the later family's looks); each row that meets fmt, with fmt's text TOLD by the authors' own Lean function (tested against real Go, not proved from fmt's source: count such statements apart). THE CARD IS WHAT COUNTS. Prove the row's statement (the work); the ties are given (YtmhipmllpkkhjaaDoorTie.lean); close each card by the builder's one call (the guide's Derived/Test/ToyasCard.lean, 'card_holds'). Laid BY PROGRAM, IN A SANDBOX (cutbox-door.mjs). By AI agents, Wed Nov 11 2026. No macro, syntax, notation, axiom, sorry.
-/
import Derived.Test.YtmhipmllpkkhjaaDoorRows
import GoSem.ClaimSeven
namespace Go.Proofs.YtmhipmllpkkhjaaDoor
namespace Rows

/-- THE TIED CARD OF 'laws.FnRunOf'. -/
def fnRunOfCard : Claim7 := { stood := { row := fnRunOfRow, standIns := [], harness := (true, "896b5224f6564d382ca866de24ec5c086f8e398e9377367509473b063c0d72fd"), looks := true }, kinds := [], alts := [], laidByText := true, laidKinds := [.data], laidTests := true, laidLooks := .later }
def FnRunOfCardSaid : Prop := Claim7.holds Tryd.pinned (.plain (OpenSpec.ofChange fnRunOfSpec)) fnRunOfCard

/-- THE TIED CARD OF 'laws.FnSoldBy'. -/
def fnSoldByCard : Claim7 := { stood := { row := fnSoldByRow, standIns := [], harness := (true, "896b5224f6564d382ca866de24ec5c086f8e398e9377367509473b063c0d72fd"), looks := true }, kinds := [], alts := [], laidByText := true, laidKinds := [.data], laidTests := true, laidLooks := .later }
def FnSoldByCardSaid : Prop := Claim7.holds Tryd.pinned (.plain (OpenSpec.ofChange fnSoldBySpec)) fnSoldByCard

/-- THE TIED CARD OF 'laws.FnCoinsPut'. -/
def fnCoinsPutCard : Claim7 := { stood := { row := fnCoinsPutRow, standIns := [], harness := (true, "896b5224f6564d382ca866de24ec5c086f8e398e9377367509473b063c0d72fd"), looks := true }, kinds := [], alts := [], laidByText := true, laidKinds := [.data], laidTests := true, laidLooks := .later }
def FnCoinsPutCardSaid : Prop := Claim7.holds Tryd.pinned (.plain (OpenSpec.ofChange fnCoinsPutSpec)) fnCoinsPutCard

/-- THE TIED CARD OF 'laws.FnActedBy'. -/
def fnActedByCard : Claim7 := { stood := { row := fnActedByRow, standIns := [], harness := (true, "896b5224f6564d382ca866de24ec5c086f8e398e9377367509473b063c0d72fd"), looks := true }, kinds := [], alts := [], laidByText := true, laidKinds := [.data], laidTests := true, laidLooks := .later }
def FnActedByCardSaid : Prop := Claim7.holds Tryd.pinned (.plain (OpenSpec.ofChange fnActedBySpec)) fnActedByCard

/-- THE TIED CARD OF 'laws.FnRunBy'. -/
def fnRunByCard : Claim7 := { stood := { row := fnRunByRow, standIns := [], harness := (true, "896b5224f6564d382ca866de24ec5c086f8e398e9377367509473b063c0d72fd"), looks := true }, kinds := [], alts := [], laidByText := true, laidKinds := [.data], laidTests := true, laidLooks := .later }
def FnRunByCardSaid : Prop := Claim7.holds Tryd.pinned (.plain (OpenSpec.ofChange fnRunBySpec)) fnRunByCard

/-- THE TIED CARD OF 'laws.FnWrittenFor'. -/
def fnWrittenForCard : Claim7 := { stood := { row := fnWrittenForRow, standIns := [], harness := (true, "896b5224f6564d382ca866de24ec5c086f8e398e9377367509473b063c0d72fd"), looks := true }, kinds := [], alts := [], laidByText := true, laidKinds := [.data, .data], laidTests := true, laidLooks := .later }
def FnWrittenForCardSaid : Prop := Claim7.holds Tryd.pinned (.plain (OpenSpec.ofChange fnWrittenForSpec)) fnWrittenForCard

/-- THE TIED CARD OF 'laws.FnWrongEntry'. -/
def fnWrongEntryCard : Claim7 := { stood := { row := fnWrongEntryRow, standIns := [], harness := (true, "896b5224f6564d382ca866de24ec5c086f8e398e9377367509473b063c0d72fd"), looks := true }, kinds := [], alts := [], laidByText := true, laidKinds := [.data, .data], laidTests := true, laidLooks := .later }
def FnWrongEntryCardSaid : Prop := Claim7.holds Tryd.pinned (.plain (OpenSpec.ofChange fnWrongEntrySpec)) fnWrongEntryCard

/-- THE TIED CARD OF 'laws.FnTakingsOf'. -/
def fnTakingsOfCard : Claim7 := { stood := { row := fnTakingsOfRow, standIns := [], harness := (true, "896b5224f6564d382ca866de24ec5c086f8e398e9377367509473b063c0d72fd"), looks := true }, kinds := [], alts := [], laidByText := true, laidKinds := [.data, .data], laidTests := true, laidLooks := .later }
def FnTakingsOfCardSaid : Prop := Claim7.holds Tryd.pinned (.plain (OpenSpec.ofChange fnTakingsOfSpec)) fnTakingsOfCard

/-- THE TIED CARD OF 'laws.FnTapeText'. -/
def fnTapeTextCard : Claim7 := { stood := { row := fnTapeTextRow, standIns := [], harness := (true, "896b5224f6564d382ca866de24ec5c086f8e398e9377367509473b063c0d72fd"), looks := true }, kinds := [], alts := [], laidByText := true, laidKinds := [.data, .data, .data, .data, .data], laidTests := true, laidLooks := .later }
def FnTapeTextCardSaid : Prop := Claim7.holds Tryd.pinned (.plain (OpenSpec.ofChange fnTapeTextSpec)) fnTapeTextCard

/-- THE TIED CARD OF 'laws.FnReadTape'. -/
def fnReadTapeCard : Claim7 := { stood := { row := fnReadTapeRow, standIns := [], harness := (true, "896b5224f6564d382ca866de24ec5c086f8e398e9377367509473b063c0d72fd"), looks := true }, kinds := [], alts := [], laidByText := true, laidKinds := [.data, .data, .data, .data, .data], laidTests := true, laidLooks := .later }
def FnReadTapeCardSaid : Prop := Claim7.holds Tryd.pinned (.plain (OpenSpec.ofChange fnReadTapeSpec)) fnReadTapeCard

/-- THE SECOND FORM's CARD OF 'laws.FnRunOf'. -/
def fnRunOfUptoCard : Claim7 := { stood := { row := fnRunOfUptoRow, standIns := [], harness := (true, "896b5224f6564d382ca866de24ec5c086f8e398e9377367509473b063c0d72fd"), looks := true }, kinds := [], alts := [], laidByText := true, laidKinds := [.data], laidTests := true, laidLooks := .later }
def FnRunOfUptoCardSaid : Prop := Claim7.holds Tryd.pinned (.plain (OpenSpec.upto fnRunOfSpec)) fnRunOfUptoCard

/-- THE SECOND FORM's CARD OF 'laws.FnSoldBy'. -/
def fnSoldByUptoCard : Claim7 := { stood := { row := fnSoldByUptoRow, standIns := [], harness := (true, "896b5224f6564d382ca866de24ec5c086f8e398e9377367509473b063c0d72fd"), looks := true }, kinds := [], alts := [], laidByText := true, laidKinds := [.data], laidTests := true, laidLooks := .later }
def FnSoldByUptoCardSaid : Prop := Claim7.holds Tryd.pinned (.plain (OpenSpec.upto fnSoldBySpec)) fnSoldByUptoCard

/-- THE SECOND FORM's CARD OF 'laws.FnCoinsPut'. -/
def fnCoinsPutUptoCard : Claim7 := { stood := { row := fnCoinsPutUptoRow, standIns := [], harness := (true, "896b5224f6564d382ca866de24ec5c086f8e398e9377367509473b063c0d72fd"), looks := true }, kinds := [], alts := [], laidByText := true, laidKinds := [.data], laidTests := true, laidLooks := .later }
def FnCoinsPutUptoCardSaid : Prop := Claim7.holds Tryd.pinned (.plain (OpenSpec.upto fnCoinsPutSpec)) fnCoinsPutUptoCard

/-- THE SECOND FORM's CARD OF 'laws.FnActedBy'. -/
def fnActedByUptoCard : Claim7 := { stood := { row := fnActedByUptoRow, standIns := [], harness := (true, "896b5224f6564d382ca866de24ec5c086f8e398e9377367509473b063c0d72fd"), looks := true }, kinds := [], alts := [], laidByText := true, laidKinds := [.data], laidTests := true, laidLooks := .later }
def FnActedByUptoCardSaid : Prop := Claim7.holds Tryd.pinned (.plain (OpenSpec.upto fnActedBySpec)) fnActedByUptoCard

/-- THE SECOND FORM's CARD OF 'laws.FnRunBy'. -/
def fnRunByUptoCard : Claim7 := { stood := { row := fnRunByUptoRow, standIns := [], harness := (true, "896b5224f6564d382ca866de24ec5c086f8e398e9377367509473b063c0d72fd"), looks := true }, kinds := [], alts := [], laidByText := true, laidKinds := [.data], laidTests := true, laidLooks := .later }
def FnRunByUptoCardSaid : Prop := Claim7.holds Tryd.pinned (.plain (OpenSpec.upto fnRunBySpec)) fnRunByUptoCard

/-- THE SECOND FORM's CARD OF 'laws.FnWrittenFor'. -/
def fnWrittenForUptoCard : Claim7 := { stood := { row := fnWrittenForUptoRow, standIns := [], harness := (true, "896b5224f6564d382ca866de24ec5c086f8e398e9377367509473b063c0d72fd"), looks := true }, kinds := [], alts := [], laidByText := true, laidKinds := [.data, .data], laidTests := true, laidLooks := .later }
def FnWrittenForUptoCardSaid : Prop := Claim7.holds Tryd.pinned (.plain (OpenSpec.upto fnWrittenForSpec)) fnWrittenForUptoCard

/-- THE SECOND FORM's CARD OF 'laws.FnWrongEntry'. -/
def fnWrongEntryUptoCard : Claim7 := { stood := { row := fnWrongEntryUptoRow, standIns := [], harness := (true, "896b5224f6564d382ca866de24ec5c086f8e398e9377367509473b063c0d72fd"), looks := true }, kinds := [], alts := [], laidByText := true, laidKinds := [.data, .data], laidTests := true, laidLooks := .later }
def FnWrongEntryUptoCardSaid : Prop := Claim7.holds Tryd.pinned (.plain (OpenSpec.upto fnWrongEntrySpec)) fnWrongEntryUptoCard

/-- THE SECOND FORM's CARD OF 'laws.FnTakingsOf'. -/
def fnTakingsOfUptoCard : Claim7 := { stood := { row := fnTakingsOfUptoRow, standIns := [], harness := (true, "896b5224f6564d382ca866de24ec5c086f8e398e9377367509473b063c0d72fd"), looks := true }, kinds := [], alts := [], laidByText := true, laidKinds := [.data, .data], laidTests := true, laidLooks := .later }
def FnTakingsOfUptoCardSaid : Prop := Claim7.holds Tryd.pinned (.plain (OpenSpec.upto fnTakingsOfSpec)) fnTakingsOfUptoCard

/-- THE SECOND FORM's CARD OF 'laws.FnTapeText'. -/
def fnTapeTextUptoCard : Claim7 := { stood := { row := fnTapeTextUptoRow, standIns := [], harness := (true, "896b5224f6564d382ca866de24ec5c086f8e398e9377367509473b063c0d72fd"), looks := true }, kinds := [], alts := [], laidByText := true, laidKinds := [.data, .data, .data, .data, .data], laidTests := true, laidLooks := .later }
def FnTapeTextUptoCardSaid : Prop := Claim7.holds Tryd.pinned (.plain (OpenSpec.upto fnTapeTextSpec)) fnTapeTextUptoCard

/-- THE SECOND FORM's CARD OF 'laws.FnReadTape'. -/
def fnReadTapeUptoCard : Claim7 := { stood := { row := fnReadTapeUptoRow, standIns := [], harness := (true, "896b5224f6564d382ca866de24ec5c086f8e398e9377367509473b063c0d72fd"), looks := true }, kinds := [], alts := [], laidByText := true, laidKinds := [.data, .data, .data, .data, .data], laidTests := true, laidLooks := .later }
def FnReadTapeUptoCardSaid : Prop := Claim7.holds Tryd.pinned (.plain (OpenSpec.upto fnReadTapeSpec)) fnReadTapeUptoCard
end Rows
end Go.Proofs.YtmhipmllpkkhjaaDoor

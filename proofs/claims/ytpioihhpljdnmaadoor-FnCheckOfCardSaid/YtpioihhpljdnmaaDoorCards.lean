/-
  DERIVED. GIVEN WITH THE SEED: THE CARDS: each row of YtpioihhpljdnmaaDoorRows.lean that lists a variable, with what it lists TIED to the program's text (the seventh form; the later family's looks); each row that meets fmt, with fmt's text TOLD by the authors' own Lean function (tested against real Go, not proved from fmt's source: count such statements apart). THE CARD IS WHAT COUNTS. Prove the row's statement (the work); the ties are given (YtpioihhpljdnmaaDoorTie.lean); close each card by the builder's one call (the guide's Derived/Test/ToyasCard.lean, 'card_holds'). Laid BY PROGRAM, IN A SANDBOX (cutbox-door.mjs). By AI agents, Wed Nov 11 2026. No macro, syntax, notation, axiom, sorry.
-/
import Derived.Test.YtpioihhpljdnmaaDoorRows
import GoSem.ClaimSeven
namespace Go.Proofs.YtpioihhpljdnmaaDoor
namespace Rows

/-- THE TIED CARD OF 'laws.FnExactEntryOk'. -/
def fnExactEntryOkCard : Claim7 := { stood := { row := fnExactEntryOkRow, standIns := [], harness := (true, "02027897db371ea978e5c5346bf11c527d98e76af46819680c7f591f1a70bde1"), looks := false }, kinds := [], alts := [], laidByText := true, laidKinds := [.data], laidTests := true, laidLooks := .later }
def FnExactEntryOkCardSaid : Prop := Claim7.holds Tryd.pinned (.plain (OpenSpec.ofChange fnExactEntryOkSpec)) fnExactEntryOkCard

/-- THE TIED CARD OF 'laws.FnExactCheckOf'. -/
def fnExactCheckOfCard : Claim7 := { stood := { row := fnExactCheckOfRow, standIns := [], harness := (true, "02027897db371ea978e5c5346bf11c527d98e76af46819680c7f591f1a70bde1"), looks := false }, kinds := [], alts := [], laidByText := true, laidKinds := [.data], laidTests := true, laidLooks := .later }
def FnExactCheckOfCardSaid : Prop := Claim7.holds Tryd.pinned (.plain (OpenSpec.ofChange fnExactCheckOfSpec)) fnExactCheckOfCard

/-- THE TIED CARD OF 'laws.FnExactWrittenFor'. -/
def fnExactWrittenForCard : Claim7 := { stood := { row := fnExactWrittenForRow, standIns := [], harness := (true, "02027897db371ea978e5c5346bf11c527d98e76af46819680c7f591f1a70bde1"), looks := false }, kinds := [], alts := [], laidByText := true, laidKinds := [.data, .data], laidTests := true, laidLooks := .later }
def FnExactWrittenForCardSaid : Prop := Claim7.holds Tryd.pinned (.plain (OpenSpec.ofChange fnExactWrittenForSpec)) fnExactWrittenForCard

/-- THE TIED CARD OF 'laws.FnExactWrongEntry'. -/
def fnExactWrongEntryCard : Claim7 := { stood := { row := fnExactWrongEntryRow, standIns := [], harness := (true, "02027897db371ea978e5c5346bf11c527d98e76af46819680c7f591f1a70bde1"), looks := false }, kinds := [], alts := [], laidByText := true, laidKinds := [.data], laidTests := true, laidLooks := .later }
def FnExactWrongEntryCardSaid : Prop := Claim7.holds Tryd.pinned (.plain (OpenSpec.ofChange fnExactWrongEntrySpec)) fnExactWrongEntryCard

/-- THE TIED CARD OF 'laws.FnExactTakingsOf'. -/
def fnExactTakingsOfCard : Claim7 := { stood := { row := fnExactTakingsOfRow, standIns := [], harness := (true, "02027897db371ea978e5c5346bf11c527d98e76af46819680c7f591f1a70bde1"), looks := false }, kinds := [], alts := [], laidByText := true, laidKinds := [.data, .data], laidTests := true, laidLooks := .later }
def FnExactTakingsOfCardSaid : Prop := Claim7.holds Tryd.pinned (.plain (OpenSpec.ofChange fnExactTakingsOfSpec)) fnExactTakingsOfCard

/-- THE TIED CARD OF 'laws.FnExactTapeText'. -/
def fnExactTapeTextCard : Claim7 := { stood := { row := fnExactTapeTextRow, standIns := [], harness := (true, "02027897db371ea978e5c5346bf11c527d98e76af46819680c7f591f1a70bde1"), looks := false }, kinds := [], alts := [], laidByText := true, laidKinds := [.data, .data, .data, .data], laidTests := true, laidLooks := .later }
def FnExactTapeTextCardSaid : Prop := Claim7.holds Tryd.pinned (.plain (OpenSpec.ofChange fnExactTapeTextSpec)) fnExactTapeTextCard

/-- THE TIED CARD OF 'laws.FnExactReadTape'. -/
def fnExactReadTapeCard : Claim7 := { stood := { row := fnExactReadTapeRow, standIns := [], harness := (true, "02027897db371ea978e5c5346bf11c527d98e76af46819680c7f591f1a70bde1"), looks := false }, kinds := [], alts := [], laidByText := true, laidKinds := [.data, .data, .data, .data], laidTests := true, laidLooks := .later }
def FnExactReadTapeCardSaid : Prop := Claim7.holds Tryd.pinned (.plain (OpenSpec.ofChange fnExactReadTapeSpec)) fnExactReadTapeCard

/-- THE TIED CARD OF 'laws.FnEntryOk'. -/
def fnEntryOkCard : Claim7 := { stood := { row := fnEntryOkRow, standIns := [], harness := (true, "02027897db371ea978e5c5346bf11c527d98e76af46819680c7f591f1a70bde1"), looks := false }, kinds := [], alts := [], laidByText := true, laidKinds := [.data, .data], laidTests := true, laidLooks := .later }
def FnEntryOkCardSaid : Prop := Claim7.holds Tryd.pinned (.plain (OpenSpec.ofChange fnEntryOkSpec)) fnEntryOkCard

/-- THE TIED CARD OF 'laws.FnCheckOf'. -/
def fnCheckOfCard : Claim7 := { stood := { row := fnCheckOfRow, standIns := [], harness := (true, "02027897db371ea978e5c5346bf11c527d98e76af46819680c7f591f1a70bde1"), looks := false }, kinds := [], alts := [], laidByText := true, laidKinds := [.data, .data], laidTests := true, laidLooks := .later }
def FnCheckOfCardSaid : Prop := Claim7.holds Tryd.pinned (.plain (OpenSpec.ofChange fnCheckOfSpec)) fnCheckOfCard

/-- THE SECOND FORM's CARD OF 'laws.FnExactEntryOk'. -/
def fnExactEntryOkUptoCard : Claim7 := { stood := { row := fnExactEntryOkUptoRow, standIns := [], harness := (true, "02027897db371ea978e5c5346bf11c527d98e76af46819680c7f591f1a70bde1"), looks := false }, kinds := [], alts := [], laidByText := true, laidKinds := [.data], laidTests := true, laidLooks := .later }
def FnExactEntryOkUptoCardSaid : Prop := Claim7.holds Tryd.pinned (.plain (OpenSpec.upto fnExactEntryOkSpec)) fnExactEntryOkUptoCard

/-- THE SECOND FORM's CARD OF 'laws.FnExactCheckOf'. -/
def fnExactCheckOfUptoCard : Claim7 := { stood := { row := fnExactCheckOfUptoRow, standIns := [], harness := (true, "02027897db371ea978e5c5346bf11c527d98e76af46819680c7f591f1a70bde1"), looks := false }, kinds := [], alts := [], laidByText := true, laidKinds := [.data], laidTests := true, laidLooks := .later }
def FnExactCheckOfUptoCardSaid : Prop := Claim7.holds Tryd.pinned (.plain (OpenSpec.upto fnExactCheckOfSpec)) fnExactCheckOfUptoCard

/-- THE SECOND FORM's CARD OF 'laws.FnExactWrittenFor'. -/
def fnExactWrittenForUptoCard : Claim7 := { stood := { row := fnExactWrittenForUptoRow, standIns := [], harness := (true, "02027897db371ea978e5c5346bf11c527d98e76af46819680c7f591f1a70bde1"), looks := false }, kinds := [], alts := [], laidByText := true, laidKinds := [.data, .data], laidTests := true, laidLooks := .later }
def FnExactWrittenForUptoCardSaid : Prop := Claim7.holds Tryd.pinned (.plain (OpenSpec.upto fnExactWrittenForSpec)) fnExactWrittenForUptoCard

/-- THE SECOND FORM's CARD OF 'laws.FnExactWrongEntry'. -/
def fnExactWrongEntryUptoCard : Claim7 := { stood := { row := fnExactWrongEntryUptoRow, standIns := [], harness := (true, "02027897db371ea978e5c5346bf11c527d98e76af46819680c7f591f1a70bde1"), looks := false }, kinds := [], alts := [], laidByText := true, laidKinds := [.data], laidTests := true, laidLooks := .later }
def FnExactWrongEntryUptoCardSaid : Prop := Claim7.holds Tryd.pinned (.plain (OpenSpec.upto fnExactWrongEntrySpec)) fnExactWrongEntryUptoCard

/-- THE SECOND FORM's CARD OF 'laws.FnExactTakingsOf'. -/
def fnExactTakingsOfUptoCard : Claim7 := { stood := { row := fnExactTakingsOfUptoRow, standIns := [], harness := (true, "02027897db371ea978e5c5346bf11c527d98e76af46819680c7f591f1a70bde1"), looks := false }, kinds := [], alts := [], laidByText := true, laidKinds := [.data, .data], laidTests := true, laidLooks := .later }
def FnExactTakingsOfUptoCardSaid : Prop := Claim7.holds Tryd.pinned (.plain (OpenSpec.upto fnExactTakingsOfSpec)) fnExactTakingsOfUptoCard

/-- THE SECOND FORM's CARD OF 'laws.FnExactTapeText'. -/
def fnExactTapeTextUptoCard : Claim7 := { stood := { row := fnExactTapeTextUptoRow, standIns := [], harness := (true, "02027897db371ea978e5c5346bf11c527d98e76af46819680c7f591f1a70bde1"), looks := false }, kinds := [], alts := [], laidByText := true, laidKinds := [.data, .data, .data, .data], laidTests := true, laidLooks := .later }
def FnExactTapeTextUptoCardSaid : Prop := Claim7.holds Tryd.pinned (.plain (OpenSpec.upto fnExactTapeTextSpec)) fnExactTapeTextUptoCard

/-- THE SECOND FORM's CARD OF 'laws.FnExactReadTape'. -/
def fnExactReadTapeUptoCard : Claim7 := { stood := { row := fnExactReadTapeUptoRow, standIns := [], harness := (true, "02027897db371ea978e5c5346bf11c527d98e76af46819680c7f591f1a70bde1"), looks := false }, kinds := [], alts := [], laidByText := true, laidKinds := [.data, .data, .data, .data], laidTests := true, laidLooks := .later }
def FnExactReadTapeUptoCardSaid : Prop := Claim7.holds Tryd.pinned (.plain (OpenSpec.upto fnExactReadTapeSpec)) fnExactReadTapeUptoCard

/-- THE SECOND FORM's CARD OF 'laws.FnEntryOk'. -/
def fnEntryOkUptoCard : Claim7 := { stood := { row := fnEntryOkUptoRow, standIns := [], harness := (true, "02027897db371ea978e5c5346bf11c527d98e76af46819680c7f591f1a70bde1"), looks := false }, kinds := [], alts := [], laidByText := true, laidKinds := [.data, .data], laidTests := true, laidLooks := .later }
def FnEntryOkUptoCardSaid : Prop := Claim7.holds Tryd.pinned (.plain (OpenSpec.upto fnEntryOkSpec)) fnEntryOkUptoCard

/-- THE SECOND FORM's CARD OF 'laws.FnCheckOf'. -/
def fnCheckOfUptoCard : Claim7 := { stood := { row := fnCheckOfUptoRow, standIns := [], harness := (true, "02027897db371ea978e5c5346bf11c527d98e76af46819680c7f591f1a70bde1"), looks := false }, kinds := [], alts := [], laidByText := true, laidKinds := [.data, .data], laidTests := true, laidLooks := .later }
def FnCheckOfUptoCardSaid : Prop := Claim7.holds Tryd.pinned (.plain (OpenSpec.upto fnCheckOfSpec)) fnCheckOfUptoCard
end Rows
end Go.Proofs.YtpioihhpljdnmaaDoor

/-
  DERIVED. GIVEN WITH THE SEED: THE CARDS: each row of YtfmhmcedidghfaaDoorRows.lean that lists a variable, with what it lists TIED to the program's text (the seventh form; the later family's looks); each row that meets fmt, with fmt's text TOLD by the authors' own Lean function (tested against real Go, not proved from fmt's source: count such statements apart). THE CARD IS WHAT COUNTS. Prove the row's statement (the work); the ties are given (YtfmhmcedidghfaaDoorTie.lean); close each card by the builder's one call (the guide's Derived/Test/ToyasCard.lean, 'card_holds'). Laid BY PROGRAM, IN A SANDBOX (cutbox-door.mjs). By AI agents, Wed Nov 11 2026. No macro, syntax, notation, axiom, sorry.
-/
import Derived.Test.YtfmhmcedidghfaaDoorRows
import GoSem.ClaimSeven
namespace Go.Proofs.YtfmhmcedidghfaaDoor
namespace Rows

/-- THE TIED CARD OF 'laws.FnWorthOf'. -/
def fnWorthOfCard : Claim7 := { stood := { row := fnWorthOfRow, standIns := [], harness := (true, "a31364174048fce34685ae9010030322e1433ab9882f9790c40a6feb5f94be0d"), looks := true }, kinds := [], alts := [], laidByText := true, laidKinds := [.data], laidTests := true, laidLooks := .later }
def FnWorthOfCardSaid : Prop := Claim7.holds Tryd.pinned (.plain (OpenSpec.ofChange fnWorthOfSpec)) fnWorthOfCard

/-- THE TIED CARD OF 'laws.FnPurseOk'. -/
def fnPurseOkCard : Claim7 := { stood := { row := fnPurseOkRow, standIns := [], harness := (true, "a31364174048fce34685ae9010030322e1433ab9882f9790c40a6feb5f94be0d"), looks := true }, kinds := [], alts := [], laidByText := true, laidKinds := [.data], laidTests := true, laidLooks := .later }
def FnPurseOkCardSaid : Prop := Claim7.holds Tryd.pinned (.plain (OpenSpec.ofChange fnPurseOkSpec)) fnPurseOkCard

/-- THE TIED CARD OF 'laws.FnValueOf'. -/
def fnValueOfCard : Claim7 := { stood := { row := fnValueOfRow, standIns := [], harness := (true, "a31364174048fce34685ae9010030322e1433ab9882f9790c40a6feb5f94be0d"), looks := true }, kinds := [], alts := [], laidByText := true, laidKinds := [.data], laidTests := true, laidLooks := .later }
def FnValueOfCardSaid : Prop := Claim7.holds Tryd.pinned (.plain (OpenSpec.ofChange fnValueOfSpec)) fnValueOfCard

/-- THE TIED CARD OF 'laws.FnCoinsIn'. -/
def fnCoinsInCard : Claim7 := { stood := { row := fnCoinsInRow, standIns := [], harness := (true, "a31364174048fce34685ae9010030322e1433ab9882f9790c40a6feb5f94be0d"), looks := true }, kinds := [], alts := [], laidByText := true, laidKinds := [.data], laidTests := true, laidLooks := .later }
def FnCoinsInCardSaid : Prop := Claim7.holds Tryd.pinned (.plain (OpenSpec.ofChange fnCoinsInSpec)) fnCoinsInCard

/-- THE TIED CARD OF 'laws.FnPutTogether'. -/
def fnPutTogetherCard : Claim7 := { stood := { row := fnPutTogetherRow, standIns := [], harness := (true, "a31364174048fce34685ae9010030322e1433ab9882f9790c40a6feb5f94be0d"), looks := true }, kinds := [], alts := [], laidByText := true, laidKinds := [.data], laidTests := true, laidLooks := .later }
def FnPutTogetherCardSaid : Prop := Claim7.holds Tryd.pinned (.plain (OpenSpec.ofChange fnPutTogetherSpec)) fnPutTogetherCard

/-- THE TIED CARD OF 'laws.FnWithinOf'. -/
def fnWithinOfCard : Claim7 := { stood := { row := fnWithinOfRow, standIns := [], harness := (true, "a31364174048fce34685ae9010030322e1433ab9882f9790c40a6feb5f94be0d"), looks := true }, kinds := [], alts := [], laidByText := true, laidKinds := [.data], laidTests := true, laidLooks := .later }
def FnWithinOfCardSaid : Prop := Claim7.holds Tryd.pinned (.plain (OpenSpec.ofChange fnWithinOfSpec)) fnWithinOfCard

/-- THE TIED CARD OF 'laws.FnTakenOut'. -/
def fnTakenOutCard : Claim7 := { stood := { row := fnTakenOutRow, standIns := [], harness := (true, "a31364174048fce34685ae9010030322e1433ab9882f9790c40a6feb5f94be0d"), looks := true }, kinds := [], alts := [], laidByText := true, laidKinds := [.data], laidTests := true, laidLooks := .later }
def FnTakenOutCardSaid : Prop := Claim7.holds Tryd.pinned (.plain (OpenSpec.ofChange fnTakenOutSpec)) fnTakenOutCard

/-- THE TIED CARD OF 'laws.FnPurseText'. -/
def fnPurseTextCard : Claim7 := { stood := { row := fnPurseTextRow, standIns := [], harness := (true, "a31364174048fce34685ae9010030322e1433ab9882f9790c40a6feb5f94be0d"), looks := true }, kinds := [], alts := [], laidByText := true, laidKinds := [.data, .data, .data, .data, .sentinel, .sentinel, .data, .pinned], laidTests := true, laidLooks := .later }
def FnPurseTextCardSaid : Prop := Claim7.holds Tryd.pinned (.plain (OpenSpec.ofChange fnPurseTextSpec)) fnPurseTextCard

/-- THE TIED CARD OF 'laws.FnReadPurse'. -/
def fnReadPurseCard : Claim7 := { stood := { row := fnReadPurseRow, standIns := [], harness := (true, "a31364174048fce34685ae9010030322e1433ab9882f9790c40a6feb5f94be0d"), looks := true }, kinds := [], alts := [], laidByText := true, laidKinds := [.data, .data, .data, .data, .sentinel, .sentinel, .data, .pinned], laidTests := true, laidLooks := .later }
def FnReadPurseCardSaid : Prop := Claim7.holds Tryd.pinned (.plain (OpenSpec.ofChange fnReadPurseSpec)) fnReadPurseCard

/-- THE TIED CARD OF 'laws.FnExactWorthOf'. -/
def fnExactWorthOfCard : Claim7 := { stood := { row := fnExactWorthOfRow, standIns := [], harness := (true, "a31364174048fce34685ae9010030322e1433ab9882f9790c40a6feb5f94be0d"), looks := true }, kinds := [], alts := [], laidByText := true, laidKinds := [.data], laidTests := true, laidLooks := .later }
def FnExactWorthOfCardSaid : Prop := Claim7.holds Tryd.pinned (.plain (OpenSpec.ofChange fnExactWorthOfSpec)) fnExactWorthOfCard

/-- THE TIED CARD OF 'laws.FnExactValueOf'. -/
def fnExactValueOfCard : Claim7 := { stood := { row := fnExactValueOfRow, standIns := [], harness := (true, "a31364174048fce34685ae9010030322e1433ab9882f9790c40a6feb5f94be0d"), looks := true }, kinds := [], alts := [], laidByText := true, laidKinds := [.data], laidTests := true, laidLooks := .later }
def FnExactValueOfCardSaid : Prop := Claim7.holds Tryd.pinned (.plain (OpenSpec.ofChange fnExactValueOfSpec)) fnExactValueOfCard

/-- THE TIED CARD OF 'laws.FnExactPurseText'. -/
def fnExactPurseTextCard : Claim7 := { stood := { row := fnExactPurseTextRow, standIns := [], harness := (true, "a31364174048fce34685ae9010030322e1433ab9882f9790c40a6feb5f94be0d"), looks := true }, kinds := [], alts := [], laidByText := true, laidKinds := [.data, .data, .data, .data], laidTests := true, laidLooks := .later }
def FnExactPurseTextCardSaid : Prop := Claim7.holds Tryd.pinned (.plain (OpenSpec.ofChange fnExactPurseTextSpec)) fnExactPurseTextCard

/-- THE TIED CARD OF 'laws.FnExactReadPurse'. -/
def fnExactReadPurseCard : Claim7 := { stood := { row := fnExactReadPurseRow, standIns := [], harness := (true, "a31364174048fce34685ae9010030322e1433ab9882f9790c40a6feb5f94be0d"), looks := true }, kinds := [], alts := [], laidByText := true, laidKinds := [.data, .data, .data, .data, .sentinel, .sentinel, .data, .pinned], laidTests := true, laidLooks := .later }
def FnExactReadPurseCardSaid : Prop := Claim7.holds Tryd.pinned (.plain (OpenSpec.ofChange fnExactReadPurseSpec)) fnExactReadPurseCard

/-- THE SECOND FORM's CARD OF 'laws.FnWorthOf'. -/
def fnWorthOfUptoCard : Claim7 := { stood := { row := fnWorthOfUptoRow, standIns := [], harness := (true, "a31364174048fce34685ae9010030322e1433ab9882f9790c40a6feb5f94be0d"), looks := true }, kinds := [], alts := [], laidByText := true, laidKinds := [.data], laidTests := true, laidLooks := .later }
def FnWorthOfUptoCardSaid : Prop := Claim7.holds Tryd.pinned (.plain (OpenSpec.upto fnWorthOfSpec)) fnWorthOfUptoCard

/-- THE SECOND FORM's CARD OF 'laws.FnPurseOk'. -/
def fnPurseOkUptoCard : Claim7 := { stood := { row := fnPurseOkUptoRow, standIns := [], harness := (true, "a31364174048fce34685ae9010030322e1433ab9882f9790c40a6feb5f94be0d"), looks := true }, kinds := [], alts := [], laidByText := true, laidKinds := [.data], laidTests := true, laidLooks := .later }
def FnPurseOkUptoCardSaid : Prop := Claim7.holds Tryd.pinned (.plain (OpenSpec.upto fnPurseOkSpec)) fnPurseOkUptoCard

/-- THE SECOND FORM's CARD OF 'laws.FnValueOf'. -/
def fnValueOfUptoCard : Claim7 := { stood := { row := fnValueOfUptoRow, standIns := [], harness := (true, "a31364174048fce34685ae9010030322e1433ab9882f9790c40a6feb5f94be0d"), looks := true }, kinds := [], alts := [], laidByText := true, laidKinds := [.data], laidTests := true, laidLooks := .later }
def FnValueOfUptoCardSaid : Prop := Claim7.holds Tryd.pinned (.plain (OpenSpec.upto fnValueOfSpec)) fnValueOfUptoCard

/-- THE SECOND FORM's CARD OF 'laws.FnCoinsIn'. -/
def fnCoinsInUptoCard : Claim7 := { stood := { row := fnCoinsInUptoRow, standIns := [], harness := (true, "a31364174048fce34685ae9010030322e1433ab9882f9790c40a6feb5f94be0d"), looks := true }, kinds := [], alts := [], laidByText := true, laidKinds := [.data], laidTests := true, laidLooks := .later }
def FnCoinsInUptoCardSaid : Prop := Claim7.holds Tryd.pinned (.plain (OpenSpec.upto fnCoinsInSpec)) fnCoinsInUptoCard

/-- THE SECOND FORM's CARD OF 'laws.FnPutTogether'. -/
def fnPutTogetherUptoCard : Claim7 := { stood := { row := fnPutTogetherUptoRow, standIns := [], harness := (true, "a31364174048fce34685ae9010030322e1433ab9882f9790c40a6feb5f94be0d"), looks := true }, kinds := [], alts := [], laidByText := true, laidKinds := [.data], laidTests := true, laidLooks := .later }
def FnPutTogetherUptoCardSaid : Prop := Claim7.holds Tryd.pinned (.plain (OpenSpec.upto fnPutTogetherSpec)) fnPutTogetherUptoCard

/-- THE SECOND FORM's CARD OF 'laws.FnWithinOf'. -/
def fnWithinOfUptoCard : Claim7 := { stood := { row := fnWithinOfUptoRow, standIns := [], harness := (true, "a31364174048fce34685ae9010030322e1433ab9882f9790c40a6feb5f94be0d"), looks := true }, kinds := [], alts := [], laidByText := true, laidKinds := [.data], laidTests := true, laidLooks := .later }
def FnWithinOfUptoCardSaid : Prop := Claim7.holds Tryd.pinned (.plain (OpenSpec.upto fnWithinOfSpec)) fnWithinOfUptoCard

/-- THE SECOND FORM's CARD OF 'laws.FnTakenOut'. -/
def fnTakenOutUptoCard : Claim7 := { stood := { row := fnTakenOutUptoRow, standIns := [], harness := (true, "a31364174048fce34685ae9010030322e1433ab9882f9790c40a6feb5f94be0d"), looks := true }, kinds := [], alts := [], laidByText := true, laidKinds := [.data], laidTests := true, laidLooks := .later }
def FnTakenOutUptoCardSaid : Prop := Claim7.holds Tryd.pinned (.plain (OpenSpec.upto fnTakenOutSpec)) fnTakenOutUptoCard

/-- THE SECOND FORM's CARD OF 'laws.FnPurseText'. -/
def fnPurseTextUptoCard : Claim7 := { stood := { row := fnPurseTextUptoRow, standIns := [], harness := (true, "a31364174048fce34685ae9010030322e1433ab9882f9790c40a6feb5f94be0d"), looks := true }, kinds := [], alts := [], laidByText := true, laidKinds := [.data, .data, .data, .data, .sentinel, .sentinel, .data, .pinned], laidTests := true, laidLooks := .later }
def FnPurseTextUptoCardSaid : Prop := Claim7.holds Tryd.pinned (.plain (OpenSpec.upto fnPurseTextSpec)) fnPurseTextUptoCard

/-- THE SECOND FORM's CARD OF 'laws.FnReadPurse'. -/
def fnReadPurseUptoCard : Claim7 := { stood := { row := fnReadPurseUptoRow, standIns := [], harness := (true, "a31364174048fce34685ae9010030322e1433ab9882f9790c40a6feb5f94be0d"), looks := true }, kinds := [], alts := [], laidByText := true, laidKinds := [.data, .data, .data, .data, .sentinel, .sentinel, .data, .pinned], laidTests := true, laidLooks := .later }
def FnReadPurseUptoCardSaid : Prop := Claim7.holds Tryd.pinned (.plain (OpenSpec.upto fnReadPurseSpec)) fnReadPurseUptoCard

/-- THE SECOND FORM's CARD OF 'laws.FnExactWorthOf'. -/
def fnExactWorthOfUptoCard : Claim7 := { stood := { row := fnExactWorthOfUptoRow, standIns := [], harness := (true, "a31364174048fce34685ae9010030322e1433ab9882f9790c40a6feb5f94be0d"), looks := true }, kinds := [], alts := [], laidByText := true, laidKinds := [.data], laidTests := true, laidLooks := .later }
def FnExactWorthOfUptoCardSaid : Prop := Claim7.holds Tryd.pinned (.plain (OpenSpec.upto fnExactWorthOfSpec)) fnExactWorthOfUptoCard

/-- THE SECOND FORM's CARD OF 'laws.FnExactValueOf'. -/
def fnExactValueOfUptoCard : Claim7 := { stood := { row := fnExactValueOfUptoRow, standIns := [], harness := (true, "a31364174048fce34685ae9010030322e1433ab9882f9790c40a6feb5f94be0d"), looks := true }, kinds := [], alts := [], laidByText := true, laidKinds := [.data], laidTests := true, laidLooks := .later }
def FnExactValueOfUptoCardSaid : Prop := Claim7.holds Tryd.pinned (.plain (OpenSpec.upto fnExactValueOfSpec)) fnExactValueOfUptoCard

/-- THE SECOND FORM's CARD OF 'laws.FnExactPurseText'. -/
def fnExactPurseTextUptoCard : Claim7 := { stood := { row := fnExactPurseTextUptoRow, standIns := [], harness := (true, "a31364174048fce34685ae9010030322e1433ab9882f9790c40a6feb5f94be0d"), looks := true }, kinds := [], alts := [], laidByText := true, laidKinds := [.data, .data, .data, .data], laidTests := true, laidLooks := .later }
def FnExactPurseTextUptoCardSaid : Prop := Claim7.holds Tryd.pinned (.plain (OpenSpec.upto fnExactPurseTextSpec)) fnExactPurseTextUptoCard

/-- THE SECOND FORM's CARD OF 'laws.FnExactReadPurse'. -/
def fnExactReadPurseUptoCard : Claim7 := { stood := { row := fnExactReadPurseUptoRow, standIns := [], harness := (true, "a31364174048fce34685ae9010030322e1433ab9882f9790c40a6feb5f94be0d"), looks := true }, kinds := [], alts := [], laidByText := true, laidKinds := [.data, .data, .data, .data, .sentinel, .sentinel, .data, .pinned], laidTests := true, laidLooks := .later }
def FnExactReadPurseUptoCardSaid : Prop := Claim7.holds Tryd.pinned (.plain (OpenSpec.upto fnExactReadPurseSpec)) fnExactReadPurseUptoCard
end Rows
end Go.Proofs.YtfmhmcedidghfaaDoor

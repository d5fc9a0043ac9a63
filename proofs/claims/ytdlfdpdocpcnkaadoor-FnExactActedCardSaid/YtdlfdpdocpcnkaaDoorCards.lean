/-
  DERIVED. GIVEN WITH THE SEED: THE CARDS: each row of YtdlfdpdocpcnkaaDoorRows.lean that lists a variable, with what it lists TIED to the program's text (the seventh form; the later family's looks); each row that meets fmt, with fmt's text TOLD by the authors' own Lean function (tested against real Go, not proved from fmt's source: count such statements apart). THE CARD IS WHAT COUNTS. Prove the row's statement (the work); the ties are given (YtdlfdpdocpcnkaaDoorTie.lean); close each card by the builder's one call (the guide's Derived/Test/ToyasCard.lean, 'card_holds'). Laid BY PROGRAM, IN A SANDBOX (cutbox-door.mjs). By AI agents, Wed Nov 11 2026. No macro, syntax, notation, axiom, sorry.
-/
import Derived.Test.YtdlfdpdocpcnkaaDoorRows
import GoSem.ClaimSeven
namespace Go.Proofs.YtdlfdpdocpcnkaaDoor
namespace Rows

/-- THE TIED CARD OF 'laws.FnExactActed'. -/
def fnExactActedCard : Claim7 := { stood := { row := fnExactActedRow, standIns := [], harness := (true, "6a10a00aac0fc22c17745800beff79a9b22f77dfbd2f3bc54cda6e6d70671e17"), looks := true }, kinds := [], alts := [], laidByText := true, laidKinds := [.data], laidTests := true, laidLooks := .later }
def FnExactActedCardSaid : Prop := Claim7.holds Tryd.pinned (.plain (OpenSpec.ofChange fnExactActedSpec)) fnExactActedCard

/-- THE TIED CARD OF 'laws.FnExactRunOf'. -/
def fnExactRunOfCard : Claim7 := { stood := { row := fnExactRunOfRow, standIns := [], harness := (true, "6a10a00aac0fc22c17745800beff79a9b22f77dfbd2f3bc54cda6e6d70671e17"), looks := true }, kinds := [], alts := [], laidByText := true, laidKinds := [.data], laidTests := true, laidLooks := .later }
def FnExactRunOfCardSaid : Prop := Claim7.holds Tryd.pinned (.plain (OpenSpec.ofChange fnExactRunOfSpec)) fnExactRunOfCard

/-- THE TIED CARD OF 'laws.FnActed'. -/
def fnActedCard : Claim7 := { stood := { row := fnActedRow, standIns := [], harness := (true, "6a10a00aac0fc22c17745800beff79a9b22f77dfbd2f3bc54cda6e6d70671e17"), looks := true }, kinds := [], alts := [], laidByText := true, laidKinds := [.data], laidTests := true, laidLooks := .later }
def FnActedCardSaid : Prop := Claim7.holds Tryd.pinned (.plain (OpenSpec.ofChange fnActedSpec)) fnActedCard

/-- THE TIED CARD OF 'laws.FnMoneyIn'. -/
def fnMoneyInCard : Claim7 := { stood := { row := fnMoneyInRow, standIns := [], harness := (true, "6a10a00aac0fc22c17745800beff79a9b22f77dfbd2f3bc54cda6e6d70671e17"), looks := true }, kinds := [], alts := [], laidByText := true, laidKinds := [.data], laidTests := true, laidLooks := .later }
def FnMoneyInCardSaid : Prop := Claim7.holds Tryd.pinned (.plain (OpenSpec.ofChange fnMoneyInSpec)) fnMoneyInCard

/-- THE TIED CARD OF 'laws.FnCanPick'. -/
def fnCanPickCard : Claim7 := { stood := { row := fnCanPickRow, standIns := [], harness := (true, "6a10a00aac0fc22c17745800beff79a9b22f77dfbd2f3bc54cda6e6d70671e17"), looks := true }, kinds := [], alts := [], laidByText := true, laidKinds := [.data], laidTests := true, laidLooks := .later }
def FnCanPickCardSaid : Prop := Claim7.holds Tryd.pinned (.plain (OpenSpec.ofChange fnCanPickSpec)) fnCanPickCard

/-- THE TIED CARD OF 'laws.FnRefilled'. -/
def fnRefilledCard : Claim7 := { stood := { row := fnRefilledRow, standIns := [], harness := (true, "6a10a00aac0fc22c17745800beff79a9b22f77dfbd2f3bc54cda6e6d70671e17"), looks := true }, kinds := [], alts := [], laidByText := true, laidKinds := [.data], laidTests := true, laidLooks := .later }
def FnRefilledCardSaid : Prop := Claim7.holds Tryd.pinned (.plain (OpenSpec.ofChange fnRefilledSpec)) fnRefilledCard

/-- THE TIED CARD OF 'laws.FnMachineOk'. -/
def fnMachineOkCard : Claim7 := { stood := { row := fnMachineOkRow, standIns := [], harness := (true, "6a10a00aac0fc22c17745800beff79a9b22f77dfbd2f3bc54cda6e6d70671e17"), looks := true }, kinds := [], alts := [], laidByText := true, laidKinds := [.data], laidTests := true, laidLooks := .later }
def FnMachineOkCardSaid : Prop := Claim7.holds Tryd.pinned (.plain (OpenSpec.ofChange fnMachineOkSpec)) fnMachineOkCard

/-- THE TIED CARD OF 'laws.FnRunOf'. -/
def fnRunOfCard : Claim7 := { stood := { row := fnRunOfRow, standIns := [], harness := (true, "6a10a00aac0fc22c17745800beff79a9b22f77dfbd2f3bc54cda6e6d70671e17"), looks := true }, kinds := [], alts := [], laidByText := true, laidKinds := [.data], laidTests := true, laidLooks := .later }
def FnRunOfCardSaid : Prop := Claim7.holds Tryd.pinned (.plain (OpenSpec.ofChange fnRunOfSpec)) fnRunOfCard

/-- THE TIED CARD OF 'laws.FnCoinsPut'. -/
def fnCoinsPutCard : Claim7 := { stood := { row := fnCoinsPutRow, standIns := [], harness := (true, "6a10a00aac0fc22c17745800beff79a9b22f77dfbd2f3bc54cda6e6d70671e17"), looks := true }, kinds := [], alts := [], laidByText := true, laidKinds := [.data], laidTests := true, laidLooks := .later }
def FnCoinsPutCardSaid : Prop := Claim7.holds Tryd.pinned (.plain (OpenSpec.ofChange fnCoinsPutSpec)) fnCoinsPutCard

/-- THE SECOND FORM's CARD OF 'laws.FnExactActed'. -/
def fnExactActedUptoCard : Claim7 := { stood := { row := fnExactActedUptoRow, standIns := [], harness := (true, "6a10a00aac0fc22c17745800beff79a9b22f77dfbd2f3bc54cda6e6d70671e17"), looks := true }, kinds := [], alts := [], laidByText := true, laidKinds := [.data], laidTests := true, laidLooks := .later }
def FnExactActedUptoCardSaid : Prop := Claim7.holds Tryd.pinned (.plain (OpenSpec.upto fnExactActedSpec)) fnExactActedUptoCard

/-- THE SECOND FORM's CARD OF 'laws.FnExactRunOf'. -/
def fnExactRunOfUptoCard : Claim7 := { stood := { row := fnExactRunOfUptoRow, standIns := [], harness := (true, "6a10a00aac0fc22c17745800beff79a9b22f77dfbd2f3bc54cda6e6d70671e17"), looks := true }, kinds := [], alts := [], laidByText := true, laidKinds := [.data], laidTests := true, laidLooks := .later }
def FnExactRunOfUptoCardSaid : Prop := Claim7.holds Tryd.pinned (.plain (OpenSpec.upto fnExactRunOfSpec)) fnExactRunOfUptoCard

/-- THE SECOND FORM's CARD OF 'laws.FnActed'. -/
def fnActedUptoCard : Claim7 := { stood := { row := fnActedUptoRow, standIns := [], harness := (true, "6a10a00aac0fc22c17745800beff79a9b22f77dfbd2f3bc54cda6e6d70671e17"), looks := true }, kinds := [], alts := [], laidByText := true, laidKinds := [.data], laidTests := true, laidLooks := .later }
def FnActedUptoCardSaid : Prop := Claim7.holds Tryd.pinned (.plain (OpenSpec.upto fnActedSpec)) fnActedUptoCard

/-- THE SECOND FORM's CARD OF 'laws.FnMoneyIn'. -/
def fnMoneyInUptoCard : Claim7 := { stood := { row := fnMoneyInUptoRow, standIns := [], harness := (true, "6a10a00aac0fc22c17745800beff79a9b22f77dfbd2f3bc54cda6e6d70671e17"), looks := true }, kinds := [], alts := [], laidByText := true, laidKinds := [.data], laidTests := true, laidLooks := .later }
def FnMoneyInUptoCardSaid : Prop := Claim7.holds Tryd.pinned (.plain (OpenSpec.upto fnMoneyInSpec)) fnMoneyInUptoCard

/-- THE SECOND FORM's CARD OF 'laws.FnCanPick'. -/
def fnCanPickUptoCard : Claim7 := { stood := { row := fnCanPickUptoRow, standIns := [], harness := (true, "6a10a00aac0fc22c17745800beff79a9b22f77dfbd2f3bc54cda6e6d70671e17"), looks := true }, kinds := [], alts := [], laidByText := true, laidKinds := [.data], laidTests := true, laidLooks := .later }
def FnCanPickUptoCardSaid : Prop := Claim7.holds Tryd.pinned (.plain (OpenSpec.upto fnCanPickSpec)) fnCanPickUptoCard

/-- THE SECOND FORM's CARD OF 'laws.FnRefilled'. -/
def fnRefilledUptoCard : Claim7 := { stood := { row := fnRefilledUptoRow, standIns := [], harness := (true, "6a10a00aac0fc22c17745800beff79a9b22f77dfbd2f3bc54cda6e6d70671e17"), looks := true }, kinds := [], alts := [], laidByText := true, laidKinds := [.data], laidTests := true, laidLooks := .later }
def FnRefilledUptoCardSaid : Prop := Claim7.holds Tryd.pinned (.plain (OpenSpec.upto fnRefilledSpec)) fnRefilledUptoCard

/-- THE SECOND FORM's CARD OF 'laws.FnMachineOk'. -/
def fnMachineOkUptoCard : Claim7 := { stood := { row := fnMachineOkUptoRow, standIns := [], harness := (true, "6a10a00aac0fc22c17745800beff79a9b22f77dfbd2f3bc54cda6e6d70671e17"), looks := true }, kinds := [], alts := [], laidByText := true, laidKinds := [.data], laidTests := true, laidLooks := .later }
def FnMachineOkUptoCardSaid : Prop := Claim7.holds Tryd.pinned (.plain (OpenSpec.upto fnMachineOkSpec)) fnMachineOkUptoCard

/-- THE SECOND FORM's CARD OF 'laws.FnRunOf'. -/
def fnRunOfUptoCard : Claim7 := { stood := { row := fnRunOfUptoRow, standIns := [], harness := (true, "6a10a00aac0fc22c17745800beff79a9b22f77dfbd2f3bc54cda6e6d70671e17"), looks := true }, kinds := [], alts := [], laidByText := true, laidKinds := [.data], laidTests := true, laidLooks := .later }
def FnRunOfUptoCardSaid : Prop := Claim7.holds Tryd.pinned (.plain (OpenSpec.upto fnRunOfSpec)) fnRunOfUptoCard

/-- THE SECOND FORM's CARD OF 'laws.FnCoinsPut'. -/
def fnCoinsPutUptoCard : Claim7 := { stood := { row := fnCoinsPutUptoRow, standIns := [], harness := (true, "6a10a00aac0fc22c17745800beff79a9b22f77dfbd2f3bc54cda6e6d70671e17"), looks := true }, kinds := [], alts := [], laidByText := true, laidKinds := [.data], laidTests := true, laidLooks := .later }
def FnCoinsPutUptoCardSaid : Prop := Claim7.holds Tryd.pinned (.plain (OpenSpec.upto fnCoinsPutSpec)) fnCoinsPutUptoCard
end Rows
end Go.Proofs.YtdlfdpdocpcnkaaDoor

/-
  DERIVED. GIVEN WITH THE SEED: THE CARDS: each row of YtehcmkbepembfaaDoorRows.lean that lists a variable, with what it lists TIED to the program's text (the seventh form; the later family's looks); each row that meets fmt, with fmt's text TOLD by the authors' own Lean function (tested against real Go, not proved from fmt's source: count such statements apart). THE CARD IS WHAT COUNTS. Prove the row's statement (the work); the ties are given (YtehcmkbepembfaaDoorTie.lean); close each card by the builder's one call (the guide's Derived/Test/ToyasCard.lean, 'card_holds'). Laid BY PROGRAM, IN A SANDBOX (cutbox-door.mjs). By AI agents, Wed Nov 11 2026. No macro, syntax, notation, axiom, sorry.
-/
import Derived.Test.YtehcmkbepembfaaDoorRows
import GoSem.ClaimSeven
namespace Go.Proofs.YtehcmkbepembfaaDoor
namespace Rows

/-- THE TIED CARD OF 'laws.FnExactRunOf'. -/
def fnExactRunOfCard : Claim7 := { stood := { row := fnExactRunOfRow, standIns := [], harness := (true, "f259bfd384009be9959bd7f0ca954cfa07ecdc461da28d6d299c47d92e726339"), looks := true }, kinds := [], alts := [], laidByText := true, laidKinds := [.data], laidTests := true, laidLooks := .later }
def FnExactRunOfCardSaid : Prop := Claim7.holds Tryd.pinned (.plain (OpenSpec.ofChange fnExactRunOfSpec)) fnExactRunOfCard

/-- THE TIED CARD OF 'laws.FnMachineOk'. -/
def fnMachineOkCard : Claim7 := { stood := { row := fnMachineOkRow, standIns := [], harness := (true, "f259bfd384009be9959bd7f0ca954cfa07ecdc461da28d6d299c47d92e726339"), looks := true }, kinds := [], alts := [], laidByText := true, laidKinds := [.data], laidTests := true, laidLooks := .later }
def FnMachineOkCardSaid : Prop := Claim7.holds Tryd.pinned (.plain (OpenSpec.ofChange fnMachineOkSpec)) fnMachineOkCard

/-- THE TIED CARD OF 'laws.FnMoneyIn'. -/
def fnMoneyInCard : Claim7 := { stood := { row := fnMoneyInRow, standIns := [], harness := (true, "f259bfd384009be9959bd7f0ca954cfa07ecdc461da28d6d299c47d92e726339"), looks := true }, kinds := [], alts := [], laidByText := true, laidKinds := [.data], laidTests := true, laidLooks := .later }
def FnMoneyInCardSaid : Prop := Claim7.holds Tryd.pinned (.plain (OpenSpec.ofChange fnMoneyInSpec)) fnMoneyInCard

/-- THE TIED CARD OF 'laws.FnRefilled'. -/
def fnRefilledCard : Claim7 := { stood := { row := fnRefilledRow, standIns := [], harness := (true, "f259bfd384009be9959bd7f0ca954cfa07ecdc461da28d6d299c47d92e726339"), looks := true }, kinds := [], alts := [], laidByText := true, laidKinds := [.data], laidTests := true, laidLooks := .later }
def FnRefilledCardSaid : Prop := Claim7.holds Tryd.pinned (.plain (OpenSpec.ofChange fnRefilledSpec)) fnRefilledCard

/-- THE TIED CARD OF 'laws.FnCanPick'. -/
def fnCanPickCard : Claim7 := { stood := { row := fnCanPickRow, standIns := [], harness := (true, "f259bfd384009be9959bd7f0ca954cfa07ecdc461da28d6d299c47d92e726339"), looks := true }, kinds := [], alts := [], laidByText := true, laidKinds := [.data], laidTests := true, laidLooks := .later }
def FnCanPickCardSaid : Prop := Claim7.holds Tryd.pinned (.plain (OpenSpec.ofChange fnCanPickSpec)) fnCanPickCard

/-- THE TIED CARD OF 'laws.FnActed'. -/
def fnActedCard : Claim7 := { stood := { row := fnActedRow, standIns := [], harness := (true, "f259bfd384009be9959bd7f0ca954cfa07ecdc461da28d6d299c47d92e726339"), looks := true }, kinds := [], alts := [], laidByText := true, laidKinds := [.data], laidTests := true, laidLooks := .later }
def FnActedCardSaid : Prop := Claim7.holds Tryd.pinned (.plain (OpenSpec.ofChange fnActedSpec)) fnActedCard

/-- THE TIED CARD OF 'laws.FnRunOf'. -/
def fnRunOfCard : Claim7 := { stood := { row := fnRunOfRow, standIns := [], harness := (true, "f259bfd384009be9959bd7f0ca954cfa07ecdc461da28d6d299c47d92e726339"), looks := true }, kinds := [], alts := [], laidByText := true, laidKinds := [.data], laidTests := true, laidLooks := .later }
def FnRunOfCardSaid : Prop := Claim7.holds Tryd.pinned (.plain (OpenSpec.ofChange fnRunOfSpec)) fnRunOfCard

/-- THE TIED CARD OF 'laws.FnCoinsPut'. -/
def fnCoinsPutCard : Claim7 := { stood := { row := fnCoinsPutRow, standIns := [], harness := (true, "f259bfd384009be9959bd7f0ca954cfa07ecdc461da28d6d299c47d92e726339"), looks := true }, kinds := [], alts := [], laidByText := true, laidKinds := [.data], laidTests := true, laidLooks := .later }
def FnCoinsPutCardSaid : Prop := Claim7.holds Tryd.pinned (.plain (OpenSpec.ofChange fnCoinsPutSpec)) fnCoinsPutCard

/-- THE TIED CARD OF 'laws.FnPutInBy'. -/
def fnPutInByCard : Claim7 := { stood := { row := fnPutInByRow, standIns := [], harness := (true, "f259bfd384009be9959bd7f0ca954cfa07ecdc461da28d6d299c47d92e726339"), looks := true }, kinds := [], alts := [], laidByText := true, laidKinds := [.data], laidTests := true, laidLooks := .later }
def FnPutInByCardSaid : Prop := Claim7.holds Tryd.pinned (.plain (OpenSpec.ofChange fnPutInBySpec)) fnPutInByCard

/-- THE TIED CARD OF 'laws.FnGivenBy'. -/
def fnGivenByCard : Claim7 := { stood := { row := fnGivenByRow, standIns := [], harness := (true, "f259bfd384009be9959bd7f0ca954cfa07ecdc461da28d6d299c47d92e726339"), looks := true }, kinds := [], alts := [], laidByText := true, laidKinds := [.data], laidTests := true, laidLooks := .later }
def FnGivenByCardSaid : Prop := Claim7.holds Tryd.pinned (.plain (OpenSpec.ofChange fnGivenBySpec)) fnGivenByCard

/-- THE TIED CARD OF 'laws.FnSoldBy'. -/
def fnSoldByCard : Claim7 := { stood := { row := fnSoldByRow, standIns := [], harness := (true, "f259bfd384009be9959bd7f0ca954cfa07ecdc461da28d6d299c47d92e726339"), looks := true }, kinds := [], alts := [], laidByText := true, laidKinds := [.data], laidTests := true, laidLooks := .later }
def FnSoldByCardSaid : Prop := Claim7.holds Tryd.pinned (.plain (OpenSpec.ofChange fnSoldBySpec)) fnSoldByCard

/-- THE TIED CARD OF 'laws.FnDoneIn'. -/
def fnDoneInCard : Claim7 := { stood := { row := fnDoneInRow, standIns := [], harness := (true, "f259bfd384009be9959bd7f0ca954cfa07ecdc461da28d6d299c47d92e726339"), looks := true }, kinds := [], alts := [], laidByText := true, laidKinds := [.data], laidTests := true, laidLooks := .later }
def FnDoneInCardSaid : Prop := Claim7.holds Tryd.pinned (.plain (OpenSpec.ofChange fnDoneInSpec)) fnDoneInCard

/-- THE TIED CARD OF 'laws.FnHoldsAt'. -/
def fnHoldsAtCard : Claim7 := { stood := { row := fnHoldsAtRow, standIns := [], harness := (true, "f259bfd384009be9959bd7f0ca954cfa07ecdc461da28d6d299c47d92e726339"), looks := true }, kinds := [], alts := [], laidByText := true, laidKinds := [.data], laidTests := true, laidLooks := .later }
def FnHoldsAtCardSaid : Prop := Claim7.holds Tryd.pinned (.plain (OpenSpec.ofChange fnHoldsAtSpec)) fnHoldsAtCard

/-- THE TIED CARD OF 'laws.FnHoldsOf'. -/
def fnHoldsOfCard : Claim7 := { stood := { row := fnHoldsOfRow, standIns := [], harness := (true, "f259bfd384009be9959bd7f0ca954cfa07ecdc461da28d6d299c47d92e726339"), looks := true }, kinds := [], alts := [], laidByText := true, laidKinds := [.data], laidTests := true, laidLooks := .later }
def FnHoldsOfCardSaid : Prop := Claim7.holds Tryd.pinned (.plain (OpenSpec.ofChange fnHoldsOfSpec)) fnHoldsOfCard

/-- THE TIED CARD OF 'laws.FnPlacesOf'. -/
def fnPlacesOfCard : Claim7 := { stood := { row := fnPlacesOfRow, standIns := [], harness := (true, "f259bfd384009be9959bd7f0ca954cfa07ecdc461da28d6d299c47d92e726339"), looks := true }, kinds := [], alts := [], laidByText := true, laidKinds := [.data], laidTests := true, laidLooks := .later }
def FnPlacesOfCardSaid : Prop := Claim7.holds Tryd.pinned (.plain (OpenSpec.ofChange fnPlacesOfSpec)) fnPlacesOfCard

/-- THE TIED CARD OF 'laws.FnClaimOk'. -/
def fnClaimOkCard : Claim7 := { stood := { row := fnClaimOkRow, standIns := [], harness := (true, "f259bfd384009be9959bd7f0ca954cfa07ecdc461da28d6d299c47d92e726339"), looks := true }, kinds := [], alts := [], laidByText := true, laidKinds := [.data], laidTests := true, laidLooks := .later }
def FnClaimOkCardSaid : Prop := Claim7.holds Tryd.pinned (.plain (OpenSpec.ofChange fnClaimOkSpec)) fnClaimOkCard

/-- THE SECOND FORM's CARD OF 'laws.FnExactRunOf'. -/
def fnExactRunOfUptoCard : Claim7 := { stood := { row := fnExactRunOfUptoRow, standIns := [], harness := (true, "f259bfd384009be9959bd7f0ca954cfa07ecdc461da28d6d299c47d92e726339"), looks := true }, kinds := [], alts := [], laidByText := true, laidKinds := [.data], laidTests := true, laidLooks := .later }
def FnExactRunOfUptoCardSaid : Prop := Claim7.holds Tryd.pinned (.plain (OpenSpec.upto fnExactRunOfSpec)) fnExactRunOfUptoCard

/-- THE SECOND FORM's CARD OF 'laws.FnMachineOk'. -/
def fnMachineOkUptoCard : Claim7 := { stood := { row := fnMachineOkUptoRow, standIns := [], harness := (true, "f259bfd384009be9959bd7f0ca954cfa07ecdc461da28d6d299c47d92e726339"), looks := true }, kinds := [], alts := [], laidByText := true, laidKinds := [.data], laidTests := true, laidLooks := .later }
def FnMachineOkUptoCardSaid : Prop := Claim7.holds Tryd.pinned (.plain (OpenSpec.upto fnMachineOkSpec)) fnMachineOkUptoCard

/-- THE SECOND FORM's CARD OF 'laws.FnMoneyIn'. -/
def fnMoneyInUptoCard : Claim7 := { stood := { row := fnMoneyInUptoRow, standIns := [], harness := (true, "f259bfd384009be9959bd7f0ca954cfa07ecdc461da28d6d299c47d92e726339"), looks := true }, kinds := [], alts := [], laidByText := true, laidKinds := [.data], laidTests := true, laidLooks := .later }
def FnMoneyInUptoCardSaid : Prop := Claim7.holds Tryd.pinned (.plain (OpenSpec.upto fnMoneyInSpec)) fnMoneyInUptoCard

/-- THE SECOND FORM's CARD OF 'laws.FnRefilled'. -/
def fnRefilledUptoCard : Claim7 := { stood := { row := fnRefilledUptoRow, standIns := [], harness := (true, "f259bfd384009be9959bd7f0ca954cfa07ecdc461da28d6d299c47d92e726339"), looks := true }, kinds := [], alts := [], laidByText := true, laidKinds := [.data], laidTests := true, laidLooks := .later }
def FnRefilledUptoCardSaid : Prop := Claim7.holds Tryd.pinned (.plain (OpenSpec.upto fnRefilledSpec)) fnRefilledUptoCard

/-- THE SECOND FORM's CARD OF 'laws.FnCanPick'. -/
def fnCanPickUptoCard : Claim7 := { stood := { row := fnCanPickUptoRow, standIns := [], harness := (true, "f259bfd384009be9959bd7f0ca954cfa07ecdc461da28d6d299c47d92e726339"), looks := true }, kinds := [], alts := [], laidByText := true, laidKinds := [.data], laidTests := true, laidLooks := .later }
def FnCanPickUptoCardSaid : Prop := Claim7.holds Tryd.pinned (.plain (OpenSpec.upto fnCanPickSpec)) fnCanPickUptoCard

/-- THE SECOND FORM's CARD OF 'laws.FnActed'. -/
def fnActedUptoCard : Claim7 := { stood := { row := fnActedUptoRow, standIns := [], harness := (true, "f259bfd384009be9959bd7f0ca954cfa07ecdc461da28d6d299c47d92e726339"), looks := true }, kinds := [], alts := [], laidByText := true, laidKinds := [.data], laidTests := true, laidLooks := .later }
def FnActedUptoCardSaid : Prop := Claim7.holds Tryd.pinned (.plain (OpenSpec.upto fnActedSpec)) fnActedUptoCard

/-- THE SECOND FORM's CARD OF 'laws.FnRunOf'. -/
def fnRunOfUptoCard : Claim7 := { stood := { row := fnRunOfUptoRow, standIns := [], harness := (true, "f259bfd384009be9959bd7f0ca954cfa07ecdc461da28d6d299c47d92e726339"), looks := true }, kinds := [], alts := [], laidByText := true, laidKinds := [.data], laidTests := true, laidLooks := .later }
def FnRunOfUptoCardSaid : Prop := Claim7.holds Tryd.pinned (.plain (OpenSpec.upto fnRunOfSpec)) fnRunOfUptoCard

/-- THE SECOND FORM's CARD OF 'laws.FnCoinsPut'. -/
def fnCoinsPutUptoCard : Claim7 := { stood := { row := fnCoinsPutUptoRow, standIns := [], harness := (true, "f259bfd384009be9959bd7f0ca954cfa07ecdc461da28d6d299c47d92e726339"), looks := true }, kinds := [], alts := [], laidByText := true, laidKinds := [.data], laidTests := true, laidLooks := .later }
def FnCoinsPutUptoCardSaid : Prop := Claim7.holds Tryd.pinned (.plain (OpenSpec.upto fnCoinsPutSpec)) fnCoinsPutUptoCard

/-- THE SECOND FORM's CARD OF 'laws.FnPutInBy'. -/
def fnPutInByUptoCard : Claim7 := { stood := { row := fnPutInByUptoRow, standIns := [], harness := (true, "f259bfd384009be9959bd7f0ca954cfa07ecdc461da28d6d299c47d92e726339"), looks := true }, kinds := [], alts := [], laidByText := true, laidKinds := [.data], laidTests := true, laidLooks := .later }
def FnPutInByUptoCardSaid : Prop := Claim7.holds Tryd.pinned (.plain (OpenSpec.upto fnPutInBySpec)) fnPutInByUptoCard

/-- THE SECOND FORM's CARD OF 'laws.FnGivenBy'. -/
def fnGivenByUptoCard : Claim7 := { stood := { row := fnGivenByUptoRow, standIns := [], harness := (true, "f259bfd384009be9959bd7f0ca954cfa07ecdc461da28d6d299c47d92e726339"), looks := true }, kinds := [], alts := [], laidByText := true, laidKinds := [.data], laidTests := true, laidLooks := .later }
def FnGivenByUptoCardSaid : Prop := Claim7.holds Tryd.pinned (.plain (OpenSpec.upto fnGivenBySpec)) fnGivenByUptoCard

/-- THE SECOND FORM's CARD OF 'laws.FnSoldBy'. -/
def fnSoldByUptoCard : Claim7 := { stood := { row := fnSoldByUptoRow, standIns := [], harness := (true, "f259bfd384009be9959bd7f0ca954cfa07ecdc461da28d6d299c47d92e726339"), looks := true }, kinds := [], alts := [], laidByText := true, laidKinds := [.data], laidTests := true, laidLooks := .later }
def FnSoldByUptoCardSaid : Prop := Claim7.holds Tryd.pinned (.plain (OpenSpec.upto fnSoldBySpec)) fnSoldByUptoCard

/-- THE SECOND FORM's CARD OF 'laws.FnDoneIn'. -/
def fnDoneInUptoCard : Claim7 := { stood := { row := fnDoneInUptoRow, standIns := [], harness := (true, "f259bfd384009be9959bd7f0ca954cfa07ecdc461da28d6d299c47d92e726339"), looks := true }, kinds := [], alts := [], laidByText := true, laidKinds := [.data], laidTests := true, laidLooks := .later }
def FnDoneInUptoCardSaid : Prop := Claim7.holds Tryd.pinned (.plain (OpenSpec.upto fnDoneInSpec)) fnDoneInUptoCard

/-- THE SECOND FORM's CARD OF 'laws.FnHoldsAt'. -/
def fnHoldsAtUptoCard : Claim7 := { stood := { row := fnHoldsAtUptoRow, standIns := [], harness := (true, "f259bfd384009be9959bd7f0ca954cfa07ecdc461da28d6d299c47d92e726339"), looks := true }, kinds := [], alts := [], laidByText := true, laidKinds := [.data], laidTests := true, laidLooks := .later }
def FnHoldsAtUptoCardSaid : Prop := Claim7.holds Tryd.pinned (.plain (OpenSpec.upto fnHoldsAtSpec)) fnHoldsAtUptoCard

/-- THE SECOND FORM's CARD OF 'laws.FnHoldsOf'. -/
def fnHoldsOfUptoCard : Claim7 := { stood := { row := fnHoldsOfUptoRow, standIns := [], harness := (true, "f259bfd384009be9959bd7f0ca954cfa07ecdc461da28d6d299c47d92e726339"), looks := true }, kinds := [], alts := [], laidByText := true, laidKinds := [.data], laidTests := true, laidLooks := .later }
def FnHoldsOfUptoCardSaid : Prop := Claim7.holds Tryd.pinned (.plain (OpenSpec.upto fnHoldsOfSpec)) fnHoldsOfUptoCard

/-- THE SECOND FORM's CARD OF 'laws.FnPlacesOf'. -/
def fnPlacesOfUptoCard : Claim7 := { stood := { row := fnPlacesOfUptoRow, standIns := [], harness := (true, "f259bfd384009be9959bd7f0ca954cfa07ecdc461da28d6d299c47d92e726339"), looks := true }, kinds := [], alts := [], laidByText := true, laidKinds := [.data], laidTests := true, laidLooks := .later }
def FnPlacesOfUptoCardSaid : Prop := Claim7.holds Tryd.pinned (.plain (OpenSpec.upto fnPlacesOfSpec)) fnPlacesOfUptoCard

/-- THE SECOND FORM's CARD OF 'laws.FnClaimOk'. -/
def fnClaimOkUptoCard : Claim7 := { stood := { row := fnClaimOkUptoRow, standIns := [], harness := (true, "f259bfd384009be9959bd7f0ca954cfa07ecdc461da28d6d299c47d92e726339"), looks := true }, kinds := [], alts := [], laidByText := true, laidKinds := [.data], laidTests := true, laidLooks := .later }
def FnClaimOkUptoCardSaid : Prop := Claim7.holds Tryd.pinned (.plain (OpenSpec.upto fnClaimOkSpec)) fnClaimOkUptoCard
end Rows
end Go.Proofs.YtehcmkbepembfaaDoor

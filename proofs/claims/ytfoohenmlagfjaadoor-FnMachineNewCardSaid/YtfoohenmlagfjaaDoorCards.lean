/-
  DERIVED. GIVEN WITH THE SEED: THE CARDS: each row of YtfoohenmlagfjaaDoorRows.lean that lists a variable, with what it lists TIED to the program's text (the seventh form; the later family's looks); each row that meets fmt, with fmt's text TOLD by the authors' own Lean function (tested against real Go, not proved from fmt's source: count such statements apart). THE CARD IS WHAT COUNTS. Prove the row's statement (the work); the ties are given (YtfoohenmlagfjaaDoorTie.lean); close each card by the builder's one call (the guide's Derived/Test/ToyasCard.lean, 'card_holds'). Laid BY PROGRAM, IN A SANDBOX (cutbox-door.mjs). By AI agents, Wed Nov 11 2026. No macro, syntax, notation, axiom, sorry.
-/
import Derived.Test.YtfoohenmlagfjaaDoorRows
import GoSem.ClaimSeven
namespace Go.Proofs.YtfoohenmlagfjaaDoor
namespace Rows

/-- THE TIED CARD OF 'laws.FnMachineOk'. -/
def fnMachineOkCard : Claim7 := { stood := { row := fnMachineOkRow, standIns := [], harness := (true, "ac51fd2a6581a4b57e4e35046e2805e13d4d62d60b36594120160cf8f8238faa"), looks := true }, kinds := [], alts := [], laidByText := true, laidKinds := [.data], laidTests := true, laidLooks := .later }
def FnMachineOkCardSaid : Prop := Claim7.holds Tryd.pinned (.plain (OpenSpec.ofChange fnMachineOkSpec)) fnMachineOkCard

/-- THE TIED CARD OF 'laws.FnMachineNew'. -/
def fnMachineNewCard : Claim7 := { stood := { row := fnMachineNewRow, standIns := [], harness := (true, "ac51fd2a6581a4b57e4e35046e2805e13d4d62d60b36594120160cf8f8238faa"), looks := true }, kinds := [], alts := [], laidByText := true, laidKinds := [.data], laidTests := true, laidLooks := .later }
def FnMachineNewCardSaid : Prop := Claim7.holds Tryd.pinned (.plain (OpenSpec.ofChange fnMachineNewSpec)) fnMachineNewCard

/-- THE TIED CARD OF 'laws.FnActed'. -/
def fnActedCard : Claim7 := { stood := { row := fnActedRow, standIns := [], harness := (true, "ac51fd2a6581a4b57e4e35046e2805e13d4d62d60b36594120160cf8f8238faa"), looks := true }, kinds := [], alts := [], laidByText := true, laidKinds := [.data], laidTests := true, laidLooks := .later }
def FnActedCardSaid : Prop := Claim7.holds Tryd.pinned (.plain (OpenSpec.ofChange fnActedSpec)) fnActedCard

/-- THE TIED CARD OF 'laws.FnMoneyIn'. -/
def fnMoneyInCard : Claim7 := { stood := { row := fnMoneyInRow, standIns := [], harness := (true, "ac51fd2a6581a4b57e4e35046e2805e13d4d62d60b36594120160cf8f8238faa"), looks := true }, kinds := [], alts := [], laidByText := true, laidKinds := [.data], laidTests := true, laidLooks := .later }
def FnMoneyInCardSaid : Prop := Claim7.holds Tryd.pinned (.plain (OpenSpec.ofChange fnMoneyInSpec)) fnMoneyInCard

/-- THE TIED CARD OF 'laws.FnCanPick'. -/
def fnCanPickCard : Claim7 := { stood := { row := fnCanPickRow, standIns := [], harness := (true, "ac51fd2a6581a4b57e4e35046e2805e13d4d62d60b36594120160cf8f8238faa"), looks := true }, kinds := [], alts := [], laidByText := true, laidKinds := [.data], laidTests := true, laidLooks := .later }
def FnCanPickCardSaid : Prop := Claim7.holds Tryd.pinned (.plain (OpenSpec.ofChange fnCanPickSpec)) fnCanPickCard

/-- THE TIED CARD OF 'laws.FnRefilled'. -/
def fnRefilledCard : Claim7 := { stood := { row := fnRefilledRow, standIns := [], harness := (true, "ac51fd2a6581a4b57e4e35046e2805e13d4d62d60b36594120160cf8f8238faa"), looks := true }, kinds := [], alts := [], laidByText := true, laidKinds := [.data], laidTests := true, laidLooks := .later }
def FnRefilledCardSaid : Prop := Claim7.holds Tryd.pinned (.plain (OpenSpec.ofChange fnRefilledSpec)) fnRefilledCard

/-- THE TIED CARD OF 'laws.FnExactActed'. -/
def fnExactActedCard : Claim7 := { stood := { row := fnExactActedRow, standIns := [], harness := (true, "ac51fd2a6581a4b57e4e35046e2805e13d4d62d60b36594120160cf8f8238faa"), looks := true }, kinds := [], alts := [], laidByText := true, laidKinds := [.data], laidTests := true, laidLooks := .later }
def FnExactActedCardSaid : Prop := Claim7.holds Tryd.pinned (.plain (OpenSpec.ofChange fnExactActedSpec)) fnExactActedCard

/-- THE TIED CARD OF 'laws.FnExactMoneyIn'. -/
def fnExactMoneyInCard : Claim7 := { stood := { row := fnExactMoneyInRow, standIns := [], harness := (true, "ac51fd2a6581a4b57e4e35046e2805e13d4d62d60b36594120160cf8f8238faa"), looks := true }, kinds := [], alts := [], laidByText := true, laidKinds := [.data], laidTests := true, laidLooks := .later }
def FnExactMoneyInCardSaid : Prop := Claim7.holds Tryd.pinned (.plain (OpenSpec.ofChange fnExactMoneyInSpec)) fnExactMoneyInCard

/-- THE TIED CARD OF 'laws.FnExactCanPick'. -/
def fnExactCanPickCard : Claim7 := { stood := { row := fnExactCanPickRow, standIns := [], harness := (true, "ac51fd2a6581a4b57e4e35046e2805e13d4d62d60b36594120160cf8f8238faa"), looks := true }, kinds := [], alts := [], laidByText := true, laidKinds := [.data], laidTests := true, laidLooks := .later }
def FnExactCanPickCardSaid : Prop := Claim7.holds Tryd.pinned (.plain (OpenSpec.ofChange fnExactCanPickSpec)) fnExactCanPickCard

/-- THE SECOND FORM's CARD OF 'laws.FnMachineOk'. -/
def fnMachineOkUptoCard : Claim7 := { stood := { row := fnMachineOkUptoRow, standIns := [], harness := (true, "ac51fd2a6581a4b57e4e35046e2805e13d4d62d60b36594120160cf8f8238faa"), looks := true }, kinds := [], alts := [], laidByText := true, laidKinds := [.data], laidTests := true, laidLooks := .later }
def FnMachineOkUptoCardSaid : Prop := Claim7.holds Tryd.pinned (.plain (OpenSpec.upto fnMachineOkSpec)) fnMachineOkUptoCard

/-- THE SECOND FORM's CARD OF 'laws.FnMachineNew'. -/
def fnMachineNewUptoCard : Claim7 := { stood := { row := fnMachineNewUptoRow, standIns := [], harness := (true, "ac51fd2a6581a4b57e4e35046e2805e13d4d62d60b36594120160cf8f8238faa"), looks := true }, kinds := [], alts := [], laidByText := true, laidKinds := [.data], laidTests := true, laidLooks := .later }
def FnMachineNewUptoCardSaid : Prop := Claim7.holds Tryd.pinned (.plain (OpenSpec.upto fnMachineNewSpec)) fnMachineNewUptoCard

/-- THE SECOND FORM's CARD OF 'laws.FnActed'. -/
def fnActedUptoCard : Claim7 := { stood := { row := fnActedUptoRow, standIns := [], harness := (true, "ac51fd2a6581a4b57e4e35046e2805e13d4d62d60b36594120160cf8f8238faa"), looks := true }, kinds := [], alts := [], laidByText := true, laidKinds := [.data], laidTests := true, laidLooks := .later }
def FnActedUptoCardSaid : Prop := Claim7.holds Tryd.pinned (.plain (OpenSpec.upto fnActedSpec)) fnActedUptoCard

/-- THE SECOND FORM's CARD OF 'laws.FnMoneyIn'. -/
def fnMoneyInUptoCard : Claim7 := { stood := { row := fnMoneyInUptoRow, standIns := [], harness := (true, "ac51fd2a6581a4b57e4e35046e2805e13d4d62d60b36594120160cf8f8238faa"), looks := true }, kinds := [], alts := [], laidByText := true, laidKinds := [.data], laidTests := true, laidLooks := .later }
def FnMoneyInUptoCardSaid : Prop := Claim7.holds Tryd.pinned (.plain (OpenSpec.upto fnMoneyInSpec)) fnMoneyInUptoCard

/-- THE SECOND FORM's CARD OF 'laws.FnCanPick'. -/
def fnCanPickUptoCard : Claim7 := { stood := { row := fnCanPickUptoRow, standIns := [], harness := (true, "ac51fd2a6581a4b57e4e35046e2805e13d4d62d60b36594120160cf8f8238faa"), looks := true }, kinds := [], alts := [], laidByText := true, laidKinds := [.data], laidTests := true, laidLooks := .later }
def FnCanPickUptoCardSaid : Prop := Claim7.holds Tryd.pinned (.plain (OpenSpec.upto fnCanPickSpec)) fnCanPickUptoCard

/-- THE SECOND FORM's CARD OF 'laws.FnRefilled'. -/
def fnRefilledUptoCard : Claim7 := { stood := { row := fnRefilledUptoRow, standIns := [], harness := (true, "ac51fd2a6581a4b57e4e35046e2805e13d4d62d60b36594120160cf8f8238faa"), looks := true }, kinds := [], alts := [], laidByText := true, laidKinds := [.data], laidTests := true, laidLooks := .later }
def FnRefilledUptoCardSaid : Prop := Claim7.holds Tryd.pinned (.plain (OpenSpec.upto fnRefilledSpec)) fnRefilledUptoCard

/-- THE SECOND FORM's CARD OF 'laws.FnExactActed'. -/
def fnExactActedUptoCard : Claim7 := { stood := { row := fnExactActedUptoRow, standIns := [], harness := (true, "ac51fd2a6581a4b57e4e35046e2805e13d4d62d60b36594120160cf8f8238faa"), looks := true }, kinds := [], alts := [], laidByText := true, laidKinds := [.data], laidTests := true, laidLooks := .later }
def FnExactActedUptoCardSaid : Prop := Claim7.holds Tryd.pinned (.plain (OpenSpec.upto fnExactActedSpec)) fnExactActedUptoCard

/-- THE SECOND FORM's CARD OF 'laws.FnExactMoneyIn'. -/
def fnExactMoneyInUptoCard : Claim7 := { stood := { row := fnExactMoneyInUptoRow, standIns := [], harness := (true, "ac51fd2a6581a4b57e4e35046e2805e13d4d62d60b36594120160cf8f8238faa"), looks := true }, kinds := [], alts := [], laidByText := true, laidKinds := [.data], laidTests := true, laidLooks := .later }
def FnExactMoneyInUptoCardSaid : Prop := Claim7.holds Tryd.pinned (.plain (OpenSpec.upto fnExactMoneyInSpec)) fnExactMoneyInUptoCard

/-- THE SECOND FORM's CARD OF 'laws.FnExactCanPick'. -/
def fnExactCanPickUptoCard : Claim7 := { stood := { row := fnExactCanPickUptoRow, standIns := [], harness := (true, "ac51fd2a6581a4b57e4e35046e2805e13d4d62d60b36594120160cf8f8238faa"), looks := true }, kinds := [], alts := [], laidByText := true, laidKinds := [.data], laidTests := true, laidLooks := .later }
def FnExactCanPickUptoCardSaid : Prop := Claim7.holds Tryd.pinned (.plain (OpenSpec.upto fnExactCanPickSpec)) fnExactCanPickUptoCard
end Rows
end Go.Proofs.YtfoohenmlagfjaaDoor

/-
  DERIVED. GIVEN WITH THE SEED: THE CARDS: each row of YtgkhkphhpeiejaaDoorRows.lean that lists a variable, with what it lists TIED to the program's text (the seventh form; the later family's looks); each row that meets fmt, with fmt's text TOLD by the authors' own Lean function (tested against real Go, not proved from fmt's source: count such statements apart). THE CARD IS WHAT COUNTS. Prove the row's statement (the work); the ties are given (YtgkhkphhpeiejaaDoorTie.lean); close each card by the builder's one call (the guide's Derived/Test/ToyasCard.lean, 'card_holds'). Laid BY PROGRAM, IN A SANDBOX (cutbox-door.mjs). By AI agents, Wed Nov 11 2026. No macro, syntax, notation, axiom, sorry.
-/
import Derived.Test.YtgkhkphhpeiejaaDoorRows
import GoSem.ClaimSeven
namespace Go.Proofs.YtgkhkphhpeiejaaDoor
namespace Rows

/-- THE TIED CARD OF 'laws.FnExactDeskOk'. -/
def fnExactDeskOkCard : Claim7 := { stood := { row := fnExactDeskOkRow, standIns := [], harness := (true, "11941fdfbb9a50e88745791fbcd6a9b48bbc22309d2746ceb338aaadb0dd83ba"), looks := true }, kinds := [], alts := [], laidByText := true, laidKinds := [.data], laidTests := true, laidLooks := .later }
def FnExactDeskOkCardSaid : Prop := Claim7.holds Tryd.pinned (.plain (OpenSpec.ofChange fnExactDeskOkSpec)) fnExactDeskOkCard

/-- THE TIED CARD OF 'laws.FnExactDeskNew'. -/
def fnExactDeskNewCard : Claim7 := { stood := { row := fnExactDeskNewRow, standIns := [], harness := (true, "11941fdfbb9a50e88745791fbcd6a9b48bbc22309d2746ceb338aaadb0dd83ba"), looks := true }, kinds := [], alts := [], laidByText := true, laidKinds := [.data], laidTests := true, laidLooks := .later }
def FnExactDeskNewCardSaid : Prop := Claim7.holds Tryd.pinned (.plain (OpenSpec.ofChange fnExactDeskNewSpec)) fnExactDeskNewCard

/-- THE TIED CARD OF 'laws.FnExactNowOf'. -/
def fnExactNowOfCard : Claim7 := { stood := { row := fnExactNowOfRow, standIns := [], harness := (true, "11941fdfbb9a50e88745791fbcd6a9b48bbc22309d2746ceb338aaadb0dd83ba"), looks := true }, kinds := [], alts := [], laidByText := true, laidKinds := [.data], laidTests := true, laidLooks := .later }
def FnExactNowOfCardSaid : Prop := Claim7.holds Tryd.pinned (.plain (OpenSpec.ofChange fnExactNowOfSpec)) fnExactNowOfCard

/-- THE TIED CARD OF 'laws.FnExactDeskDo'. -/
def fnExactDeskDoCard : Claim7 := { stood := { row := fnExactDeskDoRow, standIns := [], harness := (true, "11941fdfbb9a50e88745791fbcd6a9b48bbc22309d2746ceb338aaadb0dd83ba"), looks := true }, kinds := [], alts := [], laidByText := true, laidKinds := [.data], laidTests := true, laidLooks := .later }
def FnExactDeskDoCardSaid : Prop := Claim7.holds Tryd.pinned (.plain (OpenSpec.ofChange fnExactDeskDoSpec)) fnExactDeskDoCard

/-- THE TIED CARD OF 'laws.FnDeskOk'. -/
def fnDeskOkCard : Claim7 := { stood := { row := fnDeskOkRow, standIns := [], harness := (true, "11941fdfbb9a50e88745791fbcd6a9b48bbc22309d2746ceb338aaadb0dd83ba"), looks := true }, kinds := [], alts := [], laidByText := true, laidKinds := [.data], laidTests := true, laidLooks := .later }
def FnDeskOkCardSaid : Prop := Claim7.holds Tryd.pinned (.plain (OpenSpec.ofChange fnDeskOkSpec)) fnDeskOkCard

/-- THE TIED CARD OF 'laws.FnDeskNew'. -/
def fnDeskNewCard : Claim7 := { stood := { row := fnDeskNewRow, standIns := [], harness := (true, "11941fdfbb9a50e88745791fbcd6a9b48bbc22309d2746ceb338aaadb0dd83ba"), looks := true }, kinds := [], alts := [], laidByText := true, laidKinds := [.data], laidTests := true, laidLooks := .later }
def FnDeskNewCardSaid : Prop := Claim7.holds Tryd.pinned (.plain (OpenSpec.ofChange fnDeskNewSpec)) fnDeskNewCard

/-- THE TIED CARD OF 'laws.FnNowOf'. -/
def fnNowOfCard : Claim7 := { stood := { row := fnNowOfRow, standIns := [], harness := (true, "11941fdfbb9a50e88745791fbcd6a9b48bbc22309d2746ceb338aaadb0dd83ba"), looks := true }, kinds := [], alts := [], laidByText := true, laidKinds := [.data, .data], laidTests := true, laidLooks := .later }
def FnNowOfCardSaid : Prop := Claim7.holds Tryd.pinned (.plain (OpenSpec.ofChange fnNowOfSpec)) fnNowOfCard

/-- THE TIED CARD OF 'laws.FnDeskDo'. -/
def fnDeskDoCard : Claim7 := { stood := { row := fnDeskDoRow, standIns := [], harness := (true, "11941fdfbb9a50e88745791fbcd6a9b48bbc22309d2746ceb338aaadb0dd83ba"), looks := true }, kinds := [], alts := [], laidByText := true, laidKinds := [.data], laidTests := true, laidLooks := .later }
def FnDeskDoCardSaid : Prop := Claim7.holds Tryd.pinned (.plain (OpenSpec.ofChange fnDeskDoSpec)) fnDeskDoCard

/-- THE TIED CARD OF 'laws.FnRunOf'. -/
def fnRunOfCard : Claim7 := { stood := { row := fnRunOfRow, standIns := [], harness := (true, "11941fdfbb9a50e88745791fbcd6a9b48bbc22309d2746ceb338aaadb0dd83ba"), looks := true }, kinds := [], alts := [], laidByText := true, laidKinds := [.data], laidTests := true, laidLooks := .later }
def FnRunOfCardSaid : Prop := Claim7.holds Tryd.pinned (.plain (OpenSpec.ofChange fnRunOfSpec)) fnRunOfCard

/-- THE TIED CARD OF 'laws.FnSoldBy'. -/
def fnSoldByCard : Claim7 := { stood := { row := fnSoldByRow, standIns := [], harness := (true, "11941fdfbb9a50e88745791fbcd6a9b48bbc22309d2746ceb338aaadb0dd83ba"), looks := true }, kinds := [], alts := [], laidByText := true, laidKinds := [.data], laidTests := true, laidLooks := .later }
def FnSoldByCardSaid : Prop := Claim7.holds Tryd.pinned (.plain (OpenSpec.ofChange fnSoldBySpec)) fnSoldByCard

/-- THE TIED CARD OF 'laws.FnCoinsPut'. -/
def fnCoinsPutCard : Claim7 := { stood := { row := fnCoinsPutRow, standIns := [], harness := (true, "11941fdfbb9a50e88745791fbcd6a9b48bbc22309d2746ceb338aaadb0dd83ba"), looks := true }, kinds := [], alts := [], laidByText := true, laidKinds := [.data], laidTests := true, laidLooks := .later }
def FnCoinsPutCardSaid : Prop := Claim7.holds Tryd.pinned (.plain (OpenSpec.ofChange fnCoinsPutSpec)) fnCoinsPutCard

/-- THE SECOND FORM's CARD OF 'laws.FnExactDeskOk'. -/
def fnExactDeskOkUptoCard : Claim7 := { stood := { row := fnExactDeskOkUptoRow, standIns := [], harness := (true, "11941fdfbb9a50e88745791fbcd6a9b48bbc22309d2746ceb338aaadb0dd83ba"), looks := true }, kinds := [], alts := [], laidByText := true, laidKinds := [.data], laidTests := true, laidLooks := .later }
def FnExactDeskOkUptoCardSaid : Prop := Claim7.holds Tryd.pinned (.plain (OpenSpec.upto fnExactDeskOkSpec)) fnExactDeskOkUptoCard

/-- THE SECOND FORM's CARD OF 'laws.FnExactDeskNew'. -/
def fnExactDeskNewUptoCard : Claim7 := { stood := { row := fnExactDeskNewUptoRow, standIns := [], harness := (true, "11941fdfbb9a50e88745791fbcd6a9b48bbc22309d2746ceb338aaadb0dd83ba"), looks := true }, kinds := [], alts := [], laidByText := true, laidKinds := [.data], laidTests := true, laidLooks := .later }
def FnExactDeskNewUptoCardSaid : Prop := Claim7.holds Tryd.pinned (.plain (OpenSpec.upto fnExactDeskNewSpec)) fnExactDeskNewUptoCard

/-- THE SECOND FORM's CARD OF 'laws.FnExactNowOf'. -/
def fnExactNowOfUptoCard : Claim7 := { stood := { row := fnExactNowOfUptoRow, standIns := [], harness := (true, "11941fdfbb9a50e88745791fbcd6a9b48bbc22309d2746ceb338aaadb0dd83ba"), looks := true }, kinds := [], alts := [], laidByText := true, laidKinds := [.data], laidTests := true, laidLooks := .later }
def FnExactNowOfUptoCardSaid : Prop := Claim7.holds Tryd.pinned (.plain (OpenSpec.upto fnExactNowOfSpec)) fnExactNowOfUptoCard

/-- THE SECOND FORM's CARD OF 'laws.FnExactDeskDo'. -/
def fnExactDeskDoUptoCard : Claim7 := { stood := { row := fnExactDeskDoUptoRow, standIns := [], harness := (true, "11941fdfbb9a50e88745791fbcd6a9b48bbc22309d2746ceb338aaadb0dd83ba"), looks := true }, kinds := [], alts := [], laidByText := true, laidKinds := [.data], laidTests := true, laidLooks := .later }
def FnExactDeskDoUptoCardSaid : Prop := Claim7.holds Tryd.pinned (.plain (OpenSpec.upto fnExactDeskDoSpec)) fnExactDeskDoUptoCard

/-- THE SECOND FORM's CARD OF 'laws.FnDeskOk'. -/
def fnDeskOkUptoCard : Claim7 := { stood := { row := fnDeskOkUptoRow, standIns := [], harness := (true, "11941fdfbb9a50e88745791fbcd6a9b48bbc22309d2746ceb338aaadb0dd83ba"), looks := true }, kinds := [], alts := [], laidByText := true, laidKinds := [.data], laidTests := true, laidLooks := .later }
def FnDeskOkUptoCardSaid : Prop := Claim7.holds Tryd.pinned (.plain (OpenSpec.upto fnDeskOkSpec)) fnDeskOkUptoCard

/-- THE SECOND FORM's CARD OF 'laws.FnDeskNew'. -/
def fnDeskNewUptoCard : Claim7 := { stood := { row := fnDeskNewUptoRow, standIns := [], harness := (true, "11941fdfbb9a50e88745791fbcd6a9b48bbc22309d2746ceb338aaadb0dd83ba"), looks := true }, kinds := [], alts := [], laidByText := true, laidKinds := [.data], laidTests := true, laidLooks := .later }
def FnDeskNewUptoCardSaid : Prop := Claim7.holds Tryd.pinned (.plain (OpenSpec.upto fnDeskNewSpec)) fnDeskNewUptoCard

/-- THE SECOND FORM's CARD OF 'laws.FnNowOf'. -/
def fnNowOfUptoCard : Claim7 := { stood := { row := fnNowOfUptoRow, standIns := [], harness := (true, "11941fdfbb9a50e88745791fbcd6a9b48bbc22309d2746ceb338aaadb0dd83ba"), looks := true }, kinds := [], alts := [], laidByText := true, laidKinds := [.data, .data], laidTests := true, laidLooks := .later }
def FnNowOfUptoCardSaid : Prop := Claim7.holds Tryd.pinned (.plain (OpenSpec.upto fnNowOfSpec)) fnNowOfUptoCard

/-- THE SECOND FORM's CARD OF 'laws.FnDeskDo'. -/
def fnDeskDoUptoCard : Claim7 := { stood := { row := fnDeskDoUptoRow, standIns := [], harness := (true, "11941fdfbb9a50e88745791fbcd6a9b48bbc22309d2746ceb338aaadb0dd83ba"), looks := true }, kinds := [], alts := [], laidByText := true, laidKinds := [.data], laidTests := true, laidLooks := .later }
def FnDeskDoUptoCardSaid : Prop := Claim7.holds Tryd.pinned (.plain (OpenSpec.upto fnDeskDoSpec)) fnDeskDoUptoCard

/-- THE SECOND FORM's CARD OF 'laws.FnRunOf'. -/
def fnRunOfUptoCard : Claim7 := { stood := { row := fnRunOfUptoRow, standIns := [], harness := (true, "11941fdfbb9a50e88745791fbcd6a9b48bbc22309d2746ceb338aaadb0dd83ba"), looks := true }, kinds := [], alts := [], laidByText := true, laidKinds := [.data], laidTests := true, laidLooks := .later }
def FnRunOfUptoCardSaid : Prop := Claim7.holds Tryd.pinned (.plain (OpenSpec.upto fnRunOfSpec)) fnRunOfUptoCard

/-- THE SECOND FORM's CARD OF 'laws.FnSoldBy'. -/
def fnSoldByUptoCard : Claim7 := { stood := { row := fnSoldByUptoRow, standIns := [], harness := (true, "11941fdfbb9a50e88745791fbcd6a9b48bbc22309d2746ceb338aaadb0dd83ba"), looks := true }, kinds := [], alts := [], laidByText := true, laidKinds := [.data], laidTests := true, laidLooks := .later }
def FnSoldByUptoCardSaid : Prop := Claim7.holds Tryd.pinned (.plain (OpenSpec.upto fnSoldBySpec)) fnSoldByUptoCard

/-- THE SECOND FORM's CARD OF 'laws.FnCoinsPut'. -/
def fnCoinsPutUptoCard : Claim7 := { stood := { row := fnCoinsPutUptoRow, standIns := [], harness := (true, "11941fdfbb9a50e88745791fbcd6a9b48bbc22309d2746ceb338aaadb0dd83ba"), looks := true }, kinds := [], alts := [], laidByText := true, laidKinds := [.data], laidTests := true, laidLooks := .later }
def FnCoinsPutUptoCardSaid : Prop := Claim7.holds Tryd.pinned (.plain (OpenSpec.upto fnCoinsPutSpec)) fnCoinsPutUptoCard
end Rows
end Go.Proofs.YtgkhkphhpeiejaaDoor

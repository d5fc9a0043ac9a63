/-
  DERIVED. GIVEN WITH THE SEED: THE CARDS: each row of YteedokdgjjflkaaDoorRows.lean that lists a variable, with what it lists TIED to the program's text (the seventh form; the later family's looks); each row that meets fmt, with fmt's text TOLD by the authors' own Lean function (tested against real Go, not proved from fmt's source: count such statements apart). THE CARD IS WHAT COUNTS. Prove the row's statement (the work); the ties are given (YteedokdgjjflkaaDoorTie.lean); close each card by the builder's one call (the guide's Derived/Test/ToyasCard.lean, 'card_holds'). Laid BY PROGRAM, IN A SANDBOX (cutbox-door.mjs). By AI agents, Wed Nov 11 2026. No macro, syntax, notation, axiom, sorry.
-/
import Derived.Test.YteedokdgjjflkaaDoorRows
import GoSem.ClaimSeven
namespace Go.Proofs.YteedokdgjjflkaaDoor
namespace Rows

/-- THE TIED CARD OF 'laws.FnMoneyIn'. -/
def fnMoneyInCard : Claim7 := { stood := { row := fnMoneyInRow, standIns := [], harness := (true, "fedff637c9155ab0259814a25c3bc5bbcaa44f81edb0671463c341d91d7d4eb1"), looks := true }, kinds := [], alts := [], laidByText := true, laidKinds := [.data], laidTests := true, laidLooks := .later }
def FnMoneyInCardSaid : Prop := Claim7.holds Tryd.pinned (.plain (OpenSpec.ofChange fnMoneyInSpec)) fnMoneyInCard

/-- THE TIED CARD OF 'laws.FnActed'. -/
def fnActedCard : Claim7 := { stood := { row := fnActedRow, standIns := [], harness := (true, "fedff637c9155ab0259814a25c3bc5bbcaa44f81edb0671463c341d91d7d4eb1"), looks := true }, kinds := [], alts := [], laidByText := true, laidKinds := [.data], laidTests := true, laidLooks := .later }
def FnActedCardSaid : Prop := Claim7.holds Tryd.pinned (.plain (OpenSpec.ofChange fnActedSpec)) fnActedCard

/-- THE TIED CARD OF 'laws.FnCanPick'. -/
def fnCanPickCard : Claim7 := { stood := { row := fnCanPickRow, standIns := [], harness := (true, "fedff637c9155ab0259814a25c3bc5bbcaa44f81edb0671463c341d91d7d4eb1"), looks := true }, kinds := [], alts := [], laidByText := true, laidKinds := [.data], laidTests := true, laidLooks := .later }
def FnCanPickCardSaid : Prop := Claim7.holds Tryd.pinned (.plain (OpenSpec.ofChange fnCanPickSpec)) fnCanPickCard

/-- THE TIED CARD OF 'laws.FnRunOf'. -/
def fnRunOfCard : Claim7 := { stood := { row := fnRunOfRow, standIns := [], harness := (true, "fedff637c9155ab0259814a25c3bc5bbcaa44f81edb0671463c341d91d7d4eb1"), looks := true }, kinds := [], alts := [], laidByText := true, laidKinds := [.data], laidTests := true, laidLooks := .later }
def FnRunOfCardSaid : Prop := Claim7.holds Tryd.pinned (.plain (OpenSpec.ofChange fnRunOfSpec)) fnRunOfCard

/-- THE TIED CARD OF 'laws.FnExactRunOf'. -/
def fnExactRunOfCard : Claim7 := { stood := { row := fnExactRunOfRow, standIns := [], harness := (true, "fedff637c9155ab0259814a25c3bc5bbcaa44f81edb0671463c341d91d7d4eb1"), looks := true }, kinds := [], alts := [], laidByText := true, laidKinds := [.data], laidTests := true, laidLooks := .later }
def FnExactRunOfCardSaid : Prop := Claim7.holds Tryd.pinned (.plain (OpenSpec.ofChange fnExactRunOfSpec)) fnExactRunOfCard

/-- THE TIED CARD OF 'laws.FnSoldBy'. -/
def fnSoldByCard : Claim7 := { stood := { row := fnSoldByRow, standIns := [], harness := (true, "fedff637c9155ab0259814a25c3bc5bbcaa44f81edb0671463c341d91d7d4eb1"), looks := true }, kinds := [], alts := [], laidByText := true, laidKinds := [.data], laidTests := true, laidLooks := .later }
def FnSoldByCardSaid : Prop := Claim7.holds Tryd.pinned (.plain (OpenSpec.ofChange fnSoldBySpec)) fnSoldByCard

/-- THE TIED CARD OF 'laws.FnCoinsPut'. -/
def fnCoinsPutCard : Claim7 := { stood := { row := fnCoinsPutRow, standIns := [], harness := (true, "fedff637c9155ab0259814a25c3bc5bbcaa44f81edb0671463c341d91d7d4eb1"), looks := true }, kinds := [], alts := [], laidByText := true, laidKinds := [.data], laidTests := true, laidLooks := .later }
def FnCoinsPutCardSaid : Prop := Claim7.holds Tryd.pinned (.plain (OpenSpec.ofChange fnCoinsPutSpec)) fnCoinsPutCard

/-- THE TIED CARD OF 'laws.FnHoldsAt'. -/
def fnHoldsAtCard : Claim7 := { stood := { row := fnHoldsAtRow, standIns := [], harness := (true, "fedff637c9155ab0259814a25c3bc5bbcaa44f81edb0671463c341d91d7d4eb1"), looks := true }, kinds := [], alts := [], laidByText := true, laidKinds := [.data], laidTests := true, laidLooks := .later }
def FnHoldsAtCardSaid : Prop := Claim7.holds Tryd.pinned (.plain (OpenSpec.ofChange fnHoldsAtSpec)) fnHoldsAtCard

/-- THE TIED CARD OF 'laws.FnHoldsOf'. -/
def fnHoldsOfCard : Claim7 := { stood := { row := fnHoldsOfRow, standIns := [], harness := (true, "fedff637c9155ab0259814a25c3bc5bbcaa44f81edb0671463c341d91d7d4eb1"), looks := true }, kinds := [], alts := [], laidByText := true, laidKinds := [.data], laidTests := true, laidLooks := .later }
def FnHoldsOfCardSaid : Prop := Claim7.holds Tryd.pinned (.plain (OpenSpec.ofChange fnHoldsOfSpec)) fnHoldsOfCard

/-- THE TIED CARD OF 'laws.FnPlacesOf'. -/
def fnPlacesOfCard : Claim7 := { stood := { row := fnPlacesOfRow, standIns := [], harness := (true, "fedff637c9155ab0259814a25c3bc5bbcaa44f81edb0671463c341d91d7d4eb1"), looks := true }, kinds := [], alts := [], laidByText := true, laidKinds := [.data], laidTests := true, laidLooks := .later }
def FnPlacesOfCardSaid : Prop := Claim7.holds Tryd.pinned (.plain (OpenSpec.ofChange fnPlacesOfSpec)) fnPlacesOfCard

/-- THE TIED CARD OF 'laws.FnClaimOk'. -/
def fnClaimOkCard : Claim7 := { stood := { row := fnClaimOkRow, standIns := [], harness := (true, "fedff637c9155ab0259814a25c3bc5bbcaa44f81edb0671463c341d91d7d4eb1"), looks := true }, kinds := [], alts := [], laidByText := true, laidKinds := [.data], laidTests := true, laidLooks := .later }
def FnClaimOkCardSaid : Prop := Claim7.holds Tryd.pinned (.plain (OpenSpec.ofChange fnClaimOkSpec)) fnClaimOkCard

/-- THE TIED CARD OF 'laws.FnOppositeOf'. -/
def fnOppositeOfCard : Claim7 := { stood := { row := fnOppositeOfRow, standIns := [], harness := (true, "fedff637c9155ab0259814a25c3bc5bbcaa44f81edb0671463c341d91d7d4eb1"), looks := true }, kinds := [], alts := [], laidByText := true, laidKinds := [.data], laidTests := true, laidLooks := .later }
def FnOppositeOfCardSaid : Prop := Claim7.holds Tryd.pinned (.plain (OpenSpec.ofChange fnOppositeOfSpec)) fnOppositeOfCard

/-- THE TIED CARD OF 'laws.FnChoiceOk'. -/
def fnChoiceOkCard : Claim7 := { stood := { row := fnChoiceOkRow, standIns := [], harness := (true, "fedff637c9155ab0259814a25c3bc5bbcaa44f81edb0671463c341d91d7d4eb1"), looks := true }, kinds := [], alts := [], laidByText := true, laidKinds := [.data], laidTests := true, laidLooks := .later }
def FnChoiceOkCardSaid : Prop := Claim7.holds Tryd.pinned (.plain (OpenSpec.ofChange fnChoiceOkSpec)) fnChoiceOkCard

/-- THE TIED CARD OF 'laws.FnRunAt'. -/
def fnRunAtCard : Claim7 := { stood := { row := fnRunAtRow, standIns := [], harness := (true, "fedff637c9155ab0259814a25c3bc5bbcaa44f81edb0671463c341d91d7d4eb1"), looks := true }, kinds := [], alts := [], laidByText := true, laidKinds := [.data], laidTests := true, laidLooks := .later }
def FnRunAtCardSaid : Prop := Claim7.holds Tryd.pinned (.plain (OpenSpec.ofChange fnRunAtSpec)) fnRunAtCard

/-- THE SECOND FORM's CARD OF 'laws.FnMoneyIn'. -/
def fnMoneyInUptoCard : Claim7 := { stood := { row := fnMoneyInUptoRow, standIns := [], harness := (true, "fedff637c9155ab0259814a25c3bc5bbcaa44f81edb0671463c341d91d7d4eb1"), looks := true }, kinds := [], alts := [], laidByText := true, laidKinds := [.data], laidTests := true, laidLooks := .later }
def FnMoneyInUptoCardSaid : Prop := Claim7.holds Tryd.pinned (.plain (OpenSpec.upto fnMoneyInSpec)) fnMoneyInUptoCard

/-- THE SECOND FORM's CARD OF 'laws.FnActed'. -/
def fnActedUptoCard : Claim7 := { stood := { row := fnActedUptoRow, standIns := [], harness := (true, "fedff637c9155ab0259814a25c3bc5bbcaa44f81edb0671463c341d91d7d4eb1"), looks := true }, kinds := [], alts := [], laidByText := true, laidKinds := [.data], laidTests := true, laidLooks := .later }
def FnActedUptoCardSaid : Prop := Claim7.holds Tryd.pinned (.plain (OpenSpec.upto fnActedSpec)) fnActedUptoCard

/-- THE SECOND FORM's CARD OF 'laws.FnCanPick'. -/
def fnCanPickUptoCard : Claim7 := { stood := { row := fnCanPickUptoRow, standIns := [], harness := (true, "fedff637c9155ab0259814a25c3bc5bbcaa44f81edb0671463c341d91d7d4eb1"), looks := true }, kinds := [], alts := [], laidByText := true, laidKinds := [.data], laidTests := true, laidLooks := .later }
def FnCanPickUptoCardSaid : Prop := Claim7.holds Tryd.pinned (.plain (OpenSpec.upto fnCanPickSpec)) fnCanPickUptoCard

/-- THE SECOND FORM's CARD OF 'laws.FnRunOf'. -/
def fnRunOfUptoCard : Claim7 := { stood := { row := fnRunOfUptoRow, standIns := [], harness := (true, "fedff637c9155ab0259814a25c3bc5bbcaa44f81edb0671463c341d91d7d4eb1"), looks := true }, kinds := [], alts := [], laidByText := true, laidKinds := [.data], laidTests := true, laidLooks := .later }
def FnRunOfUptoCardSaid : Prop := Claim7.holds Tryd.pinned (.plain (OpenSpec.upto fnRunOfSpec)) fnRunOfUptoCard

/-- THE SECOND FORM's CARD OF 'laws.FnExactRunOf'. -/
def fnExactRunOfUptoCard : Claim7 := { stood := { row := fnExactRunOfUptoRow, standIns := [], harness := (true, "fedff637c9155ab0259814a25c3bc5bbcaa44f81edb0671463c341d91d7d4eb1"), looks := true }, kinds := [], alts := [], laidByText := true, laidKinds := [.data], laidTests := true, laidLooks := .later }
def FnExactRunOfUptoCardSaid : Prop := Claim7.holds Tryd.pinned (.plain (OpenSpec.upto fnExactRunOfSpec)) fnExactRunOfUptoCard

/-- THE SECOND FORM's CARD OF 'laws.FnSoldBy'. -/
def fnSoldByUptoCard : Claim7 := { stood := { row := fnSoldByUptoRow, standIns := [], harness := (true, "fedff637c9155ab0259814a25c3bc5bbcaa44f81edb0671463c341d91d7d4eb1"), looks := true }, kinds := [], alts := [], laidByText := true, laidKinds := [.data], laidTests := true, laidLooks := .later }
def FnSoldByUptoCardSaid : Prop := Claim7.holds Tryd.pinned (.plain (OpenSpec.upto fnSoldBySpec)) fnSoldByUptoCard

/-- THE SECOND FORM's CARD OF 'laws.FnCoinsPut'. -/
def fnCoinsPutUptoCard : Claim7 := { stood := { row := fnCoinsPutUptoRow, standIns := [], harness := (true, "fedff637c9155ab0259814a25c3bc5bbcaa44f81edb0671463c341d91d7d4eb1"), looks := true }, kinds := [], alts := [], laidByText := true, laidKinds := [.data], laidTests := true, laidLooks := .later }
def FnCoinsPutUptoCardSaid : Prop := Claim7.holds Tryd.pinned (.plain (OpenSpec.upto fnCoinsPutSpec)) fnCoinsPutUptoCard

/-- THE SECOND FORM's CARD OF 'laws.FnHoldsAt'. -/
def fnHoldsAtUptoCard : Claim7 := { stood := { row := fnHoldsAtUptoRow, standIns := [], harness := (true, "fedff637c9155ab0259814a25c3bc5bbcaa44f81edb0671463c341d91d7d4eb1"), looks := true }, kinds := [], alts := [], laidByText := true, laidKinds := [.data], laidTests := true, laidLooks := .later }
def FnHoldsAtUptoCardSaid : Prop := Claim7.holds Tryd.pinned (.plain (OpenSpec.upto fnHoldsAtSpec)) fnHoldsAtUptoCard

/-- THE SECOND FORM's CARD OF 'laws.FnHoldsOf'. -/
def fnHoldsOfUptoCard : Claim7 := { stood := { row := fnHoldsOfUptoRow, standIns := [], harness := (true, "fedff637c9155ab0259814a25c3bc5bbcaa44f81edb0671463c341d91d7d4eb1"), looks := true }, kinds := [], alts := [], laidByText := true, laidKinds := [.data], laidTests := true, laidLooks := .later }
def FnHoldsOfUptoCardSaid : Prop := Claim7.holds Tryd.pinned (.plain (OpenSpec.upto fnHoldsOfSpec)) fnHoldsOfUptoCard

/-- THE SECOND FORM's CARD OF 'laws.FnPlacesOf'. -/
def fnPlacesOfUptoCard : Claim7 := { stood := { row := fnPlacesOfUptoRow, standIns := [], harness := (true, "fedff637c9155ab0259814a25c3bc5bbcaa44f81edb0671463c341d91d7d4eb1"), looks := true }, kinds := [], alts := [], laidByText := true, laidKinds := [.data], laidTests := true, laidLooks := .later }
def FnPlacesOfUptoCardSaid : Prop := Claim7.holds Tryd.pinned (.plain (OpenSpec.upto fnPlacesOfSpec)) fnPlacesOfUptoCard

/-- THE SECOND FORM's CARD OF 'laws.FnClaimOk'. -/
def fnClaimOkUptoCard : Claim7 := { stood := { row := fnClaimOkUptoRow, standIns := [], harness := (true, "fedff637c9155ab0259814a25c3bc5bbcaa44f81edb0671463c341d91d7d4eb1"), looks := true }, kinds := [], alts := [], laidByText := true, laidKinds := [.data], laidTests := true, laidLooks := .later }
def FnClaimOkUptoCardSaid : Prop := Claim7.holds Tryd.pinned (.plain (OpenSpec.upto fnClaimOkSpec)) fnClaimOkUptoCard

/-- THE SECOND FORM's CARD OF 'laws.FnOppositeOf'. -/
def fnOppositeOfUptoCard : Claim7 := { stood := { row := fnOppositeOfUptoRow, standIns := [], harness := (true, "fedff637c9155ab0259814a25c3bc5bbcaa44f81edb0671463c341d91d7d4eb1"), looks := true }, kinds := [], alts := [], laidByText := true, laidKinds := [.data], laidTests := true, laidLooks := .later }
def FnOppositeOfUptoCardSaid : Prop := Claim7.holds Tryd.pinned (.plain (OpenSpec.upto fnOppositeOfSpec)) fnOppositeOfUptoCard

/-- THE SECOND FORM's CARD OF 'laws.FnChoiceOk'. -/
def fnChoiceOkUptoCard : Claim7 := { stood := { row := fnChoiceOkUptoRow, standIns := [], harness := (true, "fedff637c9155ab0259814a25c3bc5bbcaa44f81edb0671463c341d91d7d4eb1"), looks := true }, kinds := [], alts := [], laidByText := true, laidKinds := [.data], laidTests := true, laidLooks := .later }
def FnChoiceOkUptoCardSaid : Prop := Claim7.holds Tryd.pinned (.plain (OpenSpec.upto fnChoiceOkSpec)) fnChoiceOkUptoCard

/-- THE SECOND FORM's CARD OF 'laws.FnRunAt'. -/
def fnRunAtUptoCard : Claim7 := { stood := { row := fnRunAtUptoRow, standIns := [], harness := (true, "fedff637c9155ab0259814a25c3bc5bbcaa44f81edb0671463c341d91d7d4eb1"), looks := true }, kinds := [], alts := [], laidByText := true, laidKinds := [.data], laidTests := true, laidLooks := .later }
def FnRunAtUptoCardSaid : Prop := Claim7.holds Tryd.pinned (.plain (OpenSpec.upto fnRunAtSpec)) fnRunAtUptoCard
end Rows
end Go.Proofs.YteedokdgjjflkaaDoor

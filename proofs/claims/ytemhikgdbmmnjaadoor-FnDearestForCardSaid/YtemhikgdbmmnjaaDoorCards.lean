/-
  DERIVED. GIVEN WITH THE SEED: THE CARDS: each row of YtemhikgdbmmnjaaDoorRows.lean that lists a variable, with what it lists TIED to the program's text (the seventh form; the later family's looks); each row that meets fmt, with fmt's text TOLD by the authors' own Lean function (tested against real Go, not proved from fmt's source: count such statements apart). THE CARD IS WHAT COUNTS. Prove the row's statement (the work); the ties are given (YtemhikgdbmmnjaaDoorTie.lean); close each card by the builder's one call (the guide's Derived/Test/ToyasCard.lean, 'card_holds'). Laid BY PROGRAM, IN A SANDBOX (cutbox-door.mjs). By AI agents, Wed Nov 11 2026. No macro, syntax, notation, axiom, sorry.
-/
import Derived.Test.YtemhikgdbmmnjaaDoorRows
import GoSem.ClaimSeven
namespace Go.Proofs.YtemhikgdbmmnjaaDoor
namespace Rows

/-- THE TIED CARD OF 'laws.FnShelvesOk'. -/
def fnShelvesOkCard : Claim7 := { stood := { row := fnShelvesOkRow, standIns := [], harness := (true, "a6f6db17382c5e56c78b24a1df477c8cb52d90db07e5dc0f706a7ef59e8d2775"), looks := false }, kinds := [], alts := [], laidByText := true, laidKinds := [.data], laidTests := true, laidLooks := .later }
def FnShelvesOkCardSaid : Prop := Claim7.holds Tryd.pinned (.plain (OpenSpec.ofChange fnShelvesOkSpec)) fnShelvesOkCard

/-- THE TIED CARD OF 'laws.FnCostOf'. -/
def fnCostOfCard : Claim7 := { stood := { row := fnCostOfRow, standIns := [], harness := (true, "a6f6db17382c5e56c78b24a1df477c8cb52d90db07e5dc0f706a7ef59e8d2775"), looks := false }, kinds := [], alts := [], laidByText := true, laidKinds := [.data], laidTests := true, laidLooks := .later }
def FnCostOfCardSaid : Prop := Claim7.holds Tryd.pinned (.plain (OpenSpec.ofChange fnCostOfSpec)) fnCostOfCard

/-- THE TIED CARD OF 'laws.FnBasketsFor'. -/
def fnBasketsForCard : Claim7 := { stood := { row := fnBasketsForRow, standIns := [], harness := (true, "a6f6db17382c5e56c78b24a1df477c8cb52d90db07e5dc0f706a7ef59e8d2775"), looks := false }, kinds := [], alts := [], laidByText := true, laidKinds := [.data], laidTests := true, laidLooks := .later }
def FnBasketsForCardSaid : Prop := Claim7.holds Tryd.pinned (.plain (OpenSpec.ofChange fnBasketsForSpec)) fnBasketsForCard

/-- THE TIED CARD OF 'laws.FnMostFor'. -/
def fnMostForCard : Claim7 := { stood := { row := fnMostForRow, standIns := [], harness := (true, "a6f6db17382c5e56c78b24a1df477c8cb52d90db07e5dc0f706a7ef59e8d2775"), looks := false }, kinds := [], alts := [], laidByText := true, laidKinds := [.data], laidTests := true, laidLooks := .later }
def FnMostForCardSaid : Prop := Claim7.holds Tryd.pinned (.plain (OpenSpec.ofChange fnMostForSpec)) fnMostForCard

/-- THE TIED CARD OF 'laws.FnDearestFor'. -/
def fnDearestForCard : Claim7 := { stood := { row := fnDearestForRow, standIns := [], harness := (true, "a6f6db17382c5e56c78b24a1df477c8cb52d90db07e5dc0f706a7ef59e8d2775"), looks := false }, kinds := [], alts := [], laidByText := true, laidKinds := [.data], laidTests := true, laidLooks := .later }
def FnDearestForCardSaid : Prop := Claim7.holds Tryd.pinned (.plain (OpenSpec.ofChange fnDearestForSpec)) fnDearestForCard

/-- THE TIED CARD OF 'laws.FnAfterBasket'. -/
def fnAfterBasketCard : Claim7 := { stood := { row := fnAfterBasketRow, standIns := [], harness := (true, "a6f6db17382c5e56c78b24a1df477c8cb52d90db07e5dc0f706a7ef59e8d2775"), looks := false }, kinds := [], alts := [], laidByText := true, laidKinds := [.data], laidTests := true, laidLooks := .later }
def FnAfterBasketCardSaid : Prop := Claim7.holds Tryd.pinned (.plain (OpenSpec.ofChange fnAfterBasketSpec)) fnAfterBasketCard

/-- THE TIED CARD OF 'laws.FnStockWorth'. -/
def fnStockWorthCard : Claim7 := { stood := { row := fnStockWorthRow, standIns := [], harness := (true, "a6f6db17382c5e56c78b24a1df477c8cb52d90db07e5dc0f706a7ef59e8d2775"), looks := false }, kinds := [], alts := [], laidByText := true, laidKinds := [.data], laidTests := true, laidLooks := .later }
def FnStockWorthCardSaid : Prop := Claim7.holds Tryd.pinned (.plain (OpenSpec.ofChange fnStockWorthSpec)) fnStockWorthCard

/-- THE SECOND FORM's CARD OF 'laws.FnShelvesOk'. -/
def fnShelvesOkUptoCard : Claim7 := { stood := { row := fnShelvesOkUptoRow, standIns := [], harness := (true, "a6f6db17382c5e56c78b24a1df477c8cb52d90db07e5dc0f706a7ef59e8d2775"), looks := false }, kinds := [], alts := [], laidByText := true, laidKinds := [.data], laidTests := true, laidLooks := .later }
def FnShelvesOkUptoCardSaid : Prop := Claim7.holds Tryd.pinned (.plain (OpenSpec.upto fnShelvesOkSpec)) fnShelvesOkUptoCard

/-- THE SECOND FORM's CARD OF 'laws.FnCostOf'. -/
def fnCostOfUptoCard : Claim7 := { stood := { row := fnCostOfUptoRow, standIns := [], harness := (true, "a6f6db17382c5e56c78b24a1df477c8cb52d90db07e5dc0f706a7ef59e8d2775"), looks := false }, kinds := [], alts := [], laidByText := true, laidKinds := [.data], laidTests := true, laidLooks := .later }
def FnCostOfUptoCardSaid : Prop := Claim7.holds Tryd.pinned (.plain (OpenSpec.upto fnCostOfSpec)) fnCostOfUptoCard

/-- THE SECOND FORM's CARD OF 'laws.FnBasketsFor'. -/
def fnBasketsForUptoCard : Claim7 := { stood := { row := fnBasketsForUptoRow, standIns := [], harness := (true, "a6f6db17382c5e56c78b24a1df477c8cb52d90db07e5dc0f706a7ef59e8d2775"), looks := false }, kinds := [], alts := [], laidByText := true, laidKinds := [.data], laidTests := true, laidLooks := .later }
def FnBasketsForUptoCardSaid : Prop := Claim7.holds Tryd.pinned (.plain (OpenSpec.upto fnBasketsForSpec)) fnBasketsForUptoCard

/-- THE SECOND FORM's CARD OF 'laws.FnMostFor'. -/
def fnMostForUptoCard : Claim7 := { stood := { row := fnMostForUptoRow, standIns := [], harness := (true, "a6f6db17382c5e56c78b24a1df477c8cb52d90db07e5dc0f706a7ef59e8d2775"), looks := false }, kinds := [], alts := [], laidByText := true, laidKinds := [.data], laidTests := true, laidLooks := .later }
def FnMostForUptoCardSaid : Prop := Claim7.holds Tryd.pinned (.plain (OpenSpec.upto fnMostForSpec)) fnMostForUptoCard

/-- THE SECOND FORM's CARD OF 'laws.FnDearestFor'. -/
def fnDearestForUptoCard : Claim7 := { stood := { row := fnDearestForUptoRow, standIns := [], harness := (true, "a6f6db17382c5e56c78b24a1df477c8cb52d90db07e5dc0f706a7ef59e8d2775"), looks := false }, kinds := [], alts := [], laidByText := true, laidKinds := [.data], laidTests := true, laidLooks := .later }
def FnDearestForUptoCardSaid : Prop := Claim7.holds Tryd.pinned (.plain (OpenSpec.upto fnDearestForSpec)) fnDearestForUptoCard

/-- THE SECOND FORM's CARD OF 'laws.FnAfterBasket'. -/
def fnAfterBasketUptoCard : Claim7 := { stood := { row := fnAfterBasketUptoRow, standIns := [], harness := (true, "a6f6db17382c5e56c78b24a1df477c8cb52d90db07e5dc0f706a7ef59e8d2775"), looks := false }, kinds := [], alts := [], laidByText := true, laidKinds := [.data], laidTests := true, laidLooks := .later }
def FnAfterBasketUptoCardSaid : Prop := Claim7.holds Tryd.pinned (.plain (OpenSpec.upto fnAfterBasketSpec)) fnAfterBasketUptoCard

/-- THE SECOND FORM's CARD OF 'laws.FnStockWorth'. -/
def fnStockWorthUptoCard : Claim7 := { stood := { row := fnStockWorthUptoRow, standIns := [], harness := (true, "a6f6db17382c5e56c78b24a1df477c8cb52d90db07e5dc0f706a7ef59e8d2775"), looks := false }, kinds := [], alts := [], laidByText := true, laidKinds := [.data], laidTests := true, laidLooks := .later }
def FnStockWorthUptoCardSaid : Prop := Claim7.holds Tryd.pinned (.plain (OpenSpec.upto fnStockWorthSpec)) fnStockWorthUptoCard
end Rows
end Go.Proofs.YtemhikgdbmmnjaaDoor

/-
  DERIVED. GIVEN WITH THE SEED: THE CARDS: each row of YtciijkknddnigaaDoorRows.lean that lists a variable, with what it lists TIED to the program's text (the seventh form; the later family's looks); each row that meets fmt, with fmt's text TOLD by the authors' own Lean function (tested against real Go, not proved from fmt's source: count such statements apart). THE CARD IS WHAT COUNTS. Prove the row's statement (the work); the ties are given (YtciijkknddnigaaDoorTie.lean); close each card by the builder's one call (the guide's Derived/Test/ToyasCard.lean, 'card_holds'). Laid BY PROGRAM, IN A SANDBOX (cutbox-door.mjs). By AI agents, Wed Nov 11 2026. No macro, syntax, notation, axiom, sorry.
-/
import Derived.Test.YtciijkknddnigaaDoorRows
import GoSem.ClaimSeven
namespace Go.Proofs.YtciijkknddnigaaDoor
namespace Rows

/-- THE TIED CARD OF 'laws.FnGreedyOf'. -/
def fnGreedyOfCard : Claim7 := { stood := { row := fnGreedyOfRow, standIns := [], harness := (true, "9a2cfbcfb507cd748e09a75a2ce23ba340110626f47855b08b015ff6b0016112"), looks := false }, kinds := [], alts := [], laidByText := true, laidKinds := [.data], laidTests := true, laidLooks := .later }
def FnGreedyOfCardSaid : Prop := Claim7.holds Tryd.pinned (.plain (OpenSpec.ofChange fnGreedyOfSpec)) fnGreedyOfCard

/-- THE TIED CARD OF 'laws.FnAllWays'. -/
def fnAllWaysCard : Claim7 := { stood := { row := fnAllWaysRow, standIns := [], harness := (true, "9a2cfbcfb507cd748e09a75a2ce23ba340110626f47855b08b015ff6b0016112"), looks := false }, kinds := [], alts := [], laidByText := true, laidKinds := [.data], laidTests := true, laidLooks := .later }
def FnAllWaysCardSaid : Prop := Claim7.holds Tryd.pinned (.plain (OpenSpec.ofChange fnAllWaysSpec)) fnAllWaysCard

/-- THE TIED CARD OF 'laws.FnFewestOf'. -/
def fnFewestOfCard : Claim7 := { stood := { row := fnFewestOfRow, standIns := [], harness := (true, "9a2cfbcfb507cd748e09a75a2ce23ba340110626f47855b08b015ff6b0016112"), looks := false }, kinds := [], alts := [], laidByText := true, laidKinds := [.data], laidTests := true, laidLooks := .later }
def FnFewestOfCardSaid : Prop := Claim7.holds Tryd.pinned (.plain (OpenSpec.ofChange fnFewestOfSpec)) fnFewestOfCard

/-- THE TIED CARD OF 'laws.FnCanGive'. -/
def fnCanGiveCard : Claim7 := { stood := { row := fnCanGiveRow, standIns := [], harness := (true, "9a2cfbcfb507cd748e09a75a2ce23ba340110626f47855b08b015ff6b0016112"), looks := false }, kinds := [], alts := [], laidByText := true, laidKinds := [.data], laidTests := true, laidLooks := .later }
def FnCanGiveCardSaid : Prop := Claim7.holds Tryd.pinned (.plain (OpenSpec.ofChange fnCanGiveSpec)) fnCanGiveCard

/-- THE TIED CARD OF 'laws.FnGivenFrom'. -/
def fnGivenFromCard : Claim7 := { stood := { row := fnGivenFromRow, standIns := [], harness := (true, "9a2cfbcfb507cd748e09a75a2ce23ba340110626f47855b08b015ff6b0016112"), looks := false }, kinds := [], alts := [], laidByText := true, laidKinds := [.data], laidTests := true, laidLooks := .later }
def FnGivenFromCardSaid : Prop := Claim7.holds Tryd.pinned (.plain (OpenSpec.ofChange fnGivenFromSpec)) fnGivenFromCard

/-- THE TIED CARD OF 'laws.FnGreedMisses'. -/
def fnGreedMissesCard : Claim7 := { stood := { row := fnGreedMissesRow, standIns := [], harness := (true, "9a2cfbcfb507cd748e09a75a2ce23ba340110626f47855b08b015ff6b0016112"), looks := false }, kinds := [], alts := [], laidByText := true, laidKinds := [.data], laidTests := true, laidLooks := .later }
def FnGreedMissesCardSaid : Prop := Claim7.holds Tryd.pinned (.plain (OpenSpec.ofChange fnGreedMissesSpec)) fnGreedMissesCard

/-- THE TIED CARD OF 'laws.FnExactGreedyOf'. -/
def fnExactGreedyOfCard : Claim7 := { stood := { row := fnExactGreedyOfRow, standIns := [], harness := (true, "9a2cfbcfb507cd748e09a75a2ce23ba340110626f47855b08b015ff6b0016112"), looks := false }, kinds := [], alts := [], laidByText := true, laidKinds := [.data], laidTests := true, laidLooks := .later }
def FnExactGreedyOfCardSaid : Prop := Claim7.holds Tryd.pinned (.plain (OpenSpec.ofChange fnExactGreedyOfSpec)) fnExactGreedyOfCard

/-- THE TIED CARD OF 'laws.FnExactAllWays'. -/
def fnExactAllWaysCard : Claim7 := { stood := { row := fnExactAllWaysRow, standIns := [], harness := (true, "9a2cfbcfb507cd748e09a75a2ce23ba340110626f47855b08b015ff6b0016112"), looks := false }, kinds := [], alts := [], laidByText := true, laidKinds := [.data], laidTests := true, laidLooks := .later }
def FnExactAllWaysCardSaid : Prop := Claim7.holds Tryd.pinned (.plain (OpenSpec.ofChange fnExactAllWaysSpec)) fnExactAllWaysCard

/-- THE TIED CARD OF 'laws.FnExactFewestOf'. -/
def fnExactFewestOfCard : Claim7 := { stood := { row := fnExactFewestOfRow, standIns := [], harness := (true, "9a2cfbcfb507cd748e09a75a2ce23ba340110626f47855b08b015ff6b0016112"), looks := false }, kinds := [], alts := [], laidByText := true, laidKinds := [.data], laidTests := true, laidLooks := .later }
def FnExactFewestOfCardSaid : Prop := Claim7.holds Tryd.pinned (.plain (OpenSpec.ofChange fnExactFewestOfSpec)) fnExactFewestOfCard

/-- THE TIED CARD OF 'laws.FnExactCanGive'. -/
def fnExactCanGiveCard : Claim7 := { stood := { row := fnExactCanGiveRow, standIns := [], harness := (true, "9a2cfbcfb507cd748e09a75a2ce23ba340110626f47855b08b015ff6b0016112"), looks := false }, kinds := [], alts := [], laidByText := true, laidKinds := [.data], laidTests := true, laidLooks := .later }
def FnExactCanGiveCardSaid : Prop := Claim7.holds Tryd.pinned (.plain (OpenSpec.ofChange fnExactCanGiveSpec)) fnExactCanGiveCard

/-- THE TIED CARD OF 'laws.FnExactGivenFrom'. -/
def fnExactGivenFromCard : Claim7 := { stood := { row := fnExactGivenFromRow, standIns := [], harness := (true, "9a2cfbcfb507cd748e09a75a2ce23ba340110626f47855b08b015ff6b0016112"), looks := false }, kinds := [], alts := [], laidByText := true, laidKinds := [.data], laidTests := true, laidLooks := .later }
def FnExactGivenFromCardSaid : Prop := Claim7.holds Tryd.pinned (.plain (OpenSpec.ofChange fnExactGivenFromSpec)) fnExactGivenFromCard

/-- THE TIED CARD OF 'laws.FnExactGreedMisses'. -/
def fnExactGreedMissesCard : Claim7 := { stood := { row := fnExactGreedMissesRow, standIns := [], harness := (true, "9a2cfbcfb507cd748e09a75a2ce23ba340110626f47855b08b015ff6b0016112"), looks := false }, kinds := [], alts := [], laidByText := true, laidKinds := [.data], laidTests := true, laidLooks := .later }
def FnExactGreedMissesCardSaid : Prop := Claim7.holds Tryd.pinned (.plain (OpenSpec.ofChange fnExactGreedMissesSpec)) fnExactGreedMissesCard

/-- THE SECOND FORM's CARD OF 'laws.FnGreedyOf'. -/
def fnGreedyOfUptoCard : Claim7 := { stood := { row := fnGreedyOfUptoRow, standIns := [], harness := (true, "9a2cfbcfb507cd748e09a75a2ce23ba340110626f47855b08b015ff6b0016112"), looks := false }, kinds := [], alts := [], laidByText := true, laidKinds := [.data], laidTests := true, laidLooks := .later }
def FnGreedyOfUptoCardSaid : Prop := Claim7.holds Tryd.pinned (.plain (OpenSpec.upto fnGreedyOfSpec)) fnGreedyOfUptoCard

/-- THE SECOND FORM's CARD OF 'laws.FnAllWays'. -/
def fnAllWaysUptoCard : Claim7 := { stood := { row := fnAllWaysUptoRow, standIns := [], harness := (true, "9a2cfbcfb507cd748e09a75a2ce23ba340110626f47855b08b015ff6b0016112"), looks := false }, kinds := [], alts := [], laidByText := true, laidKinds := [.data], laidTests := true, laidLooks := .later }
def FnAllWaysUptoCardSaid : Prop := Claim7.holds Tryd.pinned (.plain (OpenSpec.upto fnAllWaysSpec)) fnAllWaysUptoCard

/-- THE SECOND FORM's CARD OF 'laws.FnFewestOf'. -/
def fnFewestOfUptoCard : Claim7 := { stood := { row := fnFewestOfUptoRow, standIns := [], harness := (true, "9a2cfbcfb507cd748e09a75a2ce23ba340110626f47855b08b015ff6b0016112"), looks := false }, kinds := [], alts := [], laidByText := true, laidKinds := [.data], laidTests := true, laidLooks := .later }
def FnFewestOfUptoCardSaid : Prop := Claim7.holds Tryd.pinned (.plain (OpenSpec.upto fnFewestOfSpec)) fnFewestOfUptoCard

/-- THE SECOND FORM's CARD OF 'laws.FnCanGive'. -/
def fnCanGiveUptoCard : Claim7 := { stood := { row := fnCanGiveUptoRow, standIns := [], harness := (true, "9a2cfbcfb507cd748e09a75a2ce23ba340110626f47855b08b015ff6b0016112"), looks := false }, kinds := [], alts := [], laidByText := true, laidKinds := [.data], laidTests := true, laidLooks := .later }
def FnCanGiveUptoCardSaid : Prop := Claim7.holds Tryd.pinned (.plain (OpenSpec.upto fnCanGiveSpec)) fnCanGiveUptoCard

/-- THE SECOND FORM's CARD OF 'laws.FnGivenFrom'. -/
def fnGivenFromUptoCard : Claim7 := { stood := { row := fnGivenFromUptoRow, standIns := [], harness := (true, "9a2cfbcfb507cd748e09a75a2ce23ba340110626f47855b08b015ff6b0016112"), looks := false }, kinds := [], alts := [], laidByText := true, laidKinds := [.data], laidTests := true, laidLooks := .later }
def FnGivenFromUptoCardSaid : Prop := Claim7.holds Tryd.pinned (.plain (OpenSpec.upto fnGivenFromSpec)) fnGivenFromUptoCard

/-- THE SECOND FORM's CARD OF 'laws.FnGreedMisses'. -/
def fnGreedMissesUptoCard : Claim7 := { stood := { row := fnGreedMissesUptoRow, standIns := [], harness := (true, "9a2cfbcfb507cd748e09a75a2ce23ba340110626f47855b08b015ff6b0016112"), looks := false }, kinds := [], alts := [], laidByText := true, laidKinds := [.data], laidTests := true, laidLooks := .later }
def FnGreedMissesUptoCardSaid : Prop := Claim7.holds Tryd.pinned (.plain (OpenSpec.upto fnGreedMissesSpec)) fnGreedMissesUptoCard

/-- THE SECOND FORM's CARD OF 'laws.FnExactGreedyOf'. -/
def fnExactGreedyOfUptoCard : Claim7 := { stood := { row := fnExactGreedyOfUptoRow, standIns := [], harness := (true, "9a2cfbcfb507cd748e09a75a2ce23ba340110626f47855b08b015ff6b0016112"), looks := false }, kinds := [], alts := [], laidByText := true, laidKinds := [.data], laidTests := true, laidLooks := .later }
def FnExactGreedyOfUptoCardSaid : Prop := Claim7.holds Tryd.pinned (.plain (OpenSpec.upto fnExactGreedyOfSpec)) fnExactGreedyOfUptoCard

/-- THE SECOND FORM's CARD OF 'laws.FnExactAllWays'. -/
def fnExactAllWaysUptoCard : Claim7 := { stood := { row := fnExactAllWaysUptoRow, standIns := [], harness := (true, "9a2cfbcfb507cd748e09a75a2ce23ba340110626f47855b08b015ff6b0016112"), looks := false }, kinds := [], alts := [], laidByText := true, laidKinds := [.data], laidTests := true, laidLooks := .later }
def FnExactAllWaysUptoCardSaid : Prop := Claim7.holds Tryd.pinned (.plain (OpenSpec.upto fnExactAllWaysSpec)) fnExactAllWaysUptoCard

/-- THE SECOND FORM's CARD OF 'laws.FnExactFewestOf'. -/
def fnExactFewestOfUptoCard : Claim7 := { stood := { row := fnExactFewestOfUptoRow, standIns := [], harness := (true, "9a2cfbcfb507cd748e09a75a2ce23ba340110626f47855b08b015ff6b0016112"), looks := false }, kinds := [], alts := [], laidByText := true, laidKinds := [.data], laidTests := true, laidLooks := .later }
def FnExactFewestOfUptoCardSaid : Prop := Claim7.holds Tryd.pinned (.plain (OpenSpec.upto fnExactFewestOfSpec)) fnExactFewestOfUptoCard

/-- THE SECOND FORM's CARD OF 'laws.FnExactCanGive'. -/
def fnExactCanGiveUptoCard : Claim7 := { stood := { row := fnExactCanGiveUptoRow, standIns := [], harness := (true, "9a2cfbcfb507cd748e09a75a2ce23ba340110626f47855b08b015ff6b0016112"), looks := false }, kinds := [], alts := [], laidByText := true, laidKinds := [.data], laidTests := true, laidLooks := .later }
def FnExactCanGiveUptoCardSaid : Prop := Claim7.holds Tryd.pinned (.plain (OpenSpec.upto fnExactCanGiveSpec)) fnExactCanGiveUptoCard

/-- THE SECOND FORM's CARD OF 'laws.FnExactGivenFrom'. -/
def fnExactGivenFromUptoCard : Claim7 := { stood := { row := fnExactGivenFromUptoRow, standIns := [], harness := (true, "9a2cfbcfb507cd748e09a75a2ce23ba340110626f47855b08b015ff6b0016112"), looks := false }, kinds := [], alts := [], laidByText := true, laidKinds := [.data], laidTests := true, laidLooks := .later }
def FnExactGivenFromUptoCardSaid : Prop := Claim7.holds Tryd.pinned (.plain (OpenSpec.upto fnExactGivenFromSpec)) fnExactGivenFromUptoCard

/-- THE SECOND FORM's CARD OF 'laws.FnExactGreedMisses'. -/
def fnExactGreedMissesUptoCard : Claim7 := { stood := { row := fnExactGreedMissesUptoRow, standIns := [], harness := (true, "9a2cfbcfb507cd748e09a75a2ce23ba340110626f47855b08b015ff6b0016112"), looks := false }, kinds := [], alts := [], laidByText := true, laidKinds := [.data], laidTests := true, laidLooks := .later }
def FnExactGreedMissesUptoCardSaid : Prop := Claim7.holds Tryd.pinned (.plain (OpenSpec.upto fnExactGreedMissesSpec)) fnExactGreedMissesUptoCard
end Rows
end Go.Proofs.YtciijkknddnigaaDoor

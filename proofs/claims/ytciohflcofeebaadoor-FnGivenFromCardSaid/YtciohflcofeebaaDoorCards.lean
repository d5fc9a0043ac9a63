/-
  DERIVED. GIVEN WITH THE SEED: THE CARDS: each row of YtciohflcofeebaaDoorRows.lean that lists a variable, with what it lists TIED to the program's text (the seventh form; the later family's looks); each row that meets fmt, with fmt's text TOLD by the authors' own Lean function (tested against real Go, not proved from fmt's source: count such statements apart). THE CARD IS WHAT COUNTS. Prove the row's statement (the work); the ties are given (YtciohflcofeebaaDoorTie.lean); close each card by the builder's one call (the guide's Derived/Test/ToyasCard.lean, 'card_holds'). Laid BY PROGRAM, IN A SANDBOX (cutbox-door.mjs). By AI agents, Wed Nov 11 2026. No macro, syntax, notation, axiom, sorry.
-/
import Derived.Test.YtciohflcofeebaaDoorRows
import GoSem.ClaimSeven
namespace Go.Proofs.YtciohflcofeebaaDoor
namespace Rows

/-- THE TIED CARD OF 'laws.FnFewestOf'. -/
def fnFewestOfCard : Claim7 := { stood := { row := fnFewestOfRow, standIns := [], harness := (true, "87e03524bb25fcace0550728d67755e17a7cfc28cd6e243e22e6d82519375a38"), looks := false }, kinds := [], alts := [], laidByText := true, laidKinds := [.data], laidTests := true, laidLooks := .later }
def FnFewestOfCardSaid : Prop := Claim7.holds Tryd.pinned (.plain (OpenSpec.ofChange fnFewestOfSpec)) fnFewestOfCard

/-- THE TIED CARD OF 'laws.FnCanGive'. -/
def fnCanGiveCard : Claim7 := { stood := { row := fnCanGiveRow, standIns := [], harness := (true, "87e03524bb25fcace0550728d67755e17a7cfc28cd6e243e22e6d82519375a38"), looks := false }, kinds := [], alts := [], laidByText := true, laidKinds := [.data], laidTests := true, laidLooks := .later }
def FnCanGiveCardSaid : Prop := Claim7.holds Tryd.pinned (.plain (OpenSpec.ofChange fnCanGiveSpec)) fnCanGiveCard

/-- THE TIED CARD OF 'laws.FnGivenFrom'. -/
def fnGivenFromCard : Claim7 := { stood := { row := fnGivenFromRow, standIns := [], harness := (true, "87e03524bb25fcace0550728d67755e17a7cfc28cd6e243e22e6d82519375a38"), looks := false }, kinds := [], alts := [], laidByText := true, laidKinds := [.data], laidTests := true, laidLooks := .later }
def FnGivenFromCardSaid : Prop := Claim7.holds Tryd.pinned (.plain (OpenSpec.ofChange fnGivenFromSpec)) fnGivenFromCard

/-- THE TIED CARD OF 'laws.FnGreedMisses'. -/
def fnGreedMissesCard : Claim7 := { stood := { row := fnGreedMissesRow, standIns := [], harness := (true, "87e03524bb25fcace0550728d67755e17a7cfc28cd6e243e22e6d82519375a38"), looks := false }, kinds := [], alts := [], laidByText := true, laidKinds := [.data], laidTests := true, laidLooks := .later }
def FnGreedMissesCardSaid : Prop := Claim7.holds Tryd.pinned (.plain (OpenSpec.ofChange fnGreedMissesSpec)) fnGreedMissesCard

/-- THE TIED CARD OF 'laws.FnExactFewestOf'. -/
def fnExactFewestOfCard : Claim7 := { stood := { row := fnExactFewestOfRow, standIns := [], harness := (true, "87e03524bb25fcace0550728d67755e17a7cfc28cd6e243e22e6d82519375a38"), looks := false }, kinds := [], alts := [], laidByText := true, laidKinds := [.data], laidTests := true, laidLooks := .later }
def FnExactFewestOfCardSaid : Prop := Claim7.holds Tryd.pinned (.plain (OpenSpec.ofChange fnExactFewestOfSpec)) fnExactFewestOfCard

/-- THE TIED CARD OF 'laws.FnExactCanGive'. -/
def fnExactCanGiveCard : Claim7 := { stood := { row := fnExactCanGiveRow, standIns := [], harness := (true, "87e03524bb25fcace0550728d67755e17a7cfc28cd6e243e22e6d82519375a38"), looks := false }, kinds := [], alts := [], laidByText := true, laidKinds := [.data], laidTests := true, laidLooks := .later }
def FnExactCanGiveCardSaid : Prop := Claim7.holds Tryd.pinned (.plain (OpenSpec.ofChange fnExactCanGiveSpec)) fnExactCanGiveCard

/-- THE SECOND FORM's CARD OF 'laws.FnFewestOf'. -/
def fnFewestOfUptoCard : Claim7 := { stood := { row := fnFewestOfUptoRow, standIns := [], harness := (true, "87e03524bb25fcace0550728d67755e17a7cfc28cd6e243e22e6d82519375a38"), looks := false }, kinds := [], alts := [], laidByText := true, laidKinds := [.data], laidTests := true, laidLooks := .later }
def FnFewestOfUptoCardSaid : Prop := Claim7.holds Tryd.pinned (.plain (OpenSpec.upto fnFewestOfSpec)) fnFewestOfUptoCard

/-- THE SECOND FORM's CARD OF 'laws.FnCanGive'. -/
def fnCanGiveUptoCard : Claim7 := { stood := { row := fnCanGiveUptoRow, standIns := [], harness := (true, "87e03524bb25fcace0550728d67755e17a7cfc28cd6e243e22e6d82519375a38"), looks := false }, kinds := [], alts := [], laidByText := true, laidKinds := [.data], laidTests := true, laidLooks := .later }
def FnCanGiveUptoCardSaid : Prop := Claim7.holds Tryd.pinned (.plain (OpenSpec.upto fnCanGiveSpec)) fnCanGiveUptoCard

/-- THE SECOND FORM's CARD OF 'laws.FnGivenFrom'. -/
def fnGivenFromUptoCard : Claim7 := { stood := { row := fnGivenFromUptoRow, standIns := [], harness := (true, "87e03524bb25fcace0550728d67755e17a7cfc28cd6e243e22e6d82519375a38"), looks := false }, kinds := [], alts := [], laidByText := true, laidKinds := [.data], laidTests := true, laidLooks := .later }
def FnGivenFromUptoCardSaid : Prop := Claim7.holds Tryd.pinned (.plain (OpenSpec.upto fnGivenFromSpec)) fnGivenFromUptoCard

/-- THE SECOND FORM's CARD OF 'laws.FnGreedMisses'. -/
def fnGreedMissesUptoCard : Claim7 := { stood := { row := fnGreedMissesUptoRow, standIns := [], harness := (true, "87e03524bb25fcace0550728d67755e17a7cfc28cd6e243e22e6d82519375a38"), looks := false }, kinds := [], alts := [], laidByText := true, laidKinds := [.data], laidTests := true, laidLooks := .later }
def FnGreedMissesUptoCardSaid : Prop := Claim7.holds Tryd.pinned (.plain (OpenSpec.upto fnGreedMissesSpec)) fnGreedMissesUptoCard

/-- THE SECOND FORM's CARD OF 'laws.FnExactFewestOf'. -/
def fnExactFewestOfUptoCard : Claim7 := { stood := { row := fnExactFewestOfUptoRow, standIns := [], harness := (true, "87e03524bb25fcace0550728d67755e17a7cfc28cd6e243e22e6d82519375a38"), looks := false }, kinds := [], alts := [], laidByText := true, laidKinds := [.data], laidTests := true, laidLooks := .later }
def FnExactFewestOfUptoCardSaid : Prop := Claim7.holds Tryd.pinned (.plain (OpenSpec.upto fnExactFewestOfSpec)) fnExactFewestOfUptoCard

/-- THE SECOND FORM's CARD OF 'laws.FnExactCanGive'. -/
def fnExactCanGiveUptoCard : Claim7 := { stood := { row := fnExactCanGiveUptoRow, standIns := [], harness := (true, "87e03524bb25fcace0550728d67755e17a7cfc28cd6e243e22e6d82519375a38"), looks := false }, kinds := [], alts := [], laidByText := true, laidKinds := [.data], laidTests := true, laidLooks := .later }
def FnExactCanGiveUptoCardSaid : Prop := Claim7.holds Tryd.pinned (.plain (OpenSpec.upto fnExactCanGiveSpec)) fnExactCanGiveUptoCard
end Rows
end Go.Proofs.YtciohflcofeebaaDoor

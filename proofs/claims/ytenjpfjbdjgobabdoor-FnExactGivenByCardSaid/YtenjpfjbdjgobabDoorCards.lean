/-
  DERIVED. GIVEN WITH THE SEED: THE CARDS: each row of YtenjpfjbdjgobabDoorRows.lean that lists a variable, with what it lists TIED to the program's text (the seventh form; the later family's looks); each row that meets fmt, with fmt's text TOLD by the authors' own Lean function (tested against real Go, not proved from fmt's source: count such statements apart). THE CARD IS WHAT COUNTS. Prove the row's statement (the work); the ties are given (YtenjpfjbdjgobabDoorTie.lean); close each card by the builder's one call (the guide's Derived/Test/ToyasCard.lean, 'card_holds'). Laid BY PROGRAM, IN A SANDBOX (cutbox-door.mjs). By AI agents, Wed Nov 11 2026. No macro, syntax, notation, axiom, sorry.
-/
import Derived.Test.YtenjpfjbdjgobabDoorRows
import GoSem.ClaimSeven
namespace Go.Proofs.YtenjpfjbdjgobabDoor
namespace Rows

/-- THE TIED CARD OF 'laws.FnExactPutInBy'. -/
def fnExactPutInByCard : Claim7 := { stood := { row := fnExactPutInByRow, standIns := [], harness := (true, "6b2f9b7d9e971125c9e0824250d1ec8e67ba6d4361701f7a433e4b5388056437"), looks := false }, kinds := [], alts := [], laidByText := true, laidKinds := [.data], laidTests := true, laidLooks := .later }
def FnExactPutInByCardSaid : Prop := Claim7.holds Tryd.pinned (.plain (OpenSpec.ofChange fnExactPutInBySpec)) fnExactPutInByCard

/-- THE TIED CARD OF 'laws.FnExactGivenBy'. -/
def fnExactGivenByCard : Claim7 := { stood := { row := fnExactGivenByRow, standIns := [], harness := (true, "6b2f9b7d9e971125c9e0824250d1ec8e67ba6d4361701f7a433e4b5388056437"), looks := false }, kinds := [], alts := [], laidByText := true, laidKinds := [.data], laidTests := true, laidLooks := .later }
def FnExactGivenByCardSaid : Prop := Claim7.holds Tryd.pinned (.plain (OpenSpec.ofChange fnExactGivenBySpec)) fnExactGivenByCard

/-- THE SECOND FORM's CARD OF 'laws.FnExactPutInBy'. -/
def fnExactPutInByUptoCard : Claim7 := { stood := { row := fnExactPutInByUptoRow, standIns := [], harness := (true, "6b2f9b7d9e971125c9e0824250d1ec8e67ba6d4361701f7a433e4b5388056437"), looks := false }, kinds := [], alts := [], laidByText := true, laidKinds := [.data], laidTests := true, laidLooks := .later }
def FnExactPutInByUptoCardSaid : Prop := Claim7.holds Tryd.pinned (.plain (OpenSpec.upto fnExactPutInBySpec)) fnExactPutInByUptoCard

/-- THE SECOND FORM's CARD OF 'laws.FnExactGivenBy'. -/
def fnExactGivenByUptoCard : Claim7 := { stood := { row := fnExactGivenByUptoRow, standIns := [], harness := (true, "6b2f9b7d9e971125c9e0824250d1ec8e67ba6d4361701f7a433e4b5388056437"), looks := false }, kinds := [], alts := [], laidByText := true, laidKinds := [.data], laidTests := true, laidLooks := .later }
def FnExactGivenByUptoCardSaid : Prop := Claim7.holds Tryd.pinned (.plain (OpenSpec.upto fnExactGivenBySpec)) fnExactGivenByUptoCard
end Rows
end Go.Proofs.YtenjpfjbdjgobabDoor

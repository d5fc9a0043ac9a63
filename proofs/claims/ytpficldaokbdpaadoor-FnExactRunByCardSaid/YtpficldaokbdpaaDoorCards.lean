/-
  DERIVED. GIVEN WITH THE SEED: THE CARDS: each row of YtpficldaokbdpaaDoorRows.lean that lists a variable, with what it lists TIED to the program's text (the seventh form; the later family's looks); each row that meets fmt, with fmt's text TOLD by the authors' own Lean function (tested against real Go, not proved from fmt's source: count such statements apart). THE CARD IS WHAT COUNTS. Prove the row's statement (the work); the ties are given (YtpficldaokbdpaaDoorTie.lean); close each card by the builder's one call (the guide's Derived/Test/ToyasCard.lean, 'card_holds'). Laid BY PROGRAM, IN A SANDBOX (cutbox-door.mjs). By AI agents, Wed Nov 11 2026. No macro, syntax, notation, axiom, sorry.
-/
import Derived.Test.YtpficldaokbdpaaDoorRows
import GoSem.ClaimSeven
namespace Go.Proofs.YtpficldaokbdpaaDoor
namespace Rows

/-- THE TIED CARD OF 'laws.FnActed'. -/
def fnActedCard : Claim7 := { stood := { row := fnActedRow, standIns := [], harness := (true, "6bf1a9bbe6cc77eedd3cc2acfebae2c403b166f5eb7b9ba8eb727216ef3f6253"), looks := true }, kinds := [], alts := [], laidByText := true, laidKinds := [.data], laidTests := true, laidLooks := .later }
def FnActedCardSaid : Prop := Claim7.holds Tryd.pinned (.plain (OpenSpec.ofChange fnActedSpec)) fnActedCard

/-- THE TIED CARD OF 'laws.FnMoneyIn'. -/
def fnMoneyInCard : Claim7 := { stood := { row := fnMoneyInRow, standIns := [], harness := (true, "6bf1a9bbe6cc77eedd3cc2acfebae2c403b166f5eb7b9ba8eb727216ef3f6253"), looks := true }, kinds := [], alts := [], laidByText := true, laidKinds := [.data], laidTests := true, laidLooks := .later }
def FnMoneyInCardSaid : Prop := Claim7.holds Tryd.pinned (.plain (OpenSpec.ofChange fnMoneyInSpec)) fnMoneyInCard

/-- THE TIED CARD OF 'laws.FnCanPick'. -/
def fnCanPickCard : Claim7 := { stood := { row := fnCanPickRow, standIns := [], harness := (true, "6bf1a9bbe6cc77eedd3cc2acfebae2c403b166f5eb7b9ba8eb727216ef3f6253"), looks := true }, kinds := [], alts := [], laidByText := true, laidKinds := [.data], laidTests := true, laidLooks := .later }
def FnCanPickCardSaid : Prop := Claim7.holds Tryd.pinned (.plain (OpenSpec.ofChange fnCanPickSpec)) fnCanPickCard

/-- THE TIED CARD OF 'laws.FnRunOf'. -/
def fnRunOfCard : Claim7 := { stood := { row := fnRunOfRow, standIns := [], harness := (true, "6bf1a9bbe6cc77eedd3cc2acfebae2c403b166f5eb7b9ba8eb727216ef3f6253"), looks := true }, kinds := [], alts := [], laidByText := true, laidKinds := [.data], laidTests := true, laidLooks := .later }
def FnRunOfCardSaid : Prop := Claim7.holds Tryd.pinned (.plain (OpenSpec.ofChange fnRunOfSpec)) fnRunOfCard

/-- THE TIED CARD OF 'laws.FnSoldBy'. -/
def fnSoldByCard : Claim7 := { stood := { row := fnSoldByRow, standIns := [], harness := (true, "6bf1a9bbe6cc77eedd3cc2acfebae2c403b166f5eb7b9ba8eb727216ef3f6253"), looks := true }, kinds := [], alts := [], laidByText := true, laidKinds := [.data], laidTests := true, laidLooks := .later }
def FnSoldByCardSaid : Prop := Claim7.holds Tryd.pinned (.plain (OpenSpec.ofChange fnSoldBySpec)) fnSoldByCard

/-- THE TIED CARD OF 'laws.FnCoinsPut'. -/
def fnCoinsPutCard : Claim7 := { stood := { row := fnCoinsPutRow, standIns := [], harness := (true, "6bf1a9bbe6cc77eedd3cc2acfebae2c403b166f5eb7b9ba8eb727216ef3f6253"), looks := true }, kinds := [], alts := [], laidByText := true, laidKinds := [.data], laidTests := true, laidLooks := .later }
def FnCoinsPutCardSaid : Prop := Claim7.holds Tryd.pinned (.plain (OpenSpec.ofChange fnCoinsPutSpec)) fnCoinsPutCard

/-- THE TIED CARD OF 'laws.FnExactActed'. -/
def fnExactActedCard : Claim7 := { stood := { row := fnExactActedRow, standIns := [], harness := (true, "6bf1a9bbe6cc77eedd3cc2acfebae2c403b166f5eb7b9ba8eb727216ef3f6253"), looks := true }, kinds := [], alts := [], laidByText := true, laidKinds := [.data], laidTests := true, laidLooks := .later }
def FnExactActedCardSaid : Prop := Claim7.holds Tryd.pinned (.plain (OpenSpec.ofChange fnExactActedSpec)) fnExactActedCard

/-- THE TIED CARD OF 'laws.FnExactCanPick'. -/
def fnExactCanPickCard : Claim7 := { stood := { row := fnExactCanPickRow, standIns := [], harness := (true, "6bf1a9bbe6cc77eedd3cc2acfebae2c403b166f5eb7b9ba8eb727216ef3f6253"), looks := true }, kinds := [], alts := [], laidByText := true, laidKinds := [.data], laidTests := true, laidLooks := .later }
def FnExactCanPickCardSaid : Prop := Claim7.holds Tryd.pinned (.plain (OpenSpec.ofChange fnExactCanPickSpec)) fnExactCanPickCard

/-- THE TIED CARD OF 'laws.FnExactRunOf'. -/
def fnExactRunOfCard : Claim7 := { stood := { row := fnExactRunOfRow, standIns := [], harness := (true, "6bf1a9bbe6cc77eedd3cc2acfebae2c403b166f5eb7b9ba8eb727216ef3f6253"), looks := true }, kinds := [], alts := [], laidByText := true, laidKinds := [.data], laidTests := true, laidLooks := .later }
def FnExactRunOfCardSaid : Prop := Claim7.holds Tryd.pinned (.plain (OpenSpec.ofChange fnExactRunOfSpec)) fnExactRunOfCard

/-- THE TIED CARD OF 'laws.FnActedBy'. -/
def fnActedByCard : Claim7 := { stood := { row := fnActedByRow, standIns := [], harness := (true, "6bf1a9bbe6cc77eedd3cc2acfebae2c403b166f5eb7b9ba8eb727216ef3f6253"), looks := true }, kinds := [], alts := [], laidByText := true, laidKinds := [.data], laidTests := true, laidLooks := .later }
def FnActedByCardSaid : Prop := Claim7.holds Tryd.pinned (.plain (OpenSpec.ofChange fnActedBySpec)) fnActedByCard

/-- THE TIED CARD OF 'laws.FnRunBy'. -/
def fnRunByCard : Claim7 := { stood := { row := fnRunByRow, standIns := [], harness := (true, "6bf1a9bbe6cc77eedd3cc2acfebae2c403b166f5eb7b9ba8eb727216ef3f6253"), looks := true }, kinds := [], alts := [], laidByText := true, laidKinds := [.data], laidTests := true, laidLooks := .later }
def FnRunByCardSaid : Prop := Claim7.holds Tryd.pinned (.plain (OpenSpec.ofChange fnRunBySpec)) fnRunByCard

/-- THE TIED CARD OF 'laws.FnPicksBy'. -/
def fnPicksByCard : Claim7 := { stood := { row := fnPicksByRow, standIns := [], harness := (true, "6bf1a9bbe6cc77eedd3cc2acfebae2c403b166f5eb7b9ba8eb727216ef3f6253"), looks := true }, kinds := [], alts := [], laidByText := true, laidKinds := [.data], laidTests := true, laidLooks := .later }
def FnPicksByCardSaid : Prop := Claim7.holds Tryd.pinned (.plain (OpenSpec.ofChange fnPicksBySpec)) fnPicksByCard

/-- THE TIED CARD OF 'laws.FnExactActedBy'. -/
def fnExactActedByCard : Claim7 := { stood := { row := fnExactActedByRow, standIns := [], harness := (true, "6bf1a9bbe6cc77eedd3cc2acfebae2c403b166f5eb7b9ba8eb727216ef3f6253"), looks := true }, kinds := [], alts := [], laidByText := true, laidKinds := [.data], laidTests := true, laidLooks := .later }
def FnExactActedByCardSaid : Prop := Claim7.holds Tryd.pinned (.plain (OpenSpec.ofChange fnExactActedBySpec)) fnExactActedByCard

/-- THE TIED CARD OF 'laws.FnExactRunBy'. -/
def fnExactRunByCard : Claim7 := { stood := { row := fnExactRunByRow, standIns := [], harness := (true, "6bf1a9bbe6cc77eedd3cc2acfebae2c403b166f5eb7b9ba8eb727216ef3f6253"), looks := true }, kinds := [], alts := [], laidByText := true, laidKinds := [.data], laidTests := true, laidLooks := .later }
def FnExactRunByCardSaid : Prop := Claim7.holds Tryd.pinned (.plain (OpenSpec.ofChange fnExactRunBySpec)) fnExactRunByCard

/-- THE TIED CARD OF 'laws.FnExactPicksBy'. -/
def fnExactPicksByCard : Claim7 := { stood := { row := fnExactPicksByRow, standIns := [], harness := (true, "6bf1a9bbe6cc77eedd3cc2acfebae2c403b166f5eb7b9ba8eb727216ef3f6253"), looks := true }, kinds := [], alts := [], laidByText := true, laidKinds := [.data], laidTests := true, laidLooks := .later }
def FnExactPicksByCardSaid : Prop := Claim7.holds Tryd.pinned (.plain (OpenSpec.ofChange fnExactPicksBySpec)) fnExactPicksByCard

/-- THE SECOND FORM's CARD OF 'laws.FnActed'. -/
def fnActedUptoCard : Claim7 := { stood := { row := fnActedUptoRow, standIns := [], harness := (true, "6bf1a9bbe6cc77eedd3cc2acfebae2c403b166f5eb7b9ba8eb727216ef3f6253"), looks := true }, kinds := [], alts := [], laidByText := true, laidKinds := [.data], laidTests := true, laidLooks := .later }
def FnActedUptoCardSaid : Prop := Claim7.holds Tryd.pinned (.plain (OpenSpec.upto fnActedSpec)) fnActedUptoCard

/-- THE SECOND FORM's CARD OF 'laws.FnMoneyIn'. -/
def fnMoneyInUptoCard : Claim7 := { stood := { row := fnMoneyInUptoRow, standIns := [], harness := (true, "6bf1a9bbe6cc77eedd3cc2acfebae2c403b166f5eb7b9ba8eb727216ef3f6253"), looks := true }, kinds := [], alts := [], laidByText := true, laidKinds := [.data], laidTests := true, laidLooks := .later }
def FnMoneyInUptoCardSaid : Prop := Claim7.holds Tryd.pinned (.plain (OpenSpec.upto fnMoneyInSpec)) fnMoneyInUptoCard

/-- THE SECOND FORM's CARD OF 'laws.FnCanPick'. -/
def fnCanPickUptoCard : Claim7 := { stood := { row := fnCanPickUptoRow, standIns := [], harness := (true, "6bf1a9bbe6cc77eedd3cc2acfebae2c403b166f5eb7b9ba8eb727216ef3f6253"), looks := true }, kinds := [], alts := [], laidByText := true, laidKinds := [.data], laidTests := true, laidLooks := .later }
def FnCanPickUptoCardSaid : Prop := Claim7.holds Tryd.pinned (.plain (OpenSpec.upto fnCanPickSpec)) fnCanPickUptoCard

/-- THE SECOND FORM's CARD OF 'laws.FnRunOf'. -/
def fnRunOfUptoCard : Claim7 := { stood := { row := fnRunOfUptoRow, standIns := [], harness := (true, "6bf1a9bbe6cc77eedd3cc2acfebae2c403b166f5eb7b9ba8eb727216ef3f6253"), looks := true }, kinds := [], alts := [], laidByText := true, laidKinds := [.data], laidTests := true, laidLooks := .later }
def FnRunOfUptoCardSaid : Prop := Claim7.holds Tryd.pinned (.plain (OpenSpec.upto fnRunOfSpec)) fnRunOfUptoCard

/-- THE SECOND FORM's CARD OF 'laws.FnSoldBy'. -/
def fnSoldByUptoCard : Claim7 := { stood := { row := fnSoldByUptoRow, standIns := [], harness := (true, "6bf1a9bbe6cc77eedd3cc2acfebae2c403b166f5eb7b9ba8eb727216ef3f6253"), looks := true }, kinds := [], alts := [], laidByText := true, laidKinds := [.data], laidTests := true, laidLooks := .later }
def FnSoldByUptoCardSaid : Prop := Claim7.holds Tryd.pinned (.plain (OpenSpec.upto fnSoldBySpec)) fnSoldByUptoCard

/-- THE SECOND FORM's CARD OF 'laws.FnCoinsPut'. -/
def fnCoinsPutUptoCard : Claim7 := { stood := { row := fnCoinsPutUptoRow, standIns := [], harness := (true, "6bf1a9bbe6cc77eedd3cc2acfebae2c403b166f5eb7b9ba8eb727216ef3f6253"), looks := true }, kinds := [], alts := [], laidByText := true, laidKinds := [.data], laidTests := true, laidLooks := .later }
def FnCoinsPutUptoCardSaid : Prop := Claim7.holds Tryd.pinned (.plain (OpenSpec.upto fnCoinsPutSpec)) fnCoinsPutUptoCard

/-- THE SECOND FORM's CARD OF 'laws.FnExactActed'. -/
def fnExactActedUptoCard : Claim7 := { stood := { row := fnExactActedUptoRow, standIns := [], harness := (true, "6bf1a9bbe6cc77eedd3cc2acfebae2c403b166f5eb7b9ba8eb727216ef3f6253"), looks := true }, kinds := [], alts := [], laidByText := true, laidKinds := [.data], laidTests := true, laidLooks := .later }
def FnExactActedUptoCardSaid : Prop := Claim7.holds Tryd.pinned (.plain (OpenSpec.upto fnExactActedSpec)) fnExactActedUptoCard

/-- THE SECOND FORM's CARD OF 'laws.FnExactCanPick'. -/
def fnExactCanPickUptoCard : Claim7 := { stood := { row := fnExactCanPickUptoRow, standIns := [], harness := (true, "6bf1a9bbe6cc77eedd3cc2acfebae2c403b166f5eb7b9ba8eb727216ef3f6253"), looks := true }, kinds := [], alts := [], laidByText := true, laidKinds := [.data], laidTests := true, laidLooks := .later }
def FnExactCanPickUptoCardSaid : Prop := Claim7.holds Tryd.pinned (.plain (OpenSpec.upto fnExactCanPickSpec)) fnExactCanPickUptoCard

/-- THE SECOND FORM's CARD OF 'laws.FnExactRunOf'. -/
def fnExactRunOfUptoCard : Claim7 := { stood := { row := fnExactRunOfUptoRow, standIns := [], harness := (true, "6bf1a9bbe6cc77eedd3cc2acfebae2c403b166f5eb7b9ba8eb727216ef3f6253"), looks := true }, kinds := [], alts := [], laidByText := true, laidKinds := [.data], laidTests := true, laidLooks := .later }
def FnExactRunOfUptoCardSaid : Prop := Claim7.holds Tryd.pinned (.plain (OpenSpec.upto fnExactRunOfSpec)) fnExactRunOfUptoCard

/-- THE SECOND FORM's CARD OF 'laws.FnActedBy'. -/
def fnActedByUptoCard : Claim7 := { stood := { row := fnActedByUptoRow, standIns := [], harness := (true, "6bf1a9bbe6cc77eedd3cc2acfebae2c403b166f5eb7b9ba8eb727216ef3f6253"), looks := true }, kinds := [], alts := [], laidByText := true, laidKinds := [.data], laidTests := true, laidLooks := .later }
def FnActedByUptoCardSaid : Prop := Claim7.holds Tryd.pinned (.plain (OpenSpec.upto fnActedBySpec)) fnActedByUptoCard

/-- THE SECOND FORM's CARD OF 'laws.FnRunBy'. -/
def fnRunByUptoCard : Claim7 := { stood := { row := fnRunByUptoRow, standIns := [], harness := (true, "6bf1a9bbe6cc77eedd3cc2acfebae2c403b166f5eb7b9ba8eb727216ef3f6253"), looks := true }, kinds := [], alts := [], laidByText := true, laidKinds := [.data], laidTests := true, laidLooks := .later }
def FnRunByUptoCardSaid : Prop := Claim7.holds Tryd.pinned (.plain (OpenSpec.upto fnRunBySpec)) fnRunByUptoCard

/-- THE SECOND FORM's CARD OF 'laws.FnPicksBy'. -/
def fnPicksByUptoCard : Claim7 := { stood := { row := fnPicksByUptoRow, standIns := [], harness := (true, "6bf1a9bbe6cc77eedd3cc2acfebae2c403b166f5eb7b9ba8eb727216ef3f6253"), looks := true }, kinds := [], alts := [], laidByText := true, laidKinds := [.data], laidTests := true, laidLooks := .later }
def FnPicksByUptoCardSaid : Prop := Claim7.holds Tryd.pinned (.plain (OpenSpec.upto fnPicksBySpec)) fnPicksByUptoCard

/-- THE SECOND FORM's CARD OF 'laws.FnExactActedBy'. -/
def fnExactActedByUptoCard : Claim7 := { stood := { row := fnExactActedByUptoRow, standIns := [], harness := (true, "6bf1a9bbe6cc77eedd3cc2acfebae2c403b166f5eb7b9ba8eb727216ef3f6253"), looks := true }, kinds := [], alts := [], laidByText := true, laidKinds := [.data], laidTests := true, laidLooks := .later }
def FnExactActedByUptoCardSaid : Prop := Claim7.holds Tryd.pinned (.plain (OpenSpec.upto fnExactActedBySpec)) fnExactActedByUptoCard

/-- THE SECOND FORM's CARD OF 'laws.FnExactRunBy'. -/
def fnExactRunByUptoCard : Claim7 := { stood := { row := fnExactRunByUptoRow, standIns := [], harness := (true, "6bf1a9bbe6cc77eedd3cc2acfebae2c403b166f5eb7b9ba8eb727216ef3f6253"), looks := true }, kinds := [], alts := [], laidByText := true, laidKinds := [.data], laidTests := true, laidLooks := .later }
def FnExactRunByUptoCardSaid : Prop := Claim7.holds Tryd.pinned (.plain (OpenSpec.upto fnExactRunBySpec)) fnExactRunByUptoCard

/-- THE SECOND FORM's CARD OF 'laws.FnExactPicksBy'. -/
def fnExactPicksByUptoCard : Claim7 := { stood := { row := fnExactPicksByUptoRow, standIns := [], harness := (true, "6bf1a9bbe6cc77eedd3cc2acfebae2c403b166f5eb7b9ba8eb727216ef3f6253"), looks := true }, kinds := [], alts := [], laidByText := true, laidKinds := [.data], laidTests := true, laidLooks := .later }
def FnExactPicksByUptoCardSaid : Prop := Claim7.holds Tryd.pinned (.plain (OpenSpec.upto fnExactPicksBySpec)) fnExactPicksByUptoCard
end Rows
end Go.Proofs.YtpficldaokbdpaaDoor

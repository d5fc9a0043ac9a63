/-
  No cell of these rows narrows 'for every input' (looked for: loops, veiled, ifaces, maps, wideKeys, modest, calm, conditions, laid).
  DERIVED. THE GIVEN ROWS OF THIS SEAT. 7 by the template 'for every input the law returns true; each argument reads behind the call as it read before'; 0 by the template 'total and deterministic' (their statements: YtemhikgdbmmnjaaTotals.lean).
  GIVEN WITH THE SEED: the statements are not yours to turn. If you find one false, say at which input.
  Laid BY PROGRAM, IN A SANDBOX (cutbox-rows.mjs): the forced cells as the released guide's own fill.sh prints them over the translation 96e8cc3fc89d7b8b… (all of the seat's roots in one cut). By AI agents, Wed Nov 11 2026. No macro, syntax, notation, axiom, sorry.
-/
import Derived.Test.YtemhikgdbmmnjaaChecked
import GoSem.Claim
import GoSem.ClaimJoined
import GoSem.ClaimMapViews
import Derived.JoinedTies
import Derived.KernelRfl
namespace Go.Proofs.Ytemhikgdbmmnjaa
/- THE CELL 'sum', in the pinned program and in every row, IS THE sha256 OF THE DUMP (.gsa) THAT YtemhikgdbmmnjaaProg.lean LOADS. Nothing in Lean hashes anything: it is a label: what it is worth is what the hold of that sum in a sandbox is worth. -/
noncomputable def Try.pinned : Pinned := { name := "ytemhikgdbmmnjaa", sum := "96e8cc3fc89d7b8b53d79fad403a6b2c9be4b49e04de5e7353f934ef818356d4", checked := Try.checked }
namespace Rows
def none {H : Type} : Left H := { results := [], args := [] }

/-- 'laws.FnExactShelvesOk': WHATEVER THE INPUT: true; the input reads as it did. -/
def fnExactShelvesOkSpec : ChangeSpec := { name := "fnExactShelvesOk", fn := fun _ => fun
  | [d] => { results := [.lit (.bool true)], args := [d] }
  | _ => none }
def fnExactShelvesOkRow : OpenClaim := { program := "ytemhikgdbmmnjaa", sum := "96e8cc3fc89d7b8b53d79fad403a6b2c9be4b49e04de5e7353f934ef818356d4", func := "loop.example/coinmachine/laws.FnExactShelvesOk", spec := "fnExactShelvesOk", apart := false }
def FnExactShelvesOkSaid : Prop := fnExactShelvesOkRow.holds Try.pinned (OpenSpec.ofChange fnExactShelvesOkSpec)

/-- ITS FALSE NEIGHBOUR: 'it returns false'. Refute it at one input. -/
def fnExactShelvesOkWrong : ChangeSpec := { name := "fnExactShelvesOk", fn := fun _ => fun
  | [d] => { results := [.lit (.bool false)], args := [d] }
  | _ => none }
def FnExactShelvesOkWrongFalsely : Prop := fnExactShelvesOkRow.holds Try.pinned (OpenSpec.ofChange fnExactShelvesOkWrong)

/-- 'laws.FnExactCostOf': WHATEVER THE INPUT: true; the input reads as it did. -/
def fnExactCostOfSpec : ChangeSpec := { name := "fnExactCostOf", fn := fun _ => fun
  | [d1, d2] => { results := [.lit (.bool true)], args := [d1, d2] }
  | _ => none }
def fnExactCostOfRow : OpenClaim := { program := "ytemhikgdbmmnjaa", sum := "96e8cc3fc89d7b8b53d79fad403a6b2c9be4b49e04de5e7353f934ef818356d4", func := "loop.example/coinmachine/laws.FnExactCostOf", spec := "fnExactCostOf", apart := false }
def FnExactCostOfSaid : Prop := fnExactCostOfRow.holds Try.pinned (OpenSpec.ofChange fnExactCostOfSpec)

/-- ITS FALSE NEIGHBOUR: 'it returns false'. Refute it at one input. -/
def fnExactCostOfWrong : ChangeSpec := { name := "fnExactCostOf", fn := fun _ => fun
  | [d1, d2] => { results := [.lit (.bool false)], args := [d1, d2] }
  | _ => none }
def FnExactCostOfWrongFalsely : Prop := fnExactCostOfRow.holds Try.pinned (OpenSpec.ofChange fnExactCostOfWrong)

/-- 'laws.FnExactBasketsFor': WHATEVER THE INPUT: true; the input reads as it did. -/
def fnExactBasketsForSpec : ChangeSpec := { name := "fnExactBasketsFor", fn := fun _ => fun
  | [d1, d2] => { results := [.lit (.bool true)], args := [d1, d2] }
  | _ => none }
def fnExactBasketsForRow : OpenClaim := { program := "ytemhikgdbmmnjaa", sum := "96e8cc3fc89d7b8b53d79fad403a6b2c9be4b49e04de5e7353f934ef818356d4", func := "loop.example/coinmachine/laws.FnExactBasketsFor", spec := "fnExactBasketsFor", unfollowed := true, recurses := true, apart := false }
def FnExactBasketsForSaid : Prop := fnExactBasketsForRow.holds Try.pinned (OpenSpec.ofChange fnExactBasketsForSpec)

/-- ITS FALSE NEIGHBOUR: 'it returns false'. Refute it at one input. -/
def fnExactBasketsForWrong : ChangeSpec := { name := "fnExactBasketsFor", fn := fun _ => fun
  | [d1, d2] => { results := [.lit (.bool false)], args := [d1, d2] }
  | _ => none }
def FnExactBasketsForWrongFalsely : Prop := fnExactBasketsForRow.holds Try.pinned (OpenSpec.ofChange fnExactBasketsForWrong)

/-- 'laws.FnExactMostFor': WHATEVER THE INPUT: true; the input reads as it did. -/
def fnExactMostForSpec : ChangeSpec := { name := "fnExactMostFor", fn := fun _ => fun
  | [d1, d2] => { results := [.lit (.bool true)], args := [d1, d2] }
  | _ => none }
def fnExactMostForRow : OpenClaim := { program := "ytemhikgdbmmnjaa", sum := "96e8cc3fc89d7b8b53d79fad403a6b2c9be4b49e04de5e7353f934ef818356d4", func := "loop.example/coinmachine/laws.FnExactMostFor", spec := "fnExactMostFor", unfollowed := true, recurses := true, apart := false }
def FnExactMostForSaid : Prop := fnExactMostForRow.holds Try.pinned (OpenSpec.ofChange fnExactMostForSpec)

/-- ITS FALSE NEIGHBOUR: 'it returns false'. Refute it at one input. -/
def fnExactMostForWrong : ChangeSpec := { name := "fnExactMostFor", fn := fun _ => fun
  | [d1, d2] => { results := [.lit (.bool false)], args := [d1, d2] }
  | _ => none }
def FnExactMostForWrongFalsely : Prop := fnExactMostForRow.holds Try.pinned (OpenSpec.ofChange fnExactMostForWrong)

/-- 'laws.FnExactDearestFor': WHATEVER THE INPUT: true; the input reads as it did. -/
def fnExactDearestForSpec : ChangeSpec := { name := "fnExactDearestFor", fn := fun _ => fun
  | [d1, d2] => { results := [.lit (.bool true)], args := [d1, d2] }
  | _ => none }
def fnExactDearestForRow : OpenClaim := { program := "ytemhikgdbmmnjaa", sum := "96e8cc3fc89d7b8b53d79fad403a6b2c9be4b49e04de5e7353f934ef818356d4", func := "loop.example/coinmachine/laws.FnExactDearestFor", spec := "fnExactDearestFor", unfollowed := true, recurses := true, apart := false }
def FnExactDearestForSaid : Prop := fnExactDearestForRow.holds Try.pinned (OpenSpec.ofChange fnExactDearestForSpec)

/-- ITS FALSE NEIGHBOUR: 'it returns false'. Refute it at one input. -/
def fnExactDearestForWrong : ChangeSpec := { name := "fnExactDearestFor", fn := fun _ => fun
  | [d1, d2] => { results := [.lit (.bool false)], args := [d1, d2] }
  | _ => none }
def FnExactDearestForWrongFalsely : Prop := fnExactDearestForRow.holds Try.pinned (OpenSpec.ofChange fnExactDearestForWrong)

/-- 'laws.FnExactAfterBasket': WHATEVER THE INPUT: true; the input reads as it did. -/
def fnExactAfterBasketSpec : ChangeSpec := { name := "fnExactAfterBasket", fn := fun _ => fun
  | [d1, d2] => { results := [.lit (.bool true)], args := [d1, d2] }
  | _ => none }
def fnExactAfterBasketRow : OpenClaim := { program := "ytemhikgdbmmnjaa", sum := "96e8cc3fc89d7b8b53d79fad403a6b2c9be4b49e04de5e7353f934ef818356d4", func := "loop.example/coinmachine/laws.FnExactAfterBasket", spec := "fnExactAfterBasket", apart := false }
def FnExactAfterBasketSaid : Prop := fnExactAfterBasketRow.holds Try.pinned (OpenSpec.ofChange fnExactAfterBasketSpec)

/-- ITS FALSE NEIGHBOUR: 'it returns false'. Refute it at one input. -/
def fnExactAfterBasketWrong : ChangeSpec := { name := "fnExactAfterBasket", fn := fun _ => fun
  | [d1, d2] => { results := [.lit (.bool false)], args := [d1, d2] }
  | _ => none }
def FnExactAfterBasketWrongFalsely : Prop := fnExactAfterBasketRow.holds Try.pinned (OpenSpec.ofChange fnExactAfterBasketWrong)

/-- 'laws.FnExactStockWorth': WHATEVER THE INPUT: true; the input reads as it did. -/
def fnExactStockWorthSpec : ChangeSpec := { name := "fnExactStockWorth", fn := fun _ => fun
  | [d] => { results := [.lit (.bool true)], args := [d] }
  | _ => none }
def fnExactStockWorthRow : OpenClaim := { program := "ytemhikgdbmmnjaa", sum := "96e8cc3fc89d7b8b53d79fad403a6b2c9be4b49e04de5e7353f934ef818356d4", func := "loop.example/coinmachine/laws.FnExactStockWorth", spec := "fnExactStockWorth", apart := false }
def FnExactStockWorthSaid : Prop := fnExactStockWorthRow.holds Try.pinned (OpenSpec.ofChange fnExactStockWorthSpec)

/-- ITS FALSE NEIGHBOUR: 'it returns false'. Refute it at one input. -/
def fnExactStockWorthWrong : ChangeSpec := { name := "fnExactStockWorth", fn := fun _ => fun
  | [d] => { results := [.lit (.bool false)], args := [d] }
  | _ => none }
def FnExactStockWorthWrongFalsely : Prop := fnExactStockWorthRow.holds Try.pinned (OpenSpec.ofChange fnExactStockWorthWrong)

/- THE SECOND FORM. 'bulk': how many values and letters a reading holds, each counted each time it is reached (what is shared counts as often as it is met; a slice's spare places count too). A statement '..UptoSaid' is the law's where the arguments, and the package variables that the reading takes, are together of bulk at most 1048576: NARROWER than '..Said'. Prove '..Said' where nothing that the law and all that it calls make is longer than what came in: it says more and counts as full. Else prove '..UptoSaid'. A law counts once. -/
mutual
def uptoBulk {H : Type} : DataW H → Nat
  | .lit (.string bytes) => bytes.length + 1
  | .lit _ => 1
  | .nil => 1
  | .ptr d => uptoBulk d + 1
  | .slice elems spare => uptoBulkAll elems + uptoBulkAll spare + 1
  | .agg parts => uptoBulkAll parts + 1
  | .iface _ d => uptoBulk d + 1
  | .map entries => uptoBulkEntries entries + 1
  | .held _ => 1
def uptoBulkAll {H : Type} : List (DataW H) → Nat
  | [] => 0
  | d :: r => uptoBulk d + uptoBulkAll r
def uptoBulkEntries {H : Type} : List (Lit × DataW H) → Nat
  | [] => 0
  | x :: r => uptoBulkEntry x + uptoBulkEntries r
def uptoBulkEntry {H : Type} : Lit × DataW H → Nat
  | (.string bytes, d) => bytes.length + uptoBulk d + 1
  | (_, d) => uptoBulk d + 1
 end
def uptoSmall : (H : Type) → List (DataW H) → Bool := fun _ ds => decide (uptoBulkAll ds ≤ 1048576)
def OpenSpec.upto (s : _root_.Go.ChangeSpec) : _root_.Go.OpenSpec := { _root_.Go.OpenSpec.ofChange s with cond := some uptoSmall }

/-- 'laws.FnExactShelvesOk', WHERE WHAT IT READS IS OF BULK AT MOST 1048576: true; the input reads as it did. -/
def fnExactShelvesOkUptoRow : OpenClaim := { program := "ytemhikgdbmmnjaa", sum := "96e8cc3fc89d7b8b53d79fad403a6b2c9be4b49e04de5e7353f934ef818356d4", func := "loop.example/coinmachine/laws.FnExactShelvesOk", spec := "fnExactShelvesOk", apart := false, narrowed := true }
def FnExactShelvesOkUptoSaid : Prop := fnExactShelvesOkUptoRow.holds Try.pinned (OpenSpec.upto fnExactShelvesOkSpec)

/-- 'laws.FnExactCostOf', WHERE WHAT IT READS IS OF BULK AT MOST 1048576: true; the input reads as it did. -/
def fnExactCostOfUptoRow : OpenClaim := { program := "ytemhikgdbmmnjaa", sum := "96e8cc3fc89d7b8b53d79fad403a6b2c9be4b49e04de5e7353f934ef818356d4", func := "loop.example/coinmachine/laws.FnExactCostOf", spec := "fnExactCostOf", apart := false, narrowed := true }
def FnExactCostOfUptoSaid : Prop := fnExactCostOfUptoRow.holds Try.pinned (OpenSpec.upto fnExactCostOfSpec)

/-- 'laws.FnExactBasketsFor', WHERE WHAT IT READS IS OF BULK AT MOST 1048576: true; the input reads as it did. -/
def fnExactBasketsForUptoRow : OpenClaim := { program := "ytemhikgdbmmnjaa", sum := "96e8cc3fc89d7b8b53d79fad403a6b2c9be4b49e04de5e7353f934ef818356d4", func := "loop.example/coinmachine/laws.FnExactBasketsFor", spec := "fnExactBasketsFor", unfollowed := true, recurses := true, apart := false, narrowed := true }
def FnExactBasketsForUptoSaid : Prop := fnExactBasketsForUptoRow.holds Try.pinned (OpenSpec.upto fnExactBasketsForSpec)

/-- 'laws.FnExactMostFor', WHERE WHAT IT READS IS OF BULK AT MOST 1048576: true; the input reads as it did. -/
def fnExactMostForUptoRow : OpenClaim := { program := "ytemhikgdbmmnjaa", sum := "96e8cc3fc89d7b8b53d79fad403a6b2c9be4b49e04de5e7353f934ef818356d4", func := "loop.example/coinmachine/laws.FnExactMostFor", spec := "fnExactMostFor", unfollowed := true, recurses := true, apart := false, narrowed := true }
def FnExactMostForUptoSaid : Prop := fnExactMostForUptoRow.holds Try.pinned (OpenSpec.upto fnExactMostForSpec)

/-- 'laws.FnExactDearestFor', WHERE WHAT IT READS IS OF BULK AT MOST 1048576: true; the input reads as it did. -/
def fnExactDearestForUptoRow : OpenClaim := { program := "ytemhikgdbmmnjaa", sum := "96e8cc3fc89d7b8b53d79fad403a6b2c9be4b49e04de5e7353f934ef818356d4", func := "loop.example/coinmachine/laws.FnExactDearestFor", spec := "fnExactDearestFor", unfollowed := true, recurses := true, apart := false, narrowed := true }
def FnExactDearestForUptoSaid : Prop := fnExactDearestForUptoRow.holds Try.pinned (OpenSpec.upto fnExactDearestForSpec)

/-- 'laws.FnExactAfterBasket', WHERE WHAT IT READS IS OF BULK AT MOST 1048576: true; the input reads as it did. -/
def fnExactAfterBasketUptoRow : OpenClaim := { program := "ytemhikgdbmmnjaa", sum := "96e8cc3fc89d7b8b53d79fad403a6b2c9be4b49e04de5e7353f934ef818356d4", func := "loop.example/coinmachine/laws.FnExactAfterBasket", spec := "fnExactAfterBasket", apart := false, narrowed := true }
def FnExactAfterBasketUptoSaid : Prop := fnExactAfterBasketUptoRow.holds Try.pinned (OpenSpec.upto fnExactAfterBasketSpec)

/-- 'laws.FnExactStockWorth', WHERE WHAT IT READS IS OF BULK AT MOST 1048576: true; the input reads as it did. -/
def fnExactStockWorthUptoRow : OpenClaim := { program := "ytemhikgdbmmnjaa", sum := "96e8cc3fc89d7b8b53d79fad403a6b2c9be4b49e04de5e7353f934ef818356d4", func := "loop.example/coinmachine/laws.FnExactStockWorth", spec := "fnExactStockWorth", apart := false, narrowed := true }
def FnExactStockWorthUptoSaid : Prop := fnExactStockWorthUptoRow.holds Try.pinned (OpenSpec.upto fnExactStockWorthSpec)

end Rows
end Go.Proofs.Ytemhikgdbmmnjaa

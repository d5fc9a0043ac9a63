/-
  NARROWER THAN 'FOR EVERY INPUT', by the rows' own cells (each row's printed sentence says how): FnShelvesOk: laid · FnCostOf: laid · FnBasketsFor: laid · FnMostFor: laid · FnDearestFor: laid · FnAfterBasket: laid · FnStockWorth: laid.
  DERIVED. THE GIVEN ROWS OF THIS SEAT. 7 by the template 'for every input the law returns true; each argument reads behind the call as it read before'; 0 by the template 'total and deterministic' (their statements: YtemhikgdbmmnjaaDoorTotals.lean).
  GIVEN WITH THE SEED: the statements are not yours to turn. If you find one false, say at which input.
  Laid BY PROGRAM, IN A SANDBOX (cutbox-rows.mjs): the forced cells as the released guide's own fill.sh prints them over the translation 1a72e94315955c0b… (all of the seat's roots in one cut). By AI agents, Wed Nov 11 2026. No macro, syntax, notation, axiom, sorry.
-/
import Derived.Test.YtemhikgdbmmnjaaDoorChecked
import GoSem.Claim
import GoSem.ClaimJoined
import GoSem.ClaimMapViews
import Derived.JoinedTies
import Derived.KernelRfl
namespace Go.Proofs.YtemhikgdbmmnjaaDoor
/- THE CELL 'sum', in the pinned program and in every row, IS THE sha256 OF THE DUMP (.gsa) THAT YtemhikgdbmmnjaaDoorProg.lean LOADS. Nothing in Lean hashes anything: it is a label: what it is worth is what the hold of that sum in a sandbox is worth. -/
noncomputable def Tryd.pinned : Pinned := { name := "ytemhikgdbmmnjaadoor", sum := "1a72e94315955c0ba6d8e8cca76673408f1210639172b9467f026fadab90ee70", checked := Tryd.checked }
namespace Rows
def none {H : Type} : Left H := { results := [], args := [] }

/- WHAT THE LISTED PACKAGE-LEVEL VARIABLES READ AS WHEN THE CALL BEGINS. Each datum BY PROGRAM (the guide's laid-datum.mjs) off the statement by which the dump's own 'gosem.cut.vars' lays the variable. In a bare row this is a premise. The card (YtemhikgdbmmnjaaDoorCards.lean) ties it to the program's text. -/
def laid_loop_example_coinmachine_impl_worths {H : Type} : DataW H := .agg [.lit (.int .i64 1), .lit (.int .i64 2), .lit (.int .i64 5), .lit (.int .i64 10)]

/-- 'laws.FnShelvesOk': WHATEVER THE INPUT: true; the input reads as it did. -/
def fnShelvesOkSpec : ChangeSpec := { name := "fnShelvesOk", vars := ["loop.example/coinmachine/impl.worths"], fn := fun _ => fun
  | [d, g1] => { results := [.lit (.bool true)], args := [d], vars := [g1] }
  | _ => none }
def fnShelvesOkRow : OpenClaim := { program := "ytemhikgdbmmnjaadoor", sum := "1a72e94315955c0ba6d8e8cca76673408f1210639172b9467f026fadab90ee70", func := "loop.example/coinmachine/laws.FnShelvesOk", spec := "fnShelvesOk", named := ["loop.example/coinmachine/impl.worths"], apart := false, laid := [("loop.example/coinmachine/impl.worths", laid_loop_example_coinmachine_impl_worths)] }
def FnShelvesOkSaid : Prop := fnShelvesOkRow.holds Tryd.pinned (OpenSpec.ofChange fnShelvesOkSpec)

/-- ITS FALSE NEIGHBOUR: 'it returns false'. Refute it at one input. -/
def fnShelvesOkWrong : ChangeSpec := { name := "fnShelvesOk", vars := ["loop.example/coinmachine/impl.worths"], fn := fun _ => fun
  | [d, g1] => { results := [.lit (.bool false)], args := [d], vars := [g1] }
  | _ => none }
def FnShelvesOkWrongFalsely : Prop := fnShelvesOkRow.holds Tryd.pinned (OpenSpec.ofChange fnShelvesOkWrong)

/-- 'laws.FnCostOf': WHATEVER THE INPUT: true; the input reads as it did. -/
def fnCostOfSpec : ChangeSpec := { name := "fnCostOf", vars := ["loop.example/coinmachine/impl.worths"], fn := fun _ => fun
  | [d, g1] => { results := [.lit (.bool true)], args := [d], vars := [g1] }
  | _ => none }
def fnCostOfRow : OpenClaim := { program := "ytemhikgdbmmnjaadoor", sum := "1a72e94315955c0ba6d8e8cca76673408f1210639172b9467f026fadab90ee70", func := "loop.example/coinmachine/laws.FnCostOf", spec := "fnCostOf", named := ["loop.example/coinmachine/impl.worths"], apart := false, laid := [("loop.example/coinmachine/impl.worths", laid_loop_example_coinmachine_impl_worths)] }
def FnCostOfSaid : Prop := fnCostOfRow.holds Tryd.pinned (OpenSpec.ofChange fnCostOfSpec)

/-- ITS FALSE NEIGHBOUR: 'it returns false'. Refute it at one input. -/
def fnCostOfWrong : ChangeSpec := { name := "fnCostOf", vars := ["loop.example/coinmachine/impl.worths"], fn := fun _ => fun
  | [d, g1] => { results := [.lit (.bool false)], args := [d], vars := [g1] }
  | _ => none }
def FnCostOfWrongFalsely : Prop := fnCostOfRow.holds Tryd.pinned (OpenSpec.ofChange fnCostOfWrong)

/-- 'laws.FnBasketsFor': WHATEVER THE INPUT: true; the input reads as it did. -/
def fnBasketsForSpec : ChangeSpec := { name := "fnBasketsFor", vars := ["loop.example/coinmachine/impl.worths"], fn := fun _ => fun
  | [d, g1] => { results := [.lit (.bool true)], args := [d], vars := [g1] }
  | _ => none }
def fnBasketsForRow : OpenClaim := { program := "ytemhikgdbmmnjaadoor", sum := "1a72e94315955c0ba6d8e8cca76673408f1210639172b9467f026fadab90ee70", func := "loop.example/coinmachine/laws.FnBasketsFor", spec := "fnBasketsFor", unfollowed := true, recurses := true, named := ["loop.example/coinmachine/impl.worths"], apart := false, laid := [("loop.example/coinmachine/impl.worths", laid_loop_example_coinmachine_impl_worths)] }
def FnBasketsForSaid : Prop := fnBasketsForRow.holds Tryd.pinned (OpenSpec.ofChange fnBasketsForSpec)

/-- ITS FALSE NEIGHBOUR: 'it returns false'. Refute it at one input. -/
def fnBasketsForWrong : ChangeSpec := { name := "fnBasketsFor", vars := ["loop.example/coinmachine/impl.worths"], fn := fun _ => fun
  | [d, g1] => { results := [.lit (.bool false)], args := [d], vars := [g1] }
  | _ => none }
def FnBasketsForWrongFalsely : Prop := fnBasketsForRow.holds Tryd.pinned (OpenSpec.ofChange fnBasketsForWrong)

/-- 'laws.FnMostFor': WHATEVER THE INPUT: true; the input reads as it did. -/
def fnMostForSpec : ChangeSpec := { name := "fnMostFor", vars := ["loop.example/coinmachine/impl.worths"], fn := fun _ => fun
  | [d, g1] => { results := [.lit (.bool true)], args := [d], vars := [g1] }
  | _ => none }
def fnMostForRow : OpenClaim := { program := "ytemhikgdbmmnjaadoor", sum := "1a72e94315955c0ba6d8e8cca76673408f1210639172b9467f026fadab90ee70", func := "loop.example/coinmachine/laws.FnMostFor", spec := "fnMostFor", unfollowed := true, recurses := true, named := ["loop.example/coinmachine/impl.worths"], apart := false, laid := [("loop.example/coinmachine/impl.worths", laid_loop_example_coinmachine_impl_worths)] }
def FnMostForSaid : Prop := fnMostForRow.holds Tryd.pinned (OpenSpec.ofChange fnMostForSpec)

/-- ITS FALSE NEIGHBOUR: 'it returns false'. Refute it at one input. -/
def fnMostForWrong : ChangeSpec := { name := "fnMostFor", vars := ["loop.example/coinmachine/impl.worths"], fn := fun _ => fun
  | [d, g1] => { results := [.lit (.bool false)], args := [d], vars := [g1] }
  | _ => none }
def FnMostForWrongFalsely : Prop := fnMostForRow.holds Tryd.pinned (OpenSpec.ofChange fnMostForWrong)

/-- 'laws.FnDearestFor': WHATEVER THE INPUT: true; the input reads as it did. -/
def fnDearestForSpec : ChangeSpec := { name := "fnDearestFor", vars := ["loop.example/coinmachine/impl.worths"], fn := fun _ => fun
  | [d, g1] => { results := [.lit (.bool true)], args := [d], vars := [g1] }
  | _ => none }
def fnDearestForRow : OpenClaim := { program := "ytemhikgdbmmnjaadoor", sum := "1a72e94315955c0ba6d8e8cca76673408f1210639172b9467f026fadab90ee70", func := "loop.example/coinmachine/laws.FnDearestFor", spec := "fnDearestFor", unfollowed := true, recurses := true, named := ["loop.example/coinmachine/impl.worths"], apart := false, laid := [("loop.example/coinmachine/impl.worths", laid_loop_example_coinmachine_impl_worths)] }
def FnDearestForSaid : Prop := fnDearestForRow.holds Tryd.pinned (OpenSpec.ofChange fnDearestForSpec)

/-- ITS FALSE NEIGHBOUR: 'it returns false'. Refute it at one input. -/
def fnDearestForWrong : ChangeSpec := { name := "fnDearestFor", vars := ["loop.example/coinmachine/impl.worths"], fn := fun _ => fun
  | [d, g1] => { results := [.lit (.bool false)], args := [d], vars := [g1] }
  | _ => none }
def FnDearestForWrongFalsely : Prop := fnDearestForRow.holds Tryd.pinned (OpenSpec.ofChange fnDearestForWrong)

/-- 'laws.FnAfterBasket': WHATEVER THE INPUT: true; the input reads as it did. -/
def fnAfterBasketSpec : ChangeSpec := { name := "fnAfterBasket", vars := ["loop.example/coinmachine/impl.worths"], fn := fun _ => fun
  | [d, g1] => { results := [.lit (.bool true)], args := [d], vars := [g1] }
  | _ => none }
def fnAfterBasketRow : OpenClaim := { program := "ytemhikgdbmmnjaadoor", sum := "1a72e94315955c0ba6d8e8cca76673408f1210639172b9467f026fadab90ee70", func := "loop.example/coinmachine/laws.FnAfterBasket", spec := "fnAfterBasket", named := ["loop.example/coinmachine/impl.worths"], apart := false, laid := [("loop.example/coinmachine/impl.worths", laid_loop_example_coinmachine_impl_worths)] }
def FnAfterBasketSaid : Prop := fnAfterBasketRow.holds Tryd.pinned (OpenSpec.ofChange fnAfterBasketSpec)

/-- ITS FALSE NEIGHBOUR: 'it returns false'. Refute it at one input. -/
def fnAfterBasketWrong : ChangeSpec := { name := "fnAfterBasket", vars := ["loop.example/coinmachine/impl.worths"], fn := fun _ => fun
  | [d, g1] => { results := [.lit (.bool false)], args := [d], vars := [g1] }
  | _ => none }
def FnAfterBasketWrongFalsely : Prop := fnAfterBasketRow.holds Tryd.pinned (OpenSpec.ofChange fnAfterBasketWrong)

/-- 'laws.FnStockWorth': WHATEVER THE INPUT: true; the input reads as it did. -/
def fnStockWorthSpec : ChangeSpec := { name := "fnStockWorth", vars := ["loop.example/coinmachine/impl.worths"], fn := fun _ => fun
  | [d, g1] => { results := [.lit (.bool true)], args := [d], vars := [g1] }
  | _ => none }
def fnStockWorthRow : OpenClaim := { program := "ytemhikgdbmmnjaadoor", sum := "1a72e94315955c0ba6d8e8cca76673408f1210639172b9467f026fadab90ee70", func := "loop.example/coinmachine/laws.FnStockWorth", spec := "fnStockWorth", named := ["loop.example/coinmachine/impl.worths"], apart := false, laid := [("loop.example/coinmachine/impl.worths", laid_loop_example_coinmachine_impl_worths)] }
def FnStockWorthSaid : Prop := fnStockWorthRow.holds Tryd.pinned (OpenSpec.ofChange fnStockWorthSpec)

/-- ITS FALSE NEIGHBOUR: 'it returns false'. Refute it at one input. -/
def fnStockWorthWrong : ChangeSpec := { name := "fnStockWorth", vars := ["loop.example/coinmachine/impl.worths"], fn := fun _ => fun
  | [d, g1] => { results := [.lit (.bool false)], args := [d], vars := [g1] }
  | _ => none }
def FnStockWorthWrongFalsely : Prop := fnStockWorthRow.holds Tryd.pinned (OpenSpec.ofChange fnStockWorthWrong)

/- THE SECOND FORM. 'bulk': how many values and letters a reading holds, each counted each time it is reached (what is shared counts as often as it is met; a slice's spare places count too). A statement '..UptoSaid' is the law's where the arguments, and the package variables that the reading takes, are together of bulk at most 1048576: NARROWER than '..Said'. Prove '..Said' where nothing that the law and all that it calls make is longer than what came in: it says more and counts as full. Else prove '..UptoSaid'. A law counts once. -/
mutual
def uptoBulk {H : Type} : DataW H → Nat
  | .lit (.string bytes) => bytes.length + 1
  | .lit _ => 1
  | .nil => 1
  | .ptr d => uptoBulk d + 1
  | .slice elems spare => uptoBulkAll elems + uptoBulkAll spare + 1
  | .agg parts => uptoBulkAll parts + 1
  | .iface _ d => uptoBulk d + 1
  | .map entries => uptoBulkEntries entries + 1
  | .held _ => 1
def uptoBulkAll {H : Type} : List (DataW H) → Nat
  | [] => 0
  | d :: r => uptoBulk d + uptoBulkAll r
def uptoBulkEntries {H : Type} : List (Lit × DataW H) → Nat
  | [] => 0
  | x :: r => uptoBulkEntry x + uptoBulkEntries r
def uptoBulkEntry {H : Type} : Lit × DataW H → Nat
  | (.string bytes, d) => bytes.length + uptoBulk d + 1
  | (_, d) => uptoBulk d + 1
 end
def uptoSmall : (H : Type) → List (DataW H) → Bool := fun _ ds => decide (uptoBulkAll ds ≤ 1048576)
def OpenSpec.upto (s : _root_.Go.ChangeSpec) : _root_.Go.OpenSpec := { _root_.Go.OpenSpec.ofChange s with cond := some uptoSmall }

/-- 'laws.FnShelvesOk', WHERE WHAT IT READS IS OF BULK AT MOST 1048576: true; the input reads as it did. -/
def fnShelvesOkUptoRow : OpenClaim := { program := "ytemhikgdbmmnjaadoor", sum := "1a72e94315955c0ba6d8e8cca76673408f1210639172b9467f026fadab90ee70", func := "loop.example/coinmachine/laws.FnShelvesOk", spec := "fnShelvesOk", named := ["loop.example/coinmachine/impl.worths"], apart := false, laid := [("loop.example/coinmachine/impl.worths", laid_loop_example_coinmachine_impl_worths)], narrowed := true }
def FnShelvesOkUptoSaid : Prop := fnShelvesOkUptoRow.holds Tryd.pinned (OpenSpec.upto fnShelvesOkSpec)

/-- 'laws.FnCostOf', WHERE WHAT IT READS IS OF BULK AT MOST 1048576: true; the input reads as it did. -/
def fnCostOfUptoRow : OpenClaim := { program := "ytemhikgdbmmnjaadoor", sum := "1a72e94315955c0ba6d8e8cca76673408f1210639172b9467f026fadab90ee70", func := "loop.example/coinmachine/laws.FnCostOf", spec := "fnCostOf", named := ["loop.example/coinmachine/impl.worths"], apart := false, laid := [("loop.example/coinmachine/impl.worths", laid_loop_example_coinmachine_impl_worths)], narrowed := true }
def FnCostOfUptoSaid : Prop := fnCostOfUptoRow.holds Tryd.pinned (OpenSpec.upto fnCostOfSpec)

/-- 'laws.FnBasketsFor', WHERE WHAT IT READS IS OF BULK AT MOST 1048576: true; the input reads as it did. -/
def fnBasketsForUptoRow : OpenClaim := { program := "ytemhikgdbmmnjaadoor", sum := "1a72e94315955c0ba6d8e8cca76673408f1210639172b9467f026fadab90ee70", func := "loop.example/coinmachine/laws.FnBasketsFor", spec := "fnBasketsFor", unfollowed := true, recurses := true, named := ["loop.example/coinmachine/impl.worths"], apart := false, laid := [("loop.example/coinmachine/impl.worths", laid_loop_example_coinmachine_impl_worths)], narrowed := true }
def FnBasketsForUptoSaid : Prop := fnBasketsForUptoRow.holds Tryd.pinned (OpenSpec.upto fnBasketsForSpec)

/-- 'laws.FnMostFor', WHERE WHAT IT READS IS OF BULK AT MOST 1048576: true; the input reads as it did. -/
def fnMostForUptoRow : OpenClaim := { program := "ytemhikgdbmmnjaadoor", sum := "1a72e94315955c0ba6d8e8cca76673408f1210639172b9467f026fadab90ee70", func := "loop.example/coinmachine/laws.FnMostFor", spec := "fnMostFor", unfollowed := true, recurses := true, named := ["loop.example/coinmachine/impl.worths"], apart := false, laid := [("loop.example/coinmachine/impl.worths", laid_loop_example_coinmachine_impl_worths)], narrowed := true }
def FnMostForUptoSaid : Prop := fnMostForUptoRow.holds Tryd.pinned (OpenSpec.upto fnMostForSpec)

/-- 'laws.FnDearestFor', WHERE WHAT IT READS IS OF BULK AT MOST 1048576: true; the input reads as it did. -/
def fnDearestForUptoRow : OpenClaim := { program := "ytemhikgdbmmnjaadoor", sum := "1a72e94315955c0ba6d8e8cca76673408f1210639172b9467f026fadab90ee70", func := "loop.example/coinmachine/laws.FnDearestFor", spec := "fnDearestFor", unfollowed := true, recurses := true, named := ["loop.example/coinmachine/impl.worths"], apart := false, laid := [("loop.example/coinmachine/impl.worths", laid_loop_example_coinmachine_impl_worths)], narrowed := true }
def FnDearestForUptoSaid : Prop := fnDearestForUptoRow.holds Tryd.pinned (OpenSpec.upto fnDearestForSpec)

/-- 'laws.FnAfterBasket', WHERE WHAT IT READS IS OF BULK AT MOST 1048576: true; the input reads as it did. -/
def fnAfterBasketUptoRow : OpenClaim := { program := "ytemhikgdbmmnjaadoor", sum := "1a72e94315955c0ba6d8e8cca76673408f1210639172b9467f026fadab90ee70", func := "loop.example/coinmachine/laws.FnAfterBasket", spec := "fnAfterBasket", named := ["loop.example/coinmachine/impl.worths"], apart := false, laid := [("loop.example/coinmachine/impl.worths", laid_loop_example_coinmachine_impl_worths)], narrowed := true }
def FnAfterBasketUptoSaid : Prop := fnAfterBasketUptoRow.holds Tryd.pinned (OpenSpec.upto fnAfterBasketSpec)

/-- 'laws.FnStockWorth', WHERE WHAT IT READS IS OF BULK AT MOST 1048576: true; the input reads as it did. -/
def fnStockWorthUptoRow : OpenClaim := { program := "ytemhikgdbmmnjaadoor", sum := "1a72e94315955c0ba6d8e8cca76673408f1210639172b9467f026fadab90ee70", func := "loop.example/coinmachine/laws.FnStockWorth", spec := "fnStockWorth", named := ["loop.example/coinmachine/impl.worths"], apart := false, laid := [("loop.example/coinmachine/impl.worths", laid_loop_example_coinmachine_impl_worths)], narrowed := true }
def FnStockWorthUptoSaid : Prop := fnStockWorthUptoRow.holds Tryd.pinned (OpenSpec.upto fnStockWorthSpec)

end Rows
end Go.Proofs.YtemhikgdbmmnjaaDoor

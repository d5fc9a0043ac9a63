/-
  NARROWER THAN 'FOR EVERY INPUT', by the rows' own cells (each row's printed sentence says how): FnMachineOk: laid · FnMachineNew: laid · FnActed: laid · FnMoneyIn: laid · FnCanPick: laid · FnRefilled: laid · FnExactActed: laid · FnExactMoneyIn: laid · FnExactCanPick: laid.
  DERIVED. THE GIVEN ROWS OF THIS SEAT. 9 by the template 'for every input the law returns true; each argument reads behind the call as it read before'; 0 by the template 'total and deterministic' (their statements: YtfoohenmlagfjaaDoorTotals.lean).
  GIVEN WITH THE SEED: the statements are not yours to turn. If you find one false, say at which input.
  Laid BY PROGRAM, IN A SANDBOX (cutbox-rows.mjs): the forced cells as the released guide's own fill.sh prints them over the translation 307c15a5d871614d… (all of the seat's roots in one cut). By AI agents, Wed Nov 11 2026. No macro, syntax, notation, axiom, sorry.
-/
import Derived.Test.YtfoohenmlagfjaaDoorChecked
import GoSem.Claim
import GoSem.ClaimJoined
import GoSem.ClaimMapViews
import Derived.JoinedTies
import Derived.KernelRfl
namespace Go.Proofs.YtfoohenmlagfjaaDoor
/- THE CELL 'sum', in the pinned program and in every row, IS THE sha256 OF THE DUMP (.gsa) THAT YtfoohenmlagfjaaDoorProg.lean LOADS. Nothing in Lean hashes anything: it is a label: what it is worth is what the hold of that sum in a sandbox is worth. -/
noncomputable def Tryd.pinned : Pinned := { name := "ytfoohenmlagfjaadoor", sum := "307c15a5d871614d8a2f3e9fec3db049130c4d3d88d7e47aa0c36d2a5c92f101", checked := Tryd.checked }
namespace Rows
def none {H : Type} : Left H := { results := [], args := [] }

/- WHAT THE LISTED PACKAGE-LEVEL VARIABLES READ AS WHEN THE CALL BEGINS. Each datum BY PROGRAM (the guide's laid-datum.mjs) off the statement by which the dump's own 'gosem.cut.vars' lays the variable. In a bare row this is a premise. The card (YtfoohenmlagfjaaDoorCards.lean) ties it to the program's text. -/
def laid_loop_example_coinmachine_impl_worths {H : Type} : DataW H := .agg [.lit (.int .i64 1), .lit (.int .i64 2), .lit (.int .i64 5), .lit (.int .i64 10)]

/-- 'laws.FnMachineOk': WHATEVER THE INPUT: true; the input reads as it did. -/
def fnMachineOkSpec : ChangeSpec := { name := "fnMachineOk", vars := ["loop.example/coinmachine/impl.worths"], fn := fun _ => fun
  | [d, g1] => { results := [.lit (.bool true)], args := [d], vars := [g1] }
  | _ => none }
def fnMachineOkRow : OpenClaim := { program := "ytfoohenmlagfjaadoor", sum := "307c15a5d871614d8a2f3e9fec3db049130c4d3d88d7e47aa0c36d2a5c92f101", func := "loop.example/coinmachine/laws.FnMachineOk", spec := "fnMachineOk", named := ["loop.example/coinmachine/impl.worths"], plainKeys := false, apart := false, laid := [("loop.example/coinmachine/impl.worths", laid_loop_example_coinmachine_impl_worths)] }
def FnMachineOkSaid : Prop := fnMachineOkRow.holds Tryd.pinned (OpenSpec.ofChange fnMachineOkSpec)

/-- ITS FALSE NEIGHBOUR: 'it returns false'. Refute it at one input. -/
def fnMachineOkWrong : ChangeSpec := { name := "fnMachineOk", vars := ["loop.example/coinmachine/impl.worths"], fn := fun _ => fun
  | [d, g1] => { results := [.lit (.bool false)], args := [d], vars := [g1] }
  | _ => none }
def FnMachineOkWrongFalsely : Prop := fnMachineOkRow.holds Tryd.pinned (OpenSpec.ofChange fnMachineOkWrong)

/-- 'laws.FnMachineNew': WHATEVER THE INPUT: true; the input reads as it did. -/
def fnMachineNewSpec : ChangeSpec := { name := "fnMachineNew", vars := ["loop.example/coinmachine/impl.worths"], fn := fun _ => fun
  | [d, g1] => { results := [.lit (.bool true)], args := [d], vars := [g1] }
  | _ => none }
def fnMachineNewRow : OpenClaim := { program := "ytfoohenmlagfjaadoor", sum := "307c15a5d871614d8a2f3e9fec3db049130c4d3d88d7e47aa0c36d2a5c92f101", func := "loop.example/coinmachine/laws.FnMachineNew", spec := "fnMachineNew", named := ["loop.example/coinmachine/impl.worths"], plainKeys := false, apart := false, laid := [("loop.example/coinmachine/impl.worths", laid_loop_example_coinmachine_impl_worths)] }
def FnMachineNewSaid : Prop := fnMachineNewRow.holds Tryd.pinned (OpenSpec.ofChange fnMachineNewSpec)

/-- ITS FALSE NEIGHBOUR: 'it returns false'. Refute it at one input. -/
def fnMachineNewWrong : ChangeSpec := { name := "fnMachineNew", vars := ["loop.example/coinmachine/impl.worths"], fn := fun _ => fun
  | [d, g1] => { results := [.lit (.bool false)], args := [d], vars := [g1] }
  | _ => none }
def FnMachineNewWrongFalsely : Prop := fnMachineNewRow.holds Tryd.pinned (OpenSpec.ofChange fnMachineNewWrong)

/-- 'laws.FnActed': WHATEVER THE INPUT: true; the input reads as it did. -/
def fnActedSpec : ChangeSpec := { name := "fnActed", vars := ["loop.example/coinmachine/impl.worths"], fn := fun _ => fun
  | [d, g1] => { results := [.lit (.bool true)], args := [d], vars := [g1] }
  | _ => none }
def fnActedRow : OpenClaim := { program := "ytfoohenmlagfjaadoor", sum := "307c15a5d871614d8a2f3e9fec3db049130c4d3d88d7e47aa0c36d2a5c92f101", func := "loop.example/coinmachine/laws.FnActed", spec := "fnActed", unfollowed := true, recurses := true, named := ["loop.example/coinmachine/impl.worths"], plainKeys := false, apart := false, laid := [("loop.example/coinmachine/impl.worths", laid_loop_example_coinmachine_impl_worths)] }
def FnActedSaid : Prop := fnActedRow.holds Tryd.pinned (OpenSpec.ofChange fnActedSpec)

/-- ITS FALSE NEIGHBOUR: 'it returns false'. Refute it at one input. -/
def fnActedWrong : ChangeSpec := { name := "fnActed", vars := ["loop.example/coinmachine/impl.worths"], fn := fun _ => fun
  | [d, g1] => { results := [.lit (.bool false)], args := [d], vars := [g1] }
  | _ => none }
def FnActedWrongFalsely : Prop := fnActedRow.holds Tryd.pinned (OpenSpec.ofChange fnActedWrong)

/-- 'laws.FnMoneyIn': WHATEVER THE INPUT: true; the input reads as it did. -/
def fnMoneyInSpec : ChangeSpec := { name := "fnMoneyIn", vars := ["loop.example/coinmachine/impl.worths"], fn := fun _ => fun
  | [d, g1] => { results := [.lit (.bool true)], args := [d], vars := [g1] }
  | _ => none }
def fnMoneyInRow : OpenClaim := { program := "ytfoohenmlagfjaadoor", sum := "307c15a5d871614d8a2f3e9fec3db049130c4d3d88d7e47aa0c36d2a5c92f101", func := "loop.example/coinmachine/laws.FnMoneyIn", spec := "fnMoneyIn", unfollowed := true, recurses := true, named := ["loop.example/coinmachine/impl.worths"], plainKeys := false, apart := false, laid := [("loop.example/coinmachine/impl.worths", laid_loop_example_coinmachine_impl_worths)] }
def FnMoneyInSaid : Prop := fnMoneyInRow.holds Tryd.pinned (OpenSpec.ofChange fnMoneyInSpec)

/-- ITS FALSE NEIGHBOUR: 'it returns false'. Refute it at one input. -/
def fnMoneyInWrong : ChangeSpec := { name := "fnMoneyIn", vars := ["loop.example/coinmachine/impl.worths"], fn := fun _ => fun
  | [d, g1] => { results := [.lit (.bool false)], args := [d], vars := [g1] }
  | _ => none }
def FnMoneyInWrongFalsely : Prop := fnMoneyInRow.holds Tryd.pinned (OpenSpec.ofChange fnMoneyInWrong)

/-- 'laws.FnCanPick': WHATEVER THE INPUT: true; the input reads as it did. -/
def fnCanPickSpec : ChangeSpec := { name := "fnCanPick", vars := ["loop.example/coinmachine/impl.worths"], fn := fun _ => fun
  | [d, g1] => { results := [.lit (.bool true)], args := [d], vars := [g1] }
  | _ => none }
def fnCanPickRow : OpenClaim := { program := "ytfoohenmlagfjaadoor", sum := "307c15a5d871614d8a2f3e9fec3db049130c4d3d88d7e47aa0c36d2a5c92f101", func := "loop.example/coinmachine/laws.FnCanPick", spec := "fnCanPick", unfollowed := true, recurses := true, named := ["loop.example/coinmachine/impl.worths"], plainKeys := false, apart := false, laid := [("loop.example/coinmachine/impl.worths", laid_loop_example_coinmachine_impl_worths)] }
def FnCanPickSaid : Prop := fnCanPickRow.holds Tryd.pinned (OpenSpec.ofChange fnCanPickSpec)

/-- ITS FALSE NEIGHBOUR: 'it returns false'. Refute it at one input. -/
def fnCanPickWrong : ChangeSpec := { name := "fnCanPick", vars := ["loop.example/coinmachine/impl.worths"], fn := fun _ => fun
  | [d, g1] => { results := [.lit (.bool false)], args := [d], vars := [g1] }
  | _ => none }
def FnCanPickWrongFalsely : Prop := fnCanPickRow.holds Tryd.pinned (OpenSpec.ofChange fnCanPickWrong)

/-- 'laws.FnRefilled': WHATEVER THE INPUT: true; the input reads as it did. -/
def fnRefilledSpec : ChangeSpec := { name := "fnRefilled", vars := ["loop.example/coinmachine/impl.worths"], fn := fun _ => fun
  | [d, g1] => { results := [.lit (.bool true)], args := [d], vars := [g1] }
  | _ => none }
def fnRefilledRow : OpenClaim := { program := "ytfoohenmlagfjaadoor", sum := "307c15a5d871614d8a2f3e9fec3db049130c4d3d88d7e47aa0c36d2a5c92f101", func := "loop.example/coinmachine/laws.FnRefilled", spec := "fnRefilled", named := ["loop.example/coinmachine/impl.worths"], plainKeys := false, apart := false, laid := [("loop.example/coinmachine/impl.worths", laid_loop_example_coinmachine_impl_worths)] }
def FnRefilledSaid : Prop := fnRefilledRow.holds Tryd.pinned (OpenSpec.ofChange fnRefilledSpec)

/-- ITS FALSE NEIGHBOUR: 'it returns false'. Refute it at one input. -/
def fnRefilledWrong : ChangeSpec := { name := "fnRefilled", vars := ["loop.example/coinmachine/impl.worths"], fn := fun _ => fun
  | [d, g1] => { results := [.lit (.bool false)], args := [d], vars := [g1] }
  | _ => none }
def FnRefilledWrongFalsely : Prop := fnRefilledRow.holds Tryd.pinned (OpenSpec.ofChange fnRefilledWrong)

/-- 'laws.FnExactActed': WHATEVER THE INPUT: true; the input reads as it did. -/
def fnExactActedSpec : ChangeSpec := { name := "fnExactActed", vars := ["loop.example/coinmachine/impl.worths"], fn := fun _ => fun
  | [d1, d2, g1] => { results := [.lit (.bool true)], args := [d1, d2], vars := [g1] }
  | _ => none }
def fnExactActedRow : OpenClaim := { program := "ytfoohenmlagfjaadoor", sum := "307c15a5d871614d8a2f3e9fec3db049130c4d3d88d7e47aa0c36d2a5c92f101", func := "loop.example/coinmachine/laws.FnExactActed", spec := "fnExactActed", unfollowed := true, recurses := true, named := ["loop.example/coinmachine/impl.worths"], plainKeys := false, apart := false, laid := [("loop.example/coinmachine/impl.worths", laid_loop_example_coinmachine_impl_worths)] }
def FnExactActedSaid : Prop := fnExactActedRow.holds Tryd.pinned (OpenSpec.ofChange fnExactActedSpec)

/-- ITS FALSE NEIGHBOUR: 'it returns false'. Refute it at one input. -/
def fnExactActedWrong : ChangeSpec := { name := "fnExactActed", vars := ["loop.example/coinmachine/impl.worths"], fn := fun _ => fun
  | [d1, d2, g1] => { results := [.lit (.bool false)], args := [d1, d2], vars := [g1] }
  | _ => none }
def FnExactActedWrongFalsely : Prop := fnExactActedRow.holds Tryd.pinned (OpenSpec.ofChange fnExactActedWrong)

/-- 'laws.FnExactMoneyIn': WHATEVER THE INPUT: true; the input reads as it did. -/
def fnExactMoneyInSpec : ChangeSpec := { name := "fnExactMoneyIn", vars := ["loop.example/coinmachine/impl.worths"], fn := fun _ => fun
  | [d, g1] => { results := [.lit (.bool true)], args := [d], vars := [g1] }
  | _ => none }
def fnExactMoneyInRow : OpenClaim := { program := "ytfoohenmlagfjaadoor", sum := "307c15a5d871614d8a2f3e9fec3db049130c4d3d88d7e47aa0c36d2a5c92f101", func := "loop.example/coinmachine/laws.FnExactMoneyIn", spec := "fnExactMoneyIn", named := ["loop.example/coinmachine/impl.worths"], plainKeys := false, apart := false, laid := [("loop.example/coinmachine/impl.worths", laid_loop_example_coinmachine_impl_worths)] }
def FnExactMoneyInSaid : Prop := fnExactMoneyInRow.holds Tryd.pinned (OpenSpec.ofChange fnExactMoneyInSpec)

/-- ITS FALSE NEIGHBOUR: 'it returns false'. Refute it at one input. -/
def fnExactMoneyInWrong : ChangeSpec := { name := "fnExactMoneyIn", vars := ["loop.example/coinmachine/impl.worths"], fn := fun _ => fun
  | [d, g1] => { results := [.lit (.bool false)], args := [d], vars := [g1] }
  | _ => none }
def FnExactMoneyInWrongFalsely : Prop := fnExactMoneyInRow.holds Tryd.pinned (OpenSpec.ofChange fnExactMoneyInWrong)

/-- 'laws.FnExactCanPick': WHATEVER THE INPUT: true; the input reads as it did. -/
def fnExactCanPickSpec : ChangeSpec := { name := "fnExactCanPick", vars := ["loop.example/coinmachine/impl.worths"], fn := fun _ => fun
  | [d, g1] => { results := [.lit (.bool true)], args := [d], vars := [g1] }
  | _ => none }
def fnExactCanPickRow : OpenClaim := { program := "ytfoohenmlagfjaadoor", sum := "307c15a5d871614d8a2f3e9fec3db049130c4d3d88d7e47aa0c36d2a5c92f101", func := "loop.example/coinmachine/laws.FnExactCanPick", spec := "fnExactCanPick", unfollowed := true, recurses := true, named := ["loop.example/coinmachine/impl.worths"], plainKeys := false, apart := false, laid := [("loop.example/coinmachine/impl.worths", laid_loop_example_coinmachine_impl_worths)] }
def FnExactCanPickSaid : Prop := fnExactCanPickRow.holds Tryd.pinned (OpenSpec.ofChange fnExactCanPickSpec)

/-- ITS FALSE NEIGHBOUR: 'it returns false'. Refute it at one input. -/
def fnExactCanPickWrong : ChangeSpec := { name := "fnExactCanPick", vars := ["loop.example/coinmachine/impl.worths"], fn := fun _ => fun
  | [d, g1] => { results := [.lit (.bool false)], args := [d], vars := [g1] }
  | _ => none }
def FnExactCanPickWrongFalsely : Prop := fnExactCanPickRow.holds Tryd.pinned (OpenSpec.ofChange fnExactCanPickWrong)

/- THE SECOND FORM. 'bulk': how many values and letters a reading holds, each counted each time it is reached (what is shared counts as often as it is met; a slice's spare places count too). A statement '..UptoSaid' is the law's where the arguments, and the package variables that the reading takes, are together of bulk at most 1048576: NARROWER than '..Said'. Prove '..Said' where nothing that the law and all that it calls make is longer than what came in: it says more and counts as full. Else prove '..UptoSaid'. A law counts once. -/
mutual
def uptoBulk {H : Type} : DataW H → Nat
  | .lit (.string bytes) => bytes.length + 1
  | .lit _ => 1
  | .nil => 1
  | .ptr d => uptoBulk d + 1
  | .slice elems spare => uptoBulkAll elems + uptoBulkAll spare + 1
  | .agg parts => uptoBulkAll parts + 1
  | .iface _ d => uptoBulk d + 1
  | .map entries => uptoBulkEntries entries + 1
  | .held _ => 1
def uptoBulkAll {H : Type} : List (DataW H) → Nat
  | [] => 0
  | d :: r => uptoBulk d + uptoBulkAll r
def uptoBulkEntries {H : Type} : List (Lit × DataW H) → Nat
  | [] => 0
  | x :: r => uptoBulkEntry x + uptoBulkEntries r
def uptoBulkEntry {H : Type} : Lit × DataW H → Nat
  | (.string bytes, d) => bytes.length + uptoBulk d + 1
  | (_, d) => uptoBulk d + 1
 end
def uptoSmall : (H : Type) → List (DataW H) → Bool := fun _ ds => decide (uptoBulkAll ds ≤ 1048576)
def OpenSpec.upto (s : _root_.Go.ChangeSpec) : _root_.Go.OpenSpec := { _root_.Go.OpenSpec.ofChange s with cond := some uptoSmall }

/-- 'laws.FnMachineOk', WHERE WHAT IT READS IS OF BULK AT MOST 1048576: true; the input reads as it did. -/
def fnMachineOkUptoRow : OpenClaim := { program := "ytfoohenmlagfjaadoor", sum := "307c15a5d871614d8a2f3e9fec3db049130c4d3d88d7e47aa0c36d2a5c92f101", func := "loop.example/coinmachine/laws.FnMachineOk", spec := "fnMachineOk", named := ["loop.example/coinmachine/impl.worths"], plainKeys := false, apart := false, laid := [("loop.example/coinmachine/impl.worths", laid_loop_example_coinmachine_impl_worths)], narrowed := true }
def FnMachineOkUptoSaid : Prop := fnMachineOkUptoRow.holds Tryd.pinned (OpenSpec.upto fnMachineOkSpec)

/-- 'laws.FnMachineNew', WHERE WHAT IT READS IS OF BULK AT MOST 1048576: true; the input reads as it did. -/
def fnMachineNewUptoRow : OpenClaim := { program := "ytfoohenmlagfjaadoor", sum := "307c15a5d871614d8a2f3e9fec3db049130c4d3d88d7e47aa0c36d2a5c92f101", func := "loop.example/coinmachine/laws.FnMachineNew", spec := "fnMachineNew", named := ["loop.example/coinmachine/impl.worths"], plainKeys := false, apart := false, laid := [("loop.example/coinmachine/impl.worths", laid_loop_example_coinmachine_impl_worths)], narrowed := true }
def FnMachineNewUptoSaid : Prop := fnMachineNewUptoRow.holds Tryd.pinned (OpenSpec.upto fnMachineNewSpec)

/-- 'laws.FnActed', WHERE WHAT IT READS IS OF BULK AT MOST 1048576: true; the input reads as it did. -/
def fnActedUptoRow : OpenClaim := { program := "ytfoohenmlagfjaadoor", sum := "307c15a5d871614d8a2f3e9fec3db049130c4d3d88d7e47aa0c36d2a5c92f101", func := "loop.example/coinmachine/laws.FnActed", spec := "fnActed", unfollowed := true, recurses := true, named := ["loop.example/coinmachine/impl.worths"], plainKeys := false, apart := false, laid := [("loop.example/coinmachine/impl.worths", laid_loop_example_coinmachine_impl_worths)], narrowed := true }
def FnActedUptoSaid : Prop := fnActedUptoRow.holds Tryd.pinned (OpenSpec.upto fnActedSpec)

/-- 'laws.FnMoneyIn', WHERE WHAT IT READS IS OF BULK AT MOST 1048576: true; the input reads as it did. -/
def fnMoneyInUptoRow : OpenClaim := { program := "ytfoohenmlagfjaadoor", sum := "307c15a5d871614d8a2f3e9fec3db049130c4d3d88d7e47aa0c36d2a5c92f101", func := "loop.example/coinmachine/laws.FnMoneyIn", spec := "fnMoneyIn", unfollowed := true, recurses := true, named := ["loop.example/coinmachine/impl.worths"], plainKeys := false, apart := false, laid := [("loop.example/coinmachine/impl.worths", laid_loop_example_coinmachine_impl_worths)], narrowed := true }
def FnMoneyInUptoSaid : Prop := fnMoneyInUptoRow.holds Tryd.pinned (OpenSpec.upto fnMoneyInSpec)

/-- 'laws.FnCanPick', WHERE WHAT IT READS IS OF BULK AT MOST 1048576: true; the input reads as it did. -/
def fnCanPickUptoRow : OpenClaim := { program := "ytfoohenmlagfjaadoor", sum := "307c15a5d871614d8a2f3e9fec3db049130c4d3d88d7e47aa0c36d2a5c92f101", func := "loop.example/coinmachine/laws.FnCanPick", spec := "fnCanPick", unfollowed := true, recurses := true, named := ["loop.example/coinmachine/impl.worths"], plainKeys := false, apart := false, laid := [("loop.example/coinmachine/impl.worths", laid_loop_example_coinmachine_impl_worths)], narrowed := true }
def FnCanPickUptoSaid : Prop := fnCanPickUptoRow.holds Tryd.pinned (OpenSpec.upto fnCanPickSpec)

/-- 'laws.FnRefilled', WHERE WHAT IT READS IS OF BULK AT MOST 1048576: true; the input reads as it did. -/
def fnRefilledUptoRow : OpenClaim := { program := "ytfoohenmlagfjaadoor", sum := "307c15a5d871614d8a2f3e9fec3db049130c4d3d88d7e47aa0c36d2a5c92f101", func := "loop.example/coinmachine/laws.FnRefilled", spec := "fnRefilled", named := ["loop.example/coinmachine/impl.worths"], plainKeys := false, apart := false, laid := [("loop.example/coinmachine/impl.worths", laid_loop_example_coinmachine_impl_worths)], narrowed := true }
def FnRefilledUptoSaid : Prop := fnRefilledUptoRow.holds Tryd.pinned (OpenSpec.upto fnRefilledSpec)

/-- 'laws.FnExactActed', WHERE WHAT IT READS IS OF BULK AT MOST 1048576: true; the input reads as it did. -/
def fnExactActedUptoRow : OpenClaim := { program := "ytfoohenmlagfjaadoor", sum := "307c15a5d871614d8a2f3e9fec3db049130c4d3d88d7e47aa0c36d2a5c92f101", func := "loop.example/coinmachine/laws.FnExactActed", spec := "fnExactActed", unfollowed := true, recurses := true, named := ["loop.example/coinmachine/impl.worths"], plainKeys := false, apart := false, laid := [("loop.example/coinmachine/impl.worths", laid_loop_example_coinmachine_impl_worths)], narrowed := true }
def FnExactActedUptoSaid : Prop := fnExactActedUptoRow.holds Tryd.pinned (OpenSpec.upto fnExactActedSpec)

/-- 'laws.FnExactMoneyIn', WHERE WHAT IT READS IS OF BULK AT MOST 1048576: true; the input reads as it did. -/
def fnExactMoneyInUptoRow : OpenClaim := { program := "ytfoohenmlagfjaadoor", sum := "307c15a5d871614d8a2f3e9fec3db049130c4d3d88d7e47aa0c36d2a5c92f101", func := "loop.example/coinmachine/laws.FnExactMoneyIn", spec := "fnExactMoneyIn", named := ["loop.example/coinmachine/impl.worths"], plainKeys := false, apart := false, laid := [("loop.example/coinmachine/impl.worths", laid_loop_example_coinmachine_impl_worths)], narrowed := true }
def FnExactMoneyInUptoSaid : Prop := fnExactMoneyInUptoRow.holds Tryd.pinned (OpenSpec.upto fnExactMoneyInSpec)

/-- 'laws.FnExactCanPick', WHERE WHAT IT READS IS OF BULK AT MOST 1048576: true; the input reads as it did. -/
def fnExactCanPickUptoRow : OpenClaim := { program := "ytfoohenmlagfjaadoor", sum := "307c15a5d871614d8a2f3e9fec3db049130c4d3d88d7e47aa0c36d2a5c92f101", func := "loop.example/coinmachine/laws.FnExactCanPick", spec := "fnExactCanPick", unfollowed := true, recurses := true, named := ["loop.example/coinmachine/impl.worths"], plainKeys := false, apart := false, laid := [("loop.example/coinmachine/impl.worths", laid_loop_example_coinmachine_impl_worths)], narrowed := true }
def FnExactCanPickUptoSaid : Prop := fnExactCanPickUptoRow.holds Tryd.pinned (OpenSpec.upto fnExactCanPickSpec)

end Rows
end Go.Proofs.YtfoohenmlagfjaaDoor

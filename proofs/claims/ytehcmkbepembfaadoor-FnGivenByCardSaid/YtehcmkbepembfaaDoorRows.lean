/-
  NARROWER THAN 'FOR EVERY INPUT', by the rows' own cells (each row's printed sentence says how): FnExactRunOf: laid · FnMachineOk: laid · FnMoneyIn: laid · FnRefilled: laid · FnCanPick: laid · FnActed: laid · FnRunOf: laid · FnCoinsPut: laid · FnPutInBy: laid · FnGivenBy: laid · FnSoldBy: laid · FnDoneIn: laid · FnHoldsAt: laid · FnHoldsOf: laid · FnPlacesOf: laid · FnClaimOk: laid.
  DERIVED. THE GIVEN ROWS OF THIS SEAT. 16 by the template 'for every input the law returns true; each argument reads behind the call as it read before'; 0 by the template 'total and deterministic' (their statements: YtehcmkbepembfaaDoorTotals.lean).
  GIVEN WITH THE SEED: the statements are not yours to turn. If you find one false, say at which input.
  Laid BY PROGRAM, IN A SANDBOX (cutbox-rows.mjs): the forced cells as the released guide's own fill.sh prints them over the translation faab7d1f0062a5be… (all of the seat's roots in one cut). By AI agents, Wed Nov 11 2026. No macro, syntax, notation, axiom, sorry.
-/
import Derived.Test.YtehcmkbepembfaaDoorChecked
import GoSem.Claim
import GoSem.ClaimJoined
import GoSem.ClaimMapViews
import Derived.JoinedTies
import Derived.KernelRfl
namespace Go.Proofs.YtehcmkbepembfaaDoor
/- THE CELL 'sum', in the pinned program and in every row, IS THE sha256 OF THE DUMP (.gsa) THAT YtehcmkbepembfaaDoorProg.lean LOADS. Nothing in Lean hashes anything: it is a label: what it is worth is what the hold of that sum in a sandbox is worth. -/
noncomputable def Tryd.pinned : Pinned := { name := "ytehcmkbepembfaadoor", sum := "faab7d1f0062a5be1b4d6b7ca42f16aac8f886aa40abcab645e37d0017514f6a", checked := Tryd.checked }
namespace Rows
def none {H : Type} : Left H := { results := [], args := [] }

/- WHAT THE LISTED PACKAGE-LEVEL VARIABLES READ AS WHEN THE CALL BEGINS. Each datum BY PROGRAM (the guide's laid-datum.mjs) off the statement by which the dump's own 'gosem.cut.vars' lays the variable. In a bare row this is a premise. The card (YtehcmkbepembfaaDoorCards.lean) ties it to the program's text. -/
def laid_loop_example_coinmachine_impl_worths {H : Type} : DataW H := .agg [.lit (.int .i64 1), .lit (.int .i64 2), .lit (.int .i64 5), .lit (.int .i64 10)]

/-- 'laws.FnExactRunOf': WHATEVER THE INPUT: true; the input reads as it did. -/
def fnExactRunOfSpec : ChangeSpec := { name := "fnExactRunOf", vars := ["loop.example/coinmachine/impl.worths"], fn := fun _ => fun
  | [d1, d2, g1] => { results := [.lit (.bool true)], args := [d1, d2], vars := [g1] }
  | _ => none }
def fnExactRunOfRow : OpenClaim := { program := "ytehcmkbepembfaadoor", sum := "faab7d1f0062a5be1b4d6b7ca42f16aac8f886aa40abcab645e37d0017514f6a", func := "loop.example/coinmachine/laws.FnExactRunOf", spec := "fnExactRunOf", unfollowed := true, recurses := true, named := ["loop.example/coinmachine/impl.worths"], plainKeys := false, apart := false, laid := [("loop.example/coinmachine/impl.worths", laid_loop_example_coinmachine_impl_worths)] }
def FnExactRunOfSaid : Prop := fnExactRunOfRow.holds Tryd.pinned (OpenSpec.ofChange fnExactRunOfSpec)

/-- ITS FALSE NEIGHBOUR: 'it returns false'. Refute it at one input. -/
def fnExactRunOfWrong : ChangeSpec := { name := "fnExactRunOf", vars := ["loop.example/coinmachine/impl.worths"], fn := fun _ => fun
  | [d1, d2, g1] => { results := [.lit (.bool false)], args := [d1, d2], vars := [g1] }
  | _ => none }
def FnExactRunOfWrongFalsely : Prop := fnExactRunOfRow.holds Tryd.pinned (OpenSpec.ofChange fnExactRunOfWrong)

/-- 'laws.FnMachineOk': WHATEVER THE INPUT: true; the input reads as it did. -/
def fnMachineOkSpec : ChangeSpec := { name := "fnMachineOk", vars := ["loop.example/coinmachine/impl.worths"], fn := fun _ => fun
  | [d, g1] => { results := [.lit (.bool true)], args := [d], vars := [g1] }
  | _ => none }
def fnMachineOkRow : OpenClaim := { program := "ytehcmkbepembfaadoor", sum := "faab7d1f0062a5be1b4d6b7ca42f16aac8f886aa40abcab645e37d0017514f6a", func := "loop.example/coinmachine/laws.FnMachineOk", spec := "fnMachineOk", named := ["loop.example/coinmachine/impl.worths"], plainKeys := false, apart := false, laid := [("loop.example/coinmachine/impl.worths", laid_loop_example_coinmachine_impl_worths)] }
def FnMachineOkSaid : Prop := fnMachineOkRow.holds Tryd.pinned (OpenSpec.ofChange fnMachineOkSpec)

/-- ITS FALSE NEIGHBOUR: 'it returns false'. Refute it at one input. -/
def fnMachineOkWrong : ChangeSpec := { name := "fnMachineOk", vars := ["loop.example/coinmachine/impl.worths"], fn := fun _ => fun
  | [d, g1] => { results := [.lit (.bool false)], args := [d], vars := [g1] }
  | _ => none }
def FnMachineOkWrongFalsely : Prop := fnMachineOkRow.holds Tryd.pinned (OpenSpec.ofChange fnMachineOkWrong)

/-- 'laws.FnMoneyIn': WHATEVER THE INPUT: true; the input reads as it did. -/
def fnMoneyInSpec : ChangeSpec := { name := "fnMoneyIn", vars := ["loop.example/coinmachine/impl.worths"], fn := fun _ => fun
  | [d, g1] => { results := [.lit (.bool true)], args := [d], vars := [g1] }
  | _ => none }
def fnMoneyInRow : OpenClaim := { program := "ytehcmkbepembfaadoor", sum := "faab7d1f0062a5be1b4d6b7ca42f16aac8f886aa40abcab645e37d0017514f6a", func := "loop.example/coinmachine/laws.FnMoneyIn", spec := "fnMoneyIn", unfollowed := true, recurses := true, named := ["loop.example/coinmachine/impl.worths"], plainKeys := false, apart := false, laid := [("loop.example/coinmachine/impl.worths", laid_loop_example_coinmachine_impl_worths)] }
def FnMoneyInSaid : Prop := fnMoneyInRow.holds Tryd.pinned (OpenSpec.ofChange fnMoneyInSpec)

/-- ITS FALSE NEIGHBOUR: 'it returns false'. Refute it at one input. -/
def fnMoneyInWrong : ChangeSpec := { name := "fnMoneyIn", vars := ["loop.example/coinmachine/impl.worths"], fn := fun _ => fun
  | [d, g1] => { results := [.lit (.bool false)], args := [d], vars := [g1] }
  | _ => none }
def FnMoneyInWrongFalsely : Prop := fnMoneyInRow.holds Tryd.pinned (OpenSpec.ofChange fnMoneyInWrong)

/-- 'laws.FnRefilled': WHATEVER THE INPUT: true; the input reads as it did. -/
def fnRefilledSpec : ChangeSpec := { name := "fnRefilled", vars := ["loop.example/coinmachine/impl.worths"], fn := fun _ => fun
  | [d, g1] => { results := [.lit (.bool true)], args := [d], vars := [g1] }
  | _ => none }
def fnRefilledRow : OpenClaim := { program := "ytehcmkbepembfaadoor", sum := "faab7d1f0062a5be1b4d6b7ca42f16aac8f886aa40abcab645e37d0017514f6a", func := "loop.example/coinmachine/laws.FnRefilled", spec := "fnRefilled", named := ["loop.example/coinmachine/impl.worths"], plainKeys := false, apart := false, laid := [("loop.example/coinmachine/impl.worths", laid_loop_example_coinmachine_impl_worths)] }
def FnRefilledSaid : Prop := fnRefilledRow.holds Tryd.pinned (OpenSpec.ofChange fnRefilledSpec)

/-- ITS FALSE NEIGHBOUR: 'it returns false'. Refute it at one input. -/
def fnRefilledWrong : ChangeSpec := { name := "fnRefilled", vars := ["loop.example/coinmachine/impl.worths"], fn := fun _ => fun
  | [d, g1] => { results := [.lit (.bool false)], args := [d], vars := [g1] }
  | _ => none }
def FnRefilledWrongFalsely : Prop := fnRefilledRow.holds Tryd.pinned (OpenSpec.ofChange fnRefilledWrong)

/-- 'laws.FnCanPick': WHATEVER THE INPUT: true; the input reads as it did. -/
def fnCanPickSpec : ChangeSpec := { name := "fnCanPick", vars := ["loop.example/coinmachine/impl.worths"], fn := fun _ => fun
  | [d, g1] => { results := [.lit (.bool true)], args := [d], vars := [g1] }
  | _ => none }
def fnCanPickRow : OpenClaim := { program := "ytehcmkbepembfaadoor", sum := "faab7d1f0062a5be1b4d6b7ca42f16aac8f886aa40abcab645e37d0017514f6a", func := "loop.example/coinmachine/laws.FnCanPick", spec := "fnCanPick", unfollowed := true, recurses := true, named := ["loop.example/coinmachine/impl.worths"], plainKeys := false, apart := false, laid := [("loop.example/coinmachine/impl.worths", laid_loop_example_coinmachine_impl_worths)] }
def FnCanPickSaid : Prop := fnCanPickRow.holds Tryd.pinned (OpenSpec.ofChange fnCanPickSpec)

/-- ITS FALSE NEIGHBOUR: 'it returns false'. Refute it at one input. -/
def fnCanPickWrong : ChangeSpec := { name := "fnCanPick", vars := ["loop.example/coinmachine/impl.worths"], fn := fun _ => fun
  | [d, g1] => { results := [.lit (.bool false)], args := [d], vars := [g1] }
  | _ => none }
def FnCanPickWrongFalsely : Prop := fnCanPickRow.holds Tryd.pinned (OpenSpec.ofChange fnCanPickWrong)

/-- 'laws.FnActed': WHATEVER THE INPUT: true; the input reads as it did. -/
def fnActedSpec : ChangeSpec := { name := "fnActed", vars := ["loop.example/coinmachine/impl.worths"], fn := fun _ => fun
  | [d, g1] => { results := [.lit (.bool true)], args := [d], vars := [g1] }
  | _ => none }
def fnActedRow : OpenClaim := { program := "ytehcmkbepembfaadoor", sum := "faab7d1f0062a5be1b4d6b7ca42f16aac8f886aa40abcab645e37d0017514f6a", func := "loop.example/coinmachine/laws.FnActed", spec := "fnActed", unfollowed := true, recurses := true, named := ["loop.example/coinmachine/impl.worths"], plainKeys := false, apart := false, laid := [("loop.example/coinmachine/impl.worths", laid_loop_example_coinmachine_impl_worths)] }
def FnActedSaid : Prop := fnActedRow.holds Tryd.pinned (OpenSpec.ofChange fnActedSpec)

/-- ITS FALSE NEIGHBOUR: 'it returns false'. Refute it at one input. -/
def fnActedWrong : ChangeSpec := { name := "fnActed", vars := ["loop.example/coinmachine/impl.worths"], fn := fun _ => fun
  | [d, g1] => { results := [.lit (.bool false)], args := [d], vars := [g1] }
  | _ => none }
def FnActedWrongFalsely : Prop := fnActedRow.holds Tryd.pinned (OpenSpec.ofChange fnActedWrong)

/-- 'laws.FnRunOf': WHATEVER THE INPUT: true; the input reads as it did. -/
def fnRunOfSpec : ChangeSpec := { name := "fnRunOf", vars := ["loop.example/coinmachine/impl.worths"], fn := fun _ => fun
  | [d, g1] => { results := [.lit (.bool true)], args := [d], vars := [g1] }
  | _ => none }
def fnRunOfRow : OpenClaim := { program := "ytehcmkbepembfaadoor", sum := "faab7d1f0062a5be1b4d6b7ca42f16aac8f886aa40abcab645e37d0017514f6a", func := "loop.example/coinmachine/laws.FnRunOf", spec := "fnRunOf", unfollowed := true, recurses := true, named := ["loop.example/coinmachine/impl.worths"], plainKeys := false, apart := false, laid := [("loop.example/coinmachine/impl.worths", laid_loop_example_coinmachine_impl_worths)] }
def FnRunOfSaid : Prop := fnRunOfRow.holds Tryd.pinned (OpenSpec.ofChange fnRunOfSpec)

/-- ITS FALSE NEIGHBOUR: 'it returns false'. Refute it at one input. -/
def fnRunOfWrong : ChangeSpec := { name := "fnRunOf", vars := ["loop.example/coinmachine/impl.worths"], fn := fun _ => fun
  | [d, g1] => { results := [.lit (.bool false)], args := [d], vars := [g1] }
  | _ => none }
def FnRunOfWrongFalsely : Prop := fnRunOfRow.holds Tryd.pinned (OpenSpec.ofChange fnRunOfWrong)

/-- 'laws.FnCoinsPut': WHATEVER THE INPUT: true; the input reads as it did. -/
def fnCoinsPutSpec : ChangeSpec := { name := "fnCoinsPut", vars := ["loop.example/coinmachine/impl.worths"], fn := fun _ => fun
  | [d1, d2, g1] => { results := [.lit (.bool true)], args := [d1, d2], vars := [g1] }
  | _ => none }
def fnCoinsPutRow : OpenClaim := { program := "ytehcmkbepembfaadoor", sum := "faab7d1f0062a5be1b4d6b7ca42f16aac8f886aa40abcab645e37d0017514f6a", func := "loop.example/coinmachine/laws.FnCoinsPut", spec := "fnCoinsPut", unfollowed := true, recurses := true, named := ["loop.example/coinmachine/impl.worths"], plainKeys := false, apart := false, laid := [("loop.example/coinmachine/impl.worths", laid_loop_example_coinmachine_impl_worths)] }
def FnCoinsPutSaid : Prop := fnCoinsPutRow.holds Tryd.pinned (OpenSpec.ofChange fnCoinsPutSpec)

/-- ITS FALSE NEIGHBOUR: 'it returns false'. Refute it at one input. -/
def fnCoinsPutWrong : ChangeSpec := { name := "fnCoinsPut", vars := ["loop.example/coinmachine/impl.worths"], fn := fun _ => fun
  | [d1, d2, g1] => { results := [.lit (.bool false)], args := [d1, d2], vars := [g1] }
  | _ => none }
def FnCoinsPutWrongFalsely : Prop := fnCoinsPutRow.holds Tryd.pinned (OpenSpec.ofChange fnCoinsPutWrong)

/-- 'laws.FnPutInBy': WHATEVER THE INPUT: true; the input reads as it did. -/
def fnPutInBySpec : ChangeSpec := { name := "fnPutInBy", vars := ["loop.example/coinmachine/impl.worths"], fn := fun _ => fun
  | [d, g1] => { results := [.lit (.bool true)], args := [d], vars := [g1] }
  | _ => none }
def fnPutInByRow : OpenClaim := { program := "ytehcmkbepembfaadoor", sum := "faab7d1f0062a5be1b4d6b7ca42f16aac8f886aa40abcab645e37d0017514f6a", func := "loop.example/coinmachine/laws.FnPutInBy", spec := "fnPutInBy", named := ["loop.example/coinmachine/impl.worths"], plainKeys := false, apart := false, laid := [("loop.example/coinmachine/impl.worths", laid_loop_example_coinmachine_impl_worths)] }
def FnPutInBySaid : Prop := fnPutInByRow.holds Tryd.pinned (OpenSpec.ofChange fnPutInBySpec)

/-- ITS FALSE NEIGHBOUR: 'it returns false'. Refute it at one input. -/
def fnPutInByWrong : ChangeSpec := { name := "fnPutInBy", vars := ["loop.example/coinmachine/impl.worths"], fn := fun _ => fun
  | [d, g1] => { results := [.lit (.bool false)], args := [d], vars := [g1] }
  | _ => none }
def FnPutInByWrongFalsely : Prop := fnPutInByRow.holds Tryd.pinned (OpenSpec.ofChange fnPutInByWrong)

/-- 'laws.FnGivenBy': WHATEVER THE INPUT: true; the input reads as it did. -/
def fnGivenBySpec : ChangeSpec := { name := "fnGivenBy", vars := ["loop.example/coinmachine/impl.worths"], fn := fun _ => fun
  | [d, g1] => { results := [.lit (.bool true)], args := [d], vars := [g1] }
  | _ => none }
def fnGivenByRow : OpenClaim := { program := "ytehcmkbepembfaadoor", sum := "faab7d1f0062a5be1b4d6b7ca42f16aac8f886aa40abcab645e37d0017514f6a", func := "loop.example/coinmachine/laws.FnGivenBy", spec := "fnGivenBy", named := ["loop.example/coinmachine/impl.worths"], plainKeys := false, apart := false, laid := [("loop.example/coinmachine/impl.worths", laid_loop_example_coinmachine_impl_worths)] }
def FnGivenBySaid : Prop := fnGivenByRow.holds Tryd.pinned (OpenSpec.ofChange fnGivenBySpec)

/-- ITS FALSE NEIGHBOUR: 'it returns false'. Refute it at one input. -/
def fnGivenByWrong : ChangeSpec := { name := "fnGivenBy", vars := ["loop.example/coinmachine/impl.worths"], fn := fun _ => fun
  | [d, g1] => { results := [.lit (.bool false)], args := [d], vars := [g1] }
  | _ => none }
def FnGivenByWrongFalsely : Prop := fnGivenByRow.holds Tryd.pinned (OpenSpec.ofChange fnGivenByWrong)

/-- 'laws.FnSoldBy': WHATEVER THE INPUT: true; the input reads as it did. -/
def fnSoldBySpec : ChangeSpec := { name := "fnSoldBy", vars := ["loop.example/coinmachine/impl.worths"], fn := fun _ => fun
  | [d1, d2, g1] => { results := [.lit (.bool true)], args := [d1, d2], vars := [g1] }
  | _ => none }
def fnSoldByRow : OpenClaim := { program := "ytehcmkbepembfaadoor", sum := "faab7d1f0062a5be1b4d6b7ca42f16aac8f886aa40abcab645e37d0017514f6a", func := "loop.example/coinmachine/laws.FnSoldBy", spec := "fnSoldBy", unfollowed := true, recurses := true, named := ["loop.example/coinmachine/impl.worths"], plainKeys := false, apart := false, laid := [("loop.example/coinmachine/impl.worths", laid_loop_example_coinmachine_impl_worths)] }
def FnSoldBySaid : Prop := fnSoldByRow.holds Tryd.pinned (OpenSpec.ofChange fnSoldBySpec)

/-- ITS FALSE NEIGHBOUR: 'it returns false'. Refute it at one input. -/
def fnSoldByWrong : ChangeSpec := { name := "fnSoldBy", vars := ["loop.example/coinmachine/impl.worths"], fn := fun _ => fun
  | [d1, d2, g1] => { results := [.lit (.bool false)], args := [d1, d2], vars := [g1] }
  | _ => none }
def FnSoldByWrongFalsely : Prop := fnSoldByRow.holds Tryd.pinned (OpenSpec.ofChange fnSoldByWrong)

/-- 'laws.FnDoneIn': WHATEVER THE INPUT: true; the input reads as it did. -/
def fnDoneInSpec : ChangeSpec := { name := "fnDoneIn", vars := ["loop.example/coinmachine/impl.worths"], fn := fun _ => fun
  | [d, g1] => { results := [.lit (.bool true)], args := [d], vars := [g1] }
  | _ => none }
def fnDoneInRow : OpenClaim := { program := "ytehcmkbepembfaadoor", sum := "faab7d1f0062a5be1b4d6b7ca42f16aac8f886aa40abcab645e37d0017514f6a", func := "loop.example/coinmachine/laws.FnDoneIn", spec := "fnDoneIn", named := ["loop.example/coinmachine/impl.worths"], plainKeys := false, apart := false, laid := [("loop.example/coinmachine/impl.worths", laid_loop_example_coinmachine_impl_worths)] }
def FnDoneInSaid : Prop := fnDoneInRow.holds Tryd.pinned (OpenSpec.ofChange fnDoneInSpec)

/-- ITS FALSE NEIGHBOUR: 'it returns false'. Refute it at one input. -/
def fnDoneInWrong : ChangeSpec := { name := "fnDoneIn", vars := ["loop.example/coinmachine/impl.worths"], fn := fun _ => fun
  | [d, g1] => { results := [.lit (.bool false)], args := [d], vars := [g1] }
  | _ => none }
def FnDoneInWrongFalsely : Prop := fnDoneInRow.holds Tryd.pinned (OpenSpec.ofChange fnDoneInWrong)

/-- 'laws.FnHoldsAt': WHATEVER THE INPUT: true; the input reads as it did. -/
def fnHoldsAtSpec : ChangeSpec := { name := "fnHoldsAt", vars := ["loop.example/coinmachine/impl.worths"], fn := fun _ => fun
  | [d, g1] => { results := [.lit (.bool true)], args := [d], vars := [g1] }
  | _ => none }
def fnHoldsAtRow : OpenClaim := { program := "ytehcmkbepembfaadoor", sum := "faab7d1f0062a5be1b4d6b7ca42f16aac8f886aa40abcab645e37d0017514f6a", func := "loop.example/coinmachine/laws.FnHoldsAt", spec := "fnHoldsAt", unfollowed := true, recurses := true, named := ["loop.example/coinmachine/impl.worths"], plainKeys := false, apart := false, laid := [("loop.example/coinmachine/impl.worths", laid_loop_example_coinmachine_impl_worths)] }
def FnHoldsAtSaid : Prop := fnHoldsAtRow.holds Tryd.pinned (OpenSpec.ofChange fnHoldsAtSpec)

/-- ITS FALSE NEIGHBOUR: 'it returns false'. Refute it at one input. -/
def fnHoldsAtWrong : ChangeSpec := { name := "fnHoldsAt", vars := ["loop.example/coinmachine/impl.worths"], fn := fun _ => fun
  | [d, g1] => { results := [.lit (.bool false)], args := [d], vars := [g1] }
  | _ => none }
def FnHoldsAtWrongFalsely : Prop := fnHoldsAtRow.holds Tryd.pinned (OpenSpec.ofChange fnHoldsAtWrong)

/-- 'laws.FnHoldsOf': WHATEVER THE INPUT: true; the input reads as it did. -/
def fnHoldsOfSpec : ChangeSpec := { name := "fnHoldsOf", vars := ["loop.example/coinmachine/impl.worths"], fn := fun _ => fun
  | [d, g1] => { results := [.lit (.bool true)], args := [d], vars := [g1] }
  | _ => none }
def fnHoldsOfRow : OpenClaim := { program := "ytehcmkbepembfaadoor", sum := "faab7d1f0062a5be1b4d6b7ca42f16aac8f886aa40abcab645e37d0017514f6a", func := "loop.example/coinmachine/laws.FnHoldsOf", spec := "fnHoldsOf", unfollowed := true, recurses := true, named := ["loop.example/coinmachine/impl.worths"], plainKeys := false, apart := false, laid := [("loop.example/coinmachine/impl.worths", laid_loop_example_coinmachine_impl_worths)] }
def FnHoldsOfSaid : Prop := fnHoldsOfRow.holds Tryd.pinned (OpenSpec.ofChange fnHoldsOfSpec)

/-- ITS FALSE NEIGHBOUR: 'it returns false'. Refute it at one input. -/
def fnHoldsOfWrong : ChangeSpec := { name := "fnHoldsOf", vars := ["loop.example/coinmachine/impl.worths"], fn := fun _ => fun
  | [d, g1] => { results := [.lit (.bool false)], args := [d], vars := [g1] }
  | _ => none }
def FnHoldsOfWrongFalsely : Prop := fnHoldsOfRow.holds Tryd.pinned (OpenSpec.ofChange fnHoldsOfWrong)

/-- 'laws.FnPlacesOf': WHATEVER THE INPUT: true; the input reads as it did. -/
def fnPlacesOfSpec : ChangeSpec := { name := "fnPlacesOf", vars := ["loop.example/coinmachine/impl.worths"], fn := fun _ => fun
  | [d, g1] => { results := [.lit (.bool true)], args := [d], vars := [g1] }
  | _ => none }
def fnPlacesOfRow : OpenClaim := { program := "ytehcmkbepembfaadoor", sum := "faab7d1f0062a5be1b4d6b7ca42f16aac8f886aa40abcab645e37d0017514f6a", func := "loop.example/coinmachine/laws.FnPlacesOf", spec := "fnPlacesOf", unfollowed := true, recurses := true, named := ["loop.example/coinmachine/impl.worths"], plainKeys := false, apart := false, laid := [("loop.example/coinmachine/impl.worths", laid_loop_example_coinmachine_impl_worths)] }
def FnPlacesOfSaid : Prop := fnPlacesOfRow.holds Tryd.pinned (OpenSpec.ofChange fnPlacesOfSpec)

/-- ITS FALSE NEIGHBOUR: 'it returns false'. Refute it at one input. -/
def fnPlacesOfWrong : ChangeSpec := { name := "fnPlacesOf", vars := ["loop.example/coinmachine/impl.worths"], fn := fun _ => fun
  | [d, g1] => { results := [.lit (.bool false)], args := [d], vars := [g1] }
  | _ => none }
def FnPlacesOfWrongFalsely : Prop := fnPlacesOfRow.holds Tryd.pinned (OpenSpec.ofChange fnPlacesOfWrong)

/-- 'laws.FnClaimOk': WHATEVER THE INPUT: true; the input reads as it did. -/
def fnClaimOkSpec : ChangeSpec := { name := "fnClaimOk", vars := ["loop.example/coinmachine/impl.worths"], fn := fun _ => fun
  | [d, g1] => { results := [.lit (.bool true)], args := [d], vars := [g1] }
  | _ => none }
def fnClaimOkRow : OpenClaim := { program := "ytehcmkbepembfaadoor", sum := "faab7d1f0062a5be1b4d6b7ca42f16aac8f886aa40abcab645e37d0017514f6a", func := "loop.example/coinmachine/laws.FnClaimOk", spec := "fnClaimOk", recurses := true, named := ["loop.example/coinmachine/impl.worths"], plainKeys := false, apart := false, laid := [("loop.example/coinmachine/impl.worths", laid_loop_example_coinmachine_impl_worths)] }
def FnClaimOkSaid : Prop := fnClaimOkRow.holds Tryd.pinned (OpenSpec.ofChange fnClaimOkSpec)

/-- ITS FALSE NEIGHBOUR: 'it returns false'. Refute it at one input. -/
def fnClaimOkWrong : ChangeSpec := { name := "fnClaimOk", vars := ["loop.example/coinmachine/impl.worths"], fn := fun _ => fun
  | [d, g1] => { results := [.lit (.bool false)], args := [d], vars := [g1] }
  | _ => none }
def FnClaimOkWrongFalsely : Prop := fnClaimOkRow.holds Tryd.pinned (OpenSpec.ofChange fnClaimOkWrong)

/- THE SECOND FORM. 'bulk': how many values and letters a reading holds, each counted each time it is reached (what is shared counts as often as it is met; a slice's spare places count too). A statement '..UptoSaid' is the law's where the arguments, and the package variables that the reading takes, are together of bulk at most 1048576: NARROWER than '..Said'. Prove '..Said' where nothing that the law and all that it calls make is longer than what came in: it says more and counts as full. Else prove '..UptoSaid'. A law counts once. -/
mutual
def uptoBulk {H : Type} : DataW H → Nat
  | .lit (.string bytes) => bytes.length + 1
  | .lit _ => 1
  | .nil => 1
  | .ptr d => uptoBulk d + 1
  | .slice elems spare => uptoBulkAll elems + uptoBulkAll spare + 1
  | .agg parts => uptoBulkAll parts + 1
  | .iface _ d => uptoBulk d + 1
  | .map entries => uptoBulkEntries entries + 1
  | .held _ => 1
def uptoBulkAll {H : Type} : List (DataW H) → Nat
  | [] => 0
  | d :: r => uptoBulk d + uptoBulkAll r
def uptoBulkEntries {H : Type} : List (Lit × DataW H) → Nat
  | [] => 0
  | x :: r => uptoBulkEntry x + uptoBulkEntries r
def uptoBulkEntry {H : Type} : Lit × DataW H → Nat
  | (.string bytes, d) => bytes.length + uptoBulk d + 1
  | (_, d) => uptoBulk d + 1
 end
def uptoSmall : (H : Type) → List (DataW H) → Bool := fun _ ds => decide (uptoBulkAll ds ≤ 1048576)
def OpenSpec.upto (s : _root_.Go.ChangeSpec) : _root_.Go.OpenSpec := { _root_.Go.OpenSpec.ofChange s with cond := some uptoSmall }

/-- 'laws.FnExactRunOf', WHERE WHAT IT READS IS OF BULK AT MOST 1048576: true; the input reads as it did. -/
def fnExactRunOfUptoRow : OpenClaim := { program := "ytehcmkbepembfaadoor", sum := "faab7d1f0062a5be1b4d6b7ca42f16aac8f886aa40abcab645e37d0017514f6a", func := "loop.example/coinmachine/laws.FnExactRunOf", spec := "fnExactRunOf", unfollowed := true, recurses := true, named := ["loop.example/coinmachine/impl.worths"], plainKeys := false, apart := false, laid := [("loop.example/coinmachine/impl.worths", laid_loop_example_coinmachine_impl_worths)], narrowed := true }
def FnExactRunOfUptoSaid : Prop := fnExactRunOfUptoRow.holds Tryd.pinned (OpenSpec.upto fnExactRunOfSpec)

/-- 'laws.FnMachineOk', WHERE WHAT IT READS IS OF BULK AT MOST 1048576: true; the input reads as it did. -/
def fnMachineOkUptoRow : OpenClaim := { program := "ytehcmkbepembfaadoor", sum := "faab7d1f0062a5be1b4d6b7ca42f16aac8f886aa40abcab645e37d0017514f6a", func := "loop.example/coinmachine/laws.FnMachineOk", spec := "fnMachineOk", named := ["loop.example/coinmachine/impl.worths"], plainKeys := false, apart := false, laid := [("loop.example/coinmachine/impl.worths", laid_loop_example_coinmachine_impl_worths)], narrowed := true }
def FnMachineOkUptoSaid : Prop := fnMachineOkUptoRow.holds Tryd.pinned (OpenSpec.upto fnMachineOkSpec)

/-- 'laws.FnMoneyIn', WHERE WHAT IT READS IS OF BULK AT MOST 1048576: true; the input reads as it did. -/
def fnMoneyInUptoRow : OpenClaim := { program := "ytehcmkbepembfaadoor", sum := "faab7d1f0062a5be1b4d6b7ca42f16aac8f886aa40abcab645e37d0017514f6a", func := "loop.example/coinmachine/laws.FnMoneyIn", spec := "fnMoneyIn", unfollowed := true, recurses := true, named := ["loop.example/coinmachine/impl.worths"], plainKeys := false, apart := false, laid := [("loop.example/coinmachine/impl.worths", laid_loop_example_coinmachine_impl_worths)], narrowed := true }
def FnMoneyInUptoSaid : Prop := fnMoneyInUptoRow.holds Tryd.pinned (OpenSpec.upto fnMoneyInSpec)

/-- 'laws.FnRefilled', WHERE WHAT IT READS IS OF BULK AT MOST 1048576: true; the input reads as it did. -/
def fnRefilledUptoRow : OpenClaim := { program := "ytehcmkbepembfaadoor", sum := "faab7d1f0062a5be1b4d6b7ca42f16aac8f886aa40abcab645e37d0017514f6a", func := "loop.example/coinmachine/laws.FnRefilled", spec := "fnRefilled", named := ["loop.example/coinmachine/impl.worths"], plainKeys := false, apart := false, laid := [("loop.example/coinmachine/impl.worths", laid_loop_example_coinmachine_impl_worths)], narrowed := true }
def FnRefilledUptoSaid : Prop := fnRefilledUptoRow.holds Tryd.pinned (OpenSpec.upto fnRefilledSpec)

/-- 'laws.FnCanPick', WHERE WHAT IT READS IS OF BULK AT MOST 1048576: true; the input reads as it did. -/
def fnCanPickUptoRow : OpenClaim := { program := "ytehcmkbepembfaadoor", sum := "faab7d1f0062a5be1b4d6b7ca42f16aac8f886aa40abcab645e37d0017514f6a", func := "loop.example/coinmachine/laws.FnCanPick", spec := "fnCanPick", unfollowed := true, recurses := true, named := ["loop.example/coinmachine/impl.worths"], plainKeys := false, apart := false, laid := [("loop.example/coinmachine/impl.worths", laid_loop_example_coinmachine_impl_worths)], narrowed := true }
def FnCanPickUptoSaid : Prop := fnCanPickUptoRow.holds Tryd.pinned (OpenSpec.upto fnCanPickSpec)

/-- 'laws.FnActed', WHERE WHAT IT READS IS OF BULK AT MOST 1048576: true; the input reads as it did. -/
def fnActedUptoRow : OpenClaim := { program := "ytehcmkbepembfaadoor", sum := "faab7d1f0062a5be1b4d6b7ca42f16aac8f886aa40abcab645e37d0017514f6a", func := "loop.example/coinmachine/laws.FnActed", spec := "fnActed", unfollowed := true, recurses := true, named := ["loop.example/coinmachine/impl.worths"], plainKeys := false, apart := false, laid := [("loop.example/coinmachine/impl.worths", laid_loop_example_coinmachine_impl_worths)], narrowed := true }
def FnActedUptoSaid : Prop := fnActedUptoRow.holds Tryd.pinned (OpenSpec.upto fnActedSpec)

/-- 'laws.FnRunOf', WHERE WHAT IT READS IS OF BULK AT MOST 1048576: true; the input reads as it did. -/
def fnRunOfUptoRow : OpenClaim := { program := "ytehcmkbepembfaadoor", sum := "faab7d1f0062a5be1b4d6b7ca42f16aac8f886aa40abcab645e37d0017514f6a", func := "loop.example/coinmachine/laws.FnRunOf", spec := "fnRunOf", unfollowed := true, recurses := true, named := ["loop.example/coinmachine/impl.worths"], plainKeys := false, apart := false, laid := [("loop.example/coinmachine/impl.worths", laid_loop_example_coinmachine_impl_worths)], narrowed := true }
def FnRunOfUptoSaid : Prop := fnRunOfUptoRow.holds Tryd.pinned (OpenSpec.upto fnRunOfSpec)

/-- 'laws.FnCoinsPut', WHERE WHAT IT READS IS OF BULK AT MOST 1048576: true; the input reads as it did. -/
def fnCoinsPutUptoRow : OpenClaim := { program := "ytehcmkbepembfaadoor", sum := "faab7d1f0062a5be1b4d6b7ca42f16aac8f886aa40abcab645e37d0017514f6a", func := "loop.example/coinmachine/laws.FnCoinsPut", spec := "fnCoinsPut", unfollowed := true, recurses := true, named := ["loop.example/coinmachine/impl.worths"], plainKeys := false, apart := false, laid := [("loop.example/coinmachine/impl.worths", laid_loop_example_coinmachine_impl_worths)], narrowed := true }
def FnCoinsPutUptoSaid : Prop := fnCoinsPutUptoRow.holds Tryd.pinned (OpenSpec.upto fnCoinsPutSpec)

/-- 'laws.FnPutInBy', WHERE WHAT IT READS IS OF BULK AT MOST 1048576: true; the input reads as it did. -/
def fnPutInByUptoRow : OpenClaim := { program := "ytehcmkbepembfaadoor", sum := "faab7d1f0062a5be1b4d6b7ca42f16aac8f886aa40abcab645e37d0017514f6a", func := "loop.example/coinmachine/laws.FnPutInBy", spec := "fnPutInBy", named := ["loop.example/coinmachine/impl.worths"], plainKeys := false, apart := false, laid := [("loop.example/coinmachine/impl.worths", laid_loop_example_coinmachine_impl_worths)], narrowed := true }
def FnPutInByUptoSaid : Prop := fnPutInByUptoRow.holds Tryd.pinned (OpenSpec.upto fnPutInBySpec)

/-- 'laws.FnGivenBy', WHERE WHAT IT READS IS OF BULK AT MOST 1048576: true; the input reads as it did. -/
def fnGivenByUptoRow : OpenClaim := { program := "ytehcmkbepembfaadoor", sum := "faab7d1f0062a5be1b4d6b7ca42f16aac8f886aa40abcab645e37d0017514f6a", func := "loop.example/coinmachine/laws.FnGivenBy", spec := "fnGivenBy", named := ["loop.example/coinmachine/impl.worths"], plainKeys := false, apart := false, laid := [("loop.example/coinmachine/impl.worths", laid_loop_example_coinmachine_impl_worths)], narrowed := true }
def FnGivenByUptoSaid : Prop := fnGivenByUptoRow.holds Tryd.pinned (OpenSpec.upto fnGivenBySpec)

/-- 'laws.FnSoldBy', WHERE WHAT IT READS IS OF BULK AT MOST 1048576: true; the input reads as it did. -/
def fnSoldByUptoRow : OpenClaim := { program := "ytehcmkbepembfaadoor", sum := "faab7d1f0062a5be1b4d6b7ca42f16aac8f886aa40abcab645e37d0017514f6a", func := "loop.example/coinmachine/laws.FnSoldBy", spec := "fnSoldBy", unfollowed := true, recurses := true, named := ["loop.example/coinmachine/impl.worths"], plainKeys := false, apart := false, laid := [("loop.example/coinmachine/impl.worths", laid_loop_example_coinmachine_impl_worths)], narrowed := true }
def FnSoldByUptoSaid : Prop := fnSoldByUptoRow.holds Tryd.pinned (OpenSpec.upto fnSoldBySpec)

/-- 'laws.FnDoneIn', WHERE WHAT IT READS IS OF BULK AT MOST 1048576: true; the input reads as it did. -/
def fnDoneInUptoRow : OpenClaim := { program := "ytehcmkbepembfaadoor", sum := "faab7d1f0062a5be1b4d6b7ca42f16aac8f886aa40abcab645e37d0017514f6a", func := "loop.example/coinmachine/laws.FnDoneIn", spec := "fnDoneIn", named := ["loop.example/coinmachine/impl.worths"], plainKeys := false, apart := false, laid := [("loop.example/coinmachine/impl.worths", laid_loop_example_coinmachine_impl_worths)], narrowed := true }
def FnDoneInUptoSaid : Prop := fnDoneInUptoRow.holds Tryd.pinned (OpenSpec.upto fnDoneInSpec)

/-- 'laws.FnHoldsAt', WHERE WHAT IT READS IS OF BULK AT MOST 1048576: true; the input reads as it did. -/
def fnHoldsAtUptoRow : OpenClaim := { program := "ytehcmkbepembfaadoor", sum := "faab7d1f0062a5be1b4d6b7ca42f16aac8f886aa40abcab645e37d0017514f6a", func := "loop.example/coinmachine/laws.FnHoldsAt", spec := "fnHoldsAt", unfollowed := true, recurses := true, named := ["loop.example/coinmachine/impl.worths"], plainKeys := false, apart := false, laid := [("loop.example/coinmachine/impl.worths", laid_loop_example_coinmachine_impl_worths)], narrowed := true }
def FnHoldsAtUptoSaid : Prop := fnHoldsAtUptoRow.holds Tryd.pinned (OpenSpec.upto fnHoldsAtSpec)

/-- 'laws.FnHoldsOf', WHERE WHAT IT READS IS OF BULK AT MOST 1048576: true; the input reads as it did. -/
def fnHoldsOfUptoRow : OpenClaim := { program := "ytehcmkbepembfaadoor", sum := "faab7d1f0062a5be1b4d6b7ca42f16aac8f886aa40abcab645e37d0017514f6a", func := "loop.example/coinmachine/laws.FnHoldsOf", spec := "fnHoldsOf", unfollowed := true, recurses := true, named := ["loop.example/coinmachine/impl.worths"], plainKeys := false, apart := false, laid := [("loop.example/coinmachine/impl.worths", laid_loop_example_coinmachine_impl_worths)], narrowed := true }
def FnHoldsOfUptoSaid : Prop := fnHoldsOfUptoRow.holds Tryd.pinned (OpenSpec.upto fnHoldsOfSpec)

/-- 'laws.FnPlacesOf', WHERE WHAT IT READS IS OF BULK AT MOST 1048576: true; the input reads as it did. -/
def fnPlacesOfUptoRow : OpenClaim := { program := "ytehcmkbepembfaadoor", sum := "faab7d1f0062a5be1b4d6b7ca42f16aac8f886aa40abcab645e37d0017514f6a", func := "loop.example/coinmachine/laws.FnPlacesOf", spec := "fnPlacesOf", unfollowed := true, recurses := true, named := ["loop.example/coinmachine/impl.worths"], plainKeys := false, apart := false, laid := [("loop.example/coinmachine/impl.worths", laid_loop_example_coinmachine_impl_worths)], narrowed := true }
def FnPlacesOfUptoSaid : Prop := fnPlacesOfUptoRow.holds Tryd.pinned (OpenSpec.upto fnPlacesOfSpec)

/-- 'laws.FnClaimOk', WHERE WHAT IT READS IS OF BULK AT MOST 1048576: true; the input reads as it did. -/
def fnClaimOkUptoRow : OpenClaim := { program := "ytehcmkbepembfaadoor", sum := "faab7d1f0062a5be1b4d6b7ca42f16aac8f886aa40abcab645e37d0017514f6a", func := "loop.example/coinmachine/laws.FnClaimOk", spec := "fnClaimOk", recurses := true, named := ["loop.example/coinmachine/impl.worths"], plainKeys := false, apart := false, laid := [("loop.example/coinmachine/impl.worths", laid_loop_example_coinmachine_impl_worths)], narrowed := true }
def FnClaimOkUptoSaid : Prop := fnClaimOkUptoRow.holds Tryd.pinned (OpenSpec.upto fnClaimOkSpec)

end Rows
end Go.Proofs.YtehcmkbepembfaaDoor

/-
  NARROWER THAN 'FOR EVERY INPUT', by the rows' own cells (each row's printed sentence says how): FnActed: laid · FnMoneyIn: laid · FnCanPick: laid · FnRunOf: laid · FnSoldBy: laid · FnCoinsPut: laid · FnExactActed: laid · FnExactCanPick: laid · FnExactRunOf: laid · FnActedBy: laid · FnRunBy: laid · FnPicksBy: laid · FnExactActedBy: laid · FnExactRunBy: laid · FnExactPicksBy: laid.
  DERIVED. THE GIVEN ROWS OF THIS SEAT. 15 by the template 'for every input the law returns true; each argument reads behind the call as it read before'; 0 by the template 'total and deterministic' (their statements: YtpficldaokbdpaaDoorTotals.lean).
  GIVEN WITH THE SEED: the statements are not yours to turn. If you find one false, say at which input.
  Laid BY PROGRAM, IN A SANDBOX (cutbox-rows.mjs): the forced cells as the released guide's own fill.sh prints them over the translation 442719f29f57ec88… (all of the seat's roots in one cut). By AI agents, Wed Nov 11 2026. No macro, syntax, notation, axiom, sorry.
-/
import Derived.Test.YtpficldaokbdpaaDoorChecked
import GoSem.Claim
import GoSem.ClaimJoined
import GoSem.ClaimMapViews
import Derived.JoinedTies
import Derived.KernelRfl
namespace Go.Proofs.YtpficldaokbdpaaDoor
/- THE CELL 'sum', in the pinned program and in every row, IS THE sha256 OF THE DUMP (.gsa) THAT YtpficldaokbdpaaDoorProg.lean LOADS. Nothing in Lean hashes anything: it is a label: what it is worth is what the hold of that sum in a sandbox is worth. -/
noncomputable def Tryd.pinned : Pinned := { name := "ytpficldaokbdpaadoor", sum := "442719f29f57ec88ae39adb4f036976a3b7e950d171387cebb4855a456193a60", checked := Tryd.checked }
namespace Rows
def none {H : Type} : Left H := { results := [], args := [] }

/- WHAT THE LISTED PACKAGE-LEVEL VARIABLES READ AS WHEN THE CALL BEGINS. Each datum BY PROGRAM (the guide's laid-datum.mjs) off the statement by which the dump's own 'gosem.cut.vars' lays the variable. In a bare row this is a premise. The card (YtpficldaokbdpaaDoorCards.lean) ties it to the program's text. -/
def laid_loop_example_coinmachine_impl_worths {H : Type} : DataW H := .agg [.lit (.int .i64 1), .lit (.int .i64 2), .lit (.int .i64 5), .lit (.int .i64 10)]

/-- 'laws.FnActed': WHATEVER THE INPUT: true; the input reads as it did. -/
def fnActedSpec : ChangeSpec := { name := "fnActed", vars := ["loop.example/coinmachine/impl.worths"], fn := fun _ => fun
  | [d, g1] => { results := [.lit (.bool true)], args := [d], vars := [g1] }
  | _ => none }
def fnActedRow : OpenClaim := { program := "ytpficldaokbdpaadoor", sum := "442719f29f57ec88ae39adb4f036976a3b7e950d171387cebb4855a456193a60", func := "loop.example/coinmachine/laws.FnActed", spec := "fnActed", unfollowed := true, recurses := true, named := ["loop.example/coinmachine/impl.worths"], plainKeys := false, apart := false, laid := [("loop.example/coinmachine/impl.worths", laid_loop_example_coinmachine_impl_worths)] }
def FnActedSaid : Prop := fnActedRow.holds Tryd.pinned (OpenSpec.ofChange fnActedSpec)

/-- ITS FALSE NEIGHBOUR: 'it returns false'. Refute it at one input. -/
def fnActedWrong : ChangeSpec := { name := "fnActed", vars := ["loop.example/coinmachine/impl.worths"], fn := fun _ => fun
  | [d, g1] => { results := [.lit (.bool false)], args := [d], vars := [g1] }
  | _ => none }
def FnActedWrongFalsely : Prop := fnActedRow.holds Tryd.pinned (OpenSpec.ofChange fnActedWrong)

/-- 'laws.FnMoneyIn': WHATEVER THE INPUT: true; the input reads as it did. -/
def fnMoneyInSpec : ChangeSpec := { name := "fnMoneyIn", vars := ["loop.example/coinmachine/impl.worths"], fn := fun _ => fun
  | [d, g1] => { results := [.lit (.bool true)], args := [d], vars := [g1] }
  | _ => none }
def fnMoneyInRow : OpenClaim := { program := "ytpficldaokbdpaadoor", sum := "442719f29f57ec88ae39adb4f036976a3b7e950d171387cebb4855a456193a60", func := "loop.example/coinmachine/laws.FnMoneyIn", spec := "fnMoneyIn", unfollowed := true, recurses := true, named := ["loop.example/coinmachine/impl.worths"], plainKeys := false, apart := false, laid := [("loop.example/coinmachine/impl.worths", laid_loop_example_coinmachine_impl_worths)] }
def FnMoneyInSaid : Prop := fnMoneyInRow.holds Tryd.pinned (OpenSpec.ofChange fnMoneyInSpec)

/-- ITS FALSE NEIGHBOUR: 'it returns false'. Refute it at one input. -/
def fnMoneyInWrong : ChangeSpec := { name := "fnMoneyIn", vars := ["loop.example/coinmachine/impl.worths"], fn := fun _ => fun
  | [d, g1] => { results := [.lit (.bool false)], args := [d], vars := [g1] }
  | _ => none }
def FnMoneyInWrongFalsely : Prop := fnMoneyInRow.holds Tryd.pinned (OpenSpec.ofChange fnMoneyInWrong)

/-- 'laws.FnCanPick': WHATEVER THE INPUT: true; the input reads as it did. -/
def fnCanPickSpec : ChangeSpec := { name := "fnCanPick", vars := ["loop.example/coinmachine/impl.worths"], fn := fun _ => fun
  | [d, g1] => { results := [.lit (.bool true)], args := [d], vars := [g1] }
  | _ => none }
def fnCanPickRow : OpenClaim := { program := "ytpficldaokbdpaadoor", sum := "442719f29f57ec88ae39adb4f036976a3b7e950d171387cebb4855a456193a60", func := "loop.example/coinmachine/laws.FnCanPick", spec := "fnCanPick", unfollowed := true, recurses := true, named := ["loop.example/coinmachine/impl.worths"], plainKeys := false, apart := false, laid := [("loop.example/coinmachine/impl.worths", laid_loop_example_coinmachine_impl_worths)] }
def FnCanPickSaid : Prop := fnCanPickRow.holds Tryd.pinned (OpenSpec.ofChange fnCanPickSpec)

/-- ITS FALSE NEIGHBOUR: 'it returns false'. Refute it at one input. -/
def fnCanPickWrong : ChangeSpec := { name := "fnCanPick", vars := ["loop.example/coinmachine/impl.worths"], fn := fun _ => fun
  | [d, g1] => { results := [.lit (.bool false)], args := [d], vars := [g1] }
  | _ => none }
def FnCanPickWrongFalsely : Prop := fnCanPickRow.holds Tryd.pinned (OpenSpec.ofChange fnCanPickWrong)

/-- 'laws.FnRunOf': WHATEVER THE INPUT: true; the input reads as it did. -/
def fnRunOfSpec : ChangeSpec := { name := "fnRunOf", vars := ["loop.example/coinmachine/impl.worths"], fn := fun _ => fun
  | [d, g1] => { results := [.lit (.bool true)], args := [d], vars := [g1] }
  | _ => none }
def fnRunOfRow : OpenClaim := { program := "ytpficldaokbdpaadoor", sum := "442719f29f57ec88ae39adb4f036976a3b7e950d171387cebb4855a456193a60", func := "loop.example/coinmachine/laws.FnRunOf", spec := "fnRunOf", unfollowed := true, recurses := true, named := ["loop.example/coinmachine/impl.worths"], plainKeys := false, apart := false, laid := [("loop.example/coinmachine/impl.worths", laid_loop_example_coinmachine_impl_worths)] }
def FnRunOfSaid : Prop := fnRunOfRow.holds Tryd.pinned (OpenSpec.ofChange fnRunOfSpec)

/-- ITS FALSE NEIGHBOUR: 'it returns false'. Refute it at one input. -/
def fnRunOfWrong : ChangeSpec := { name := "fnRunOf", vars := ["loop.example/coinmachine/impl.worths"], fn := fun _ => fun
  | [d, g1] => { results := [.lit (.bool false)], args := [d], vars := [g1] }
  | _ => none }
def FnRunOfWrongFalsely : Prop := fnRunOfRow.holds Tryd.pinned (OpenSpec.ofChange fnRunOfWrong)

/-- 'laws.FnSoldBy': WHATEVER THE INPUT: true; the input reads as it did. -/
def fnSoldBySpec : ChangeSpec := { name := "fnSoldBy", vars := ["loop.example/coinmachine/impl.worths"], fn := fun _ => fun
  | [d1, d2, g1] => { results := [.lit (.bool true)], args := [d1, d2], vars := [g1] }
  | _ => none }
def fnSoldByRow : OpenClaim := { program := "ytpficldaokbdpaadoor", sum := "442719f29f57ec88ae39adb4f036976a3b7e950d171387cebb4855a456193a60", func := "loop.example/coinmachine/laws.FnSoldBy", spec := "fnSoldBy", unfollowed := true, recurses := true, named := ["loop.example/coinmachine/impl.worths"], plainKeys := false, apart := false, laid := [("loop.example/coinmachine/impl.worths", laid_loop_example_coinmachine_impl_worths)] }
def FnSoldBySaid : Prop := fnSoldByRow.holds Tryd.pinned (OpenSpec.ofChange fnSoldBySpec)

/-- ITS FALSE NEIGHBOUR: 'it returns false'. Refute it at one input. -/
def fnSoldByWrong : ChangeSpec := { name := "fnSoldBy", vars := ["loop.example/coinmachine/impl.worths"], fn := fun _ => fun
  | [d1, d2, g1] => { results := [.lit (.bool false)], args := [d1, d2], vars := [g1] }
  | _ => none }
def FnSoldByWrongFalsely : Prop := fnSoldByRow.holds Tryd.pinned (OpenSpec.ofChange fnSoldByWrong)

/-- 'laws.FnCoinsPut': WHATEVER THE INPUT: true; the input reads as it did. -/
def fnCoinsPutSpec : ChangeSpec := { name := "fnCoinsPut", vars := ["loop.example/coinmachine/impl.worths"], fn := fun _ => fun
  | [d1, d2, g1] => { results := [.lit (.bool true)], args := [d1, d2], vars := [g1] }
  | _ => none }
def fnCoinsPutRow : OpenClaim := { program := "ytpficldaokbdpaadoor", sum := "442719f29f57ec88ae39adb4f036976a3b7e950d171387cebb4855a456193a60", func := "loop.example/coinmachine/laws.FnCoinsPut", spec := "fnCoinsPut", unfollowed := true, recurses := true, named := ["loop.example/coinmachine/impl.worths"], plainKeys := false, apart := false, laid := [("loop.example/coinmachine/impl.worths", laid_loop_example_coinmachine_impl_worths)] }
def FnCoinsPutSaid : Prop := fnCoinsPutRow.holds Tryd.pinned (OpenSpec.ofChange fnCoinsPutSpec)

/-- ITS FALSE NEIGHBOUR: 'it returns false'. Refute it at one input. -/
def fnCoinsPutWrong : ChangeSpec := { name := "fnCoinsPut", vars := ["loop.example/coinmachine/impl.worths"], fn := fun _ => fun
  | [d1, d2, g1] => { results := [.lit (.bool false)], args := [d1, d2], vars := [g1] }
  | _ => none }
def FnCoinsPutWrongFalsely : Prop := fnCoinsPutRow.holds Tryd.pinned (OpenSpec.ofChange fnCoinsPutWrong)

/-- 'laws.FnExactActed': WHATEVER THE INPUT: true; the input reads as it did. -/
def fnExactActedSpec : ChangeSpec := { name := "fnExactActed", vars := ["loop.example/coinmachine/impl.worths"], fn := fun _ => fun
  | [d1, d2, g1] => { results := [.lit (.bool true)], args := [d1, d2], vars := [g1] }
  | _ => none }
def fnExactActedRow : OpenClaim := { program := "ytpficldaokbdpaadoor", sum := "442719f29f57ec88ae39adb4f036976a3b7e950d171387cebb4855a456193a60", func := "loop.example/coinmachine/laws.FnExactActed", spec := "fnExactActed", unfollowed := true, recurses := true, named := ["loop.example/coinmachine/impl.worths"], plainKeys := false, apart := false, laid := [("loop.example/coinmachine/impl.worths", laid_loop_example_coinmachine_impl_worths)] }
def FnExactActedSaid : Prop := fnExactActedRow.holds Tryd.pinned (OpenSpec.ofChange fnExactActedSpec)

/-- ITS FALSE NEIGHBOUR: 'it returns false'. Refute it at one input. -/
def fnExactActedWrong : ChangeSpec := { name := "fnExactActed", vars := ["loop.example/coinmachine/impl.worths"], fn := fun _ => fun
  | [d1, d2, g1] => { results := [.lit (.bool false)], args := [d1, d2], vars := [g1] }
  | _ => none }
def FnExactActedWrongFalsely : Prop := fnExactActedRow.holds Tryd.pinned (OpenSpec.ofChange fnExactActedWrong)

/-- 'laws.FnExactCanPick': WHATEVER THE INPUT: true; the input reads as it did. -/
def fnExactCanPickSpec : ChangeSpec := { name := "fnExactCanPick", vars := ["loop.example/coinmachine/impl.worths"], fn := fun _ => fun
  | [d, g1] => { results := [.lit (.bool true)], args := [d], vars := [g1] }
  | _ => none }
def fnExactCanPickRow : OpenClaim := { program := "ytpficldaokbdpaadoor", sum := "442719f29f57ec88ae39adb4f036976a3b7e950d171387cebb4855a456193a60", func := "loop.example/coinmachine/laws.FnExactCanPick", spec := "fnExactCanPick", unfollowed := true, recurses := true, named := ["loop.example/coinmachine/impl.worths"], plainKeys := false, apart := false, laid := [("loop.example/coinmachine/impl.worths", laid_loop_example_coinmachine_impl_worths)] }
def FnExactCanPickSaid : Prop := fnExactCanPickRow.holds Tryd.pinned (OpenSpec.ofChange fnExactCanPickSpec)

/-- ITS FALSE NEIGHBOUR: 'it returns false'. Refute it at one input. -/
def fnExactCanPickWrong : ChangeSpec := { name := "fnExactCanPick", vars := ["loop.example/coinmachine/impl.worths"], fn := fun _ => fun
  | [d, g1] => { results := [.lit (.bool false)], args := [d], vars := [g1] }
  | _ => none }
def FnExactCanPickWrongFalsely : Prop := fnExactCanPickRow.holds Tryd.pinned (OpenSpec.ofChange fnExactCanPickWrong)

/-- 'laws.FnExactRunOf': WHATEVER THE INPUT: true; the input reads as it did. -/
def fnExactRunOfSpec : ChangeSpec := { name := "fnExactRunOf", vars := ["loop.example/coinmachine/impl.worths"], fn := fun _ => fun
  | [d1, d2, g1] => { results := [.lit (.bool true)], args := [d1, d2], vars := [g1] }
  | _ => none }
def fnExactRunOfRow : OpenClaim := { program := "ytpficldaokbdpaadoor", sum := "442719f29f57ec88ae39adb4f036976a3b7e950d171387cebb4855a456193a60", func := "loop.example/coinmachine/laws.FnExactRunOf", spec := "fnExactRunOf", unfollowed := true, recurses := true, named := ["loop.example/coinmachine/impl.worths"], plainKeys := false, apart := false, laid := [("loop.example/coinmachine/impl.worths", laid_loop_example_coinmachine_impl_worths)] }
def FnExactRunOfSaid : Prop := fnExactRunOfRow.holds Tryd.pinned (OpenSpec.ofChange fnExactRunOfSpec)

/-- ITS FALSE NEIGHBOUR: 'it returns false'. Refute it at one input. -/
def fnExactRunOfWrong : ChangeSpec := { name := "fnExactRunOf", vars := ["loop.example/coinmachine/impl.worths"], fn := fun _ => fun
  | [d1, d2, g1] => { results := [.lit (.bool false)], args := [d1, d2], vars := [g1] }
  | _ => none }
def FnExactRunOfWrongFalsely : Prop := fnExactRunOfRow.holds Tryd.pinned (OpenSpec.ofChange fnExactRunOfWrong)

/-- 'laws.FnActedBy': WHATEVER THE INPUT: true; the input reads as it did. -/
def fnActedBySpec : ChangeSpec := { name := "fnActedBy", vars := ["loop.example/coinmachine/impl.worths"], fn := fun _ => fun
  | [d, g1] => { results := [.lit (.bool true)], args := [d], vars := [g1] }
  | _ => none }
def fnActedByRow : OpenClaim := { program := "ytpficldaokbdpaadoor", sum := "442719f29f57ec88ae39adb4f036976a3b7e950d171387cebb4855a456193a60", func := "loop.example/coinmachine/laws.FnActedBy", spec := "fnActedBy", unfollowed := true, recurses := true, named := ["loop.example/coinmachine/impl.worths"], plainKeys := false, apart := false, laid := [("loop.example/coinmachine/impl.worths", laid_loop_example_coinmachine_impl_worths)] }
def FnActedBySaid : Prop := fnActedByRow.holds Tryd.pinned (OpenSpec.ofChange fnActedBySpec)

/-- ITS FALSE NEIGHBOUR: 'it returns false'. Refute it at one input. -/
def fnActedByWrong : ChangeSpec := { name := "fnActedBy", vars := ["loop.example/coinmachine/impl.worths"], fn := fun _ => fun
  | [d, g1] => { results := [.lit (.bool false)], args := [d], vars := [g1] }
  | _ => none }
def FnActedByWrongFalsely : Prop := fnActedByRow.holds Tryd.pinned (OpenSpec.ofChange fnActedByWrong)

/-- 'laws.FnRunBy': WHATEVER THE INPUT: true; the input reads as it did. -/
def fnRunBySpec : ChangeSpec := { name := "fnRunBy", vars := ["loop.example/coinmachine/impl.worths"], fn := fun _ => fun
  | [d, g1] => { results := [.lit (.bool true)], args := [d], vars := [g1] }
  | _ => none }
def fnRunByRow : OpenClaim := { program := "ytpficldaokbdpaadoor", sum := "442719f29f57ec88ae39adb4f036976a3b7e950d171387cebb4855a456193a60", func := "loop.example/coinmachine/laws.FnRunBy", spec := "fnRunBy", unfollowed := true, recurses := true, named := ["loop.example/coinmachine/impl.worths"], plainKeys := false, apart := false, laid := [("loop.example/coinmachine/impl.worths", laid_loop_example_coinmachine_impl_worths)] }
def FnRunBySaid : Prop := fnRunByRow.holds Tryd.pinned (OpenSpec.ofChange fnRunBySpec)

/-- ITS FALSE NEIGHBOUR: 'it returns false'. Refute it at one input. -/
def fnRunByWrong : ChangeSpec := { name := "fnRunBy", vars := ["loop.example/coinmachine/impl.worths"], fn := fun _ => fun
  | [d, g1] => { results := [.lit (.bool false)], args := [d], vars := [g1] }
  | _ => none }
def FnRunByWrongFalsely : Prop := fnRunByRow.holds Tryd.pinned (OpenSpec.ofChange fnRunByWrong)

/-- 'laws.FnPicksBy': WHATEVER THE INPUT: true; the input reads as it did. -/
def fnPicksBySpec : ChangeSpec := { name := "fnPicksBy", vars := ["loop.example/coinmachine/impl.worths"], fn := fun _ => fun
  | [d, g1] => { results := [.lit (.bool true)], args := [d], vars := [g1] }
  | _ => none }
def fnPicksByRow : OpenClaim := { program := "ytpficldaokbdpaadoor", sum := "442719f29f57ec88ae39adb4f036976a3b7e950d171387cebb4855a456193a60", func := "loop.example/coinmachine/laws.FnPicksBy", spec := "fnPicksBy", unfollowed := true, recurses := true, named := ["loop.example/coinmachine/impl.worths"], plainKeys := false, apart := false, laid := [("loop.example/coinmachine/impl.worths", laid_loop_example_coinmachine_impl_worths)] }
def FnPicksBySaid : Prop := fnPicksByRow.holds Tryd.pinned (OpenSpec.ofChange fnPicksBySpec)

/-- ITS FALSE NEIGHBOUR: 'it returns false'. Refute it at one input. -/
def fnPicksByWrong : ChangeSpec := { name := "fnPicksBy", vars := ["loop.example/coinmachine/impl.worths"], fn := fun _ => fun
  | [d, g1] => { results := [.lit (.bool false)], args := [d], vars := [g1] }
  | _ => none }
def FnPicksByWrongFalsely : Prop := fnPicksByRow.holds Tryd.pinned (OpenSpec.ofChange fnPicksByWrong)

/-- 'laws.FnExactActedBy': WHATEVER THE INPUT: true; the input reads as it did. -/
def fnExactActedBySpec : ChangeSpec := { name := "fnExactActedBy", vars := ["loop.example/coinmachine/impl.worths"], fn := fun _ => fun
  | [d1, d2, d3, g1] => { results := [.lit (.bool true)], args := [d1, d2, d3], vars := [g1] }
  | _ => none }
def fnExactActedByRow : OpenClaim := { program := "ytpficldaokbdpaadoor", sum := "442719f29f57ec88ae39adb4f036976a3b7e950d171387cebb4855a456193a60", func := "loop.example/coinmachine/laws.FnExactActedBy", spec := "fnExactActedBy", unfollowed := true, recurses := true, named := ["loop.example/coinmachine/impl.worths"], plainKeys := false, apart := false, laid := [("loop.example/coinmachine/impl.worths", laid_loop_example_coinmachine_impl_worths)] }
def FnExactActedBySaid : Prop := fnExactActedByRow.holds Tryd.pinned (OpenSpec.ofChange fnExactActedBySpec)

/-- ITS FALSE NEIGHBOUR: 'it returns false'. Refute it at one input. -/
def fnExactActedByWrong : ChangeSpec := { name := "fnExactActedBy", vars := ["loop.example/coinmachine/impl.worths"], fn := fun _ => fun
  | [d1, d2, d3, g1] => { results := [.lit (.bool false)], args := [d1, d2, d3], vars := [g1] }
  | _ => none }
def FnExactActedByWrongFalsely : Prop := fnExactActedByRow.holds Tryd.pinned (OpenSpec.ofChange fnExactActedByWrong)

/-- 'laws.FnExactRunBy': WHATEVER THE INPUT: true; the input reads as it did. -/
def fnExactRunBySpec : ChangeSpec := { name := "fnExactRunBy", vars := ["loop.example/coinmachine/impl.worths"], fn := fun _ => fun
  | [d1, d2, d3, g1] => { results := [.lit (.bool true)], args := [d1, d2, d3], vars := [g1] }
  | _ => none }
def fnExactRunByRow : OpenClaim := { program := "ytpficldaokbdpaadoor", sum := "442719f29f57ec88ae39adb4f036976a3b7e950d171387cebb4855a456193a60", func := "loop.example/coinmachine/laws.FnExactRunBy", spec := "fnExactRunBy", unfollowed := true, recurses := true, named := ["loop.example/coinmachine/impl.worths"], plainKeys := false, apart := false, laid := [("loop.example/coinmachine/impl.worths", laid_loop_example_coinmachine_impl_worths)] }
def FnExactRunBySaid : Prop := fnExactRunByRow.holds Tryd.pinned (OpenSpec.ofChange fnExactRunBySpec)

/-- ITS FALSE NEIGHBOUR: 'it returns false'. Refute it at one input. -/
def fnExactRunByWrong : ChangeSpec := { name := "fnExactRunBy", vars := ["loop.example/coinmachine/impl.worths"], fn := fun _ => fun
  | [d1, d2, d3, g1] => { results := [.lit (.bool false)], args := [d1, d2, d3], vars := [g1] }
  | _ => none }
def FnExactRunByWrongFalsely : Prop := fnExactRunByRow.holds Tryd.pinned (OpenSpec.ofChange fnExactRunByWrong)

/-- 'laws.FnExactPicksBy': WHATEVER THE INPUT: true; the input reads as it did. -/
def fnExactPicksBySpec : ChangeSpec := { name := "fnExactPicksBy", vars := ["loop.example/coinmachine/impl.worths"], fn := fun _ => fun
  | [d1, d2, g1] => { results := [.lit (.bool true)], args := [d1, d2], vars := [g1] }
  | _ => none }
def fnExactPicksByRow : OpenClaim := { program := "ytpficldaokbdpaadoor", sum := "442719f29f57ec88ae39adb4f036976a3b7e950d171387cebb4855a456193a60", func := "loop.example/coinmachine/laws.FnExactPicksBy", spec := "fnExactPicksBy", unfollowed := true, recurses := true, named := ["loop.example/coinmachine/impl.worths"], plainKeys := false, apart := false, laid := [("loop.example/coinmachine/impl.worths", laid_loop_example_coinmachine_impl_worths)] }
def FnExactPicksBySaid : Prop := fnExactPicksByRow.holds Tryd.pinned (OpenSpec.ofChange fnExactPicksBySpec)

/-- ITS FALSE NEIGHBOUR: 'it returns false'. Refute it at one input. -/
def fnExactPicksByWrong : ChangeSpec := { name := "fnExactPicksBy", vars := ["loop.example/coinmachine/impl.worths"], fn := fun _ => fun
  | [d1, d2, g1] => { results := [.lit (.bool false)], args := [d1, d2], vars := [g1] }
  | _ => none }
def FnExactPicksByWrongFalsely : Prop := fnExactPicksByRow.holds Tryd.pinned (OpenSpec.ofChange fnExactPicksByWrong)

/- THE SECOND FORM. 'bulk': how many values and letters a reading holds, each counted each time it is reached (what is shared counts as often as it is met; a slice's spare places count too). A statement '..UptoSaid' is the law's where the arguments, and the package variables that the reading takes, are together of bulk at most 1048576: NARROWER than '..Said'. Prove '..Said' where nothing that the law and all that it calls make is longer than what came in: it says more and counts as full. Else prove '..UptoSaid'. A law counts once. -/
mutual
def uptoBulk {H : Type} : DataW H → Nat
  | .lit (.string bytes) => bytes.length + 1
  | .lit _ => 1
  | .nil => 1
  | .ptr d => uptoBulk d + 1
  | .slice elems spare => uptoBulkAll elems + uptoBulkAll spare + 1
  | .agg parts => uptoBulkAll parts + 1
  | .iface _ d => uptoBulk d + 1
  | .map entries => uptoBulkEntries entries + 1
  | .held _ => 1
def uptoBulkAll {H : Type} : List (DataW H) → Nat
  | [] => 0
  | d :: r => uptoBulk d + uptoBulkAll r
def uptoBulkEntries {H : Type} : List (Lit × DataW H) → Nat
  | [] => 0
  | x :: r => uptoBulkEntry x + uptoBulkEntries r
def uptoBulkEntry {H : Type} : Lit × DataW H → Nat
  | (.string bytes, d) => bytes.length + uptoBulk d + 1
  | (_, d) => uptoBulk d + 1
 end
def uptoSmall : (H : Type) → List (DataW H) → Bool := fun _ ds => decide (uptoBulkAll ds ≤ 1048576)
def OpenSpec.upto (s : _root_.Go.ChangeSpec) : _root_.Go.OpenSpec := { _root_.Go.OpenSpec.ofChange s with cond := some uptoSmall }

/-- 'laws.FnActed', WHERE WHAT IT READS IS OF BULK AT MOST 1048576: true; the input reads as it did. -/
def fnActedUptoRow : OpenClaim := { program := "ytpficldaokbdpaadoor", sum := "442719f29f57ec88ae39adb4f036976a3b7e950d171387cebb4855a456193a60", func := "loop.example/coinmachine/laws.FnActed", spec := "fnActed", unfollowed := true, recurses := true, named := ["loop.example/coinmachine/impl.worths"], plainKeys := false, apart := false, laid := [("loop.example/coinmachine/impl.worths", laid_loop_example_coinmachine_impl_worths)], narrowed := true }
def FnActedUptoSaid : Prop := fnActedUptoRow.holds Tryd.pinned (OpenSpec.upto fnActedSpec)

/-- 'laws.FnMoneyIn', WHERE WHAT IT READS IS OF BULK AT MOST 1048576: true; the input reads as it did. -/
def fnMoneyInUptoRow : OpenClaim := { program := "ytpficldaokbdpaadoor", sum := "442719f29f57ec88ae39adb4f036976a3b7e950d171387cebb4855a456193a60", func := "loop.example/coinmachine/laws.FnMoneyIn", spec := "fnMoneyIn", unfollowed := true, recurses := true, named := ["loop.example/coinmachine/impl.worths"], plainKeys := false, apart := false, laid := [("loop.example/coinmachine/impl.worths", laid_loop_example_coinmachine_impl_worths)], narrowed := true }
def FnMoneyInUptoSaid : Prop := fnMoneyInUptoRow.holds Tryd.pinned (OpenSpec.upto fnMoneyInSpec)

/-- 'laws.FnCanPick', WHERE WHAT IT READS IS OF BULK AT MOST 1048576: true; the input reads as it did. -/
def fnCanPickUptoRow : OpenClaim := { program := "ytpficldaokbdpaadoor", sum := "442719f29f57ec88ae39adb4f036976a3b7e950d171387cebb4855a456193a60", func := "loop.example/coinmachine/laws.FnCanPick", spec := "fnCanPick", unfollowed := true, recurses := true, named := ["loop.example/coinmachine/impl.worths"], plainKeys := false, apart := false, laid := [("loop.example/coinmachine/impl.worths", laid_loop_example_coinmachine_impl_worths)], narrowed := true }
def FnCanPickUptoSaid : Prop := fnCanPickUptoRow.holds Tryd.pinned (OpenSpec.upto fnCanPickSpec)

/-- 'laws.FnRunOf', WHERE WHAT IT READS IS OF BULK AT MOST 1048576: true; the input reads as it did. -/
def fnRunOfUptoRow : OpenClaim := { program := "ytpficldaokbdpaadoor", sum := "442719f29f57ec88ae39adb4f036976a3b7e950d171387cebb4855a456193a60", func := "loop.example/coinmachine/laws.FnRunOf", spec := "fnRunOf", unfollowed := true, recurses := true, named := ["loop.example/coinmachine/impl.worths"], plainKeys := false, apart := false, laid := [("loop.example/coinmachine/impl.worths", laid_loop_example_coinmachine_impl_worths)], narrowed := true }
def FnRunOfUptoSaid : Prop := fnRunOfUptoRow.holds Tryd.pinned (OpenSpec.upto fnRunOfSpec)

/-- 'laws.FnSoldBy', WHERE WHAT IT READS IS OF BULK AT MOST 1048576: true; the input reads as it did. -/
def fnSoldByUptoRow : OpenClaim := { program := "ytpficldaokbdpaadoor", sum := "442719f29f57ec88ae39adb4f036976a3b7e950d171387cebb4855a456193a60", func := "loop.example/coinmachine/laws.FnSoldBy", spec := "fnSoldBy", unfollowed := true, recurses := true, named := ["loop.example/coinmachine/impl.worths"], plainKeys := false, apart := false, laid := [("loop.example/coinmachine/impl.worths", laid_loop_example_coinmachine_impl_worths)], narrowed := true }
def FnSoldByUptoSaid : Prop := fnSoldByUptoRow.holds Tryd.pinned (OpenSpec.upto fnSoldBySpec)

/-- 'laws.FnCoinsPut', WHERE WHAT IT READS IS OF BULK AT MOST 1048576: true; the input reads as it did. -/
def fnCoinsPutUptoRow : OpenClaim := { program := "ytpficldaokbdpaadoor", sum := "442719f29f57ec88ae39adb4f036976a3b7e950d171387cebb4855a456193a60", func := "loop.example/coinmachine/laws.FnCoinsPut", spec := "fnCoinsPut", unfollowed := true, recurses := true, named := ["loop.example/coinmachine/impl.worths"], plainKeys := false, apart := false, laid := [("loop.example/coinmachine/impl.worths", laid_loop_example_coinmachine_impl_worths)], narrowed := true }
def FnCoinsPutUptoSaid : Prop := fnCoinsPutUptoRow.holds Tryd.pinned (OpenSpec.upto fnCoinsPutSpec)

/-- 'laws.FnExactActed', WHERE WHAT IT READS IS OF BULK AT MOST 1048576: true; the input reads as it did. -/
def fnExactActedUptoRow : OpenClaim := { program := "ytpficldaokbdpaadoor", sum := "442719f29f57ec88ae39adb4f036976a3b7e950d171387cebb4855a456193a60", func := "loop.example/coinmachine/laws.FnExactActed", spec := "fnExactActed", unfollowed := true, recurses := true, named := ["loop.example/coinmachine/impl.worths"], plainKeys := false, apart := false, laid := [("loop.example/coinmachine/impl.worths", laid_loop_example_coinmachine_impl_worths)], narrowed := true }
def FnExactActedUptoSaid : Prop := fnExactActedUptoRow.holds Tryd.pinned (OpenSpec.upto fnExactActedSpec)

/-- 'laws.FnExactCanPick', WHERE WHAT IT READS IS OF BULK AT MOST 1048576: true; the input reads as it did. -/
def fnExactCanPickUptoRow : OpenClaim := { program := "ytpficldaokbdpaadoor", sum := "442719f29f57ec88ae39adb4f036976a3b7e950d171387cebb4855a456193a60", func := "loop.example/coinmachine/laws.FnExactCanPick", spec := "fnExactCanPick", unfollowed := true, recurses := true, named := ["loop.example/coinmachine/impl.worths"], plainKeys := false, apart := false, laid := [("loop.example/coinmachine/impl.worths", laid_loop_example_coinmachine_impl_worths)], narrowed := true }
def FnExactCanPickUptoSaid : Prop := fnExactCanPickUptoRow.holds Tryd.pinned (OpenSpec.upto fnExactCanPickSpec)

/-- 'laws.FnExactRunOf', WHERE WHAT IT READS IS OF BULK AT MOST 1048576: true; the input reads as it did. -/
def fnExactRunOfUptoRow : OpenClaim := { program := "ytpficldaokbdpaadoor", sum := "442719f29f57ec88ae39adb4f036976a3b7e950d171387cebb4855a456193a60", func := "loop.example/coinmachine/laws.FnExactRunOf", spec := "fnExactRunOf", unfollowed := true, recurses := true, named := ["loop.example/coinmachine/impl.worths"], plainKeys := false, apart := false, laid := [("loop.example/coinmachine/impl.worths", laid_loop_example_coinmachine_impl_worths)], narrowed := true }
def FnExactRunOfUptoSaid : Prop := fnExactRunOfUptoRow.holds Tryd.pinned (OpenSpec.upto fnExactRunOfSpec)

/-- 'laws.FnActedBy', WHERE WHAT IT READS IS OF BULK AT MOST 1048576: true; the input reads as it did. -/
def fnActedByUptoRow : OpenClaim := { program := "ytpficldaokbdpaadoor", sum := "442719f29f57ec88ae39adb4f036976a3b7e950d171387cebb4855a456193a60", func := "loop.example/coinmachine/laws.FnActedBy", spec := "fnActedBy", unfollowed := true, recurses := true, named := ["loop.example/coinmachine/impl.worths"], plainKeys := false, apart := false, laid := [("loop.example/coinmachine/impl.worths", laid_loop_example_coinmachine_impl_worths)], narrowed := true }
def FnActedByUptoSaid : Prop := fnActedByUptoRow.holds Tryd.pinned (OpenSpec.upto fnActedBySpec)

/-- 'laws.FnRunBy', WHERE WHAT IT READS IS OF BULK AT MOST 1048576: true; the input reads as it did. -/
def fnRunByUptoRow : OpenClaim := { program := "ytpficldaokbdpaadoor", sum := "442719f29f57ec88ae39adb4f036976a3b7e950d171387cebb4855a456193a60", func := "loop.example/coinmachine/laws.FnRunBy", spec := "fnRunBy", unfollowed := true, recurses := true, named := ["loop.example/coinmachine/impl.worths"], plainKeys := false, apart := false, laid := [("loop.example/coinmachine/impl.worths", laid_loop_example_coinmachine_impl_worths)], narrowed := true }
def FnRunByUptoSaid : Prop := fnRunByUptoRow.holds Tryd.pinned (OpenSpec.upto fnRunBySpec)

/-- 'laws.FnPicksBy', WHERE WHAT IT READS IS OF BULK AT MOST 1048576: true; the input reads as it did. -/
def fnPicksByUptoRow : OpenClaim := { program := "ytpficldaokbdpaadoor", sum := "442719f29f57ec88ae39adb4f036976a3b7e950d171387cebb4855a456193a60", func := "loop.example/coinmachine/laws.FnPicksBy", spec := "fnPicksBy", unfollowed := true, recurses := true, named := ["loop.example/coinmachine/impl.worths"], plainKeys := false, apart := false, laid := [("loop.example/coinmachine/impl.worths", laid_loop_example_coinmachine_impl_worths)], narrowed := true }
def FnPicksByUptoSaid : Prop := fnPicksByUptoRow.holds Tryd.pinned (OpenSpec.upto fnPicksBySpec)

/-- 'laws.FnExactActedBy', WHERE WHAT IT READS IS OF BULK AT MOST 1048576: true; the input reads as it did. -/
def fnExactActedByUptoRow : OpenClaim := { program := "ytpficldaokbdpaadoor", sum := "442719f29f57ec88ae39adb4f036976a3b7e950d171387cebb4855a456193a60", func := "loop.example/coinmachine/laws.FnExactActedBy", spec := "fnExactActedBy", unfollowed := true, recurses := true, named := ["loop.example/coinmachine/impl.worths"], plainKeys := false, apart := false, laid := [("loop.example/coinmachine/impl.worths", laid_loop_example_coinmachine_impl_worths)], narrowed := true }
def FnExactActedByUptoSaid : Prop := fnExactActedByUptoRow.holds Tryd.pinned (OpenSpec.upto fnExactActedBySpec)

/-- 'laws.FnExactRunBy', WHERE WHAT IT READS IS OF BULK AT MOST 1048576: true; the input reads as it did. -/
def fnExactRunByUptoRow : OpenClaim := { program := "ytpficldaokbdpaadoor", sum := "442719f29f57ec88ae39adb4f036976a3b7e950d171387cebb4855a456193a60", func := "loop.example/coinmachine/laws.FnExactRunBy", spec := "fnExactRunBy", unfollowed := true, recurses := true, named := ["loop.example/coinmachine/impl.worths"], plainKeys := false, apart := false, laid := [("loop.example/coinmachine/impl.worths", laid_loop_example_coinmachine_impl_worths)], narrowed := true }
def FnExactRunByUptoSaid : Prop := fnExactRunByUptoRow.holds Tryd.pinned (OpenSpec.upto fnExactRunBySpec)

/-- 'laws.FnExactPicksBy', WHERE WHAT IT READS IS OF BULK AT MOST 1048576: true; the input reads as it did. -/
def fnExactPicksByUptoRow : OpenClaim := { program := "ytpficldaokbdpaadoor", sum := "442719f29f57ec88ae39adb4f036976a3b7e950d171387cebb4855a456193a60", func := "loop.example/coinmachine/laws.FnExactPicksBy", spec := "fnExactPicksBy", unfollowed := true, recurses := true, named := ["loop.example/coinmachine/impl.worths"], plainKeys := false, apart := false, laid := [("loop.example/coinmachine/impl.worths", laid_loop_example_coinmachine_impl_worths)], narrowed := true }
def FnExactPicksByUptoSaid : Prop := fnExactPicksByUptoRow.holds Tryd.pinned (OpenSpec.upto fnExactPicksBySpec)

end Rows
end Go.Proofs.YtpficldaokbdpaaDoor

/-
  NARROWER THAN 'FOR EVERY INPUT', by the rows' own cells (each row's printed sentence says how): FnMoneyIn: laid · FnActed: laid · FnCanPick: laid · FnRunOf: laid · FnExactRunOf: laid · FnSoldBy: laid · FnCoinsPut: laid · FnHoldsAt: laid · FnHoldsOf: laid · FnPlacesOf: laid · FnClaimOk: laid · FnOppositeOf: laid · FnChoiceOk: laid · FnRunAt: laid.
  DERIVED. THE GIVEN ROWS OF THIS SEAT. 14 by the template 'for every input the law returns true; each argument reads behind the call as it read before'; 0 by the template 'total and deterministic' (their statements: YteedokdgjjflkaaDoorTotals.lean).
  GIVEN WITH THE SEED: the statements are not yours to turn. If you find one false, say at which input.
  Laid BY PROGRAM, IN A SANDBOX (cutbox-rows.mjs): the forced cells as the released guide's own fill.sh prints them over the translation 2333ade02a43cc9d… (all of the seat's roots in one cut). By AI agents, Wed Nov 11 2026. No macro, syntax, notation, axiom, sorry.
-/
import Derived.Test.YteedokdgjjflkaaDoorChecked
import GoSem.Claim
import GoSem.ClaimJoined
import GoSem.ClaimMapViews
import Derived.JoinedTies
import Derived.KernelRfl
namespace Go.Proofs.YteedokdgjjflkaaDoor
/- THE CELL 'sum', in the pinned program and in every row, IS THE sha256 OF THE DUMP (.gsa) THAT YteedokdgjjflkaaDoorProg.lean LOADS. Nothing in Lean hashes anything: it is a label: what it is worth is what the hold of that sum in a sandbox is worth. -/
noncomputable def Tryd.pinned : Pinned := { name := "yteedokdgjjflkaadoor", sum := "2333ade02a43cc9df9067838eef16d58ad9c247f8c47cb54a0e6fe9e9ecb2e06", checked := Tryd.checked }
namespace Rows
def none {H : Type} : Left H := { results := [], args := [] }

/- WHAT THE LISTED PACKAGE-LEVEL VARIABLES READ AS WHEN THE CALL BEGINS. Each datum BY PROGRAM (the guide's laid-datum.mjs) off the statement by which the dump's own 'gosem.cut.vars' lays the variable. In a bare row this is a premise. The card (YteedokdgjjflkaaDoorCards.lean) ties it to the program's text. -/
def laid_loop_example_coinmachine_impl_worths {H : Type} : DataW H := .agg [.lit (.int .i64 1), .lit (.int .i64 2), .lit (.int .i64 5), .lit (.int .i64 10)]

/-- 'laws.FnMoneyIn': WHATEVER THE INPUT: true; the input reads as it did. -/
def fnMoneyInSpec : ChangeSpec := { name := "fnMoneyIn", vars := ["loop.example/coinmachine/impl.worths"], fn := fun _ => fun
  | [d, g1] => { results := [.lit (.bool true)], args := [d], vars := [g1] }
  | _ => none }
def fnMoneyInRow : OpenClaim := { program := "yteedokdgjjflkaadoor", sum := "2333ade02a43cc9df9067838eef16d58ad9c247f8c47cb54a0e6fe9e9ecb2e06", func := "loop.example/coinmachine/laws.FnMoneyIn", spec := "fnMoneyIn", unfollowed := true, recurses := true, named := ["loop.example/coinmachine/impl.worths"], plainKeys := false, apart := false, laid := [("loop.example/coinmachine/impl.worths", laid_loop_example_coinmachine_impl_worths)] }
def FnMoneyInSaid : Prop := fnMoneyInRow.holds Tryd.pinned (OpenSpec.ofChange fnMoneyInSpec)

/-- ITS FALSE NEIGHBOUR: 'it returns false'. Refute it at one input. -/
def fnMoneyInWrong : ChangeSpec := { name := "fnMoneyIn", vars := ["loop.example/coinmachine/impl.worths"], fn := fun _ => fun
  | [d, g1] => { results := [.lit (.bool false)], args := [d], vars := [g1] }
  | _ => none }
def FnMoneyInWrongFalsely : Prop := fnMoneyInRow.holds Tryd.pinned (OpenSpec.ofChange fnMoneyInWrong)

/-- 'laws.FnActed': WHATEVER THE INPUT: true; the input reads as it did. -/
def fnActedSpec : ChangeSpec := { name := "fnActed", vars := ["loop.example/coinmachine/impl.worths"], fn := fun _ => fun
  | [d, g1] => { results := [.lit (.bool true)], args := [d], vars := [g1] }
  | _ => none }
def fnActedRow : OpenClaim := { program := "yteedokdgjjflkaadoor", sum := "2333ade02a43cc9df9067838eef16d58ad9c247f8c47cb54a0e6fe9e9ecb2e06", func := "loop.example/coinmachine/laws.FnActed", spec := "fnActed", unfollowed := true, recurses := true, named := ["loop.example/coinmachine/impl.worths"], plainKeys := false, apart := false, laid := [("loop.example/coinmachine/impl.worths", laid_loop_example_coinmachine_impl_worths)] }
def FnActedSaid : Prop := fnActedRow.holds Tryd.pinned (OpenSpec.ofChange fnActedSpec)

/-- ITS FALSE NEIGHBOUR: 'it returns false'. Refute it at one input. -/
def fnActedWrong : ChangeSpec := { name := "fnActed", vars := ["loop.example/coinmachine/impl.worths"], fn := fun _ => fun
  | [d, g1] => { results := [.lit (.bool false)], args := [d], vars := [g1] }
  | _ => none }
def FnActedWrongFalsely : Prop := fnActedRow.holds Tryd.pinned (OpenSpec.ofChange fnActedWrong)

/-- 'laws.FnCanPick': WHATEVER THE INPUT: true; the input reads as it did. -/
def fnCanPickSpec : ChangeSpec := { name := "fnCanPick", vars := ["loop.example/coinmachine/impl.worths"], fn := fun _ => fun
  | [d, g1] => { results := [.lit (.bool true)], args := [d], vars := [g1] }
  | _ => none }
def fnCanPickRow : OpenClaim := { program := "yteedokdgjjflkaadoor", sum := "2333ade02a43cc9df9067838eef16d58ad9c247f8c47cb54a0e6fe9e9ecb2e06", func := "loop.example/coinmachine/laws.FnCanPick", spec := "fnCanPick", unfollowed := true, recurses := true, named := ["loop.example/coinmachine/impl.worths"], plainKeys := false, apart := false, laid := [("loop.example/coinmachine/impl.worths", laid_loop_example_coinmachine_impl_worths)] }
def FnCanPickSaid : Prop := fnCanPickRow.holds Tryd.pinned (OpenSpec.ofChange fnCanPickSpec)

/-- ITS FALSE NEIGHBOUR: 'it returns false'. Refute it at one input. -/
def fnCanPickWrong : ChangeSpec := { name := "fnCanPick", vars := ["loop.example/coinmachine/impl.worths"], fn := fun _ => fun
  | [d, g1] => { results := [.lit (.bool false)], args := [d], vars := [g1] }
  | _ => none }
def FnCanPickWrongFalsely : Prop := fnCanPickRow.holds Tryd.pinned (OpenSpec.ofChange fnCanPickWrong)

/-- 'laws.FnRunOf': WHATEVER THE INPUT: true; the input reads as it did. -/
def fnRunOfSpec : ChangeSpec := { name := "fnRunOf", vars := ["loop.example/coinmachine/impl.worths"], fn := fun _ => fun
  | [d, g1] => { results := [.lit (.bool true)], args := [d], vars := [g1] }
  | _ => none }
def fnRunOfRow : OpenClaim := { program := "yteedokdgjjflkaadoor", sum := "2333ade02a43cc9df9067838eef16d58ad9c247f8c47cb54a0e6fe9e9ecb2e06", func := "loop.example/coinmachine/laws.FnRunOf", spec := "fnRunOf", unfollowed := true, recurses := true, named := ["loop.example/coinmachine/impl.worths"], plainKeys := false, apart := false, laid := [("loop.example/coinmachine/impl.worths", laid_loop_example_coinmachine_impl_worths)] }
def FnRunOfSaid : Prop := fnRunOfRow.holds Tryd.pinned (OpenSpec.ofChange fnRunOfSpec)

/-- ITS FALSE NEIGHBOUR: 'it returns false'. Refute it at one input. -/
def fnRunOfWrong : ChangeSpec := { name := "fnRunOf", vars := ["loop.example/coinmachine/impl.worths"], fn := fun _ => fun
  | [d, g1] => { results := [.lit (.bool false)], args := [d], vars := [g1] }
  | _ => none }
def FnRunOfWrongFalsely : Prop := fnRunOfRow.holds Tryd.pinned (OpenSpec.ofChange fnRunOfWrong)

/-- 'laws.FnExactRunOf': WHATEVER THE INPUT: true; the input reads as it did. -/
def fnExactRunOfSpec : ChangeSpec := { name := "fnExactRunOf", vars := ["loop.example/coinmachine/impl.worths"], fn := fun _ => fun
  | [d1, d2, g1] => { results := [.lit (.bool true)], args := [d1, d2], vars := [g1] }
  | _ => none }
def fnExactRunOfRow : OpenClaim := { program := "yteedokdgjjflkaadoor", sum := "2333ade02a43cc9df9067838eef16d58ad9c247f8c47cb54a0e6fe9e9ecb2e06", func := "loop.example/coinmachine/laws.FnExactRunOf", spec := "fnExactRunOf", unfollowed := true, recurses := true, named := ["loop.example/coinmachine/impl.worths"], plainKeys := false, apart := false, laid := [("loop.example/coinmachine/impl.worths", laid_loop_example_coinmachine_impl_worths)] }
def FnExactRunOfSaid : Prop := fnExactRunOfRow.holds Tryd.pinned (OpenSpec.ofChange fnExactRunOfSpec)

/-- ITS FALSE NEIGHBOUR: 'it returns false'. Refute it at one input. -/
def fnExactRunOfWrong : ChangeSpec := { name := "fnExactRunOf", vars := ["loop.example/coinmachine/impl.worths"], fn := fun _ => fun
  | [d1, d2, g1] => { results := [.lit (.bool false)], args := [d1, d2], vars := [g1] }
  | _ => none }
def FnExactRunOfWrongFalsely : Prop := fnExactRunOfRow.holds Tryd.pinned (OpenSpec.ofChange fnExactRunOfWrong)

/-- 'laws.FnSoldBy': WHATEVER THE INPUT: true; the input reads as it did. -/
def fnSoldBySpec : ChangeSpec := { name := "fnSoldBy", vars := ["loop.example/coinmachine/impl.worths"], fn := fun _ => fun
  | [d1, d2, g1] => { results := [.lit (.bool true)], args := [d1, d2], vars := [g1] }
  | _ => none }
def fnSoldByRow : OpenClaim := { program := "yteedokdgjjflkaadoor", sum := "2333ade02a43cc9df9067838eef16d58ad9c247f8c47cb54a0e6fe9e9ecb2e06", func := "loop.example/coinmachine/laws.FnSoldBy", spec := "fnSoldBy", unfollowed := true, recurses := true, named := ["loop.example/coinmachine/impl.worths"], plainKeys := false, apart := false, laid := [("loop.example/coinmachine/impl.worths", laid_loop_example_coinmachine_impl_worths)] }
def FnSoldBySaid : Prop := fnSoldByRow.holds Tryd.pinned (OpenSpec.ofChange fnSoldBySpec)

/-- ITS FALSE NEIGHBOUR: 'it returns false'. Refute it at one input. -/
def fnSoldByWrong : ChangeSpec := { name := "fnSoldBy", vars := ["loop.example/coinmachine/impl.worths"], fn := fun _ => fun
  | [d1, d2, g1] => { results := [.lit (.bool false)], args := [d1, d2], vars := [g1] }
  | _ => none }
def FnSoldByWrongFalsely : Prop := fnSoldByRow.holds Tryd.pinned (OpenSpec.ofChange fnSoldByWrong)

/-- 'laws.FnCoinsPut': WHATEVER THE INPUT: true; the input reads as it did. -/
def fnCoinsPutSpec : ChangeSpec := { name := "fnCoinsPut", vars := ["loop.example/coinmachine/impl.worths"], fn := fun _ => fun
  | [d1, d2, g1] => { results := [.lit (.bool true)], args := [d1, d2], vars := [g1] }
  | _ => none }
def fnCoinsPutRow : OpenClaim := { program := "yteedokdgjjflkaadoor", sum := "2333ade02a43cc9df9067838eef16d58ad9c247f8c47cb54a0e6fe9e9ecb2e06", func := "loop.example/coinmachine/laws.FnCoinsPut", spec := "fnCoinsPut", unfollowed := true, recurses := true, named := ["loop.example/coinmachine/impl.worths"], plainKeys := false, apart := false, laid := [("loop.example/coinmachine/impl.worths", laid_loop_example_coinmachine_impl_worths)] }
def FnCoinsPutSaid : Prop := fnCoinsPutRow.holds Tryd.pinned (OpenSpec.ofChange fnCoinsPutSpec)

/-- ITS FALSE NEIGHBOUR: 'it returns false'. Refute it at one input. -/
def fnCoinsPutWrong : ChangeSpec := { name := "fnCoinsPut", vars := ["loop.example/coinmachine/impl.worths"], fn := fun _ => fun
  | [d1, d2, g1] => { results := [.lit (.bool false)], args := [d1, d2], vars := [g1] }
  | _ => none }
def FnCoinsPutWrongFalsely : Prop := fnCoinsPutRow.holds Tryd.pinned (OpenSpec.ofChange fnCoinsPutWrong)

/-- 'laws.FnHoldsAt': WHATEVER THE INPUT: true; the input reads as it did. -/
def fnHoldsAtSpec : ChangeSpec := { name := "fnHoldsAt", vars := ["loop.example/coinmachine/impl.worths"], fn := fun _ => fun
  | [d, g1] => { results := [.lit (.bool true)], args := [d], vars := [g1] }
  | _ => none }
def fnHoldsAtRow : OpenClaim := { program := "yteedokdgjjflkaadoor", sum := "2333ade02a43cc9df9067838eef16d58ad9c247f8c47cb54a0e6fe9e9ecb2e06", func := "loop.example/coinmachine/laws.FnHoldsAt", spec := "fnHoldsAt", unfollowed := true, recurses := true, named := ["loop.example/coinmachine/impl.worths"], plainKeys := false, apart := false, laid := [("loop.example/coinmachine/impl.worths", laid_loop_example_coinmachine_impl_worths)] }
def FnHoldsAtSaid : Prop := fnHoldsAtRow.holds Tryd.pinned (OpenSpec.ofChange fnHoldsAtSpec)

/-- ITS FALSE NEIGHBOUR: 'it returns false'. Refute it at one input. -/
def fnHoldsAtWrong : ChangeSpec := { name := "fnHoldsAt", vars := ["loop.example/coinmachine/impl.worths"], fn := fun _ => fun
  | [d, g1] => { results := [.lit (.bool false)], args := [d], vars := [g1] }
  | _ => none }
def FnHoldsAtWrongFalsely : Prop := fnHoldsAtRow.holds Tryd.pinned (OpenSpec.ofChange fnHoldsAtWrong)

/-- 'laws.FnHoldsOf': WHATEVER THE INPUT: true; the input reads as it did. -/
def fnHoldsOfSpec : ChangeSpec := { name := "fnHoldsOf", vars := ["loop.example/coinmachine/impl.worths"], fn := fun _ => fun
  | [d, g1] => { results := [.lit (.bool true)], args := [d], vars := [g1] }
  | _ => none }
def fnHoldsOfRow : OpenClaim := { program := "yteedokdgjjflkaadoor", sum := "2333ade02a43cc9df9067838eef16d58ad9c247f8c47cb54a0e6fe9e9ecb2e06", func := "loop.example/coinmachine/laws.FnHoldsOf", spec := "fnHoldsOf", unfollowed := true, recurses := true, named := ["loop.example/coinmachine/impl.worths"], plainKeys := false, apart := false, laid := [("loop.example/coinmachine/impl.worths", laid_loop_example_coinmachine_impl_worths)] }
def FnHoldsOfSaid : Prop := fnHoldsOfRow.holds Tryd.pinned (OpenSpec.ofChange fnHoldsOfSpec)

/-- ITS FALSE NEIGHBOUR: 'it returns false'. Refute it at one input. -/
def fnHoldsOfWrong : ChangeSpec := { name := "fnHoldsOf", vars := ["loop.example/coinmachine/impl.worths"], fn := fun _ => fun
  | [d, g1] => { results := [.lit (.bool false)], args := [d], vars := [g1] }
  | _ => none }
def FnHoldsOfWrongFalsely : Prop := fnHoldsOfRow.holds Tryd.pinned (OpenSpec.ofChange fnHoldsOfWrong)

/-- 'laws.FnPlacesOf': WHATEVER THE INPUT: true; the input reads as it did. -/
def fnPlacesOfSpec : ChangeSpec := { name := "fnPlacesOf", vars := ["loop.example/coinmachine/impl.worths"], fn := fun _ => fun
  | [d, g1] => { results := [.lit (.bool true)], args := [d], vars := [g1] }
  | _ => none }
def fnPlacesOfRow : OpenClaim := { program := "yteedokdgjjflkaadoor", sum := "2333ade02a43cc9df9067838eef16d58ad9c247f8c47cb54a0e6fe9e9ecb2e06", func := "loop.example/coinmachine/laws.FnPlacesOf", spec := "fnPlacesOf", unfollowed := true, recurses := true, named := ["loop.example/coinmachine/impl.worths"], plainKeys := false, apart := false, laid := [("loop.example/coinmachine/impl.worths", laid_loop_example_coinmachine_impl_worths)] }
def FnPlacesOfSaid : Prop := fnPlacesOfRow.holds Tryd.pinned (OpenSpec.ofChange fnPlacesOfSpec)

/-- ITS FALSE NEIGHBOUR: 'it returns false'. Refute it at one input. -/
def fnPlacesOfWrong : ChangeSpec := { name := "fnPlacesOf", vars := ["loop.example/coinmachine/impl.worths"], fn := fun _ => fun
  | [d, g1] => { results := [.lit (.bool false)], args := [d], vars := [g1] }
  | _ => none }
def FnPlacesOfWrongFalsely : Prop := fnPlacesOfRow.holds Tryd.pinned (OpenSpec.ofChange fnPlacesOfWrong)

/-- 'laws.FnClaimOk': WHATEVER THE INPUT: true; the input reads as it did. -/
def fnClaimOkSpec : ChangeSpec := { name := "fnClaimOk", vars := ["loop.example/coinmachine/impl.worths"], fn := fun _ => fun
  | [d, g1] => { results := [.lit (.bool true)], args := [d], vars := [g1] }
  | _ => none }
def fnClaimOkRow : OpenClaim := { program := "yteedokdgjjflkaadoor", sum := "2333ade02a43cc9df9067838eef16d58ad9c247f8c47cb54a0e6fe9e9ecb2e06", func := "loop.example/coinmachine/laws.FnClaimOk", spec := "fnClaimOk", recurses := true, named := ["loop.example/coinmachine/impl.worths"], plainKeys := false, apart := false, laid := [("loop.example/coinmachine/impl.worths", laid_loop_example_coinmachine_impl_worths)] }
def FnClaimOkSaid : Prop := fnClaimOkRow.holds Tryd.pinned (OpenSpec.ofChange fnClaimOkSpec)

/-- ITS FALSE NEIGHBOUR: 'it returns false'. Refute it at one input. -/
def fnClaimOkWrong : ChangeSpec := { name := "fnClaimOk", vars := ["loop.example/coinmachine/impl.worths"], fn := fun _ => fun
  | [d, g1] => { results := [.lit (.bool false)], args := [d], vars := [g1] }
  | _ => none }
def FnClaimOkWrongFalsely : Prop := fnClaimOkRow.holds Tryd.pinned (OpenSpec.ofChange fnClaimOkWrong)

/-- 'laws.FnOppositeOf': WHATEVER THE INPUT: true; the input reads as it did. -/
def fnOppositeOfSpec : ChangeSpec := { name := "fnOppositeOf", vars := ["loop.example/coinmachine/impl.worths"], fn := fun _ => fun
  | [d1, d2, g1] => { results := [.lit (.bool true)], args := [d1, d2], vars := [g1] }
  | _ => none }
def fnOppositeOfRow : OpenClaim := { program := "yteedokdgjjflkaadoor", sum := "2333ade02a43cc9df9067838eef16d58ad9c247f8c47cb54a0e6fe9e9ecb2e06", func := "loop.example/coinmachine/laws.FnOppositeOf", spec := "fnOppositeOf", unfollowed := true, recurses := true, named := ["loop.example/coinmachine/impl.worths"], plainKeys := false, apart := false, laid := [("loop.example/coinmachine/impl.worths", laid_loop_example_coinmachine_impl_worths)] }
def FnOppositeOfSaid : Prop := fnOppositeOfRow.holds Tryd.pinned (OpenSpec.ofChange fnOppositeOfSpec)

/-- ITS FALSE NEIGHBOUR: 'it returns false'. Refute it at one input. -/
def fnOppositeOfWrong : ChangeSpec := { name := "fnOppositeOf", vars := ["loop.example/coinmachine/impl.worths"], fn := fun _ => fun
  | [d1, d2, g1] => { results := [.lit (.bool false)], args := [d1, d2], vars := [g1] }
  | _ => none }
def FnOppositeOfWrongFalsely : Prop := fnOppositeOfRow.holds Tryd.pinned (OpenSpec.ofChange fnOppositeOfWrong)

/-- 'laws.FnChoiceOk': WHATEVER THE INPUT: true; the input reads as it did. -/
def fnChoiceOkSpec : ChangeSpec := { name := "fnChoiceOk", vars := ["loop.example/coinmachine/impl.worths"], fn := fun _ => fun
  | [d, g1] => { results := [.lit (.bool true)], args := [d], vars := [g1] }
  | _ => none }
def fnChoiceOkRow : OpenClaim := { program := "yteedokdgjjflkaadoor", sum := "2333ade02a43cc9df9067838eef16d58ad9c247f8c47cb54a0e6fe9e9ecb2e06", func := "loop.example/coinmachine/laws.FnChoiceOk", spec := "fnChoiceOk", named := ["loop.example/coinmachine/impl.worths"], plainKeys := false, apart := false, laid := [("loop.example/coinmachine/impl.worths", laid_loop_example_coinmachine_impl_worths)] }
def FnChoiceOkSaid : Prop := fnChoiceOkRow.holds Tryd.pinned (OpenSpec.ofChange fnChoiceOkSpec)

/-- ITS FALSE NEIGHBOUR: 'it returns false'. Refute it at one input. -/
def fnChoiceOkWrong : ChangeSpec := { name := "fnChoiceOk", vars := ["loop.example/coinmachine/impl.worths"], fn := fun _ => fun
  | [d, g1] => { results := [.lit (.bool false)], args := [d], vars := [g1] }
  | _ => none }
def FnChoiceOkWrongFalsely : Prop := fnChoiceOkRow.holds Tryd.pinned (OpenSpec.ofChange fnChoiceOkWrong)

/-- 'laws.FnRunAt': WHATEVER THE INPUT: true; the input reads as it did. -/
def fnRunAtSpec : ChangeSpec := { name := "fnRunAt", vars := ["loop.example/coinmachine/impl.worths"], fn := fun _ => fun
  | [d, g1] => { results := [.lit (.bool true)], args := [d], vars := [g1] }
  | _ => none }
def fnRunAtRow : OpenClaim := { program := "yteedokdgjjflkaadoor", sum := "2333ade02a43cc9df9067838eef16d58ad9c247f8c47cb54a0e6fe9e9ecb2e06", func := "loop.example/coinmachine/laws.FnRunAt", spec := "fnRunAt", named := ["loop.example/coinmachine/impl.worths"], plainKeys := false, apart := false, laid := [("loop.example/coinmachine/impl.worths", laid_loop_example_coinmachine_impl_worths)] }
def FnRunAtSaid : Prop := fnRunAtRow.holds Tryd.pinned (OpenSpec.ofChange fnRunAtSpec)

/-- ITS FALSE NEIGHBOUR: 'it returns false'. Refute it at one input. -/
def fnRunAtWrong : ChangeSpec := { name := "fnRunAt", vars := ["loop.example/coinmachine/impl.worths"], fn := fun _ => fun
  | [d, g1] => { results := [.lit (.bool false)], args := [d], vars := [g1] }
  | _ => none }
def FnRunAtWrongFalsely : Prop := fnRunAtRow.holds Tryd.pinned (OpenSpec.ofChange fnRunAtWrong)

/- THE SECOND FORM. 'bulk': how many values and letters a reading holds, each counted each time it is reached (what is shared counts as often as it is met; a slice's spare places count too). A statement '..UptoSaid' is the law's where the arguments, and the package variables that the reading takes, are together of bulk at most 1048576: NARROWER than '..Said'. Prove '..Said' where nothing that the law and all that it calls make is longer than what came in: it says more and counts as full. Else prove '..UptoSaid'. A law counts once. -/
mutual
def uptoBulk {H : Type} : DataW H → Nat
  | .lit (.string bytes) => bytes.length + 1
  | .lit _ => 1
  | .nil => 1
  | .ptr d => uptoBulk d + 1
  | .slice elems spare => uptoBulkAll elems + uptoBulkAll spare + 1
  | .agg parts => uptoBulkAll parts + 1
  | .iface _ d => uptoBulk d + 1
  | .map entries => uptoBulkEntries entries + 1
  | .held _ => 1
def uptoBulkAll {H : Type} : List (DataW H) → Nat
  | [] => 0
  | d :: r => uptoBulk d + uptoBulkAll r
def uptoBulkEntries {H : Type} : List (Lit × DataW H) → Nat
  | [] => 0
  | x :: r => uptoBulkEntry x + uptoBulkEntries r
def uptoBulkEntry {H : Type} : Lit × DataW H → Nat
  | (.string bytes, d) => bytes.length + uptoBulk d + 1
  | (_, d) => uptoBulk d + 1
 end
def uptoSmall : (H : Type) → List (DataW H) → Bool := fun _ ds => decide (uptoBulkAll ds ≤ 1048576)
def OpenSpec.upto (s : _root_.Go.ChangeSpec) : _root_.Go.OpenSpec := { _root_.Go.OpenSpec.ofChange s with cond := some uptoSmall }

/-- 'laws.FnMoneyIn', WHERE WHAT IT READS IS OF BULK AT MOST 1048576: true; the input reads as it did. -/
def fnMoneyInUptoRow : OpenClaim := { program := "yteedokdgjjflkaadoor", sum := "2333ade02a43cc9df9067838eef16d58ad9c247f8c47cb54a0e6fe9e9ecb2e06", func := "loop.example/coinmachine/laws.FnMoneyIn", spec := "fnMoneyIn", unfollowed := true, recurses := true, named := ["loop.example/coinmachine/impl.worths"], plainKeys := false, apart := false, laid := [("loop.example/coinmachine/impl.worths", laid_loop_example_coinmachine_impl_worths)], narrowed := true }
def FnMoneyInUptoSaid : Prop := fnMoneyInUptoRow.holds Tryd.pinned (OpenSpec.upto fnMoneyInSpec)

/-- 'laws.FnActed', WHERE WHAT IT READS IS OF BULK AT MOST 1048576: true; the input reads as it did. -/
def fnActedUptoRow : OpenClaim := { program := "yteedokdgjjflkaadoor", sum := "2333ade02a43cc9df9067838eef16d58ad9c247f8c47cb54a0e6fe9e9ecb2e06", func := "loop.example/coinmachine/laws.FnActed", spec := "fnActed", unfollowed := true, recurses := true, named := ["loop.example/coinmachine/impl.worths"], plainKeys := false, apart := false, laid := [("loop.example/coinmachine/impl.worths", laid_loop_example_coinmachine_impl_worths)], narrowed := true }
def FnActedUptoSaid : Prop := fnActedUptoRow.holds Tryd.pinned (OpenSpec.upto fnActedSpec)

/-- 'laws.FnCanPick', WHERE WHAT IT READS IS OF BULK AT MOST 1048576: true; the input reads as it did. -/
def fnCanPickUptoRow : OpenClaim := { program := "yteedokdgjjflkaadoor", sum := "2333ade02a43cc9df9067838eef16d58ad9c247f8c47cb54a0e6fe9e9ecb2e06", func := "loop.example/coinmachine/laws.FnCanPick", spec := "fnCanPick", unfollowed := true, recurses := true, named := ["loop.example/coinmachine/impl.worths"], plainKeys := false, apart := false, laid := [("loop.example/coinmachine/impl.worths", laid_loop_example_coinmachine_impl_worths)], narrowed := true }
def FnCanPickUptoSaid : Prop := fnCanPickUptoRow.holds Tryd.pinned (OpenSpec.upto fnCanPickSpec)

/-- 'laws.FnRunOf', WHERE WHAT IT READS IS OF BULK AT MOST 1048576: true; the input reads as it did. -/
def fnRunOfUptoRow : OpenClaim := { program := "yteedokdgjjflkaadoor", sum := "2333ade02a43cc9df9067838eef16d58ad9c247f8c47cb54a0e6fe9e9ecb2e06", func := "loop.example/coinmachine/laws.FnRunOf", spec := "fnRunOf", unfollowed := true, recurses := true, named := ["loop.example/coinmachine/impl.worths"], plainKeys := false, apart := false, laid := [("loop.example/coinmachine/impl.worths", laid_loop_example_coinmachine_impl_worths)], narrowed := true }
def FnRunOfUptoSaid : Prop := fnRunOfUptoRow.holds Tryd.pinned (OpenSpec.upto fnRunOfSpec)

/-- 'laws.FnExactRunOf', WHERE WHAT IT READS IS OF BULK AT MOST 1048576: true; the input reads as it did. -/
def fnExactRunOfUptoRow : OpenClaim := { program := "yteedokdgjjflkaadoor", sum := "2333ade02a43cc9df9067838eef16d58ad9c247f8c47cb54a0e6fe9e9ecb2e06", func := "loop.example/coinmachine/laws.FnExactRunOf", spec := "fnExactRunOf", unfollowed := true, recurses := true, named := ["loop.example/coinmachine/impl.worths"], plainKeys := false, apart := false, laid := [("loop.example/coinmachine/impl.worths", laid_loop_example_coinmachine_impl_worths)], narrowed := true }
def FnExactRunOfUptoSaid : Prop := fnExactRunOfUptoRow.holds Tryd.pinned (OpenSpec.upto fnExactRunOfSpec)

/-- 'laws.FnSoldBy', WHERE WHAT IT READS IS OF BULK AT MOST 1048576: true; the input reads as it did. -/
def fnSoldByUptoRow : OpenClaim := { program := "yteedokdgjjflkaadoor", sum := "2333ade02a43cc9df9067838eef16d58ad9c247f8c47cb54a0e6fe9e9ecb2e06", func := "loop.example/coinmachine/laws.FnSoldBy", spec := "fnSoldBy", unfollowed := true, recurses := true, named := ["loop.example/coinmachine/impl.worths"], plainKeys := false, apart := false, laid := [("loop.example/coinmachine/impl.worths", laid_loop_example_coinmachine_impl_worths)], narrowed := true }
def FnSoldByUptoSaid : Prop := fnSoldByUptoRow.holds Tryd.pinned (OpenSpec.upto fnSoldBySpec)

/-- 'laws.FnCoinsPut', WHERE WHAT IT READS IS OF BULK AT MOST 1048576: true; the input reads as it did. -/
def fnCoinsPutUptoRow : OpenClaim := { program := "yteedokdgjjflkaadoor", sum := "2333ade02a43cc9df9067838eef16d58ad9c247f8c47cb54a0e6fe9e9ecb2e06", func := "loop.example/coinmachine/laws.FnCoinsPut", spec := "fnCoinsPut", unfollowed := true, recurses := true, named := ["loop.example/coinmachine/impl.worths"], plainKeys := false, apart := false, laid := [("loop.example/coinmachine/impl.worths", laid_loop_example_coinmachine_impl_worths)], narrowed := true }
def FnCoinsPutUptoSaid : Prop := fnCoinsPutUptoRow.holds Tryd.pinned (OpenSpec.upto fnCoinsPutSpec)

/-- 'laws.FnHoldsAt', WHERE WHAT IT READS IS OF BULK AT MOST 1048576: true; the input reads as it did. -/
def fnHoldsAtUptoRow : OpenClaim := { program := "yteedokdgjjflkaadoor", sum := "2333ade02a43cc9df9067838eef16d58ad9c247f8c47cb54a0e6fe9e9ecb2e06", func := "loop.example/coinmachine/laws.FnHoldsAt", spec := "fnHoldsAt", unfollowed := true, recurses := true, named := ["loop.example/coinmachine/impl.worths"], plainKeys := false, apart := false, laid := [("loop.example/coinmachine/impl.worths", laid_loop_example_coinmachine_impl_worths)], narrowed := true }
def FnHoldsAtUptoSaid : Prop := fnHoldsAtUptoRow.holds Tryd.pinned (OpenSpec.upto fnHoldsAtSpec)

/-- 'laws.FnHoldsOf', WHERE WHAT IT READS IS OF BULK AT MOST 1048576: true; the input reads as it did. -/
def fnHoldsOfUptoRow : OpenClaim := { program := "yteedokdgjjflkaadoor", sum := "2333ade02a43cc9df9067838eef16d58ad9c247f8c47cb54a0e6fe9e9ecb2e06", func := "loop.example/coinmachine/laws.FnHoldsOf", spec := "fnHoldsOf", unfollowed := true, recurses := true, named := ["loop.example/coinmachine/impl.worths"], plainKeys := false, apart := false, laid := [("loop.example/coinmachine/impl.worths", laid_loop_example_coinmachine_impl_worths)], narrowed := true }
def FnHoldsOfUptoSaid : Prop := fnHoldsOfUptoRow.holds Tryd.pinned (OpenSpec.upto fnHoldsOfSpec)

/-- 'laws.FnPlacesOf', WHERE WHAT IT READS IS OF BULK AT MOST 1048576: true; the input reads as it did. -/
def fnPlacesOfUptoRow : OpenClaim := { program := "yteedokdgjjflkaadoor", sum := "2333ade02a43cc9df9067838eef16d58ad9c247f8c47cb54a0e6fe9e9ecb2e06", func := "loop.example/coinmachine/laws.FnPlacesOf", spec := "fnPlacesOf", unfollowed := true, recurses := true, named := ["loop.example/coinmachine/impl.worths"], plainKeys := false, apart := false, laid := [("loop.example/coinmachine/impl.worths", laid_loop_example_coinmachine_impl_worths)], narrowed := true }
def FnPlacesOfUptoSaid : Prop := fnPlacesOfUptoRow.holds Tryd.pinned (OpenSpec.upto fnPlacesOfSpec)

/-- 'laws.FnClaimOk', WHERE WHAT IT READS IS OF BULK AT MOST 1048576: true; the input reads as it did. -/
def fnClaimOkUptoRow : OpenClaim := { program := "yteedokdgjjflkaadoor", sum := "2333ade02a43cc9df9067838eef16d58ad9c247f8c47cb54a0e6fe9e9ecb2e06", func := "loop.example/coinmachine/laws.FnClaimOk", spec := "fnClaimOk", recurses := true, named := ["loop.example/coinmachine/impl.worths"], plainKeys := false, apart := false, laid := [("loop.example/coinmachine/impl.worths", laid_loop_example_coinmachine_impl_worths)], narrowed := true }
def FnClaimOkUptoSaid : Prop := fnClaimOkUptoRow.holds Tryd.pinned (OpenSpec.upto fnClaimOkSpec)

/-- 'laws.FnOppositeOf', WHERE WHAT IT READS IS OF BULK AT MOST 1048576: true; the input reads as it did. -/
def fnOppositeOfUptoRow : OpenClaim := { program := "yteedokdgjjflkaadoor", sum := "2333ade02a43cc9df9067838eef16d58ad9c247f8c47cb54a0e6fe9e9ecb2e06", func := "loop.example/coinmachine/laws.FnOppositeOf", spec := "fnOppositeOf", unfollowed := true, recurses := true, named := ["loop.example/coinmachine/impl.worths"], plainKeys := false, apart := false, laid := [("loop.example/coinmachine/impl.worths", laid_loop_example_coinmachine_impl_worths)], narrowed := true }
def FnOppositeOfUptoSaid : Prop := fnOppositeOfUptoRow.holds Tryd.pinned (OpenSpec.upto fnOppositeOfSpec)

/-- 'laws.FnChoiceOk', WHERE WHAT IT READS IS OF BULK AT MOST 1048576: true; the input reads as it did. -/
def fnChoiceOkUptoRow : OpenClaim := { program := "yteedokdgjjflkaadoor", sum := "2333ade02a43cc9df9067838eef16d58ad9c247f8c47cb54a0e6fe9e9ecb2e06", func := "loop.example/coinmachine/laws.FnChoiceOk", spec := "fnChoiceOk", named := ["loop.example/coinmachine/impl.worths"], plainKeys := false, apart := false, laid := [("loop.example/coinmachine/impl.worths", laid_loop_example_coinmachine_impl_worths)], narrowed := true }
def FnChoiceOkUptoSaid : Prop := fnChoiceOkUptoRow.holds Tryd.pinned (OpenSpec.upto fnChoiceOkSpec)

/-- 'laws.FnRunAt', WHERE WHAT IT READS IS OF BULK AT MOST 1048576: true; the input reads as it did. -/
def fnRunAtUptoRow : OpenClaim := { program := "yteedokdgjjflkaadoor", sum := "2333ade02a43cc9df9067838eef16d58ad9c247f8c47cb54a0e6fe9e9ecb2e06", func := "loop.example/coinmachine/laws.FnRunAt", spec := "fnRunAt", named := ["loop.example/coinmachine/impl.worths"], plainKeys := false, apart := false, laid := [("loop.example/coinmachine/impl.worths", laid_loop_example_coinmachine_impl_worths)], narrowed := true }
def FnRunAtUptoSaid : Prop := fnRunAtUptoRow.holds Tryd.pinned (OpenSpec.upto fnRunAtSpec)

end Rows
end Go.Proofs.YteedokdgjjflkaaDoor

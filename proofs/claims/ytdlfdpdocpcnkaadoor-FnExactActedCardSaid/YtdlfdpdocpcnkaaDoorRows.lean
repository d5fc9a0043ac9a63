/-
  NARROWER THAN 'FOR EVERY INPUT', by the rows' own cells (each row's printed sentence says how): FnExactActed: laid · FnExactRunOf: laid · FnActed: laid · FnMoneyIn: laid · FnCanPick: laid · FnRefilled: laid · FnMachineOk: laid · FnRunOf: laid · FnCoinsPut: laid.
  DERIVED. THE GIVEN ROWS OF THIS SEAT. 9 by the template 'for every input the law returns true; each argument reads behind the call as it read before'; 0 by the template 'total and deterministic' (their statements: YtdlfdpdocpcnkaaDoorTotals.lean).
  GIVEN WITH THE SEED: the statements are not yours to turn. If you find one false, say at which input.
  Laid BY PROGRAM, IN A SANDBOX (cutbox-rows.mjs): the forced cells as the released guide's own fill.sh prints them over the translation 2ab339796bb2a0df… (all of the seat's roots in one cut). By AI agents, Wed Nov 11 2026. No macro, syntax, notation, axiom, sorry.
-/
import Derived.Test.YtdlfdpdocpcnkaaDoorChecked
import GoSem.Claim
import GoSem.ClaimJoined
import GoSem.ClaimMapViews
import Derived.JoinedTies
import Derived.KernelRfl
namespace Go.Proofs.YtdlfdpdocpcnkaaDoor
/- THE CELL 'sum', in the pinned program and in every row, IS THE sha256 OF THE DUMP (.gsa) THAT YtdlfdpdocpcnkaaDoorProg.lean LOADS. Nothing in Lean hashes anything: it is a label: what it is worth is what the hold of that sum in a sandbox is worth. -/
noncomputable def Tryd.pinned : Pinned := { name := "ytdlfdpdocpcnkaadoor", sum := "2ab339796bb2a0df929da4494c083f41ec8bace541b11b92dc369cb9bc1a9c5c", checked := Tryd.checked }
namespace Rows
def none {H : Type} : Left H := { results := [], args := [] }

/- WHAT THE LISTED PACKAGE-LEVEL VARIABLES READ AS WHEN THE CALL BEGINS. Each datum BY PROGRAM (the guide's laid-datum.mjs) off the statement by which the dump's own 'gosem.cut.vars' lays the variable. In a bare row this is a premise. The card (YtdlfdpdocpcnkaaDoorCards.lean) ties it to the program's text. -/
def laid_loop_example_coinmachine_impl_worths {H : Type} : DataW H := .agg [.lit (.int .i64 1), .lit (.int .i64 2), .lit (.int .i64 5), .lit (.int .i64 10)]

/-- 'laws.FnExactActed': WHATEVER THE INPUT: true; the input reads as it did. -/
def fnExactActedSpec : ChangeSpec := { name := "fnExactActed", vars := ["loop.example/coinmachine/impl.worths"], fn := fun _ => fun
  | [d1, d2, g1] => { results := [.lit (.bool true)], args := [d1, d2], vars := [g1] }
  | _ => none }
def fnExactActedRow : OpenClaim := { program := "ytdlfdpdocpcnkaadoor", sum := "2ab339796bb2a0df929da4494c083f41ec8bace541b11b92dc369cb9bc1a9c5c", func := "loop.example/coinmachine/laws.FnExactActed", spec := "fnExactActed", unfollowed := true, recurses := true, named := ["loop.example/coinmachine/impl.worths"], plainKeys := false, apart := false, laid := [("loop.example/coinmachine/impl.worths", laid_loop_example_coinmachine_impl_worths)] }
def FnExactActedSaid : Prop := fnExactActedRow.holds Tryd.pinned (OpenSpec.ofChange fnExactActedSpec)

/-- ITS FALSE NEIGHBOUR: 'it returns false'. Refute it at one input. -/
def fnExactActedWrong : ChangeSpec := { name := "fnExactActed", vars := ["loop.example/coinmachine/impl.worths"], fn := fun _ => fun
  | [d1, d2, g1] => { results := [.lit (.bool false)], args := [d1, d2], vars := [g1] }
  | _ => none }
def FnExactActedWrongFalsely : Prop := fnExactActedRow.holds Tryd.pinned (OpenSpec.ofChange fnExactActedWrong)

/-- 'laws.FnExactRunOf': WHATEVER THE INPUT: true; the input reads as it did. -/
def fnExactRunOfSpec : ChangeSpec := { name := "fnExactRunOf", vars := ["loop.example/coinmachine/impl.worths"], fn := fun _ => fun
  | [d1, d2, g1] => { results := [.lit (.bool true)], args := [d1, d2], vars := [g1] }
  | _ => none }
def fnExactRunOfRow : OpenClaim := { program := "ytdlfdpdocpcnkaadoor", sum := "2ab339796bb2a0df929da4494c083f41ec8bace541b11b92dc369cb9bc1a9c5c", func := "loop.example/coinmachine/laws.FnExactRunOf", spec := "fnExactRunOf", unfollowed := true, recurses := true, named := ["loop.example/coinmachine/impl.worths"], plainKeys := false, apart := false, laid := [("loop.example/coinmachine/impl.worths", laid_loop_example_coinmachine_impl_worths)] }
def FnExactRunOfSaid : Prop := fnExactRunOfRow.holds Tryd.pinned (OpenSpec.ofChange fnExactRunOfSpec)

/-- ITS FALSE NEIGHBOUR: 'it returns false'. Refute it at one input. -/
def fnExactRunOfWrong : ChangeSpec := { name := "fnExactRunOf", vars := ["loop.example/coinmachine/impl.worths"], fn := fun _ => fun
  | [d1, d2, g1] => { results := [.lit (.bool false)], args := [d1, d2], vars := [g1] }
  | _ => none }
def FnExactRunOfWrongFalsely : Prop := fnExactRunOfRow.holds Tryd.pinned (OpenSpec.ofChange fnExactRunOfWrong)

/-- 'laws.FnActed': WHATEVER THE INPUT: true; the input reads as it did. -/
def fnActedSpec : ChangeSpec := { name := "fnActed", vars := ["loop.example/coinmachine/impl.worths"], fn := fun _ => fun
  | [d, g1] => { results := [.lit (.bool true)], args := [d], vars := [g1] }
  | _ => none }
def fnActedRow : OpenClaim := { program := "ytdlfdpdocpcnkaadoor", sum := "2ab339796bb2a0df929da4494c083f41ec8bace541b11b92dc369cb9bc1a9c5c", func := "loop.example/coinmachine/laws.FnActed", spec := "fnActed", unfollowed := true, recurses := true, named := ["loop.example/coinmachine/impl.worths"], plainKeys := false, apart := false, laid := [("loop.example/coinmachine/impl.worths", laid_loop_example_coinmachine_impl_worths)] }
def FnActedSaid : Prop := fnActedRow.holds Tryd.pinned (OpenSpec.ofChange fnActedSpec)

/-- ITS FALSE NEIGHBOUR: 'it returns false'. Refute it at one input. -/
def fnActedWrong : ChangeSpec := { name := "fnActed", vars := ["loop.example/coinmachine/impl.worths"], fn := fun _ => fun
  | [d, g1] => { results := [.lit (.bool false)], args := [d], vars := [g1] }
  | _ => none }
def FnActedWrongFalsely : Prop := fnActedRow.holds Tryd.pinned (OpenSpec.ofChange fnActedWrong)

/-- 'laws.FnMoneyIn': WHATEVER THE INPUT: true; the input reads as it did. -/
def fnMoneyInSpec : ChangeSpec := { name := "fnMoneyIn", vars := ["loop.example/coinmachine/impl.worths"], fn := fun _ => fun
  | [d, g1] => { results := [.lit (.bool true)], args := [d], vars := [g1] }
  | _ => none }
def fnMoneyInRow : OpenClaim := { program := "ytdlfdpdocpcnkaadoor", sum := "2ab339796bb2a0df929da4494c083f41ec8bace541b11b92dc369cb9bc1a9c5c", func := "loop.example/coinmachine/laws.FnMoneyIn", spec := "fnMoneyIn", unfollowed := true, recurses := true, named := ["loop.example/coinmachine/impl.worths"], plainKeys := false, apart := false, laid := [("loop.example/coinmachine/impl.worths", laid_loop_example_coinmachine_impl_worths)] }
def FnMoneyInSaid : Prop := fnMoneyInRow.holds Tryd.pinned (OpenSpec.ofChange fnMoneyInSpec)

/-- ITS FALSE NEIGHBOUR: 'it returns false'. Refute it at one input. -/
def fnMoneyInWrong : ChangeSpec := { name := "fnMoneyIn", vars := ["loop.example/coinmachine/impl.worths"], fn := fun _ => fun
  | [d, g1] => { results := [.lit (.bool false)], args := [d], vars := [g1] }
  | _ => none }
def FnMoneyInWrongFalsely : Prop := fnMoneyInRow.holds Tryd.pinned (OpenSpec.ofChange fnMoneyInWrong)

/-- 'laws.FnCanPick': WHATEVER THE INPUT: true; the input reads as it did. -/
def fnCanPickSpec : ChangeSpec := { name := "fnCanPick", vars := ["loop.example/coinmachine/impl.worths"], fn := fun _ => fun
  | [d, g1] => { results := [.lit (.bool true)], args := [d], vars := [g1] }
  | _ => none }
def fnCanPickRow : OpenClaim := { program := "ytdlfdpdocpcnkaadoor", sum := "2ab339796bb2a0df929da4494c083f41ec8bace541b11b92dc369cb9bc1a9c5c", func := "loop.example/coinmachine/laws.FnCanPick", spec := "fnCanPick", unfollowed := true, recurses := true, named := ["loop.example/coinmachine/impl.worths"], plainKeys := false, apart := false, laid := [("loop.example/coinmachine/impl.worths", laid_loop_example_coinmachine_impl_worths)] }
def FnCanPickSaid : Prop := fnCanPickRow.holds Tryd.pinned (OpenSpec.ofChange fnCanPickSpec)

/-- ITS FALSE NEIGHBOUR: 'it returns false'. Refute it at one input. -/
def fnCanPickWrong : ChangeSpec := { name := "fnCanPick", vars := ["loop.example/coinmachine/impl.worths"], fn := fun _ => fun
  | [d, g1] => { results := [.lit (.bool false)], args := [d], vars := [g1] }
  | _ => none }
def FnCanPickWrongFalsely : Prop := fnCanPickRow.holds Tryd.pinned (OpenSpec.ofChange fnCanPickWrong)

/-- 'laws.FnRefilled': WHATEVER THE INPUT: true; the input reads as it did. -/
def fnRefilledSpec : ChangeSpec := { name := "fnRefilled", vars := ["loop.example/coinmachine/impl.worths"], fn := fun _ => fun
  | [d, g1] => { results := [.lit (.bool true)], args := [d], vars := [g1] }
  | _ => none }
def fnRefilledRow : OpenClaim := { program := "ytdlfdpdocpcnkaadoor", sum := "2ab339796bb2a0df929da4494c083f41ec8bace541b11b92dc369cb9bc1a9c5c", func := "loop.example/coinmachine/laws.FnRefilled", spec := "fnRefilled", named := ["loop.example/coinmachine/impl.worths"], plainKeys := false, apart := false, laid := [("loop.example/coinmachine/impl.worths", laid_loop_example_coinmachine_impl_worths)] }
def FnRefilledSaid : Prop := fnRefilledRow.holds Tryd.pinned (OpenSpec.ofChange fnRefilledSpec)

/-- ITS FALSE NEIGHBOUR: 'it returns false'. Refute it at one input. -/
def fnRefilledWrong : ChangeSpec := { name := "fnRefilled", vars := ["loop.example/coinmachine/impl.worths"], fn := fun _ => fun
  | [d, g1] => { results := [.lit (.bool false)], args := [d], vars := [g1] }
  | _ => none }
def FnRefilledWrongFalsely : Prop := fnRefilledRow.holds Tryd.pinned (OpenSpec.ofChange fnRefilledWrong)

/-- 'laws.FnMachineOk': WHATEVER THE INPUT: true; the input reads as it did. -/
def fnMachineOkSpec : ChangeSpec := { name := "fnMachineOk", vars := ["loop.example/coinmachine/impl.worths"], fn := fun _ => fun
  | [d, g1] => { results := [.lit (.bool true)], args := [d], vars := [g1] }
  | _ => none }
def fnMachineOkRow : OpenClaim := { program := "ytdlfdpdocpcnkaadoor", sum := "2ab339796bb2a0df929da4494c083f41ec8bace541b11b92dc369cb9bc1a9c5c", func := "loop.example/coinmachine/laws.FnMachineOk", spec := "fnMachineOk", named := ["loop.example/coinmachine/impl.worths"], plainKeys := false, apart := false, laid := [("loop.example/coinmachine/impl.worths", laid_loop_example_coinmachine_impl_worths)] }
def FnMachineOkSaid : Prop := fnMachineOkRow.holds Tryd.pinned (OpenSpec.ofChange fnMachineOkSpec)

/-- ITS FALSE NEIGHBOUR: 'it returns false'. Refute it at one input. -/
def fnMachineOkWrong : ChangeSpec := { name := "fnMachineOk", vars := ["loop.example/coinmachine/impl.worths"], fn := fun _ => fun
  | [d, g1] => { results := [.lit (.bool false)], args := [d], vars := [g1] }
  | _ => none }
def FnMachineOkWrongFalsely : Prop := fnMachineOkRow.holds Tryd.pinned (OpenSpec.ofChange fnMachineOkWrong)

/-- 'laws.FnRunOf': WHATEVER THE INPUT: true; the input reads as it did. -/
def fnRunOfSpec : ChangeSpec := { name := "fnRunOf", vars := ["loop.example/coinmachine/impl.worths"], fn := fun _ => fun
  | [d, g1] => { results := [.lit (.bool true)], args := [d], vars := [g1] }
  | _ => none }
def fnRunOfRow : OpenClaim := { program := "ytdlfdpdocpcnkaadoor", sum := "2ab339796bb2a0df929da4494c083f41ec8bace541b11b92dc369cb9bc1a9c5c", func := "loop.example/coinmachine/laws.FnRunOf", spec := "fnRunOf", unfollowed := true, recurses := true, named := ["loop.example/coinmachine/impl.worths"], plainKeys := false, apart := false, laid := [("loop.example/coinmachine/impl.worths", laid_loop_example_coinmachine_impl_worths)] }
def FnRunOfSaid : Prop := fnRunOfRow.holds Tryd.pinned (OpenSpec.ofChange fnRunOfSpec)

/-- ITS FALSE NEIGHBOUR: 'it returns false'. Refute it at one input. -/
def fnRunOfWrong : ChangeSpec := { name := "fnRunOf", vars := ["loop.example/coinmachine/impl.worths"], fn := fun _ => fun
  | [d, g1] => { results := [.lit (.bool false)], args := [d], vars := [g1] }
  | _ => none }
def FnRunOfWrongFalsely : Prop := fnRunOfRow.holds Tryd.pinned (OpenSpec.ofChange fnRunOfWrong)

/-- 'laws.FnCoinsPut': WHATEVER THE INPUT: true; the input reads as it did. -/
def fnCoinsPutSpec : ChangeSpec := { name := "fnCoinsPut", vars := ["loop.example/coinmachine/impl.worths"], fn := fun _ => fun
  | [d1, d2, g1] => { results := [.lit (.bool true)], args := [d1, d2], vars := [g1] }
  | _ => none }
def fnCoinsPutRow : OpenClaim := { program := "ytdlfdpdocpcnkaadoor", sum := "2ab339796bb2a0df929da4494c083f41ec8bace541b11b92dc369cb9bc1a9c5c", func := "loop.example/coinmachine/laws.FnCoinsPut", spec := "fnCoinsPut", unfollowed := true, recurses := true, named := ["loop.example/coinmachine/impl.worths"], plainKeys := false, apart := false, laid := [("loop.example/coinmachine/impl.worths", laid_loop_example_coinmachine_impl_worths)] }
def FnCoinsPutSaid : Prop := fnCoinsPutRow.holds Tryd.pinned (OpenSpec.ofChange fnCoinsPutSpec)

/-- ITS FALSE NEIGHBOUR: 'it returns false'. Refute it at one input. -/
def fnCoinsPutWrong : ChangeSpec := { name := "fnCoinsPut", vars := ["loop.example/coinmachine/impl.worths"], fn := fun _ => fun
  | [d1, d2, g1] => { results := [.lit (.bool false)], args := [d1, d2], vars := [g1] }
  | _ => none }
def FnCoinsPutWrongFalsely : Prop := fnCoinsPutRow.holds Tryd.pinned (OpenSpec.ofChange fnCoinsPutWrong)

/- THE SECOND FORM. 'bulk': how many values and letters a reading holds, each counted each time it is reached (what is shared counts as often as it is met; a slice's spare places count too). A statement '..UptoSaid' is the law's where the arguments, and the package variables that the reading takes, are together of bulk at most 1048576: NARROWER than '..Said'. Prove '..Said' where nothing that the law and all that it calls make is longer than what came in: it says more and counts as full. Else prove '..UptoSaid'. A law counts once. -/
mutual
def uptoBulk {H : Type} : DataW H → Nat
  | .lit (.string bytes) => bytes.length + 1
  | .lit _ => 1
  | .nil => 1
  | .ptr d => uptoBulk d + 1
  | .slice elems spare => uptoBulkAll elems + uptoBulkAll spare + 1
  | .agg parts => uptoBulkAll parts + 1
  | .iface _ d => uptoBulk d + 1
  | .map entries => uptoBulkEntries entries + 1
  | .held _ => 1
def uptoBulkAll {H : Type} : List (DataW H) → Nat
  | [] => 0
  | d :: r => uptoBulk d + uptoBulkAll r
def uptoBulkEntries {H : Type} : List (Lit × DataW H) → Nat
  | [] => 0
  | x :: r => uptoBulkEntry x + uptoBulkEntries r
def uptoBulkEntry {H : Type} : Lit × DataW H → Nat
  | (.string bytes, d) => bytes.length + uptoBulk d + 1
  | (_, d) => uptoBulk d + 1
 end
def uptoSmall : (H : Type) → List (DataW H) → Bool := fun _ ds => decide (uptoBulkAll ds ≤ 1048576)
def OpenSpec.upto (s : _root_.Go.ChangeSpec) : _root_.Go.OpenSpec := { _root_.Go.OpenSpec.ofChange s with cond := some uptoSmall }

/-- 'laws.FnExactActed', WHERE WHAT IT READS IS OF BULK AT MOST 1048576: true; the input reads as it did. -/
def fnExactActedUptoRow : OpenClaim := { program := "ytdlfdpdocpcnkaadoor", sum := "2ab339796bb2a0df929da4494c083f41ec8bace541b11b92dc369cb9bc1a9c5c", func := "loop.example/coinmachine/laws.FnExactActed", spec := "fnExactActed", unfollowed := true, recurses := true, named := ["loop.example/coinmachine/impl.worths"], plainKeys := false, apart := false, laid := [("loop.example/coinmachine/impl.worths", laid_loop_example_coinmachine_impl_worths)], narrowed := true }
def FnExactActedUptoSaid : Prop := fnExactActedUptoRow.holds Tryd.pinned (OpenSpec.upto fnExactActedSpec)

/-- 'laws.FnExactRunOf', WHERE WHAT IT READS IS OF BULK AT MOST 1048576: true; the input reads as it did. -/
def fnExactRunOfUptoRow : OpenClaim := { program := "ytdlfdpdocpcnkaadoor", sum := "2ab339796bb2a0df929da4494c083f41ec8bace541b11b92dc369cb9bc1a9c5c", func := "loop.example/coinmachine/laws.FnExactRunOf", spec := "fnExactRunOf", unfollowed := true, recurses := true, named := ["loop.example/coinmachine/impl.worths"], plainKeys := false, apart := false, laid := [("loop.example/coinmachine/impl.worths", laid_loop_example_coinmachine_impl_worths)], narrowed := true }
def FnExactRunOfUptoSaid : Prop := fnExactRunOfUptoRow.holds Tryd.pinned (OpenSpec.upto fnExactRunOfSpec)

/-- 'laws.FnActed', WHERE WHAT IT READS IS OF BULK AT MOST 1048576: true; the input reads as it did. -/
def fnActedUptoRow : OpenClaim := { program := "ytdlfdpdocpcnkaadoor", sum := "2ab339796bb2a0df929da4494c083f41ec8bace541b11b92dc369cb9bc1a9c5c", func := "loop.example/coinmachine/laws.FnActed", spec := "fnActed", unfollowed := true, recurses := true, named := ["loop.example/coinmachine/impl.worths"], plainKeys := false, apart := false, laid := [("loop.example/coinmachine/impl.worths", laid_loop_example_coinmachine_impl_worths)], narrowed := true }
def FnActedUptoSaid : Prop := fnActedUptoRow.holds Tryd.pinned (OpenSpec.upto fnActedSpec)

/-- 'laws.FnMoneyIn', WHERE WHAT IT READS IS OF BULK AT MOST 1048576: true; the input reads as it did. -/
def fnMoneyInUptoRow : OpenClaim := { program := "ytdlfdpdocpcnkaadoor", sum := "2ab339796bb2a0df929da4494c083f41ec8bace541b11b92dc369cb9bc1a9c5c", func := "loop.example/coinmachine/laws.FnMoneyIn", spec := "fnMoneyIn", unfollowed := true, recurses := true, named := ["loop.example/coinmachine/impl.worths"], plainKeys := false, apart := false, laid := [("loop.example/coinmachine/impl.worths", laid_loop_example_coinmachine_impl_worths)], narrowed := true }
def FnMoneyInUptoSaid : Prop := fnMoneyInUptoRow.holds Tryd.pinned (OpenSpec.upto fnMoneyInSpec)

/-- 'laws.FnCanPick', WHERE WHAT IT READS IS OF BULK AT MOST 1048576: true; the input reads as it did. -/
def fnCanPickUptoRow : OpenClaim := { program := "ytdlfdpdocpcnkaadoor", sum := "2ab339796bb2a0df929da4494c083f41ec8bace541b11b92dc369cb9bc1a9c5c", func := "loop.example/coinmachine/laws.FnCanPick", spec := "fnCanPick", unfollowed := true, recurses := true, named := ["loop.example/coinmachine/impl.worths"], plainKeys := false, apart := false, laid := [("loop.example/coinmachine/impl.worths", laid_loop_example_coinmachine_impl_worths)], narrowed := true }
def FnCanPickUptoSaid : Prop := fnCanPickUptoRow.holds Tryd.pinned (OpenSpec.upto fnCanPickSpec)

/-- 'laws.FnRefilled', WHERE WHAT IT READS IS OF BULK AT MOST 1048576: true; the input reads as it did. -/
def fnRefilledUptoRow : OpenClaim := { program := "ytdlfdpdocpcnkaadoor", sum := "2ab339796bb2a0df929da4494c083f41ec8bace541b11b92dc369cb9bc1a9c5c", func := "loop.example/coinmachine/laws.FnRefilled", spec := "fnRefilled", named := ["loop.example/coinmachine/impl.worths"], plainKeys := false, apart := false, laid := [("loop.example/coinmachine/impl.worths", laid_loop_example_coinmachine_impl_worths)], narrowed := true }
def FnRefilledUptoSaid : Prop := fnRefilledUptoRow.holds Tryd.pinned (OpenSpec.upto fnRefilledSpec)

/-- 'laws.FnMachineOk', WHERE WHAT IT READS IS OF BULK AT MOST 1048576: true; the input reads as it did. -/
def fnMachineOkUptoRow : OpenClaim := { program := "ytdlfdpdocpcnkaadoor", sum := "2ab339796bb2a0df929da4494c083f41ec8bace541b11b92dc369cb9bc1a9c5c", func := "loop.example/coinmachine/laws.FnMachineOk", spec := "fnMachineOk", named := ["loop.example/coinmachine/impl.worths"], plainKeys := false, apart := false, laid := [("loop.example/coinmachine/impl.worths", laid_loop_example_coinmachine_impl_worths)], narrowed := true }
def FnMachineOkUptoSaid : Prop := fnMachineOkUptoRow.holds Tryd.pinned (OpenSpec.upto fnMachineOkSpec)

/-- 'laws.FnRunOf', WHERE WHAT IT READS IS OF BULK AT MOST 1048576: true; the input reads as it did. -/
def fnRunOfUptoRow : OpenClaim := { program := "ytdlfdpdocpcnkaadoor", sum := "2ab339796bb2a0df929da4494c083f41ec8bace541b11b92dc369cb9bc1a9c5c", func := "loop.example/coinmachine/laws.FnRunOf", spec := "fnRunOf", unfollowed := true, recurses := true, named := ["loop.example/coinmachine/impl.worths"], plainKeys := false, apart := false, laid := [("loop.example/coinmachine/impl.worths", laid_loop_example_coinmachine_impl_worths)], narrowed := true }
def FnRunOfUptoSaid : Prop := fnRunOfUptoRow.holds Tryd.pinned (OpenSpec.upto fnRunOfSpec)

/-- 'laws.FnCoinsPut', WHERE WHAT IT READS IS OF BULK AT MOST 1048576: true; the input reads as it did. -/
def fnCoinsPutUptoRow : OpenClaim := { program := "ytdlfdpdocpcnkaadoor", sum := "2ab339796bb2a0df929da4494c083f41ec8bace541b11b92dc369cb9bc1a9c5c", func := "loop.example/coinmachine/laws.FnCoinsPut", spec := "fnCoinsPut", unfollowed := true, recurses := true, named := ["loop.example/coinmachine/impl.worths"], plainKeys := false, apart := false, laid := [("loop.example/coinmachine/impl.worths", laid_loop_example_coinmachine_impl_worths)], narrowed := true }
def FnCoinsPutUptoSaid : Prop := fnCoinsPutUptoRow.holds Tryd.pinned (OpenSpec.upto fnCoinsPutSpec)

end Rows
end Go.Proofs.YtdlfdpdocpcnkaaDoor

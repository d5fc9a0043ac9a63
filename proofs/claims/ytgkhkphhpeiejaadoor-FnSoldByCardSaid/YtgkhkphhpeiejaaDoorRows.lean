/-
  NARROWER THAN 'FOR EVERY INPUT', by the rows' own cells (each row's printed sentence says how): FnExactDeskOk: laid · FnExactDeskNew: laid · FnExactNowOf: laid · FnExactDeskDo: laid · FnDeskOk: laid · FnDeskNew: laid · FnNowOf: laid · FnDeskDo: laid · FnRunOf: laid · FnSoldBy: laid · FnCoinsPut: laid.
  DERIVED. THE GIVEN ROWS OF THIS SEAT. 11 by the template 'for every input the law returns true; each argument reads behind the call as it read before'; 0 by the template 'total and deterministic' (their statements: YtgkhkphhpeiejaaDoorTotals.lean).
  GIVEN WITH THE SEED: the statements are not yours to turn. If you find one false, say at which input.
  Laid BY PROGRAM, IN A SANDBOX (cutbox-rows.mjs): the forced cells as the released guide's own fill.sh prints them over the translation 5a5bea357a407149… (all of the seat's roots in one cut). By AI agents, Wed Nov 11 2026. No macro, syntax, notation, axiom, sorry.
-/
import Derived.Test.YtgkhkphhpeiejaaDoorChecked
import GoSem.Claim
import GoSem.ClaimJoined
import GoSem.ClaimMapViews
import Derived.JoinedTies
import Derived.KernelRfl
namespace Go.Proofs.YtgkhkphhpeiejaaDoor
/- THE CELL 'sum', in the pinned program and in every row, IS THE sha256 OF THE DUMP (.gsa) THAT YtgkhkphhpeiejaaDoorProg.lean LOADS. Nothing in Lean hashes anything: it is a label: what it is worth is what the hold of that sum in a sandbox is worth. -/
noncomputable def Tryd.pinned : Pinned := { name := "ytgkhkphhpeiejaadoor", sum := "5a5bea357a407149d19d2e1a4678fd965755201414f818ec9b21b2372dda4a2a", checked := Tryd.checked }
namespace Rows
def none {H : Type} : Left H := { results := [], args := [] }

/- WHAT THE LISTED PACKAGE-LEVEL VARIABLES READ AS WHEN THE CALL BEGINS. Each datum BY PROGRAM (the guide's laid-datum.mjs) off the statement by which the dump's own 'gosem.cut.vars' lays the variable. In a bare row this is a premise. The card (YtgkhkphhpeiejaaDoorCards.lean) ties it to the program's text. -/
def laid_loop_example_coinmachine_impl_worths {H : Type} : DataW H := .agg [.lit (.int .i64 1), .lit (.int .i64 2), .lit (.int .i64 5), .lit (.int .i64 10)]
def laid_loop_example_coinmachine_impl_greatest {H : Type} : DataW H := .agg [.lit (.int .i64 2), .lit (.int .i64 9), .lit (.int .i64 1), .lit (.int .i64 3), .lit (.int .i64 900), .lit (.int .i64 996)]

/-- 'laws.FnExactDeskOk': WHATEVER THE INPUT: true; the input reads as it did. -/
def fnExactDeskOkSpec : ChangeSpec := { name := "fnExactDeskOk", vars := ["loop.example/coinmachine/impl.worths"], fn := fun _ => fun
  | [d, g1] => { results := [.lit (.bool true)], args := [d], vars := [g1] }
  | _ => none }
def fnExactDeskOkRow : OpenClaim := { program := "ytgkhkphhpeiejaadoor", sum := "5a5bea357a407149d19d2e1a4678fd965755201414f818ec9b21b2372dda4a2a", func := "loop.example/coinmachine/laws.FnExactDeskOk", spec := "fnExactDeskOk", unfollowed := true, recurses := true, named := ["loop.example/coinmachine/impl.worths"], plainKeys := false, apart := false, laid := [("loop.example/coinmachine/impl.worths", laid_loop_example_coinmachine_impl_worths)] }
def FnExactDeskOkSaid : Prop := fnExactDeskOkRow.holds Tryd.pinned (OpenSpec.ofChange fnExactDeskOkSpec)

/-- ITS FALSE NEIGHBOUR: 'it returns false'. Refute it at one input. -/
def fnExactDeskOkWrong : ChangeSpec := { name := "fnExactDeskOk", vars := ["loop.example/coinmachine/impl.worths"], fn := fun _ => fun
  | [d, g1] => { results := [.lit (.bool false)], args := [d], vars := [g1] }
  | _ => none }
def FnExactDeskOkWrongFalsely : Prop := fnExactDeskOkRow.holds Tryd.pinned (OpenSpec.ofChange fnExactDeskOkWrong)

/-- 'laws.FnExactDeskNew': WHATEVER THE INPUT: true; the input reads as it did. -/
def fnExactDeskNewSpec : ChangeSpec := { name := "fnExactDeskNew", vars := ["loop.example/coinmachine/impl.worths"], fn := fun _ => fun
  | [d, g1] => { results := [.lit (.bool true)], args := [d], vars := [g1] }
  | _ => none }
def fnExactDeskNewRow : OpenClaim := { program := "ytgkhkphhpeiejaadoor", sum := "5a5bea357a407149d19d2e1a4678fd965755201414f818ec9b21b2372dda4a2a", func := "loop.example/coinmachine/laws.FnExactDeskNew", spec := "fnExactDeskNew", unfollowed := true, recurses := true, named := ["loop.example/coinmachine/impl.worths"], plainKeys := false, apart := false, laid := [("loop.example/coinmachine/impl.worths", laid_loop_example_coinmachine_impl_worths)] }
def FnExactDeskNewSaid : Prop := fnExactDeskNewRow.holds Tryd.pinned (OpenSpec.ofChange fnExactDeskNewSpec)

/-- ITS FALSE NEIGHBOUR: 'it returns false'. Refute it at one input. -/
def fnExactDeskNewWrong : ChangeSpec := { name := "fnExactDeskNew", vars := ["loop.example/coinmachine/impl.worths"], fn := fun _ => fun
  | [d, g1] => { results := [.lit (.bool false)], args := [d], vars := [g1] }
  | _ => none }
def FnExactDeskNewWrongFalsely : Prop := fnExactDeskNewRow.holds Tryd.pinned (OpenSpec.ofChange fnExactDeskNewWrong)

/-- 'laws.FnExactNowOf': WHATEVER THE INPUT: true; the input reads as it did. -/
def fnExactNowOfSpec : ChangeSpec := { name := "fnExactNowOf", vars := ["loop.example/coinmachine/impl.worths"], fn := fun _ => fun
  | [d, g1] => { results := [.lit (.bool true)], args := [d], vars := [g1] }
  | _ => none }
def fnExactNowOfRow : OpenClaim := { program := "ytgkhkphhpeiejaadoor", sum := "5a5bea357a407149d19d2e1a4678fd965755201414f818ec9b21b2372dda4a2a", func := "loop.example/coinmachine/laws.FnExactNowOf", spec := "fnExactNowOf", unfollowed := true, recurses := true, named := ["loop.example/coinmachine/impl.worths"], plainKeys := false, apart := false, laid := [("loop.example/coinmachine/impl.worths", laid_loop_example_coinmachine_impl_worths)] }
def FnExactNowOfSaid : Prop := fnExactNowOfRow.holds Tryd.pinned (OpenSpec.ofChange fnExactNowOfSpec)

/-- ITS FALSE NEIGHBOUR: 'it returns false'. Refute it at one input. -/
def fnExactNowOfWrong : ChangeSpec := { name := "fnExactNowOf", vars := ["loop.example/coinmachine/impl.worths"], fn := fun _ => fun
  | [d, g1] => { results := [.lit (.bool false)], args := [d], vars := [g1] }
  | _ => none }
def FnExactNowOfWrongFalsely : Prop := fnExactNowOfRow.holds Tryd.pinned (OpenSpec.ofChange fnExactNowOfWrong)

/-- 'laws.FnExactDeskDo': WHATEVER THE INPUT: true; the input reads as it did. -/
def fnExactDeskDoSpec : ChangeSpec := { name := "fnExactDeskDo", vars := ["loop.example/coinmachine/impl.worths"], fn := fun _ => fun
  | [d1, d2, g1] => { results := [.lit (.bool true)], args := [d1, d2], vars := [g1] }
  | _ => none }
def fnExactDeskDoRow : OpenClaim := { program := "ytgkhkphhpeiejaadoor", sum := "5a5bea357a407149d19d2e1a4678fd965755201414f818ec9b21b2372dda4a2a", func := "loop.example/coinmachine/laws.FnExactDeskDo", spec := "fnExactDeskDo", unfollowed := true, recurses := true, named := ["loop.example/coinmachine/impl.worths"], plainKeys := false, apart := false, laid := [("loop.example/coinmachine/impl.worths", laid_loop_example_coinmachine_impl_worths)] }
def FnExactDeskDoSaid : Prop := fnExactDeskDoRow.holds Tryd.pinned (OpenSpec.ofChange fnExactDeskDoSpec)

/-- ITS FALSE NEIGHBOUR: 'it returns false'. Refute it at one input. -/
def fnExactDeskDoWrong : ChangeSpec := { name := "fnExactDeskDo", vars := ["loop.example/coinmachine/impl.worths"], fn := fun _ => fun
  | [d1, d2, g1] => { results := [.lit (.bool false)], args := [d1, d2], vars := [g1] }
  | _ => none }
def FnExactDeskDoWrongFalsely : Prop := fnExactDeskDoRow.holds Tryd.pinned (OpenSpec.ofChange fnExactDeskDoWrong)

/-- 'laws.FnDeskOk': WHATEVER THE INPUT: true; the input reads as it did. -/
def fnDeskOkSpec : ChangeSpec := { name := "fnDeskOk", vars := ["loop.example/coinmachine/impl.worths"], fn := fun _ => fun
  | [d, g1] => { results := [.lit (.bool true)], args := [d], vars := [g1] }
  | _ => none }
def fnDeskOkRow : OpenClaim := { program := "ytgkhkphhpeiejaadoor", sum := "5a5bea357a407149d19d2e1a4678fd965755201414f818ec9b21b2372dda4a2a", func := "loop.example/coinmachine/laws.FnDeskOk", spec := "fnDeskOk", unfollowed := true, recurses := true, named := ["loop.example/coinmachine/impl.worths"], plainKeys := false, apart := false, laid := [("loop.example/coinmachine/impl.worths", laid_loop_example_coinmachine_impl_worths)] }
def FnDeskOkSaid : Prop := fnDeskOkRow.holds Tryd.pinned (OpenSpec.ofChange fnDeskOkSpec)

/-- ITS FALSE NEIGHBOUR: 'it returns false'. Refute it at one input. -/
def fnDeskOkWrong : ChangeSpec := { name := "fnDeskOk", vars := ["loop.example/coinmachine/impl.worths"], fn := fun _ => fun
  | [d, g1] => { results := [.lit (.bool false)], args := [d], vars := [g1] }
  | _ => none }
def FnDeskOkWrongFalsely : Prop := fnDeskOkRow.holds Tryd.pinned (OpenSpec.ofChange fnDeskOkWrong)

/-- 'laws.FnDeskNew': WHATEVER THE INPUT: true; the input reads as it did. -/
def fnDeskNewSpec : ChangeSpec := { name := "fnDeskNew", vars := ["loop.example/coinmachine/impl.worths"], fn := fun _ => fun
  | [d, g1] => { results := [.lit (.bool true)], args := [d], vars := [g1] }
  | _ => none }
def fnDeskNewRow : OpenClaim := { program := "ytgkhkphhpeiejaadoor", sum := "5a5bea357a407149d19d2e1a4678fd965755201414f818ec9b21b2372dda4a2a", func := "loop.example/coinmachine/laws.FnDeskNew", spec := "fnDeskNew", unfollowed := true, recurses := true, named := ["loop.example/coinmachine/impl.worths"], plainKeys := false, apart := false, laid := [("loop.example/coinmachine/impl.worths", laid_loop_example_coinmachine_impl_worths)] }
def FnDeskNewSaid : Prop := fnDeskNewRow.holds Tryd.pinned (OpenSpec.ofChange fnDeskNewSpec)

/-- ITS FALSE NEIGHBOUR: 'it returns false'. Refute it at one input. -/
def fnDeskNewWrong : ChangeSpec := { name := "fnDeskNew", vars := ["loop.example/coinmachine/impl.worths"], fn := fun _ => fun
  | [d, g1] => { results := [.lit (.bool false)], args := [d], vars := [g1] }
  | _ => none }
def FnDeskNewWrongFalsely : Prop := fnDeskNewRow.holds Tryd.pinned (OpenSpec.ofChange fnDeskNewWrong)

/-- 'laws.FnNowOf': WHATEVER THE INPUT: true; the input reads as it did. -/
def fnNowOfSpec : ChangeSpec := { name := "fnNowOf", vars := ["loop.example/coinmachine/impl.worths", "loop.example/coinmachine/impl.greatest"], fn := fun _ => fun
  | [d, g1, g2] => { results := [.lit (.bool true)], args := [d], vars := [g1, g2] }
  | _ => none }
def fnNowOfRow : OpenClaim := { program := "ytgkhkphhpeiejaadoor", sum := "5a5bea357a407149d19d2e1a4678fd965755201414f818ec9b21b2372dda4a2a", func := "loop.example/coinmachine/laws.FnNowOf", spec := "fnNowOf", unfollowed := true, recurses := true, named := ["loop.example/coinmachine/impl.worths", "loop.example/coinmachine/impl.greatest"], plainKeys := false, apart := false, laid := [("loop.example/coinmachine/impl.worths", laid_loop_example_coinmachine_impl_worths), ("loop.example/coinmachine/impl.greatest", laid_loop_example_coinmachine_impl_greatest)] }
def FnNowOfSaid : Prop := fnNowOfRow.holds Tryd.pinned (OpenSpec.ofChange fnNowOfSpec)

/-- ITS FALSE NEIGHBOUR: 'it returns false'. Refute it at one input. -/
def fnNowOfWrong : ChangeSpec := { name := "fnNowOf", vars := ["loop.example/coinmachine/impl.worths", "loop.example/coinmachine/impl.greatest"], fn := fun _ => fun
  | [d, g1, g2] => { results := [.lit (.bool false)], args := [d], vars := [g1, g2] }
  | _ => none }
def FnNowOfWrongFalsely : Prop := fnNowOfRow.holds Tryd.pinned (OpenSpec.ofChange fnNowOfWrong)

/-- 'laws.FnDeskDo': WHATEVER THE INPUT: true; the input reads as it did. -/
def fnDeskDoSpec : ChangeSpec := { name := "fnDeskDo", vars := ["loop.example/coinmachine/impl.worths"], fn := fun _ => fun
  | [d, g1] => { results := [.lit (.bool true)], args := [d], vars := [g1] }
  | _ => none }
def fnDeskDoRow : OpenClaim := { program := "ytgkhkphhpeiejaadoor", sum := "5a5bea357a407149d19d2e1a4678fd965755201414f818ec9b21b2372dda4a2a", func := "loop.example/coinmachine/laws.FnDeskDo", spec := "fnDeskDo", unfollowed := true, recurses := true, named := ["loop.example/coinmachine/impl.worths"], plainKeys := false, apart := false, laid := [("loop.example/coinmachine/impl.worths", laid_loop_example_coinmachine_impl_worths)] }
def FnDeskDoSaid : Prop := fnDeskDoRow.holds Tryd.pinned (OpenSpec.ofChange fnDeskDoSpec)

/-- ITS FALSE NEIGHBOUR: 'it returns false'. Refute it at one input. -/
def fnDeskDoWrong : ChangeSpec := { name := "fnDeskDo", vars := ["loop.example/coinmachine/impl.worths"], fn := fun _ => fun
  | [d, g1] => { results := [.lit (.bool false)], args := [d], vars := [g1] }
  | _ => none }
def FnDeskDoWrongFalsely : Prop := fnDeskDoRow.holds Tryd.pinned (OpenSpec.ofChange fnDeskDoWrong)

/-- 'laws.FnRunOf': WHATEVER THE INPUT: true; the input reads as it did. -/
def fnRunOfSpec : ChangeSpec := { name := "fnRunOf", vars := ["loop.example/coinmachine/impl.worths"], fn := fun _ => fun
  | [d, g1] => { results := [.lit (.bool true)], args := [d], vars := [g1] }
  | _ => none }
def fnRunOfRow : OpenClaim := { program := "ytgkhkphhpeiejaadoor", sum := "5a5bea357a407149d19d2e1a4678fd965755201414f818ec9b21b2372dda4a2a", func := "loop.example/coinmachine/laws.FnRunOf", spec := "fnRunOf", unfollowed := true, recurses := true, named := ["loop.example/coinmachine/impl.worths"], plainKeys := false, apart := false, laid := [("loop.example/coinmachine/impl.worths", laid_loop_example_coinmachine_impl_worths)] }
def FnRunOfSaid : Prop := fnRunOfRow.holds Tryd.pinned (OpenSpec.ofChange fnRunOfSpec)

/-- ITS FALSE NEIGHBOUR: 'it returns false'. Refute it at one input. -/
def fnRunOfWrong : ChangeSpec := { name := "fnRunOf", vars := ["loop.example/coinmachine/impl.worths"], fn := fun _ => fun
  | [d, g1] => { results := [.lit (.bool false)], args := [d], vars := [g1] }
  | _ => none }
def FnRunOfWrongFalsely : Prop := fnRunOfRow.holds Tryd.pinned (OpenSpec.ofChange fnRunOfWrong)

/-- 'laws.FnSoldBy': WHATEVER THE INPUT: true; the input reads as it did. -/
def fnSoldBySpec : ChangeSpec := { name := "fnSoldBy", vars := ["loop.example/coinmachine/impl.worths"], fn := fun _ => fun
  | [d1, d2, g1] => { results := [.lit (.bool true)], args := [d1, d2], vars := [g1] }
  | _ => none }
def fnSoldByRow : OpenClaim := { program := "ytgkhkphhpeiejaadoor", sum := "5a5bea357a407149d19d2e1a4678fd965755201414f818ec9b21b2372dda4a2a", func := "loop.example/coinmachine/laws.FnSoldBy", spec := "fnSoldBy", unfollowed := true, recurses := true, named := ["loop.example/coinmachine/impl.worths"], plainKeys := false, apart := false, laid := [("loop.example/coinmachine/impl.worths", laid_loop_example_coinmachine_impl_worths)] }
def FnSoldBySaid : Prop := fnSoldByRow.holds Tryd.pinned (OpenSpec.ofChange fnSoldBySpec)

/-- ITS FALSE NEIGHBOUR: 'it returns false'. Refute it at one input. -/
def fnSoldByWrong : ChangeSpec := { name := "fnSoldBy", vars := ["loop.example/coinmachine/impl.worths"], fn := fun _ => fun
  | [d1, d2, g1] => { results := [.lit (.bool false)], args := [d1, d2], vars := [g1] }
  | _ => none }
def FnSoldByWrongFalsely : Prop := fnSoldByRow.holds Tryd.pinned (OpenSpec.ofChange fnSoldByWrong)

/-- 'laws.FnCoinsPut': WHATEVER THE INPUT: true; the input reads as it did. -/
def fnCoinsPutSpec : ChangeSpec := { name := "fnCoinsPut", vars := ["loop.example/coinmachine/impl.worths"], fn := fun _ => fun
  | [d1, d2, g1] => { results := [.lit (.bool true)], args := [d1, d2], vars := [g1] }
  | _ => none }
def fnCoinsPutRow : OpenClaim := { program := "ytgkhkphhpeiejaadoor", sum := "5a5bea357a407149d19d2e1a4678fd965755201414f818ec9b21b2372dda4a2a", func := "loop.example/coinmachine/laws.FnCoinsPut", spec := "fnCoinsPut", unfollowed := true, recurses := true, named := ["loop.example/coinmachine/impl.worths"], plainKeys := false, apart := false, laid := [("loop.example/coinmachine/impl.worths", laid_loop_example_coinmachine_impl_worths)] }
def FnCoinsPutSaid : Prop := fnCoinsPutRow.holds Tryd.pinned (OpenSpec.ofChange fnCoinsPutSpec)

/-- ITS FALSE NEIGHBOUR: 'it returns false'. Refute it at one input. -/
def fnCoinsPutWrong : ChangeSpec := { name := "fnCoinsPut", vars := ["loop.example/coinmachine/impl.worths"], fn := fun _ => fun
  | [d1, d2, g1] => { results := [.lit (.bool false)], args := [d1, d2], vars := [g1] }
  | _ => none }
def FnCoinsPutWrongFalsely : Prop := fnCoinsPutRow.holds Tryd.pinned (OpenSpec.ofChange fnCoinsPutWrong)

/- THE SECOND FORM. 'bulk': how many values and letters a reading holds, each counted each time it is reached (what is shared counts as often as it is met; a slice's spare places count too). A statement '..UptoSaid' is the law's where the arguments, and the package variables that the reading takes, are together of bulk at most 1048576: NARROWER than '..Said'. Prove '..Said' where nothing that the law and all that it calls make is longer than what came in: it says more and counts as full. Else prove '..UptoSaid'. A law counts once. -/
mutual
def uptoBulk {H : Type} : DataW H → Nat
  | .lit (.string bytes) => bytes.length + 1
  | .lit _ => 1
  | .nil => 1
  | .ptr d => uptoBulk d + 1
  | .slice elems spare => uptoBulkAll elems + uptoBulkAll spare + 1
  | .agg parts => uptoBulkAll parts + 1
  | .iface _ d => uptoBulk d + 1
  | .map entries => uptoBulkEntries entries + 1
  | .held _ => 1
def uptoBulkAll {H : Type} : List (DataW H) → Nat
  | [] => 0
  | d :: r => uptoBulk d + uptoBulkAll r
def uptoBulkEntries {H : Type} : List (Lit × DataW H) → Nat
  | [] => 0
  | x :: r => uptoBulkEntry x + uptoBulkEntries r
def uptoBulkEntry {H : Type} : Lit × DataW H → Nat
  | (.string bytes, d) => bytes.length + uptoBulk d + 1
  | (_, d) => uptoBulk d + 1
 end
def uptoSmall : (H : Type) → List (DataW H) → Bool := fun _ ds => decide (uptoBulkAll ds ≤ 1048576)
def OpenSpec.upto (s : _root_.Go.ChangeSpec) : _root_.Go.OpenSpec := { _root_.Go.OpenSpec.ofChange s with cond := some uptoSmall }

/-- 'laws.FnExactDeskOk', WHERE WHAT IT READS IS OF BULK AT MOST 1048576: true; the input reads as it did. -/
def fnExactDeskOkUptoRow : OpenClaim := { program := "ytgkhkphhpeiejaadoor", sum := "5a5bea357a407149d19d2e1a4678fd965755201414f818ec9b21b2372dda4a2a", func := "loop.example/coinmachine/laws.FnExactDeskOk", spec := "fnExactDeskOk", unfollowed := true, recurses := true, named := ["loop.example/coinmachine/impl.worths"], plainKeys := false, apart := false, laid := [("loop.example/coinmachine/impl.worths", laid_loop_example_coinmachine_impl_worths)], narrowed := true }
def FnExactDeskOkUptoSaid : Prop := fnExactDeskOkUptoRow.holds Tryd.pinned (OpenSpec.upto fnExactDeskOkSpec)

/-- 'laws.FnExactDeskNew', WHERE WHAT IT READS IS OF BULK AT MOST 1048576: true; the input reads as it did. -/
def fnExactDeskNewUptoRow : OpenClaim := { program := "ytgkhkphhpeiejaadoor", sum := "5a5bea357a407149d19d2e1a4678fd965755201414f818ec9b21b2372dda4a2a", func := "loop.example/coinmachine/laws.FnExactDeskNew", spec := "fnExactDeskNew", unfollowed := true, recurses := true, named := ["loop.example/coinmachine/impl.worths"], plainKeys := false, apart := false, laid := [("loop.example/coinmachine/impl.worths", laid_loop_example_coinmachine_impl_worths)], narrowed := true }
def FnExactDeskNewUptoSaid : Prop := fnExactDeskNewUptoRow.holds Tryd.pinned (OpenSpec.upto fnExactDeskNewSpec)

/-- 'laws.FnExactNowOf', WHERE WHAT IT READS IS OF BULK AT MOST 1048576: true; the input reads as it did. -/
def fnExactNowOfUptoRow : OpenClaim := { program := "ytgkhkphhpeiejaadoor", sum := "5a5bea357a407149d19d2e1a4678fd965755201414f818ec9b21b2372dda4a2a", func := "loop.example/coinmachine/laws.FnExactNowOf", spec := "fnExactNowOf", unfollowed := true, recurses := true, named := ["loop.example/coinmachine/impl.worths"], plainKeys := false, apart := false, laid := [("loop.example/coinmachine/impl.worths", laid_loop_example_coinmachine_impl_worths)], narrowed := true }
def FnExactNowOfUptoSaid : Prop := fnExactNowOfUptoRow.holds Tryd.pinned (OpenSpec.upto fnExactNowOfSpec)

/-- 'laws.FnExactDeskDo', WHERE WHAT IT READS IS OF BULK AT MOST 1048576: true; the input reads as it did. -/
def fnExactDeskDoUptoRow : OpenClaim := { program := "ytgkhkphhpeiejaadoor", sum := "5a5bea357a407149d19d2e1a4678fd965755201414f818ec9b21b2372dda4a2a", func := "loop.example/coinmachine/laws.FnExactDeskDo", spec := "fnExactDeskDo", unfollowed := true, recurses := true, named := ["loop.example/coinmachine/impl.worths"], plainKeys := false, apart := false, laid := [("loop.example/coinmachine/impl.worths", laid_loop_example_coinmachine_impl_worths)], narrowed := true }
def FnExactDeskDoUptoSaid : Prop := fnExactDeskDoUptoRow.holds Tryd.pinned (OpenSpec.upto fnExactDeskDoSpec)

/-- 'laws.FnDeskOk', WHERE WHAT IT READS IS OF BULK AT MOST 1048576: true; the input reads as it did. -/
def fnDeskOkUptoRow : OpenClaim := { program := "ytgkhkphhpeiejaadoor", sum := "5a5bea357a407149d19d2e1a4678fd965755201414f818ec9b21b2372dda4a2a", func := "loop.example/coinmachine/laws.FnDeskOk", spec := "fnDeskOk", unfollowed := true, recurses := true, named := ["loop.example/coinmachine/impl.worths"], plainKeys := false, apart := false, laid := [("loop.example/coinmachine/impl.worths", laid_loop_example_coinmachine_impl_worths)], narrowed := true }
def FnDeskOkUptoSaid : Prop := fnDeskOkUptoRow.holds Tryd.pinned (OpenSpec.upto fnDeskOkSpec)

/-- 'laws.FnDeskNew', WHERE WHAT IT READS IS OF BULK AT MOST 1048576: true; the input reads as it did. -/
def fnDeskNewUptoRow : OpenClaim := { program := "ytgkhkphhpeiejaadoor", sum := "5a5bea357a407149d19d2e1a4678fd965755201414f818ec9b21b2372dda4a2a", func := "loop.example/coinmachine/laws.FnDeskNew", spec := "fnDeskNew", unfollowed := true, recurses := true, named := ["loop.example/coinmachine/impl.worths"], plainKeys := false, apart := false, laid := [("loop.example/coinmachine/impl.worths", laid_loop_example_coinmachine_impl_worths)], narrowed := true }
def FnDeskNewUptoSaid : Prop := fnDeskNewUptoRow.holds Tryd.pinned (OpenSpec.upto fnDeskNewSpec)

/-- 'laws.FnNowOf', WHERE WHAT IT READS IS OF BULK AT MOST 1048576: true; the input reads as it did. -/
def fnNowOfUptoRow : OpenClaim := { program := "ytgkhkphhpeiejaadoor", sum := "5a5bea357a407149d19d2e1a4678fd965755201414f818ec9b21b2372dda4a2a", func := "loop.example/coinmachine/laws.FnNowOf", spec := "fnNowOf", unfollowed := true, recurses := true, named := ["loop.example/coinmachine/impl.worths", "loop.example/coinmachine/impl.greatest"], plainKeys := false, apart := false, laid := [("loop.example/coinmachine/impl.worths", laid_loop_example_coinmachine_impl_worths), ("loop.example/coinmachine/impl.greatest", laid_loop_example_coinmachine_impl_greatest)], narrowed := true }
def FnNowOfUptoSaid : Prop := fnNowOfUptoRow.holds Tryd.pinned (OpenSpec.upto fnNowOfSpec)

/-- 'laws.FnDeskDo', WHERE WHAT IT READS IS OF BULK AT MOST 1048576: true; the input reads as it did. -/
def fnDeskDoUptoRow : OpenClaim := { program := "ytgkhkphhpeiejaadoor", sum := "5a5bea357a407149d19d2e1a4678fd965755201414f818ec9b21b2372dda4a2a", func := "loop.example/coinmachine/laws.FnDeskDo", spec := "fnDeskDo", unfollowed := true, recurses := true, named := ["loop.example/coinmachine/impl.worths"], plainKeys := false, apart := false, laid := [("loop.example/coinmachine/impl.worths", laid_loop_example_coinmachine_impl_worths)], narrowed := true }
def FnDeskDoUptoSaid : Prop := fnDeskDoUptoRow.holds Tryd.pinned (OpenSpec.upto fnDeskDoSpec)

/-- 'laws.FnRunOf', WHERE WHAT IT READS IS OF BULK AT MOST 1048576: true; the input reads as it did. -/
def fnRunOfUptoRow : OpenClaim := { program := "ytgkhkphhpeiejaadoor", sum := "5a5bea357a407149d19d2e1a4678fd965755201414f818ec9b21b2372dda4a2a", func := "loop.example/coinmachine/laws.FnRunOf", spec := "fnRunOf", unfollowed := true, recurses := true, named := ["loop.example/coinmachine/impl.worths"], plainKeys := false, apart := false, laid := [("loop.example/coinmachine/impl.worths", laid_loop_example_coinmachine_impl_worths)], narrowed := true }
def FnRunOfUptoSaid : Prop := fnRunOfUptoRow.holds Tryd.pinned (OpenSpec.upto fnRunOfSpec)

/-- 'laws.FnSoldBy', WHERE WHAT IT READS IS OF BULK AT MOST 1048576: true; the input reads as it did. -/
def fnSoldByUptoRow : OpenClaim := { program := "ytgkhkphhpeiejaadoor", sum := "5a5bea357a407149d19d2e1a4678fd965755201414f818ec9b21b2372dda4a2a", func := "loop.example/coinmachine/laws.FnSoldBy", spec := "fnSoldBy", unfollowed := true, recurses := true, named := ["loop.example/coinmachine/impl.worths"], plainKeys := false, apart := false, laid := [("loop.example/coinmachine/impl.worths", laid_loop_example_coinmachine_impl_worths)], narrowed := true }
def FnSoldByUptoSaid : Prop := fnSoldByUptoRow.holds Tryd.pinned (OpenSpec.upto fnSoldBySpec)

/-- 'laws.FnCoinsPut', WHERE WHAT IT READS IS OF BULK AT MOST 1048576: true; the input reads as it did. -/
def fnCoinsPutUptoRow : OpenClaim := { program := "ytgkhkphhpeiejaadoor", sum := "5a5bea357a407149d19d2e1a4678fd965755201414f818ec9b21b2372dda4a2a", func := "loop.example/coinmachine/laws.FnCoinsPut", spec := "fnCoinsPut", unfollowed := true, recurses := true, named := ["loop.example/coinmachine/impl.worths"], plainKeys := false, apart := false, laid := [("loop.example/coinmachine/impl.worths", laid_loop_example_coinmachine_impl_worths)], narrowed := true }
def FnCoinsPutUptoSaid : Prop := fnCoinsPutUptoRow.holds Tryd.pinned (OpenSpec.upto fnCoinsPutSpec)

end Rows
end Go.Proofs.YtgkhkphhpeiejaaDoor

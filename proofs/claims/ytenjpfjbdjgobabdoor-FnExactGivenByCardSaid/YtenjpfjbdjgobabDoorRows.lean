/-
  NARROWER THAN 'FOR EVERY INPUT', by the rows' own cells (each row's printed sentence says how): FnExactPutInBy: laid · FnExactGivenBy: laid.
  DERIVED. THE GIVEN ROWS OF THIS SEAT. 2 by the template 'for every input the law returns true; each argument reads behind the call as it read before'; 0 by the template 'total and deterministic' (their statements: YtenjpfjbdjgobabDoorTotals.lean).
  GIVEN WITH THE SEED: the statements are not yours to turn. If you find one false, say at which input.
  Laid BY PROGRAM, IN A SANDBOX (cutbox-rows.mjs): the forced cells as the released guide's own fill.sh prints them over the translation 1a22a703158dfa32… (all of the seat's roots in one cut). By AI agents, Wed Nov 11 2026. No macro, syntax, notation, axiom, sorry.
-/
import Derived.Test.YtenjpfjbdjgobabDoorChecked
import GoSem.Claim
import GoSem.ClaimJoined
import GoSem.ClaimMapViews
import Derived.JoinedTies
import Derived.KernelRfl
namespace Go.Proofs.YtenjpfjbdjgobabDoor
/- THE CELL 'sum', in the pinned program and in every row, IS THE sha256 OF THE DUMP (.gsa) THAT YtenjpfjbdjgobabDoorProg.lean LOADS. Nothing in Lean hashes anything: it is a label: what it is worth is what the hold of that sum in a sandbox is worth. -/
noncomputable def Tryd.pinned : Pinned := { name := "ytenjpfjbdjgobabdoor", sum := "1a22a703158dfa32ed6c377d7b51372e69aaa7a8522e76cec25a24149b5cebc4", checked := Tryd.checked }
namespace Rows
def none {H : Type} : Left H := { results := [], args := [] }

/- WHAT THE LISTED PACKAGE-LEVEL VARIABLES READ AS WHEN THE CALL BEGINS. Each datum BY PROGRAM (the guide's laid-datum.mjs) off the statement by which the dump's own 'gosem.cut.vars' lays the variable. In a bare row this is a premise. The card (YtenjpfjbdjgobabDoorCards.lean) ties it to the program's text. -/
def laid_loop_example_coinmachine_impl_worths {H : Type} : DataW H := .agg [.lit (.int .i64 1), .lit (.int .i64 2), .lit (.int .i64 5), .lit (.int .i64 10)]

/-- 'laws.FnExactPutInBy': WHATEVER THE INPUT: true; the input reads as it did. -/
def fnExactPutInBySpec : ChangeSpec := { name := "fnExactPutInBy", vars := ["loop.example/coinmachine/impl.worths"], fn := fun _ => fun
  | [d1, d2, g1] => { results := [.lit (.bool true)], args := [d1, d2], vars := [g1] }
  | _ => none }
def fnExactPutInByRow : OpenClaim := { program := "ytenjpfjbdjgobabdoor", sum := "1a22a703158dfa32ed6c377d7b51372e69aaa7a8522e76cec25a24149b5cebc4", func := "loop.example/coinmachine/laws.FnExactPutInBy", spec := "fnExactPutInBy", named := ["loop.example/coinmachine/impl.worths"], apart := false, laid := [("loop.example/coinmachine/impl.worths", laid_loop_example_coinmachine_impl_worths)] }
def FnExactPutInBySaid : Prop := fnExactPutInByRow.holds Tryd.pinned (OpenSpec.ofChange fnExactPutInBySpec)

/-- ITS FALSE NEIGHBOUR: 'it returns false'. Refute it at one input. -/
def fnExactPutInByWrong : ChangeSpec := { name := "fnExactPutInBy", vars := ["loop.example/coinmachine/impl.worths"], fn := fun _ => fun
  | [d1, d2, g1] => { results := [.lit (.bool false)], args := [d1, d2], vars := [g1] }
  | _ => none }
def FnExactPutInByWrongFalsely : Prop := fnExactPutInByRow.holds Tryd.pinned (OpenSpec.ofChange fnExactPutInByWrong)

/-- 'laws.FnExactGivenBy': WHATEVER THE INPUT: true; the input reads as it did. -/
def fnExactGivenBySpec : ChangeSpec := { name := "fnExactGivenBy", vars := ["loop.example/coinmachine/impl.worths"], fn := fun _ => fun
  | [d, g1] => { results := [.lit (.bool true)], args := [d], vars := [g1] }
  | _ => none }
def fnExactGivenByRow : OpenClaim := { program := "ytenjpfjbdjgobabdoor", sum := "1a22a703158dfa32ed6c377d7b51372e69aaa7a8522e76cec25a24149b5cebc4", func := "loop.example/coinmachine/laws.FnExactGivenBy", spec := "fnExactGivenBy", named := ["loop.example/coinmachine/impl.worths"], apart := false, laid := [("loop.example/coinmachine/impl.worths", laid_loop_example_coinmachine_impl_worths)] }
def FnExactGivenBySaid : Prop := fnExactGivenByRow.holds Tryd.pinned (OpenSpec.ofChange fnExactGivenBySpec)

/-- ITS FALSE NEIGHBOUR: 'it returns false'. Refute it at one input. -/
def fnExactGivenByWrong : ChangeSpec := { name := "fnExactGivenBy", vars := ["loop.example/coinmachine/impl.worths"], fn := fun _ => fun
  | [d, g1] => { results := [.lit (.bool false)], args := [d], vars := [g1] }
  | _ => none }
def FnExactGivenByWrongFalsely : Prop := fnExactGivenByRow.holds Tryd.pinned (OpenSpec.ofChange fnExactGivenByWrong)

/- THE SECOND FORM. 'bulk': how many values and letters a reading holds, each counted each time it is reached (what is shared counts as often as it is met; a slice's spare places count too). A statement '..UptoSaid' is the law's where the arguments, and the package variables that the reading takes, are together of bulk at most 1048576: NARROWER than '..Said'. Prove '..Said' where nothing that the law and all that it calls make is longer than what came in: it says more and counts as full. Else prove '..UptoSaid'. A law counts once. -/
mutual
def uptoBulk {H : Type} : DataW H → Nat
  | .lit (.string bytes) => bytes.length + 1
  | .lit _ => 1
  | .nil => 1
  | .ptr d => uptoBulk d + 1
  | .slice elems spare => uptoBulkAll elems + uptoBulkAll spare + 1
  | .agg parts => uptoBulkAll parts + 1
  | .iface _ d => uptoBulk d + 1
  | .map entries => uptoBulkEntries entries + 1
  | .held _ => 1
def uptoBulkAll {H : Type} : List (DataW H) → Nat
  | [] => 0
  | d :: r => uptoBulk d + uptoBulkAll r
def uptoBulkEntries {H : Type} : List (Lit × DataW H) → Nat
  | [] => 0
  | x :: r => uptoBulkEntry x + uptoBulkEntries r
def uptoBulkEntry {H : Type} : Lit × DataW H → Nat
  | (.string bytes, d) => bytes.length + uptoBulk d + 1
  | (_, d) => uptoBulk d + 1
 end
def uptoSmall : (H : Type) → List (DataW H) → Bool := fun _ ds => decide (uptoBulkAll ds ≤ 1048576)
def OpenSpec.upto (s : _root_.Go.ChangeSpec) : _root_.Go.OpenSpec := { _root_.Go.OpenSpec.ofChange s with cond := some uptoSmall }

/-- 'laws.FnExactPutInBy', WHERE WHAT IT READS IS OF BULK AT MOST 1048576: true; the input reads as it did. -/
def fnExactPutInByUptoRow : OpenClaim := { program := "ytenjpfjbdjgobabdoor", sum := "1a22a703158dfa32ed6c377d7b51372e69aaa7a8522e76cec25a24149b5cebc4", func := "loop.example/coinmachine/laws.FnExactPutInBy", spec := "fnExactPutInBy", named := ["loop.example/coinmachine/impl.worths"], apart := false, laid := [("loop.example/coinmachine/impl.worths", laid_loop_example_coinmachine_impl_worths)], narrowed := true }
def FnExactPutInByUptoSaid : Prop := fnExactPutInByUptoRow.holds Tryd.pinned (OpenSpec.upto fnExactPutInBySpec)

/-- 'laws.FnExactGivenBy', WHERE WHAT IT READS IS OF BULK AT MOST 1048576: true; the input reads as it did. -/
def fnExactGivenByUptoRow : OpenClaim := { program := "ytenjpfjbdjgobabdoor", sum := "1a22a703158dfa32ed6c377d7b51372e69aaa7a8522e76cec25a24149b5cebc4", func := "loop.example/coinmachine/laws.FnExactGivenBy", spec := "fnExactGivenBy", named := ["loop.example/coinmachine/impl.worths"], apart := false, laid := [("loop.example/coinmachine/impl.worths", laid_loop_example_coinmachine_impl_worths)], narrowed := true }
def FnExactGivenByUptoSaid : Prop := fnExactGivenByUptoRow.holds Tryd.pinned (OpenSpec.upto fnExactGivenBySpec)

end Rows
end Go.Proofs.YtenjpfjbdjgobabDoor

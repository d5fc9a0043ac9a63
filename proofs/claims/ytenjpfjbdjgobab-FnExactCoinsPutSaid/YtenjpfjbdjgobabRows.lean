/-
  No cell of these rows narrows 'for every input' (looked for: loops, veiled, ifaces, maps, wideKeys, modest, calm, conditions, laid).
  DERIVED. THE GIVEN ROWS OF THIS SEAT. 3 by the template 'for every input the law returns true; each argument reads behind the call as it read before'; 0 by the template 'total and deterministic' (their statements: YtenjpfjbdjgobabTotals.lean).
  GIVEN WITH THE SEED: the statements are not yours to turn. If you find one false, say at which input.
  Laid BY PROGRAM, IN A SANDBOX (cutbox-rows.mjs): the forced cells as the released guide's own fill.sh prints them over the translation d22bc212f4120078… (all of the seat's roots in one cut). By AI agents, Wed Nov 11 2026. No macro, syntax, notation, axiom, sorry.
-/
import Derived.Test.YtenjpfjbdjgobabChecked
import GoSem.Claim
import GoSem.ClaimJoined
import GoSem.ClaimMapViews
import Derived.JoinedTies
import Derived.KernelRfl
namespace Go.Proofs.Ytenjpfjbdjgobab
/- THE CELL 'sum', in the pinned program and in every row, IS THE sha256 OF THE DUMP (.gsa) THAT YtenjpfjbdjgobabProg.lean LOADS. Nothing in Lean hashes anything: it is a label: what it is worth is what the hold of that sum in a sandbox is worth. -/
noncomputable def Try.pinned : Pinned := { name := "ytenjpfjbdjgobab", sum := "d22bc212f41200789626e67d6433a0f2e1bb66b49a601053e9dde791efb84da3", checked := Try.checked }
namespace Rows
def none {H : Type} : Left H := { results := [], args := [] }

/-- 'laws.FnExactSoldBy': WHATEVER THE INPUT: true; the input reads as it did. -/
def fnExactSoldBySpec : ChangeSpec := { name := "fnExactSoldBy", fn := fun _ => fun
  | [d1, d2] => { results := [.lit (.bool true)], args := [d1, d2] }
  | _ => none }
def fnExactSoldByRow : OpenClaim := { program := "ytenjpfjbdjgobab", sum := "d22bc212f41200789626e67d6433a0f2e1bb66b49a601053e9dde791efb84da3", func := "loop.example/coinmachine/laws.FnExactSoldBy", spec := "fnExactSoldBy", apart := false }
def FnExactSoldBySaid : Prop := fnExactSoldByRow.holds Try.pinned (OpenSpec.ofChange fnExactSoldBySpec)

/-- ITS FALSE NEIGHBOUR: 'it returns false'. Refute it at one input. -/
def fnExactSoldByWrong : ChangeSpec := { name := "fnExactSoldBy", fn := fun _ => fun
  | [d1, d2] => { results := [.lit (.bool false)], args := [d1, d2] }
  | _ => none }
def FnExactSoldByWrongFalsely : Prop := fnExactSoldByRow.holds Try.pinned (OpenSpec.ofChange fnExactSoldByWrong)

/-- 'laws.FnExactDoneIn': WHATEVER THE INPUT: true; the input reads as it did. -/
def fnExactDoneInSpec : ChangeSpec := { name := "fnExactDoneIn", fn := fun _ => fun
  | [d] => { results := [.lit (.bool true)], args := [d] }
  | _ => none }
def fnExactDoneInRow : OpenClaim := { program := "ytenjpfjbdjgobab", sum := "d22bc212f41200789626e67d6433a0f2e1bb66b49a601053e9dde791efb84da3", func := "loop.example/coinmachine/laws.FnExactDoneIn", spec := "fnExactDoneIn", apart := false }
def FnExactDoneInSaid : Prop := fnExactDoneInRow.holds Try.pinned (OpenSpec.ofChange fnExactDoneInSpec)

/-- ITS FALSE NEIGHBOUR: 'it returns false'. Refute it at one input. -/
def fnExactDoneInWrong : ChangeSpec := { name := "fnExactDoneIn", fn := fun _ => fun
  | [d] => { results := [.lit (.bool false)], args := [d] }
  | _ => none }
def FnExactDoneInWrongFalsely : Prop := fnExactDoneInRow.holds Try.pinned (OpenSpec.ofChange fnExactDoneInWrong)

/-- 'laws.FnExactCoinsPut': WHATEVER THE INPUT: true; the input reads as it did. -/
def fnExactCoinsPutSpec : ChangeSpec := { name := "fnExactCoinsPut", fn := fun _ => fun
  | [d] => { results := [.lit (.bool true)], args := [d] }
  | _ => none }
def fnExactCoinsPutRow : OpenClaim := { program := "ytenjpfjbdjgobab", sum := "d22bc212f41200789626e67d6433a0f2e1bb66b49a601053e9dde791efb84da3", func := "loop.example/coinmachine/laws.FnExactCoinsPut", spec := "fnExactCoinsPut", apart := false }
def FnExactCoinsPutSaid : Prop := fnExactCoinsPutRow.holds Try.pinned (OpenSpec.ofChange fnExactCoinsPutSpec)

/-- ITS FALSE NEIGHBOUR: 'it returns false'. Refute it at one input. -/
def fnExactCoinsPutWrong : ChangeSpec := { name := "fnExactCoinsPut", fn := fun _ => fun
  | [d] => { results := [.lit (.bool false)], args := [d] }
  | _ => none }
def FnExactCoinsPutWrongFalsely : Prop := fnExactCoinsPutRow.holds Try.pinned (OpenSpec.ofChange fnExactCoinsPutWrong)

/- THE SECOND FORM. 'bulk': how many values and letters a reading holds, each counted each time it is reached (what is shared counts as often as it is met; a slice's spare places count too). A statement '..UptoSaid' is the law's where the arguments, and the package variables that the reading takes, are together of bulk at most 1048576: NARROWER than '..Said'. Prove '..Said' where nothing that the law and all that it calls make is longer than what came in: it says more and counts as full. Else prove '..UptoSaid'. A law counts once. -/
mutual
def uptoBulk {H : Type} : DataW H → Nat
  | .lit (.string bytes) => bytes.length + 1
  | .lit _ => 1
  | .nil => 1
  | .ptr d => uptoBulk d + 1
  | .slice elems spare => uptoBulkAll elems + uptoBulkAll spare + 1
  | .agg parts => uptoBulkAll parts + 1
  | .iface _ d => uptoBulk d + 1
  | .map entries => uptoBulkEntries entries + 1
  | .held _ => 1
def uptoBulkAll {H : Type} : List (DataW H) → Nat
  | [] => 0
  | d :: r => uptoBulk d + uptoBulkAll r
def uptoBulkEntries {H : Type} : List (Lit × DataW H) → Nat
  | [] => 0
  | x :: r => uptoBulkEntry x + uptoBulkEntries r
def uptoBulkEntry {H : Type} : Lit × DataW H → Nat
  | (.string bytes, d) => bytes.length + uptoBulk d + 1
  | (_, d) => uptoBulk d + 1
 end
def uptoSmall : (H : Type) → List (DataW H) → Bool := fun _ ds => decide (uptoBulkAll ds ≤ 1048576)
def OpenSpec.upto (s : _root_.Go.ChangeSpec) : _root_.Go.OpenSpec := { _root_.Go.OpenSpec.ofChange s with cond := some uptoSmall }

/-- 'laws.FnExactSoldBy', WHERE WHAT IT READS IS OF BULK AT MOST 1048576: true; the input reads as it did. -/
def fnExactSoldByUptoRow : OpenClaim := { program := "ytenjpfjbdjgobab", sum := "d22bc212f41200789626e67d6433a0f2e1bb66b49a601053e9dde791efb84da3", func := "loop.example/coinmachine/laws.FnExactSoldBy", spec := "fnExactSoldBy", apart := false, narrowed := true }
def FnExactSoldByUptoSaid : Prop := fnExactSoldByUptoRow.holds Try.pinned (OpenSpec.upto fnExactSoldBySpec)

/-- 'laws.FnExactDoneIn', WHERE WHAT IT READS IS OF BULK AT MOST 1048576: true; the input reads as it did. -/
def fnExactDoneInUptoRow : OpenClaim := { program := "ytenjpfjbdjgobab", sum := "d22bc212f41200789626e67d6433a0f2e1bb66b49a601053e9dde791efb84da3", func := "loop.example/coinmachine/laws.FnExactDoneIn", spec := "fnExactDoneIn", apart := false, narrowed := true }
def FnExactDoneInUptoSaid : Prop := fnExactDoneInUptoRow.holds Try.pinned (OpenSpec.upto fnExactDoneInSpec)

/-- 'laws.FnExactCoinsPut', WHERE WHAT IT READS IS OF BULK AT MOST 1048576: true; the input reads as it did. -/
def fnExactCoinsPutUptoRow : OpenClaim := { program := "ytenjpfjbdjgobab", sum := "d22bc212f41200789626e67d6433a0f2e1bb66b49a601053e9dde791efb84da3", func := "loop.example/coinmachine/laws.FnExactCoinsPut", spec := "fnExactCoinsPut", apart := false, narrowed := true }
def FnExactCoinsPutUptoSaid : Prop := fnExactCoinsPutUptoRow.holds Try.pinned (OpenSpec.upto fnExactCoinsPutSpec)

end Rows
end Go.Proofs.Ytenjpfjbdjgobab

/-
  No cell of these rows narrows 'for every input' (looked for: loops, veiled, ifaces, maps, wideKeys, modest, calm, conditions, laid).
  DERIVED. THE GIVEN ROWS OF THIS SEAT. 5 by the template 'for every input the law returns true; each argument reads behind the call as it read before'; 0 by the template 'total and deterministic' (their statements: YtfmhmcedidghfaaTotals.lean).
  GIVEN WITH THE SEED: the statements are not yours to turn. If you find one false, say at which input.
  Laid BY PROGRAM, IN A SANDBOX (cutbox-rows.mjs): the forced cells as the released guide's own fill.sh prints them over the translation a39036ee58d81fcd… (all of the seat's roots in one cut). By AI agents, Wed Nov 11 2026. No macro, syntax, notation, axiom, sorry.
-/
import Derived.Test.YtfmhmcedidghfaaChecked
import GoSem.Claim
import GoSem.ClaimJoined
import GoSem.ClaimMapViews
import Derived.JoinedTies
import Derived.KernelRfl
namespace Go.Proofs.Ytfmhmcedidghfaa
/- THE CELL 'sum', in the pinned program and in every row, IS THE sha256 OF THE DUMP (.gsa) THAT YtfmhmcedidghfaaProg.lean LOADS. Nothing in Lean hashes anything: it is a label: what it is worth is what the hold of that sum in a sandbox is worth. -/
noncomputable def Try.pinned : Pinned := { name := "ytfmhmcedidghfaa", sum := "a39036ee58d81fcd82e9bcfaaf47e2cc6d95fe3d6a1ac1f695f9229be382a1ab", checked := Try.checked }
namespace Rows
def none {H : Type} : Left H := { results := [], args := [] }

/-- 'laws.FnExactPurseOk': WHATEVER THE INPUT: true; the input reads as it did. -/
def fnExactPurseOkSpec : ChangeSpec := { name := "fnExactPurseOk", fn := fun _ => fun
  | [d] => { results := [.lit (.bool true)], args := [d] }
  | _ => none }
def fnExactPurseOkRow : OpenClaim := { program := "ytfmhmcedidghfaa", sum := "a39036ee58d81fcd82e9bcfaaf47e2cc6d95fe3d6a1ac1f695f9229be382a1ab", func := "loop.example/coinmachine/laws.FnExactPurseOk", spec := "fnExactPurseOk", apart := false }
def FnExactPurseOkSaid : Prop := fnExactPurseOkRow.holds Try.pinned (OpenSpec.ofChange fnExactPurseOkSpec)

/-- ITS FALSE NEIGHBOUR: 'it returns false'. Refute it at one input. -/
def fnExactPurseOkWrong : ChangeSpec := { name := "fnExactPurseOk", fn := fun _ => fun
  | [d] => { results := [.lit (.bool false)], args := [d] }
  | _ => none }
def FnExactPurseOkWrongFalsely : Prop := fnExactPurseOkRow.holds Try.pinned (OpenSpec.ofChange fnExactPurseOkWrong)

/-- 'laws.FnExactCoinsIn': WHATEVER THE INPUT: true; the input reads as it did. -/
def fnExactCoinsInSpec : ChangeSpec := { name := "fnExactCoinsIn", fn := fun _ => fun
  | [d] => { results := [.lit (.bool true)], args := [d] }
  | _ => none }
def fnExactCoinsInRow : OpenClaim := { program := "ytfmhmcedidghfaa", sum := "a39036ee58d81fcd82e9bcfaaf47e2cc6d95fe3d6a1ac1f695f9229be382a1ab", func := "loop.example/coinmachine/laws.FnExactCoinsIn", spec := "fnExactCoinsIn", apart := false }
def FnExactCoinsInSaid : Prop := fnExactCoinsInRow.holds Try.pinned (OpenSpec.ofChange fnExactCoinsInSpec)

/-- ITS FALSE NEIGHBOUR: 'it returns false'. Refute it at one input. -/
def fnExactCoinsInWrong : ChangeSpec := { name := "fnExactCoinsIn", fn := fun _ => fun
  | [d] => { results := [.lit (.bool false)], args := [d] }
  | _ => none }
def FnExactCoinsInWrongFalsely : Prop := fnExactCoinsInRow.holds Try.pinned (OpenSpec.ofChange fnExactCoinsInWrong)

/-- 'laws.FnExactPutTogether': WHATEVER THE INPUT: true; the input reads as it did. -/
def fnExactPutTogetherSpec : ChangeSpec := { name := "fnExactPutTogether", fn := fun _ => fun
  | [d1, d2] => { results := [.lit (.bool true)], args := [d1, d2] }
  | _ => none }
def fnExactPutTogetherRow : OpenClaim := { program := "ytfmhmcedidghfaa", sum := "a39036ee58d81fcd82e9bcfaaf47e2cc6d95fe3d6a1ac1f695f9229be382a1ab", func := "loop.example/coinmachine/laws.FnExactPutTogether", spec := "fnExactPutTogether", apart := false }
def FnExactPutTogetherSaid : Prop := fnExactPutTogetherRow.holds Try.pinned (OpenSpec.ofChange fnExactPutTogetherSpec)

/-- ITS FALSE NEIGHBOUR: 'it returns false'. Refute it at one input. -/
def fnExactPutTogetherWrong : ChangeSpec := { name := "fnExactPutTogether", fn := fun _ => fun
  | [d1, d2] => { results := [.lit (.bool false)], args := [d1, d2] }
  | _ => none }
def FnExactPutTogetherWrongFalsely : Prop := fnExactPutTogetherRow.holds Try.pinned (OpenSpec.ofChange fnExactPutTogetherWrong)

/-- 'laws.FnExactWithinOf': WHATEVER THE INPUT: true; the input reads as it did. -/
def fnExactWithinOfSpec : ChangeSpec := { name := "fnExactWithinOf", fn := fun _ => fun
  | [d1, d2] => { results := [.lit (.bool true)], args := [d1, d2] }
  | _ => none }
def fnExactWithinOfRow : OpenClaim := { program := "ytfmhmcedidghfaa", sum := "a39036ee58d81fcd82e9bcfaaf47e2cc6d95fe3d6a1ac1f695f9229be382a1ab", func := "loop.example/coinmachine/laws.FnExactWithinOf", spec := "fnExactWithinOf", apart := false }
def FnExactWithinOfSaid : Prop := fnExactWithinOfRow.holds Try.pinned (OpenSpec.ofChange fnExactWithinOfSpec)

/-- ITS FALSE NEIGHBOUR: 'it returns false'. Refute it at one input. -/
def fnExactWithinOfWrong : ChangeSpec := { name := "fnExactWithinOf", fn := fun _ => fun
  | [d1, d2] => { results := [.lit (.bool false)], args := [d1, d2] }
  | _ => none }
def FnExactWithinOfWrongFalsely : Prop := fnExactWithinOfRow.holds Try.pinned (OpenSpec.ofChange fnExactWithinOfWrong)

/-- 'laws.FnExactTakenOut': WHATEVER THE INPUT: true; the input reads as it did. -/
def fnExactTakenOutSpec : ChangeSpec := { name := "fnExactTakenOut", fn := fun _ => fun
  | [d1, d2] => { results := [.lit (.bool true)], args := [d1, d2] }
  | _ => none }
def fnExactTakenOutRow : OpenClaim := { program := "ytfmhmcedidghfaa", sum := "a39036ee58d81fcd82e9bcfaaf47e2cc6d95fe3d6a1ac1f695f9229be382a1ab", func := "loop.example/coinmachine/laws.FnExactTakenOut", spec := "fnExactTakenOut", apart := false }
def FnExactTakenOutSaid : Prop := fnExactTakenOutRow.holds Try.pinned (OpenSpec.ofChange fnExactTakenOutSpec)

/-- ITS FALSE NEIGHBOUR: 'it returns false'. Refute it at one input. -/
def fnExactTakenOutWrong : ChangeSpec := { name := "fnExactTakenOut", fn := fun _ => fun
  | [d1, d2] => { results := [.lit (.bool false)], args := [d1, d2] }
  | _ => none }
def FnExactTakenOutWrongFalsely : Prop := fnExactTakenOutRow.holds Try.pinned (OpenSpec.ofChange fnExactTakenOutWrong)

/- THE SECOND FORM. 'bulk': how many values and letters a reading holds, each counted each time it is reached (what is shared counts as often as it is met; a slice's spare places count too). A statement '..UptoSaid' is the law's where the arguments, and the package variables that the reading takes, are together of bulk at most 1048576: NARROWER than '..Said'. Prove '..Said' where nothing that the law and all that it calls make is longer than what came in: it says more and counts as full. Else prove '..UptoSaid'. A law counts once. -/
mutual
def uptoBulk {H : Type} : DataW H → Nat
  | .lit (.string bytes) => bytes.length + 1
  | .lit _ => 1
  | .nil => 1
  | .ptr d => uptoBulk d + 1
  | .slice elems spare => uptoBulkAll elems + uptoBulkAll spare + 1
  | .agg parts => uptoBulkAll parts + 1
  | .iface _ d => uptoBulk d + 1
  | .map entries => uptoBulkEntries entries + 1
  | .held _ => 1
def uptoBulkAll {H : Type} : List (DataW H) → Nat
  | [] => 0
  | d :: r => uptoBulk d + uptoBulkAll r
def uptoBulkEntries {H : Type} : List (Lit × DataW H) → Nat
  | [] => 0
  | x :: r => uptoBulkEntry x + uptoBulkEntries r
def uptoBulkEntry {H : Type} : Lit × DataW H → Nat
  | (.string bytes, d) => bytes.length + uptoBulk d + 1
  | (_, d) => uptoBulk d + 1
 end
def uptoSmall : (H : Type) → List (DataW H) → Bool := fun _ ds => decide (uptoBulkAll ds ≤ 1048576)
def OpenSpec.upto (s : _root_.Go.ChangeSpec) : _root_.Go.OpenSpec := { _root_.Go.OpenSpec.ofChange s with cond := some uptoSmall }

/-- 'laws.FnExactPurseOk', WHERE WHAT IT READS IS OF BULK AT MOST 1048576: true; the input reads as it did. -/
def fnExactPurseOkUptoRow : OpenClaim := { program := "ytfmhmcedidghfaa", sum := "a39036ee58d81fcd82e9bcfaaf47e2cc6d95fe3d6a1ac1f695f9229be382a1ab", func := "loop.example/coinmachine/laws.FnExactPurseOk", spec := "fnExactPurseOk", apart := false, narrowed := true }
def FnExactPurseOkUptoSaid : Prop := fnExactPurseOkUptoRow.holds Try.pinned (OpenSpec.upto fnExactPurseOkSpec)

/-- 'laws.FnExactCoinsIn', WHERE WHAT IT READS IS OF BULK AT MOST 1048576: true; the input reads as it did. -/
def fnExactCoinsInUptoRow : OpenClaim := { program := "ytfmhmcedidghfaa", sum := "a39036ee58d81fcd82e9bcfaaf47e2cc6d95fe3d6a1ac1f695f9229be382a1ab", func := "loop.example/coinmachine/laws.FnExactCoinsIn", spec := "fnExactCoinsIn", apart := false, narrowed := true }
def FnExactCoinsInUptoSaid : Prop := fnExactCoinsInUptoRow.holds Try.pinned (OpenSpec.upto fnExactCoinsInSpec)

/-- 'laws.FnExactPutTogether', WHERE WHAT IT READS IS OF BULK AT MOST 1048576: true; the input reads as it did. -/
def fnExactPutTogetherUptoRow : OpenClaim := { program := "ytfmhmcedidghfaa", sum := "a39036ee58d81fcd82e9bcfaaf47e2cc6d95fe3d6a1ac1f695f9229be382a1ab", func := "loop.example/coinmachine/laws.FnExactPutTogether", spec := "fnExactPutTogether", apart := false, narrowed := true }
def FnExactPutTogetherUptoSaid : Prop := fnExactPutTogetherUptoRow.holds Try.pinned (OpenSpec.upto fnExactPutTogetherSpec)

/-- 'laws.FnExactWithinOf', WHERE WHAT IT READS IS OF BULK AT MOST 1048576: true; the input reads as it did. -/
def fnExactWithinOfUptoRow : OpenClaim := { program := "ytfmhmcedidghfaa", sum := "a39036ee58d81fcd82e9bcfaaf47e2cc6d95fe3d6a1ac1f695f9229be382a1ab", func := "loop.example/coinmachine/laws.FnExactWithinOf", spec := "fnExactWithinOf", apart := false, narrowed := true }
def FnExactWithinOfUptoSaid : Prop := fnExactWithinOfUptoRow.holds Try.pinned (OpenSpec.upto fnExactWithinOfSpec)

/-- 'laws.FnExactTakenOut', WHERE WHAT IT READS IS OF BULK AT MOST 1048576: true; the input reads as it did. -/
def fnExactTakenOutUptoRow : OpenClaim := { program := "ytfmhmcedidghfaa", sum := "a39036ee58d81fcd82e9bcfaaf47e2cc6d95fe3d6a1ac1f695f9229be382a1ab", func := "loop.example/coinmachine/laws.FnExactTakenOut", spec := "fnExactTakenOut", apart := false, narrowed := true }
def FnExactTakenOutUptoSaid : Prop := fnExactTakenOutUptoRow.holds Try.pinned (OpenSpec.upto fnExactTakenOutSpec)

end Rows
end Go.Proofs.Ytfmhmcedidghfaa

/-
  NARROWER THAN 'FOR EVERY INPUT', by the rows' own cells (each row's printed sentence says how): FnGreedyOf: laid · FnAllWays: laid · FnFewestOf: laid · FnCanGive: laid · FnGivenFrom: laid · FnGreedMisses: laid · FnExactGreedyOf: laid · FnExactAllWays: laid · FnExactFewestOf: laid · FnExactCanGive: laid · FnExactGivenFrom: laid · FnExactGreedMisses: laid.
  DERIVED. THE GIVEN ROWS OF THIS SEAT. 12 by the template 'for every input the law returns true; each argument reads behind the call as it read before'; 0 by the template 'total and deterministic' (their statements: YtciijkknddnigaaDoorTotals.lean).
  GIVEN WITH THE SEED: the statements are not yours to turn. If you find one false, say at which input.
  Laid BY PROGRAM, IN A SANDBOX (cutbox-rows.mjs): the forced cells as the released guide's own fill.sh prints them over the translation d9a1d061af798668… (all of the seat's roots in one cut). By AI agents, Wed Nov 11 2026. No macro, syntax, notation, axiom, sorry.
-/
import Derived.Test.YtciijkknddnigaaDoorChecked
import GoSem.Claim
import GoSem.ClaimJoined
import GoSem.ClaimMapViews
import Derived.JoinedTies
import Derived.KernelRfl
namespace Go.Proofs.YtciijkknddnigaaDoor
/- THE CELL 'sum', in the pinned program and in every row, IS THE sha256 OF THE DUMP (.gsa) THAT YtciijkknddnigaaDoorProg.lean LOADS. Nothing in Lean hashes anything: it is a label: what it is worth is what the hold of that sum in a sandbox is worth. -/
noncomputable def Tryd.pinned : Pinned := { name := "ytciijkknddnigaadoor", sum := "d9a1d061af798668049c60714a6a9ebd7083c14cb736056e52ca8f5790503b21", checked := Tryd.checked }
namespace Rows
def none {H : Type} : Left H := { results := [], args := [] }

/- WHAT THE LISTED PACKAGE-LEVEL VARIABLES READ AS WHEN THE CALL BEGINS. Each datum BY PROGRAM (the guide's laid-datum.mjs) off the statement by which the dump's own 'gosem.cut.vars' lays the variable. In a bare row this is a premise. The card (YtciijkknddnigaaDoorCards.lean) ties it to the program's text. -/
def laid_loop_example_coinmachine_impl_worths {H : Type} : DataW H := .agg [.lit (.int .i64 1), .lit (.int .i64 2), .lit (.int .i64 5), .lit (.int .i64 10)]

/-- 'laws.FnGreedyOf': WHATEVER THE INPUT: true; the input reads as it did. -/
def fnGreedyOfSpec : ChangeSpec := { name := "fnGreedyOf", vars := ["loop.example/coinmachine/impl.worths"], fn := fun _ => fun
  | [d, g1] => { results := [.lit (.bool true)], args := [d], vars := [g1] }
  | _ => none }
def fnGreedyOfRow : OpenClaim := { program := "ytciijkknddnigaadoor", sum := "d9a1d061af798668049c60714a6a9ebd7083c14cb736056e52ca8f5790503b21", func := "loop.example/coinmachine/laws.FnGreedyOf", spec := "fnGreedyOf", named := ["loop.example/coinmachine/impl.worths"], plainKeys := false, apart := false, laid := [("loop.example/coinmachine/impl.worths", laid_loop_example_coinmachine_impl_worths)] }
def FnGreedyOfSaid : Prop := fnGreedyOfRow.holds Tryd.pinned (OpenSpec.ofChange fnGreedyOfSpec)

/-- ITS FALSE NEIGHBOUR: 'it returns false'. Refute it at one input. -/
def fnGreedyOfWrong : ChangeSpec := { name := "fnGreedyOf", vars := ["loop.example/coinmachine/impl.worths"], fn := fun _ => fun
  | [d, g1] => { results := [.lit (.bool false)], args := [d], vars := [g1] }
  | _ => none }
def FnGreedyOfWrongFalsely : Prop := fnGreedyOfRow.holds Tryd.pinned (OpenSpec.ofChange fnGreedyOfWrong)

/-- 'laws.FnAllWays': WHATEVER THE INPUT: true; the input reads as it did. -/
def fnAllWaysSpec : ChangeSpec := { name := "fnAllWays", vars := ["loop.example/coinmachine/impl.worths"], fn := fun _ => fun
  | [d, g1] => { results := [.lit (.bool true)], args := [d], vars := [g1] }
  | _ => none }
def fnAllWaysRow : OpenClaim := { program := "ytciijkknddnigaadoor", sum := "d9a1d061af798668049c60714a6a9ebd7083c14cb736056e52ca8f5790503b21", func := "loop.example/coinmachine/laws.FnAllWays", spec := "fnAllWays", named := ["loop.example/coinmachine/impl.worths"], plainKeys := false, apart := false, laid := [("loop.example/coinmachine/impl.worths", laid_loop_example_coinmachine_impl_worths)] }
def FnAllWaysSaid : Prop := fnAllWaysRow.holds Tryd.pinned (OpenSpec.ofChange fnAllWaysSpec)

/-- ITS FALSE NEIGHBOUR: 'it returns false'. Refute it at one input. -/
def fnAllWaysWrong : ChangeSpec := { name := "fnAllWays", vars := ["loop.example/coinmachine/impl.worths"], fn := fun _ => fun
  | [d, g1] => { results := [.lit (.bool false)], args := [d], vars := [g1] }
  | _ => none }
def FnAllWaysWrongFalsely : Prop := fnAllWaysRow.holds Tryd.pinned (OpenSpec.ofChange fnAllWaysWrong)

/-- 'laws.FnFewestOf': WHATEVER THE INPUT: true; the input reads as it did. -/
def fnFewestOfSpec : ChangeSpec := { name := "fnFewestOf", vars := ["loop.example/coinmachine/impl.worths"], fn := fun _ => fun
  | [d, g1] => { results := [.lit (.bool true)], args := [d], vars := [g1] }
  | _ => none }
def fnFewestOfRow : OpenClaim := { program := "ytciijkknddnigaadoor", sum := "d9a1d061af798668049c60714a6a9ebd7083c14cb736056e52ca8f5790503b21", func := "loop.example/coinmachine/laws.FnFewestOf", spec := "fnFewestOf", unfollowed := true, recurses := true, named := ["loop.example/coinmachine/impl.worths"], plainKeys := false, apart := false, laid := [("loop.example/coinmachine/impl.worths", laid_loop_example_coinmachine_impl_worths)] }
def FnFewestOfSaid : Prop := fnFewestOfRow.holds Tryd.pinned (OpenSpec.ofChange fnFewestOfSpec)

/-- ITS FALSE NEIGHBOUR: 'it returns false'. Refute it at one input. -/
def fnFewestOfWrong : ChangeSpec := { name := "fnFewestOf", vars := ["loop.example/coinmachine/impl.worths"], fn := fun _ => fun
  | [d, g1] => { results := [.lit (.bool false)], args := [d], vars := [g1] }
  | _ => none }
def FnFewestOfWrongFalsely : Prop := fnFewestOfRow.holds Tryd.pinned (OpenSpec.ofChange fnFewestOfWrong)

/-- 'laws.FnCanGive': WHATEVER THE INPUT: true; the input reads as it did. -/
def fnCanGiveSpec : ChangeSpec := { name := "fnCanGive", vars := ["loop.example/coinmachine/impl.worths"], fn := fun _ => fun
  | [d, g1] => { results := [.lit (.bool true)], args := [d], vars := [g1] }
  | _ => none }
def fnCanGiveRow : OpenClaim := { program := "ytciijkknddnigaadoor", sum := "d9a1d061af798668049c60714a6a9ebd7083c14cb736056e52ca8f5790503b21", func := "loop.example/coinmachine/laws.FnCanGive", spec := "fnCanGive", unfollowed := true, recurses := true, named := ["loop.example/coinmachine/impl.worths"], plainKeys := false, apart := false, laid := [("loop.example/coinmachine/impl.worths", laid_loop_example_coinmachine_impl_worths)] }
def FnCanGiveSaid : Prop := fnCanGiveRow.holds Tryd.pinned (OpenSpec.ofChange fnCanGiveSpec)

/-- ITS FALSE NEIGHBOUR: 'it returns false'. Refute it at one input. -/
def fnCanGiveWrong : ChangeSpec := { name := "fnCanGive", vars := ["loop.example/coinmachine/impl.worths"], fn := fun _ => fun
  | [d, g1] => { results := [.lit (.bool false)], args := [d], vars := [g1] }
  | _ => none }
def FnCanGiveWrongFalsely : Prop := fnCanGiveRow.holds Tryd.pinned (OpenSpec.ofChange fnCanGiveWrong)

/-- 'laws.FnGivenFrom': WHATEVER THE INPUT: true; the input reads as it did. -/
def fnGivenFromSpec : ChangeSpec := { name := "fnGivenFrom", vars := ["loop.example/coinmachine/impl.worths"], fn := fun _ => fun
  | [d, g1] => { results := [.lit (.bool true)], args := [d], vars := [g1] }
  | _ => none }
def fnGivenFromRow : OpenClaim := { program := "ytciijkknddnigaadoor", sum := "d9a1d061af798668049c60714a6a9ebd7083c14cb736056e52ca8f5790503b21", func := "loop.example/coinmachine/laws.FnGivenFrom", spec := "fnGivenFrom", unfollowed := true, recurses := true, named := ["loop.example/coinmachine/impl.worths"], plainKeys := false, apart := false, laid := [("loop.example/coinmachine/impl.worths", laid_loop_example_coinmachine_impl_worths)] }
def FnGivenFromSaid : Prop := fnGivenFromRow.holds Tryd.pinned (OpenSpec.ofChange fnGivenFromSpec)

/-- ITS FALSE NEIGHBOUR: 'it returns false'. Refute it at one input. -/
def fnGivenFromWrong : ChangeSpec := { name := "fnGivenFrom", vars := ["loop.example/coinmachine/impl.worths"], fn := fun _ => fun
  | [d, g1] => { results := [.lit (.bool false)], args := [d], vars := [g1] }
  | _ => none }
def FnGivenFromWrongFalsely : Prop := fnGivenFromRow.holds Tryd.pinned (OpenSpec.ofChange fnGivenFromWrong)

/-- 'laws.FnGreedMisses': WHATEVER THE INPUT: true; the input reads as it did. -/
def fnGreedMissesSpec : ChangeSpec := { name := "fnGreedMisses", vars := ["loop.example/coinmachine/impl.worths"], fn := fun _ => fun
  | [d, g1] => { results := [.lit (.bool true)], args := [d], vars := [g1] }
  | _ => none }
def fnGreedMissesRow : OpenClaim := { program := "ytciijkknddnigaadoor", sum := "d9a1d061af798668049c60714a6a9ebd7083c14cb736056e52ca8f5790503b21", func := "loop.example/coinmachine/laws.FnGreedMisses", spec := "fnGreedMisses", unfollowed := true, recurses := true, named := ["loop.example/coinmachine/impl.worths"], plainKeys := false, apart := false, laid := [("loop.example/coinmachine/impl.worths", laid_loop_example_coinmachine_impl_worths)] }
def FnGreedMissesSaid : Prop := fnGreedMissesRow.holds Tryd.pinned (OpenSpec.ofChange fnGreedMissesSpec)

/-- ITS FALSE NEIGHBOUR: 'it returns false'. Refute it at one input. -/
def fnGreedMissesWrong : ChangeSpec := { name := "fnGreedMisses", vars := ["loop.example/coinmachine/impl.worths"], fn := fun _ => fun
  | [d, g1] => { results := [.lit (.bool false)], args := [d], vars := [g1] }
  | _ => none }
def FnGreedMissesWrongFalsely : Prop := fnGreedMissesRow.holds Tryd.pinned (OpenSpec.ofChange fnGreedMissesWrong)

/-- 'laws.FnExactGreedyOf': WHATEVER THE INPUT: true; the input reads as it did. -/
def fnExactGreedyOfSpec : ChangeSpec := { name := "fnExactGreedyOf", vars := ["loop.example/coinmachine/impl.worths"], fn := fun _ => fun
  | [d1, d2, g1] => { results := [.lit (.bool true)], args := [d1, d2], vars := [g1] }
  | _ => none }
def fnExactGreedyOfRow : OpenClaim := { program := "ytciijkknddnigaadoor", sum := "d9a1d061af798668049c60714a6a9ebd7083c14cb736056e52ca8f5790503b21", func := "loop.example/coinmachine/laws.FnExactGreedyOf", spec := "fnExactGreedyOf", named := ["loop.example/coinmachine/impl.worths"], plainKeys := false, apart := false, laid := [("loop.example/coinmachine/impl.worths", laid_loop_example_coinmachine_impl_worths)] }
def FnExactGreedyOfSaid : Prop := fnExactGreedyOfRow.holds Tryd.pinned (OpenSpec.ofChange fnExactGreedyOfSpec)

/-- ITS FALSE NEIGHBOUR: 'it returns false'. Refute it at one input. -/
def fnExactGreedyOfWrong : ChangeSpec := { name := "fnExactGreedyOf", vars := ["loop.example/coinmachine/impl.worths"], fn := fun _ => fun
  | [d1, d2, g1] => { results := [.lit (.bool false)], args := [d1, d2], vars := [g1] }
  | _ => none }
def FnExactGreedyOfWrongFalsely : Prop := fnExactGreedyOfRow.holds Tryd.pinned (OpenSpec.ofChange fnExactGreedyOfWrong)

/-- 'laws.FnExactAllWays': WHATEVER THE INPUT: true; the input reads as it did. -/
def fnExactAllWaysSpec : ChangeSpec := { name := "fnExactAllWays", vars := ["loop.example/coinmachine/impl.worths"], fn := fun _ => fun
  | [d1, d2, g1] => { results := [.lit (.bool true)], args := [d1, d2], vars := [g1] }
  | _ => none }
def fnExactAllWaysRow : OpenClaim := { program := "ytciijkknddnigaadoor", sum := "d9a1d061af798668049c60714a6a9ebd7083c14cb736056e52ca8f5790503b21", func := "loop.example/coinmachine/laws.FnExactAllWays", spec := "fnExactAllWays", named := ["loop.example/coinmachine/impl.worths"], plainKeys := false, apart := false, laid := [("loop.example/coinmachine/impl.worths", laid_loop_example_coinmachine_impl_worths)] }
def FnExactAllWaysSaid : Prop := fnExactAllWaysRow.holds Tryd.pinned (OpenSpec.ofChange fnExactAllWaysSpec)

/-- ITS FALSE NEIGHBOUR: 'it returns false'. Refute it at one input. -/
def fnExactAllWaysWrong : ChangeSpec := { name := "fnExactAllWays", vars := ["loop.example/coinmachine/impl.worths"], fn := fun _ => fun
  | [d1, d2, g1] => { results := [.lit (.bool false)], args := [d1, d2], vars := [g1] }
  | _ => none }
def FnExactAllWaysWrongFalsely : Prop := fnExactAllWaysRow.holds Tryd.pinned (OpenSpec.ofChange fnExactAllWaysWrong)

/-- 'laws.FnExactFewestOf': WHATEVER THE INPUT: true; the input reads as it did. -/
def fnExactFewestOfSpec : ChangeSpec := { name := "fnExactFewestOf", vars := ["loop.example/coinmachine/impl.worths"], fn := fun _ => fun
  | [d1, d2, g1] => { results := [.lit (.bool true)], args := [d1, d2], vars := [g1] }
  | _ => none }
def fnExactFewestOfRow : OpenClaim := { program := "ytciijkknddnigaadoor", sum := "d9a1d061af798668049c60714a6a9ebd7083c14cb736056e52ca8f5790503b21", func := "loop.example/coinmachine/laws.FnExactFewestOf", spec := "fnExactFewestOf", unfollowed := true, recurses := true, named := ["loop.example/coinmachine/impl.worths"], plainKeys := false, apart := false, laid := [("loop.example/coinmachine/impl.worths", laid_loop_example_coinmachine_impl_worths)] }
def FnExactFewestOfSaid : Prop := fnExactFewestOfRow.holds Tryd.pinned (OpenSpec.ofChange fnExactFewestOfSpec)

/-- ITS FALSE NEIGHBOUR: 'it returns false'. Refute it at one input. -/
def fnExactFewestOfWrong : ChangeSpec := { name := "fnExactFewestOf", vars := ["loop.example/coinmachine/impl.worths"], fn := fun _ => fun
  | [d1, d2, g1] => { results := [.lit (.bool false)], args := [d1, d2], vars := [g1] }
  | _ => none }
def FnExactFewestOfWrongFalsely : Prop := fnExactFewestOfRow.holds Tryd.pinned (OpenSpec.ofChange fnExactFewestOfWrong)

/-- 'laws.FnExactCanGive': WHATEVER THE INPUT: true; the input reads as it did. -/
def fnExactCanGiveSpec : ChangeSpec := { name := "fnExactCanGive", vars := ["loop.example/coinmachine/impl.worths"], fn := fun _ => fun
  | [d1, d2, g1] => { results := [.lit (.bool true)], args := [d1, d2], vars := [g1] }
  | _ => none }
def fnExactCanGiveRow : OpenClaim := { program := "ytciijkknddnigaadoor", sum := "d9a1d061af798668049c60714a6a9ebd7083c14cb736056e52ca8f5790503b21", func := "loop.example/coinmachine/laws.FnExactCanGive", spec := "fnExactCanGive", unfollowed := true, recurses := true, named := ["loop.example/coinmachine/impl.worths"], plainKeys := false, apart := false, laid := [("loop.example/coinmachine/impl.worths", laid_loop_example_coinmachine_impl_worths)] }
def FnExactCanGiveSaid : Prop := fnExactCanGiveRow.holds Tryd.pinned (OpenSpec.ofChange fnExactCanGiveSpec)

/-- ITS FALSE NEIGHBOUR: 'it returns false'. Refute it at one input. -/
def fnExactCanGiveWrong : ChangeSpec := { name := "fnExactCanGive", vars := ["loop.example/coinmachine/impl.worths"], fn := fun _ => fun
  | [d1, d2, g1] => { results := [.lit (.bool false)], args := [d1, d2], vars := [g1] }
  | _ => none }
def FnExactCanGiveWrongFalsely : Prop := fnExactCanGiveRow.holds Tryd.pinned (OpenSpec.ofChange fnExactCanGiveWrong)

/-- 'laws.FnExactGivenFrom': WHATEVER THE INPUT: true; the input reads as it did. -/
def fnExactGivenFromSpec : ChangeSpec := { name := "fnExactGivenFrom", vars := ["loop.example/coinmachine/impl.worths"], fn := fun _ => fun
  | [d1, d2, g1] => { results := [.lit (.bool true)], args := [d1, d2], vars := [g1] }
  | _ => none }
def fnExactGivenFromRow : OpenClaim := { program := "ytciijkknddnigaadoor", sum := "d9a1d061af798668049c60714a6a9ebd7083c14cb736056e52ca8f5790503b21", func := "loop.example/coinmachine/laws.FnExactGivenFrom", spec := "fnExactGivenFrom", unfollowed := true, recurses := true, named := ["loop.example/coinmachine/impl.worths"], plainKeys := false, apart := false, laid := [("loop.example/coinmachine/impl.worths", laid_loop_example_coinmachine_impl_worths)] }
def FnExactGivenFromSaid : Prop := fnExactGivenFromRow.holds Tryd.pinned (OpenSpec.ofChange fnExactGivenFromSpec)

/-- ITS FALSE NEIGHBOUR: 'it returns false'. Refute it at one input. -/
def fnExactGivenFromWrong : ChangeSpec := { name := "fnExactGivenFrom", vars := ["loop.example/coinmachine/impl.worths"], fn := fun _ => fun
  | [d1, d2, g1] => { results := [.lit (.bool false)], args := [d1, d2], vars := [g1] }
  | _ => none }
def FnExactGivenFromWrongFalsely : Prop := fnExactGivenFromRow.holds Tryd.pinned (OpenSpec.ofChange fnExactGivenFromWrong)

/-- 'laws.FnExactGreedMisses': WHATEVER THE INPUT: true; the input reads as it did. -/
def fnExactGreedMissesSpec : ChangeSpec := { name := "fnExactGreedMisses", vars := ["loop.example/coinmachine/impl.worths"], fn := fun _ => fun
  | [d, g1] => { results := [.lit (.bool true)], args := [d], vars := [g1] }
  | _ => none }
def fnExactGreedMissesRow : OpenClaim := { program := "ytciijkknddnigaadoor", sum := "d9a1d061af798668049c60714a6a9ebd7083c14cb736056e52ca8f5790503b21", func := "loop.example/coinmachine/laws.FnExactGreedMisses", spec := "fnExactGreedMisses", unfollowed := true, recurses := true, named := ["loop.example/coinmachine/impl.worths"], plainKeys := false, apart := false, laid := [("loop.example/coinmachine/impl.worths", laid_loop_example_coinmachine_impl_worths)] }
def FnExactGreedMissesSaid : Prop := fnExactGreedMissesRow.holds Tryd.pinned (OpenSpec.ofChange fnExactGreedMissesSpec)

/-- ITS FALSE NEIGHBOUR: 'it returns false'. Refute it at one input. -/
def fnExactGreedMissesWrong : ChangeSpec := { name := "fnExactGreedMisses", vars := ["loop.example/coinmachine/impl.worths"], fn := fun _ => fun
  | [d, g1] => { results := [.lit (.bool false)], args := [d], vars := [g1] }
  | _ => none }
def FnExactGreedMissesWrongFalsely : Prop := fnExactGreedMissesRow.holds Tryd.pinned (OpenSpec.ofChange fnExactGreedMissesWrong)

/- THE SECOND FORM. 'bulk': how many values and letters a reading holds, each counted each time it is reached (what is shared counts as often as it is met; a slice's spare places count too). A statement '..UptoSaid' is the law's where the arguments, and the package variables that the reading takes, are together of bulk at most 1048576: NARROWER than '..Said'. Prove '..Said' where nothing that the law and all that it calls make is longer than what came in: it says more and counts as full. Else prove '..UptoSaid'. A law counts once. -/
mutual
def uptoBulk {H : Type} : DataW H → Nat
  | .lit (.string bytes) => bytes.length + 1
  | .lit _ => 1
  | .nil => 1
  | .ptr d => uptoBulk d + 1
  | .slice elems spare => uptoBulkAll elems + uptoBulkAll spare + 1
  | .agg parts => uptoBulkAll parts + 1
  | .iface _ d => uptoBulk d + 1
  | .map entries => uptoBulkEntries entries + 1
  | .held _ => 1
def uptoBulkAll {H : Type} : List (DataW H) → Nat
  | [] => 0
  | d :: r => uptoBulk d + uptoBulkAll r
def uptoBulkEntries {H : Type} : List (Lit × DataW H) → Nat
  | [] => 0
  | x :: r => uptoBulkEntry x + uptoBulkEntries r
def uptoBulkEntry {H : Type} : Lit × DataW H → Nat
  | (.string bytes, d) => bytes.length + uptoBulk d + 1
  | (_, d) => uptoBulk d + 1
 end
def uptoSmall : (H : Type) → List (DataW H) → Bool := fun _ ds => decide (uptoBulkAll ds ≤ 1048576)
def OpenSpec.upto (s : _root_.Go.ChangeSpec) : _root_.Go.OpenSpec := { _root_.Go.OpenSpec.ofChange s with cond := some uptoSmall }

/-- 'laws.FnGreedyOf', WHERE WHAT IT READS IS OF BULK AT MOST 1048576: true; the input reads as it did. -/
def fnGreedyOfUptoRow : OpenClaim := { program := "ytciijkknddnigaadoor", sum := "d9a1d061af798668049c60714a6a9ebd7083c14cb736056e52ca8f5790503b21", func := "loop.example/coinmachine/laws.FnGreedyOf", spec := "fnGreedyOf", named := ["loop.example/coinmachine/impl.worths"], plainKeys := false, apart := false, laid := [("loop.example/coinmachine/impl.worths", laid_loop_example_coinmachine_impl_worths)], narrowed := true }
def FnGreedyOfUptoSaid : Prop := fnGreedyOfUptoRow.holds Tryd.pinned (OpenSpec.upto fnGreedyOfSpec)

/-- 'laws.FnAllWays', WHERE WHAT IT READS IS OF BULK AT MOST 1048576: true; the input reads as it did. -/
def fnAllWaysUptoRow : OpenClaim := { program := "ytciijkknddnigaadoor", sum := "d9a1d061af798668049c60714a6a9ebd7083c14cb736056e52ca8f5790503b21", func := "loop.example/coinmachine/laws.FnAllWays", spec := "fnAllWays", named := ["loop.example/coinmachine/impl.worths"], plainKeys := false, apart := false, laid := [("loop.example/coinmachine/impl.worths", laid_loop_example_coinmachine_impl_worths)], narrowed := true }
def FnAllWaysUptoSaid : Prop := fnAllWaysUptoRow.holds Tryd.pinned (OpenSpec.upto fnAllWaysSpec)

/-- 'laws.FnFewestOf', WHERE WHAT IT READS IS OF BULK AT MOST 1048576: true; the input reads as it did. -/
def fnFewestOfUptoRow : OpenClaim := { program := "ytciijkknddnigaadoor", sum := "d9a1d061af798668049c60714a6a9ebd7083c14cb736056e52ca8f5790503b21", func := "loop.example/coinmachine/laws.FnFewestOf", spec := "fnFewestOf", unfollowed := true, recurses := true, named := ["loop.example/coinmachine/impl.worths"], plainKeys := false, apart := false, laid := [("loop.example/coinmachine/impl.worths", laid_loop_example_coinmachine_impl_worths)], narrowed := true }
def FnFewestOfUptoSaid : Prop := fnFewestOfUptoRow.holds Tryd.pinned (OpenSpec.upto fnFewestOfSpec)

/-- 'laws.FnCanGive', WHERE WHAT IT READS IS OF BULK AT MOST 1048576: true; the input reads as it did. -/
def fnCanGiveUptoRow : OpenClaim := { program := "ytciijkknddnigaadoor", sum := "d9a1d061af798668049c60714a6a9ebd7083c14cb736056e52ca8f5790503b21", func := "loop.example/coinmachine/laws.FnCanGive", spec := "fnCanGive", unfollowed := true, recurses := true, named := ["loop.example/coinmachine/impl.worths"], plainKeys := false, apart := false, laid := [("loop.example/coinmachine/impl.worths", laid_loop_example_coinmachine_impl_worths)], narrowed := true }
def FnCanGiveUptoSaid : Prop := fnCanGiveUptoRow.holds Tryd.pinned (OpenSpec.upto fnCanGiveSpec)

/-- 'laws.FnGivenFrom', WHERE WHAT IT READS IS OF BULK AT MOST 1048576: true; the input reads as it did. -/
def fnGivenFromUptoRow : OpenClaim := { program := "ytciijkknddnigaadoor", sum := "d9a1d061af798668049c60714a6a9ebd7083c14cb736056e52ca8f5790503b21", func := "loop.example/coinmachine/laws.FnGivenFrom", spec := "fnGivenFrom", unfollowed := true, recurses := true, named := ["loop.example/coinmachine/impl.worths"], plainKeys := false, apart := false, laid := [("loop.example/coinmachine/impl.worths", laid_loop_example_coinmachine_impl_worths)], narrowed := true }
def FnGivenFromUptoSaid : Prop := fnGivenFromUptoRow.holds Tryd.pinned (OpenSpec.upto fnGivenFromSpec)

/-- 'laws.FnGreedMisses', WHERE WHAT IT READS IS OF BULK AT MOST 1048576: true; the input reads as it did. -/
def fnGreedMissesUptoRow : OpenClaim := { program := "ytciijkknddnigaadoor", sum := "d9a1d061af798668049c60714a6a9ebd7083c14cb736056e52ca8f5790503b21", func := "loop.example/coinmachine/laws.FnGreedMisses", spec := "fnGreedMisses", unfollowed := true, recurses := true, named := ["loop.example/coinmachine/impl.worths"], plainKeys := false, apart := false, laid := [("loop.example/coinmachine/impl.worths", laid_loop_example_coinmachine_impl_worths)], narrowed := true }
def FnGreedMissesUptoSaid : Prop := fnGreedMissesUptoRow.holds Tryd.pinned (OpenSpec.upto fnGreedMissesSpec)

/-- 'laws.FnExactGreedyOf', WHERE WHAT IT READS IS OF BULK AT MOST 1048576: true; the input reads as it did. -/
def fnExactGreedyOfUptoRow : OpenClaim := { program := "ytciijkknddnigaadoor", sum := "d9a1d061af798668049c60714a6a9ebd7083c14cb736056e52ca8f5790503b21", func := "loop.example/coinmachine/laws.FnExactGreedyOf", spec := "fnExactGreedyOf", named := ["loop.example/coinmachine/impl.worths"], plainKeys := false, apart := false, laid := [("loop.example/coinmachine/impl.worths", laid_loop_example_coinmachine_impl_worths)], narrowed := true }
def FnExactGreedyOfUptoSaid : Prop := fnExactGreedyOfUptoRow.holds Tryd.pinned (OpenSpec.upto fnExactGreedyOfSpec)

/-- 'laws.FnExactAllWays', WHERE WHAT IT READS IS OF BULK AT MOST 1048576: true; the input reads as it did. -/
def fnExactAllWaysUptoRow : OpenClaim := { program := "ytciijkknddnigaadoor", sum := "d9a1d061af798668049c60714a6a9ebd7083c14cb736056e52ca8f5790503b21", func := "loop.example/coinmachine/laws.FnExactAllWays", spec := "fnExactAllWays", named := ["loop.example/coinmachine/impl.worths"], plainKeys := false, apart := false, laid := [("loop.example/coinmachine/impl.worths", laid_loop_example_coinmachine_impl_worths)], narrowed := true }
def FnExactAllWaysUptoSaid : Prop := fnExactAllWaysUptoRow.holds Tryd.pinned (OpenSpec.upto fnExactAllWaysSpec)

/-- 'laws.FnExactFewestOf', WHERE WHAT IT READS IS OF BULK AT MOST 1048576: true; the input reads as it did. -/
def fnExactFewestOfUptoRow : OpenClaim := { program := "ytciijkknddnigaadoor", sum := "d9a1d061af798668049c60714a6a9ebd7083c14cb736056e52ca8f5790503b21", func := "loop.example/coinmachine/laws.FnExactFewestOf", spec := "fnExactFewestOf", unfollowed := true, recurses := true, named := ["loop.example/coinmachine/impl.worths"], plainKeys := false, apart := false, laid := [("loop.example/coinmachine/impl.worths", laid_loop_example_coinmachine_impl_worths)], narrowed := true }
def FnExactFewestOfUptoSaid : Prop := fnExactFewestOfUptoRow.holds Tryd.pinned (OpenSpec.upto fnExactFewestOfSpec)

/-- 'laws.FnExactCanGive', WHERE WHAT IT READS IS OF BULK AT MOST 1048576: true; the input reads as it did. -/
def fnExactCanGiveUptoRow : OpenClaim := { program := "ytciijkknddnigaadoor", sum := "d9a1d061af798668049c60714a6a9ebd7083c14cb736056e52ca8f5790503b21", func := "loop.example/coinmachine/laws.FnExactCanGive", spec := "fnExactCanGive", unfollowed := true, recurses := true, named := ["loop.example/coinmachine/impl.worths"], plainKeys := false, apart := false, laid := [("loop.example/coinmachine/impl.worths", laid_loop_example_coinmachine_impl_worths)], narrowed := true }
def FnExactCanGiveUptoSaid : Prop := fnExactCanGiveUptoRow.holds Tryd.pinned (OpenSpec.upto fnExactCanGiveSpec)

/-- 'laws.FnExactGivenFrom', WHERE WHAT IT READS IS OF BULK AT MOST 1048576: true; the input reads as it did. -/
def fnExactGivenFromUptoRow : OpenClaim := { program := "ytciijkknddnigaadoor", sum := "d9a1d061af798668049c60714a6a9ebd7083c14cb736056e52ca8f5790503b21", func := "loop.example/coinmachine/laws.FnExactGivenFrom", spec := "fnExactGivenFrom", unfollowed := true, recurses := true, named := ["loop.example/coinmachine/impl.worths"], plainKeys := false, apart := false, laid := [("loop.example/coinmachine/impl.worths", laid_loop_example_coinmachine_impl_worths)], narrowed := true }
def FnExactGivenFromUptoSaid : Prop := fnExactGivenFromUptoRow.holds Tryd.pinned (OpenSpec.upto fnExactGivenFromSpec)

/-- 'laws.FnExactGreedMisses', WHERE WHAT IT READS IS OF BULK AT MOST 1048576: true; the input reads as it did. -/
def fnExactGreedMissesUptoRow : OpenClaim := { program := "ytciijkknddnigaadoor", sum := "d9a1d061af798668049c60714a6a9ebd7083c14cb736056e52ca8f5790503b21", func := "loop.example/coinmachine/laws.FnExactGreedMisses", spec := "fnExactGreedMisses", unfollowed := true, recurses := true, named := ["loop.example/coinmachine/impl.worths"], plainKeys := false, apart := false, laid := [("loop.example/coinmachine/impl.worths", laid_loop_example_coinmachine_impl_worths)], narrowed := true }
def FnExactGreedMissesUptoSaid : Prop := fnExactGreedMissesUptoRow.holds Tryd.pinned (OpenSpec.upto fnExactGreedMissesSpec)

end Rows
end Go.Proofs.YtciijkknddnigaaDoor

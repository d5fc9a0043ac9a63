/-
  NARROWER THAN 'FOR EVERY INPUT', by the rows' own cells (each row's printed sentence says how): FnFewestOf: laid · FnCanGive: laid · FnGivenFrom: laid · FnGreedMisses: laid · FnExactFewestOf: laid · FnExactCanGive: laid.
  DERIVED. THE GIVEN ROWS OF THIS SEAT. 6 by the template 'for every input the law returns true; each argument reads behind the call as it read before'; 0 by the template 'total and deterministic' (their statements: YtciohflcofeebaaDoorTotals.lean).
  GIVEN WITH THE SEED: the statements are not yours to turn. If you find one false, say at which input.
  Laid BY PROGRAM, IN A SANDBOX (cutbox-rows.mjs): the forced cells as the released guide's own fill.sh prints them over the translation a9294257dc3a51f7… (all of the seat's roots in one cut). By AI agents, Wed Nov 11 2026. No macro, syntax, notation, axiom, sorry.
-/
import Derived.Test.YtciohflcofeebaaDoorChecked
import GoSem.Claim
import GoSem.ClaimJoined
import GoSem.ClaimMapViews
import Derived.JoinedTies
import Derived.KernelRfl
namespace Go.Proofs.YtciohflcofeebaaDoor
/- THE CELL 'sum', in the pinned program and in every row, IS THE sha256 OF THE DUMP (.gsa) THAT YtciohflcofeebaaDoorProg.lean LOADS. Nothing in Lean hashes anything: it is a label: what it is worth is what the hold of that sum in a sandbox is worth. -/
noncomputable def Tryd.pinned : Pinned := { name := "ytciohflcofeebaadoor", sum := "a9294257dc3a51f7fa5bdef301f3518871bfe41d2a075c0c5eeb89e41aa4bb5f", checked := Tryd.checked }
namespace Rows
def none {H : Type} : Left H := { results := [], args := [] }

/- WHAT THE LISTED PACKAGE-LEVEL VARIABLES READ AS WHEN THE CALL BEGINS. Each datum BY PROGRAM (the guide's laid-datum.mjs) off the statement by which the dump's own 'gosem.cut.vars' lays the variable. In a bare row this is a premise. The card (YtciohflcofeebaaDoorCards.lean) ties it to the program's text. -/
def laid_loop_example_coinmachine_impl_worths {H : Type} : DataW H := .agg [.lit (.int .i64 1), .lit (.int .i64 2), .lit (.int .i64 5), .lit (.int .i64 10)]

/-- 'laws.FnFewestOf': WHATEVER THE INPUT: true; the input reads as it did. -/
def fnFewestOfSpec : ChangeSpec := { name := "fnFewestOf", vars := ["loop.example/coinmachine/impl.worths"], fn := fun _ => fun
  | [d, g1] => { results := [.lit (.bool true)], args := [d], vars := [g1] }
  | _ => none }
def fnFewestOfRow : OpenClaim := { program := "ytciohflcofeebaadoor", sum := "a9294257dc3a51f7fa5bdef301f3518871bfe41d2a075c0c5eeb89e41aa4bb5f", func := "loop.example/coinmachine/laws.FnFewestOf", spec := "fnFewestOf", unfollowed := true, recurses := true, named := ["loop.example/coinmachine/impl.worths"], plainKeys := false, apart := false, laid := [("loop.example/coinmachine/impl.worths", laid_loop_example_coinmachine_impl_worths)] }
def FnFewestOfSaid : Prop := fnFewestOfRow.holds Tryd.pinned (OpenSpec.ofChange fnFewestOfSpec)

/-- ITS FALSE NEIGHBOUR: 'it returns false'. Refute it at one input. -/
def fnFewestOfWrong : ChangeSpec := { name := "fnFewestOf", vars := ["loop.example/coinmachine/impl.worths"], fn := fun _ => fun
  | [d, g1] => { results := [.lit (.bool false)], args := [d], vars := [g1] }
  | _ => none }
def FnFewestOfWrongFalsely : Prop := fnFewestOfRow.holds Tryd.pinned (OpenSpec.ofChange fnFewestOfWrong)

/-- 'laws.FnCanGive': WHATEVER THE INPUT: true; the input reads as it did. -/
def fnCanGiveSpec : ChangeSpec := { name := "fnCanGive", vars := ["loop.example/coinmachine/impl.worths"], fn := fun _ => fun
  | [d, g1] => { results := [.lit (.bool true)], args := [d], vars := [g1] }
  | _ => none }
def fnCanGiveRow : OpenClaim := { program := "ytciohflcofeebaadoor", sum := "a9294257dc3a51f7fa5bdef301f3518871bfe41d2a075c0c5eeb89e41aa4bb5f", func := "loop.example/coinmachine/laws.FnCanGive", spec := "fnCanGive", unfollowed := true, recurses := true, named := ["loop.example/coinmachine/impl.worths"], plainKeys := false, apart := false, laid := [("loop.example/coinmachine/impl.worths", laid_loop_example_coinmachine_impl_worths)] }
def FnCanGiveSaid : Prop := fnCanGiveRow.holds Tryd.pinned (OpenSpec.ofChange fnCanGiveSpec)

/-- ITS FALSE NEIGHBOUR: 'it returns false'. Refute it at one input. -/
def fnCanGiveWrong : ChangeSpec := { name := "fnCanGive", vars := ["loop.example/coinmachine/impl.worths"], fn := fun _ => fun
  | [d, g1] => { results := [.lit (.bool false)], args := [d], vars := [g1] }
  | _ => none }
def FnCanGiveWrongFalsely : Prop := fnCanGiveRow.holds Tryd.pinned (OpenSpec.ofChange fnCanGiveWrong)

/-- 'laws.FnGivenFrom': WHATEVER THE INPUT: true; the input reads as it did. -/
def fnGivenFromSpec : ChangeSpec := { name := "fnGivenFrom", vars := ["loop.example/coinmachine/impl.worths"], fn := fun _ => fun
  | [d, g1] => { results := [.lit (.bool true)], args := [d], vars := [g1] }
  | _ => none }
def fnGivenFromRow : OpenClaim := { program := "ytciohflcofeebaadoor", sum := "a9294257dc3a51f7fa5bdef301f3518871bfe41d2a075c0c5eeb89e41aa4bb5f", func := "loop.example/coinmachine/laws.FnGivenFrom", spec := "fnGivenFrom", unfollowed := true, recurses := true, named := ["loop.example/coinmachine/impl.worths"], plainKeys := false, apart := false, laid := [("loop.example/coinmachine/impl.worths", laid_loop_example_coinmachine_impl_worths)] }
def FnGivenFromSaid : Prop := fnGivenFromRow.holds Tryd.pinned (OpenSpec.ofChange fnGivenFromSpec)

/-- ITS FALSE NEIGHBOUR: 'it returns false'. Refute it at one input. -/
def fnGivenFromWrong : ChangeSpec := { name := "fnGivenFrom", vars := ["loop.example/coinmachine/impl.worths"], fn := fun _ => fun
  | [d, g1] => { results := [.lit (.bool false)], args := [d], vars := [g1] }
  | _ => none }
def FnGivenFromWrongFalsely : Prop := fnGivenFromRow.holds Tryd.pinned (OpenSpec.ofChange fnGivenFromWrong)

/-- 'laws.FnGreedMisses': WHATEVER THE INPUT: true; the input reads as it did. -/
def fnGreedMissesSpec : ChangeSpec := { name := "fnGreedMisses", vars := ["loop.example/coinmachine/impl.worths"], fn := fun _ => fun
  | [d, g1] => { results := [.lit (.bool true)], args := [d], vars := [g1] }
  | _ => none }
def fnGreedMissesRow : OpenClaim := { program := "ytciohflcofeebaadoor", sum := "a9294257dc3a51f7fa5bdef301f3518871bfe41d2a075c0c5eeb89e41aa4bb5f", func := "loop.example/coinmachine/laws.FnGreedMisses", spec := "fnGreedMisses", unfollowed := true, recurses := true, named := ["loop.example/coinmachine/impl.worths"], plainKeys := false, apart := false, laid := [("loop.example/coinmachine/impl.worths", laid_loop_example_coinmachine_impl_worths)] }
def FnGreedMissesSaid : Prop := fnGreedMissesRow.holds Tryd.pinned (OpenSpec.ofChange fnGreedMissesSpec)

/-- ITS FALSE NEIGHBOUR: 'it returns false'. Refute it at one input. -/
def fnGreedMissesWrong : ChangeSpec := { name := "fnGreedMisses", vars := ["loop.example/coinmachine/impl.worths"], fn := fun _ => fun
  | [d, g1] => { results := [.lit (.bool false)], args := [d], vars := [g1] }
  | _ => none }
def FnGreedMissesWrongFalsely : Prop := fnGreedMissesRow.holds Tryd.pinned (OpenSpec.ofChange fnGreedMissesWrong)

/-- 'laws.FnExactFewestOf': WHATEVER THE INPUT: true; the input reads as it did. -/
def fnExactFewestOfSpec : ChangeSpec := { name := "fnExactFewestOf", vars := ["loop.example/coinmachine/impl.worths"], fn := fun _ => fun
  | [d1, d2, g1] => { results := [.lit (.bool true)], args := [d1, d2], vars := [g1] }
  | _ => none }
def fnExactFewestOfRow : OpenClaim := { program := "ytciohflcofeebaadoor", sum := "a9294257dc3a51f7fa5bdef301f3518871bfe41d2a075c0c5eeb89e41aa4bb5f", func := "loop.example/coinmachine/laws.FnExactFewestOf", spec := "fnExactFewestOf", unfollowed := true, recurses := true, named := ["loop.example/coinmachine/impl.worths"], plainKeys := false, apart := false, laid := [("loop.example/coinmachine/impl.worths", laid_loop_example_coinmachine_impl_worths)] }
def FnExactFewestOfSaid : Prop := fnExactFewestOfRow.holds Tryd.pinned (OpenSpec.ofChange fnExactFewestOfSpec)

/-- ITS FALSE NEIGHBOUR: 'it returns false'. Refute it at one input. -/
def fnExactFewestOfWrong : ChangeSpec := { name := "fnExactFewestOf", vars := ["loop.example/coinmachine/impl.worths"], fn := fun _ => fun
  | [d1, d2, g1] => { results := [.lit (.bool false)], args := [d1, d2], vars := [g1] }
  | _ => none }
def FnExactFewestOfWrongFalsely : Prop := fnExactFewestOfRow.holds Tryd.pinned (OpenSpec.ofChange fnExactFewestOfWrong)

/-- 'laws.FnExactCanGive': WHATEVER THE INPUT: true; the input reads as it did. -/
def fnExactCanGiveSpec : ChangeSpec := { name := "fnExactCanGive", vars := ["loop.example/coinmachine/impl.worths"], fn := fun _ => fun
  | [d1, d2, g1] => { results := [.lit (.bool true)], args := [d1, d2], vars := [g1] }
  | _ => none }
def fnExactCanGiveRow : OpenClaim := { program := "ytciohflcofeebaadoor", sum := "a9294257dc3a51f7fa5bdef301f3518871bfe41d2a075c0c5eeb89e41aa4bb5f", func := "loop.example/coinmachine/laws.FnExactCanGive", spec := "fnExactCanGive", unfollowed := true, recurses := true, named := ["loop.example/coinmachine/impl.worths"], plainKeys := false, apart := false, laid := [("loop.example/coinmachine/impl.worths", laid_loop_example_coinmachine_impl_worths)] }
def FnExactCanGiveSaid : Prop := fnExactCanGiveRow.holds Tryd.pinned (OpenSpec.ofChange fnExactCanGiveSpec)

/-- ITS FALSE NEIGHBOUR: 'it returns false'. Refute it at one input. -/
def fnExactCanGiveWrong : ChangeSpec := { name := "fnExactCanGive", vars := ["loop.example/coinmachine/impl.worths"], fn := fun _ => fun
  | [d1, d2, g1] => { results := [.lit (.bool false)], args := [d1, d2], vars := [g1] }
  | _ => none }
def FnExactCanGiveWrongFalsely : Prop := fnExactCanGiveRow.holds Tryd.pinned (OpenSpec.ofChange fnExactCanGiveWrong)

/- THE SECOND FORM. 'bulk': how many values and letters a reading holds, each counted each time it is reached (what is shared counts as often as it is met; a slice's spare places count too). A statement '..UptoSaid' is the law's where the arguments, and the package variables that the reading takes, are together of bulk at most 1048576: NARROWER than '..Said'. Prove '..Said' where nothing that the law and all that it calls make is longer than what came in: it says more and counts as full. Else prove '..UptoSaid'. A law counts once. -/
mutual
def uptoBulk {H : Type} : DataW H → Nat
  | .lit (.string bytes) => bytes.length + 1
  | .lit _ => 1
  | .nil => 1
  | .ptr d => uptoBulk d + 1
  | .slice elems spare => uptoBulkAll elems + uptoBulkAll spare + 1
  | .agg parts => uptoBulkAll parts + 1
  | .iface _ d => uptoBulk d + 1
  | .map entries => uptoBulkEntries entries + 1
  | .held _ => 1
def uptoBulkAll {H : Type} : List (DataW H) → Nat
  | [] => 0
  | d :: r => uptoBulk d + uptoBulkAll r
def uptoBulkEntries {H : Type} : List (Lit × DataW H) → Nat
  | [] => 0
  | x :: r => uptoBulkEntry x + uptoBulkEntries r
def uptoBulkEntry {H : Type} : Lit × DataW H → Nat
  | (.string bytes, d) => bytes.length + uptoBulk d + 1
  | (_, d) => uptoBulk d + 1
 end
def uptoSmall : (H : Type) → List (DataW H) → Bool := fun _ ds => decide (uptoBulkAll ds ≤ 1048576)
def OpenSpec.upto (s : _root_.Go.ChangeSpec) : _root_.Go.OpenSpec := { _root_.Go.OpenSpec.ofChange s with cond := some uptoSmall }

/-- 'laws.FnFewestOf', WHERE WHAT IT READS IS OF BULK AT MOST 1048576: true; the input reads as it did. -/
def fnFewestOfUptoRow : OpenClaim := { program := "ytciohflcofeebaadoor", sum := "a9294257dc3a51f7fa5bdef301f3518871bfe41d2a075c0c5eeb89e41aa4bb5f", func := "loop.example/coinmachine/laws.FnFewestOf", spec := "fnFewestOf", unfollowed := true, recurses := true, named := ["loop.example/coinmachine/impl.worths"], plainKeys := false, apart := false, laid := [("loop.example/coinmachine/impl.worths", laid_loop_example_coinmachine_impl_worths)], narrowed := true }
def FnFewestOfUptoSaid : Prop := fnFewestOfUptoRow.holds Tryd.pinned (OpenSpec.upto fnFewestOfSpec)

/-- 'laws.FnCanGive', WHERE WHAT IT READS IS OF BULK AT MOST 1048576: true; the input reads as it did. -/
def fnCanGiveUptoRow : OpenClaim := { program := "ytciohflcofeebaadoor", sum := "a9294257dc3a51f7fa5bdef301f3518871bfe41d2a075c0c5eeb89e41aa4bb5f", func := "loop.example/coinmachine/laws.FnCanGive", spec := "fnCanGive", unfollowed := true, recurses := true, named := ["loop.example/coinmachine/impl.worths"], plainKeys := false, apart := false, laid := [("loop.example/coinmachine/impl.worths", laid_loop_example_coinmachine_impl_worths)], narrowed := true }
def FnCanGiveUptoSaid : Prop := fnCanGiveUptoRow.holds Tryd.pinned (OpenSpec.upto fnCanGiveSpec)

/-- 'laws.FnGivenFrom', WHERE WHAT IT READS IS OF BULK AT MOST 1048576: true; the input reads as it did. -/
def fnGivenFromUptoRow : OpenClaim := { program := "ytciohflcofeebaadoor", sum := "a9294257dc3a51f7fa5bdef301f3518871bfe41d2a075c0c5eeb89e41aa4bb5f", func := "loop.example/coinmachine/laws.FnGivenFrom", spec := "fnGivenFrom", unfollowed := true, recurses := true, named := ["loop.example/coinmachine/impl.worths"], plainKeys := false, apart := false, laid := [("loop.example/coinmachine/impl.worths", laid_loop_example_coinmachine_impl_worths)], narrowed := true }
def FnGivenFromUptoSaid : Prop := fnGivenFromUptoRow.holds Tryd.pinned (OpenSpec.upto fnGivenFromSpec)

/-- 'laws.FnGreedMisses', WHERE WHAT IT READS IS OF BULK AT MOST 1048576: true; the input reads as it did. -/
def fnGreedMissesUptoRow : OpenClaim := { program := "ytciohflcofeebaadoor", sum := "a9294257dc3a51f7fa5bdef301f3518871bfe41d2a075c0c5eeb89e41aa4bb5f", func := "loop.example/coinmachine/laws.FnGreedMisses", spec := "fnGreedMisses", unfollowed := true, recurses := true, named := ["loop.example/coinmachine/impl.worths"], plainKeys := false, apart := false, laid := [("loop.example/coinmachine/impl.worths", laid_loop_example_coinmachine_impl_worths)], narrowed := true }
def FnGreedMissesUptoSaid : Prop := fnGreedMissesUptoRow.holds Tryd.pinned (OpenSpec.upto fnGreedMissesSpec)

/-- 'laws.FnExactFewestOf', WHERE WHAT IT READS IS OF BULK AT MOST 1048576: true; the input reads as it did. -/
def fnExactFewestOfUptoRow : OpenClaim := { program := "ytciohflcofeebaadoor", sum := "a9294257dc3a51f7fa5bdef301f3518871bfe41d2a075c0c5eeb89e41aa4bb5f", func := "loop.example/coinmachine/laws.FnExactFewestOf", spec := "fnExactFewestOf", unfollowed := true, recurses := true, named := ["loop.example/coinmachine/impl.worths"], plainKeys := false, apart := false, laid := [("loop.example/coinmachine/impl.worths", laid_loop_example_coinmachine_impl_worths)], narrowed := true }
def FnExactFewestOfUptoSaid : Prop := fnExactFewestOfUptoRow.holds Tryd.pinned (OpenSpec.upto fnExactFewestOfSpec)

/-- 'laws.FnExactCanGive', WHERE WHAT IT READS IS OF BULK AT MOST 1048576: true; the input reads as it did. -/
def fnExactCanGiveUptoRow : OpenClaim := { program := "ytciohflcofeebaadoor", sum := "a9294257dc3a51f7fa5bdef301f3518871bfe41d2a075c0c5eeb89e41aa4bb5f", func := "loop.example/coinmachine/laws.FnExactCanGive", spec := "fnExactCanGive", unfollowed := true, recurses := true, named := ["loop.example/coinmachine/impl.worths"], plainKeys := false, apart := false, laid := [("loop.example/coinmachine/impl.worths", laid_loop_example_coinmachine_impl_worths)], narrowed := true }
def FnExactCanGiveUptoSaid : Prop := fnExactCanGiveUptoRow.holds Tryd.pinned (OpenSpec.upto fnExactCanGiveSpec)

end Rows
end Go.Proofs.YtciohflcofeebaaDoor

/-
  NARROWER THAN 'FOR EVERY INPUT', by the rows' own cells (each row's printed sentence says how): FnTapeText: laid · FnReadTape: laid · FnWrongEntry: laid · FnTakingsOf: laid · FnWrittenFor: laid.
  DERIVED. THE GIVEN ROWS OF THIS SEAT. 5 by the template 'for every input the law returns true; each argument reads behind the call as it read before'; 0 by the template 'total and deterministic' (their statements: YtnoccmghclmpnaaDoorTotals.lean).
  GIVEN WITH THE SEED: the statements are not yours to turn. If you find one false, say at which input.
  Laid BY PROGRAM, IN A SANDBOX (cutbox-rows.mjs): the forced cells as the released guide's own fill.sh prints them over the translation ffebc4b4d1c1eb85… (all of the seat's roots in one cut). By AI agents, Wed Nov 11 2026. No macro, syntax, notation, axiom, sorry.
-/
import Derived.Test.YtnoccmghclmpnaaDoorChecked
import GoSem.Claim
import GoSem.ClaimJoined
import GoSem.ClaimMapViews
import Derived.JoinedTies
import Derived.KernelRfl
namespace Go.Proofs.YtnoccmghclmpnaaDoor
/- THE CELL 'sum', in the pinned program and in every row, IS THE sha256 OF THE DUMP (.gsa) THAT YtnoccmghclmpnaaDoorProg.lean LOADS. Nothing in Lean hashes anything: it is a label: what it is worth is what the hold of that sum in a sandbox is worth. -/
noncomputable def Tryd.pinned : Pinned := { name := "ytnoccmghclmpnaadoor", sum := "ffebc4b4d1c1eb8527955ccb52f012d862cdc5fe667f418fec57efa319e6fcaa", checked := Tryd.checked }
namespace Rows
def none {H : Type} : Left H := { results := [], args := [] }

/- WHAT THE LISTED PACKAGE-LEVEL VARIABLES READ AS WHEN THE CALL BEGINS. Each datum BY PROGRAM (the guide's laid-datum.mjs) off the statement by which the dump's own 'gosem.cut.vars' lays the variable. In a bare row this is a premise. The card (YtnoccmghclmpnaaDoorCards.lean) ties it to the program's text. -/
def laid_math_bits_deBruijn32tab {H : Type} : DataW H := .agg [.lit (.int .u8 0), .lit (.int .u8 1), .lit (.int .u8 28), .lit (.int .u8 2), .lit (.int .u8 29), .lit (.int .u8 14), .lit (.int .u8 24), .lit (.int .u8 3), .lit (.int .u8 30), .lit (.int .u8 22), .lit (.int .u8 20), .lit (.int .u8 15), .lit (.int .u8 25), .lit (.int .u8 17), .lit (.int .u8 4), .lit (.int .u8 8), .lit (.int .u8 31), .lit (.int .u8 27), .lit (.int .u8 13), .lit (.int .u8 23), .lit (.int .u8 21), .lit (.int .u8 19), .lit (.int .u8 16), .lit (.int .u8 7), .lit (.int .u8 26), .lit (.int .u8 12), .lit (.int .u8 18), .lit (.int .u8 6), .lit (.int .u8 11), .lit (.int .u8 5), .lit (.int .u8 10), .lit (.int .u8 9)]
def laid_math_bits_deBruijn64tab {H : Type} : DataW H := .agg [.lit (.int .u8 0), .lit (.int .u8 1), .lit (.int .u8 56), .lit (.int .u8 2), .lit (.int .u8 57), .lit (.int .u8 49), .lit (.int .u8 28), .lit (.int .u8 3), .lit (.int .u8 61), .lit (.int .u8 58), .lit (.int .u8 42), .lit (.int .u8 50), .lit (.int .u8 38), .lit (.int .u8 29), .lit (.int .u8 17), .lit (.int .u8 4), .lit (.int .u8 62), .lit (.int .u8 47), .lit (.int .u8 59), .lit (.int .u8 36), .lit (.int .u8 45), .lit (.int .u8 43), .lit (.int .u8 51), .lit (.int .u8 22), .lit (.int .u8 53), .lit (.int .u8 39), .lit (.int .u8 33), .lit (.int .u8 30), .lit (.int .u8 24), .lit (.int .u8 18), .lit (.int .u8 12), .lit (.int .u8 5), .lit (.int .u8 63), .lit (.int .u8 55), .lit (.int .u8 48), .lit (.int .u8 27), .lit (.int .u8 60), .lit (.int .u8 41), .lit (.int .u8 37), .lit (.int .u8 16), .lit (.int .u8 46), .lit (.int .u8 35), .lit (.int .u8 44), .lit (.int .u8 21), .lit (.int .u8 52), .lit (.int .u8 32), .lit (.int .u8 23), .lit (.int .u8 11), .lit (.int .u8 54), .lit (.int .u8 26), .lit (.int .u8 40), .lit (.int .u8 15), .lit (.int .u8 34), .lit (.int .u8 20), .lit (.int .u8 31), .lit (.int .u8 10), .lit (.int .u8 25), .lit (.int .u8 14), .lit (.int .u8 19), .lit (.int .u8 9), .lit (.int .u8 13), .lit (.int .u8 8), .lit (.int .u8 7), .lit (.int .u8 6)]
def laid_internal_strconv_uint64pow10 {H : Type} : DataW H := .agg [.lit (.int .u64 1), .lit (.int .u64 10), .lit (.int .u64 100), .lit (.int .u64 1000), .lit (.int .u64 10000), .lit (.int .u64 100000), .lit (.int .u64 1000000), .lit (.int .u64 10000000), .lit (.int .u64 100000000), .lit (.int .u64 1000000000), .lit (.int .u64 10000000000), .lit (.int .u64 100000000000), .lit (.int .u64 1000000000000), .lit (.int .u64 10000000000000), .lit (.int .u64 100000000000000), .lit (.int .u64 1000000000000000), .lit (.int .u64 10000000000000000), .lit (.int .u64 100000000000000000), .lit (.int .u64 1000000000000000000), .lit (.int .u64 10000000000000000000)]
def laid_loop_example_coinmachine_impl_worths {H : Type} : DataW H := .agg [.lit (.int .i64 1), .lit (.int .i64 2), .lit (.int .i64 5), .lit (.int .i64 10)]
def laid_loop_example_coinmachine_impl_greatest {H : Type} : DataW H := .agg [.lit (.int .i64 2), .lit (.int .i64 9), .lit (.int .i64 1), .lit (.int .i64 3), .lit (.int .i64 900), .lit (.int .i64 996)]

/-- 'laws.FnTapeText': WHATEVER THE INPUT: true; the input reads as it did. -/
def fnTapeTextSpec : ChangeSpec := { name := "fnTapeText", vars := ["loop.example/coinmachine/impl.greatest", "loop.example/coinmachine/impl.worths"], fn := fun _ => fun
  | [d, g1, g2] => { results := [.lit (.bool true)], args := [d], vars := [g1, g2] }
  | _ => none }
def fnTapeTextRow : OpenClaim := { program := "ytnoccmghclmpnaadoor", sum := "ffebc4b4d1c1eb8527955ccb52f012d862cdc5fe667f418fec57efa319e6fcaa", func := "loop.example/coinmachine/laws.FnTapeText", spec := "fnTapeText", unfollowed := true, recurses := true, named := ["loop.example/coinmachine/impl.greatest", "internal/strconv.uint64pow10", "math/bits.deBruijn32tab", "math/bits.deBruijn64tab", "loop.example/coinmachine/impl.worths"], plainKeys := false, apart := false, laid := [("math/bits.deBruijn32tab", laid_math_bits_deBruijn32tab), ("math/bits.deBruijn64tab", laid_math_bits_deBruijn64tab), ("internal/strconv.uint64pow10", laid_internal_strconv_uint64pow10), ("loop.example/coinmachine/impl.worths", laid_loop_example_coinmachine_impl_worths), ("loop.example/coinmachine/impl.greatest", laid_loop_example_coinmachine_impl_greatest)] }
def FnTapeTextSaid : Prop := fnTapeTextRow.holds Tryd.pinned (OpenSpec.ofChange fnTapeTextSpec)

/-- ITS FALSE NEIGHBOUR: 'it returns false'. Refute it at one input. -/
def fnTapeTextWrong : ChangeSpec := { name := "fnTapeText", vars := ["loop.example/coinmachine/impl.greatest", "loop.example/coinmachine/impl.worths"], fn := fun _ => fun
  | [d, g1, g2] => { results := [.lit (.bool false)], args := [d], vars := [g1, g2] }
  | _ => none }
def FnTapeTextWrongFalsely : Prop := fnTapeTextRow.holds Tryd.pinned (OpenSpec.ofChange fnTapeTextWrong)

/-- 'laws.FnReadTape': WHATEVER THE INPUT: true; the input reads as it did. -/
def fnReadTapeSpec : ChangeSpec := { name := "fnReadTape", vars := ["loop.example/coinmachine/impl.greatest", "loop.example/coinmachine/impl.worths"], fn := fun _ => fun
  | [d, g1, g2] => { results := [.lit (.bool true)], args := [d], vars := [g1, g2] }
  | _ => none }
def fnReadTapeRow : OpenClaim := { program := "ytnoccmghclmpnaadoor", sum := "ffebc4b4d1c1eb8527955ccb52f012d862cdc5fe667f418fec57efa319e6fcaa", func := "loop.example/coinmachine/laws.FnReadTape", spec := "fnReadTape", unfollowed := true, recurses := true, named := ["loop.example/coinmachine/impl.greatest", "internal/strconv.uint64pow10", "math/bits.deBruijn32tab", "math/bits.deBruijn64tab", "loop.example/coinmachine/impl.worths"], plainKeys := false, apart := false, laid := [("math/bits.deBruijn32tab", laid_math_bits_deBruijn32tab), ("math/bits.deBruijn64tab", laid_math_bits_deBruijn64tab), ("internal/strconv.uint64pow10", laid_internal_strconv_uint64pow10), ("loop.example/coinmachine/impl.worths", laid_loop_example_coinmachine_impl_worths), ("loop.example/coinmachine/impl.greatest", laid_loop_example_coinmachine_impl_greatest)] }
def FnReadTapeSaid : Prop := fnReadTapeRow.holds Tryd.pinned (OpenSpec.ofChange fnReadTapeSpec)

/-- ITS FALSE NEIGHBOUR: 'it returns false'. Refute it at one input. -/
def fnReadTapeWrong : ChangeSpec := { name := "fnReadTape", vars := ["loop.example/coinmachine/impl.greatest", "loop.example/coinmachine/impl.worths"], fn := fun _ => fun
  | [d, g1, g2] => { results := [.lit (.bool false)], args := [d], vars := [g1, g2] }
  | _ => none }
def FnReadTapeWrongFalsely : Prop := fnReadTapeRow.holds Tryd.pinned (OpenSpec.ofChange fnReadTapeWrong)

/-- 'laws.FnWrongEntry': WHATEVER THE INPUT: true; the input reads as it did. -/
def fnWrongEntrySpec : ChangeSpec := { name := "fnWrongEntry", vars := ["loop.example/coinmachine/impl.greatest", "loop.example/coinmachine/impl.worths"], fn := fun _ => fun
  | [d, g1, g2] => { results := [.lit (.bool true)], args := [d], vars := [g1, g2] }
  | _ => none }
def fnWrongEntryRow : OpenClaim := { program := "ytnoccmghclmpnaadoor", sum := "ffebc4b4d1c1eb8527955ccb52f012d862cdc5fe667f418fec57efa319e6fcaa", func := "loop.example/coinmachine/laws.FnWrongEntry", spec := "fnWrongEntry", unfollowed := true, recurses := true, named := ["loop.example/coinmachine/impl.greatest", "loop.example/coinmachine/impl.worths"], plainKeys := false, apart := false, laid := [("loop.example/coinmachine/impl.worths", laid_loop_example_coinmachine_impl_worths), ("loop.example/coinmachine/impl.greatest", laid_loop_example_coinmachine_impl_greatest)] }
def FnWrongEntrySaid : Prop := fnWrongEntryRow.holds Tryd.pinned (OpenSpec.ofChange fnWrongEntrySpec)

/-- ITS FALSE NEIGHBOUR: 'it returns false'. Refute it at one input. -/
def fnWrongEntryWrong : ChangeSpec := { name := "fnWrongEntry", vars := ["loop.example/coinmachine/impl.greatest", "loop.example/coinmachine/impl.worths"], fn := fun _ => fun
  | [d, g1, g2] => { results := [.lit (.bool false)], args := [d], vars := [g1, g2] }
  | _ => none }
def FnWrongEntryWrongFalsely : Prop := fnWrongEntryRow.holds Tryd.pinned (OpenSpec.ofChange fnWrongEntryWrong)

/-- 'laws.FnTakingsOf': WHATEVER THE INPUT: true; the input reads as it did. -/
def fnTakingsOfSpec : ChangeSpec := { name := "fnTakingsOf", vars := ["loop.example/coinmachine/impl.greatest", "loop.example/coinmachine/impl.worths"], fn := fun _ => fun
  | [d1, d2, g1, g2] => { results := [.lit (.bool true)], args := [d1, d2], vars := [g1, g2] }
  | _ => none }
def fnTakingsOfRow : OpenClaim := { program := "ytnoccmghclmpnaadoor", sum := "ffebc4b4d1c1eb8527955ccb52f012d862cdc5fe667f418fec57efa319e6fcaa", func := "loop.example/coinmachine/laws.FnTakingsOf", spec := "fnTakingsOf", unfollowed := true, recurses := true, named := ["loop.example/coinmachine/impl.greatest", "loop.example/coinmachine/impl.worths"], plainKeys := false, apart := false, laid := [("loop.example/coinmachine/impl.worths", laid_loop_example_coinmachine_impl_worths), ("loop.example/coinmachine/impl.greatest", laid_loop_example_coinmachine_impl_greatest)] }
def FnTakingsOfSaid : Prop := fnTakingsOfRow.holds Tryd.pinned (OpenSpec.ofChange fnTakingsOfSpec)

/-- ITS FALSE NEIGHBOUR: 'it returns false'. Refute it at one input. -/
def fnTakingsOfWrong : ChangeSpec := { name := "fnTakingsOf", vars := ["loop.example/coinmachine/impl.greatest", "loop.example/coinmachine/impl.worths"], fn := fun _ => fun
  | [d1, d2, g1, g2] => { results := [.lit (.bool false)], args := [d1, d2], vars := [g1, g2] }
  | _ => none }
def FnTakingsOfWrongFalsely : Prop := fnTakingsOfRow.holds Tryd.pinned (OpenSpec.ofChange fnTakingsOfWrong)

/-- 'laws.FnWrittenFor': WHATEVER THE INPUT: true; the input reads as it did. -/
def fnWrittenForSpec : ChangeSpec := { name := "fnWrittenFor", vars := ["loop.example/coinmachine/impl.worths", "loop.example/coinmachine/impl.greatest"], fn := fun _ => fun
  | [d, g1, g2] => { results := [.lit (.bool true)], args := [d], vars := [g1, g2] }
  | _ => none }
def fnWrittenForRow : OpenClaim := { program := "ytnoccmghclmpnaadoor", sum := "ffebc4b4d1c1eb8527955ccb52f012d862cdc5fe667f418fec57efa319e6fcaa", func := "loop.example/coinmachine/laws.FnWrittenFor", spec := "fnWrittenFor", unfollowed := true, recurses := true, named := ["loop.example/coinmachine/impl.worths", "loop.example/coinmachine/impl.greatest"], plainKeys := false, apart := false, laid := [("loop.example/coinmachine/impl.worths", laid_loop_example_coinmachine_impl_worths), ("loop.example/coinmachine/impl.greatest", laid_loop_example_coinmachine_impl_greatest)] }
def FnWrittenForSaid : Prop := fnWrittenForRow.holds Tryd.pinned (OpenSpec.ofChange fnWrittenForSpec)

/-- ITS FALSE NEIGHBOUR: 'it returns false'. Refute it at one input. -/
def fnWrittenForWrong : ChangeSpec := { name := "fnWrittenFor", vars := ["loop.example/coinmachine/impl.worths", "loop.example/coinmachine/impl.greatest"], fn := fun _ => fun
  | [d, g1, g2] => { results := [.lit (.bool false)], args := [d], vars := [g1, g2] }
  | _ => none }
def FnWrittenForWrongFalsely : Prop := fnWrittenForRow.holds Tryd.pinned (OpenSpec.ofChange fnWrittenForWrong)

/- THE SECOND FORM. 'bulk': how many values and letters a reading holds, each counted each time it is reached (what is shared counts as often as it is met; a slice's spare places count too). A statement '..UptoSaid' is the law's where the arguments, and the package variables that the reading takes, are together of bulk at most 1048576: NARROWER than '..Said'. Prove '..Said' where nothing that the law and all that it calls make is longer than what came in: it says more and counts as full. Else prove '..UptoSaid'. A law counts once. -/
mutual
def uptoBulk {H : Type} : DataW H → Nat
  | .lit (.string bytes) => bytes.length + 1
  | .lit _ => 1
  | .nil => 1
  | .ptr d => uptoBulk d + 1
  | .slice elems spare => uptoBulkAll elems + uptoBulkAll spare + 1
  | .agg parts => uptoBulkAll parts + 1
  | .iface _ d => uptoBulk d + 1
  | .map entries => uptoBulkEntries entries + 1
  | .held _ => 1
def uptoBulkAll {H : Type} : List (DataW H) → Nat
  | [] => 0
  | d :: r => uptoBulk d + uptoBulkAll r
def uptoBulkEntries {H : Type} : List (Lit × DataW H) → Nat
  | [] => 0
  | x :: r => uptoBulkEntry x + uptoBulkEntries r
def uptoBulkEntry {H : Type} : Lit × DataW H → Nat
  | (.string bytes, d) => bytes.length + uptoBulk d + 1
  | (_, d) => uptoBulk d + 1
 end
def uptoSmall : (H : Type) → List (DataW H) → Bool := fun _ ds => decide (uptoBulkAll ds ≤ 1048576)
def OpenSpec.upto (s : _root_.Go.ChangeSpec) : _root_.Go.OpenSpec := { _root_.Go.OpenSpec.ofChange s with cond := some uptoSmall }

/-- 'laws.FnTapeText', WHERE WHAT IT READS IS OF BULK AT MOST 1048576: true; the input reads as it did. -/
def fnTapeTextUptoRow : OpenClaim := { program := "ytnoccmghclmpnaadoor", sum := "ffebc4b4d1c1eb8527955ccb52f012d862cdc5fe667f418fec57efa319e6fcaa", func := "loop.example/coinmachine/laws.FnTapeText", spec := "fnTapeText", unfollowed := true, recurses := true, named := ["loop.example/coinmachine/impl.greatest", "internal/strconv.uint64pow10", "math/bits.deBruijn32tab", "math/bits.deBruijn64tab", "loop.example/coinmachine/impl.worths"], plainKeys := false, apart := false, laid := [("math/bits.deBruijn32tab", laid_math_bits_deBruijn32tab), ("math/bits.deBruijn64tab", laid_math_bits_deBruijn64tab), ("internal/strconv.uint64pow10", laid_internal_strconv_uint64pow10), ("loop.example/coinmachine/impl.worths", laid_loop_example_coinmachine_impl_worths), ("loop.example/coinmachine/impl.greatest", laid_loop_example_coinmachine_impl_greatest)], narrowed := true }
def FnTapeTextUptoSaid : Prop := fnTapeTextUptoRow.holds Tryd.pinned (OpenSpec.upto fnTapeTextSpec)

/-- 'laws.FnReadTape', WHERE WHAT IT READS IS OF BULK AT MOST 1048576: true; the input reads as it did. -/
def fnReadTapeUptoRow : OpenClaim := { program := "ytnoccmghclmpnaadoor", sum := "ffebc4b4d1c1eb8527955ccb52f012d862cdc5fe667f418fec57efa319e6fcaa", func := "loop.example/coinmachine/laws.FnReadTape", spec := "fnReadTape", unfollowed := true, recurses := true, named := ["loop.example/coinmachine/impl.greatest", "internal/strconv.uint64pow10", "math/bits.deBruijn32tab", "math/bits.deBruijn64tab", "loop.example/coinmachine/impl.worths"], plainKeys := false, apart := false, laid := [("math/bits.deBruijn32tab", laid_math_bits_deBruijn32tab), ("math/bits.deBruijn64tab", laid_math_bits_deBruijn64tab), ("internal/strconv.uint64pow10", laid_internal_strconv_uint64pow10), ("loop.example/coinmachine/impl.worths", laid_loop_example_coinmachine_impl_worths), ("loop.example/coinmachine/impl.greatest", laid_loop_example_coinmachine_impl_greatest)], narrowed := true }
def FnReadTapeUptoSaid : Prop := fnReadTapeUptoRow.holds Tryd.pinned (OpenSpec.upto fnReadTapeSpec)

/-- 'laws.FnWrongEntry', WHERE WHAT IT READS IS OF BULK AT MOST 1048576: true; the input reads as it did. -/
def fnWrongEntryUptoRow : OpenClaim := { program := "ytnoccmghclmpnaadoor", sum := "ffebc4b4d1c1eb8527955ccb52f012d862cdc5fe667f418fec57efa319e6fcaa", func := "loop.example/coinmachine/laws.FnWrongEntry", spec := "fnWrongEntry", unfollowed := true, recurses := true, named := ["loop.example/coinmachine/impl.greatest", "loop.example/coinmachine/impl.worths"], plainKeys := false, apart := false, laid := [("loop.example/coinmachine/impl.worths", laid_loop_example_coinmachine_impl_worths), ("loop.example/coinmachine/impl.greatest", laid_loop_example_coinmachine_impl_greatest)], narrowed := true }
def FnWrongEntryUptoSaid : Prop := fnWrongEntryUptoRow.holds Tryd.pinned (OpenSpec.upto fnWrongEntrySpec)

/-- 'laws.FnTakingsOf', WHERE WHAT IT READS IS OF BULK AT MOST 1048576: true; the input reads as it did. -/
def fnTakingsOfUptoRow : OpenClaim := { program := "ytnoccmghclmpnaadoor", sum := "ffebc4b4d1c1eb8527955ccb52f012d862cdc5fe667f418fec57efa319e6fcaa", func := "loop.example/coinmachine/laws.FnTakingsOf", spec := "fnTakingsOf", unfollowed := true, recurses := true, named := ["loop.example/coinmachine/impl.greatest", "loop.example/coinmachine/impl.worths"], plainKeys := false, apart := false, laid := [("loop.example/coinmachine/impl.worths", laid_loop_example_coinmachine_impl_worths), ("loop.example/coinmachine/impl.greatest", laid_loop_example_coinmachine_impl_greatest)], narrowed := true }
def FnTakingsOfUptoSaid : Prop := fnTakingsOfUptoRow.holds Tryd.pinned (OpenSpec.upto fnTakingsOfSpec)

/-- 'laws.FnWrittenFor', WHERE WHAT IT READS IS OF BULK AT MOST 1048576: true; the input reads as it did. -/
def fnWrittenForUptoRow : OpenClaim := { program := "ytnoccmghclmpnaadoor", sum := "ffebc4b4d1c1eb8527955ccb52f012d862cdc5fe667f418fec57efa319e6fcaa", func := "loop.example/coinmachine/laws.FnWrittenFor", spec := "fnWrittenFor", unfollowed := true, recurses := true, named := ["loop.example/coinmachine/impl.worths", "loop.example/coinmachine/impl.greatest"], plainKeys := false, apart := false, laid := [("loop.example/coinmachine/impl.worths", laid_loop_example_coinmachine_impl_worths), ("loop.example/coinmachine/impl.greatest", laid_loop_example_coinmachine_impl_greatest)], narrowed := true }
def FnWrittenForUptoSaid : Prop := fnWrittenForUptoRow.holds Tryd.pinned (OpenSpec.upto fnWrittenForSpec)

end Rows
end Go.Proofs.YtnoccmghclmpnaaDoor

/-
  NARROWER THAN 'FOR EVERY INPUT', by the rows' own cells (each row's printed sentence says how): FnRunOf: laid · FnSoldBy: laid · FnCoinsPut: laid · FnActedBy: laid · FnRunBy: laid · FnWrittenFor: laid · FnWrongEntry: laid · FnTakingsOf: laid · FnTapeText: laid · FnReadTape: laid.
  DERIVED. THE GIVEN ROWS OF THIS SEAT. 10 by the template 'for every input the law returns true; each argument reads behind the call as it read before'; 0 by the template 'total and deterministic' (their statements: YtmhipmllpkkhjaaDoorTotals.lean).
  GIVEN WITH THE SEED: the statements are not yours to turn. If you find one false, say at which input.
  Laid BY PROGRAM, IN A SANDBOX (cutbox-rows.mjs): the forced cells as the released guide's own fill.sh prints them over the translation c8edc414d428ad98… (all of the seat's roots in one cut). By AI agents, Wed Nov 11 2026. No macro, syntax, notation, axiom, sorry.
-/
import Derived.Test.YtmhipmllpkkhjaaDoorChecked
import GoSem.Claim
import GoSem.ClaimJoined
import GoSem.ClaimMapViews
import Derived.JoinedTies
import Derived.KernelRfl
namespace Go.Proofs.YtmhipmllpkkhjaaDoor
/- THE CELL 'sum', in the pinned program and in every row, IS THE sha256 OF THE DUMP (.gsa) THAT YtmhipmllpkkhjaaDoorProg.lean LOADS. Nothing in Lean hashes anything: it is a label: what it is worth is what the hold of that sum in a sandbox is worth. -/
noncomputable def Tryd.pinned : Pinned := { name := "ytmhipmllpkkhjaadoor", sum := "c8edc414d428ad98d0258b280819f375440a6275168f87575a5f8e59133163f8", checked := Tryd.checked }
namespace Rows
def none {H : Type} : Left H := { results := [], args := [] }

/- WHAT THE LISTED PACKAGE-LEVEL VARIABLES READ AS WHEN THE CALL BEGINS. Each datum BY PROGRAM (the guide's laid-datum.mjs) off the statement by which the dump's own 'gosem.cut.vars' lays the variable. In a bare row this is a premise. The card (YtmhipmllpkkhjaaDoorCards.lean) ties it to the program's text. -/
def laid_loop_example_coinmachine_impl_worths {H : Type} : DataW H := .agg [.lit (.int .i64 1), .lit (.int .i64 2), .lit (.int .i64 5), .lit (.int .i64 10)]
def laid_loop_example_coinmachine_impl_greatest {H : Type} : DataW H := .agg [.lit (.int .i64 2), .lit (.int .i64 9), .lit (.int .i64 1), .lit (.int .i64 3), .lit (.int .i64 900), .lit (.int .i64 996)]
def laid_math_bits_deBruijn32tab {H : Type} : DataW H := .agg [.lit (.int .u8 0), .lit (.int .u8 1), .lit (.int .u8 28), .lit (.int .u8 2), .lit (.int .u8 29), .lit (.int .u8 14), .lit (.int .u8 24), .lit (.int .u8 3), .lit (.int .u8 30), .lit (.int .u8 22), .lit (.int .u8 20), .lit (.int .u8 15), .lit (.int .u8 25), .lit (.int .u8 17), .lit (.int .u8 4), .lit (.int .u8 8), .lit (.int .u8 31), .lit (.int .u8 27), .lit (.int .u8 13), .lit (.int .u8 23), .lit (.int .u8 21), .lit (.int .u8 19), .lit (.int .u8 16), .lit (.int .u8 7), .lit (.int .u8 26), .lit (.int .u8 12), .lit (.int .u8 18), .lit (.int .u8 6), .lit (.int .u8 11), .lit (.int .u8 5), .lit (.int .u8 10), .lit (.int .u8 9)]
def laid_math_bits_deBruijn64tab {H : Type} : DataW H := .agg [.lit (.int .u8 0), .lit (.int .u8 1), .lit (.int .u8 56), .lit (.int .u8 2), .lit (.int .u8 57), .lit (.int .u8 49), .lit (.int .u8 28), .lit (.int .u8 3), .lit (.int .u8 61), .lit (.int .u8 58), .lit (.int .u8 42), .lit (.int .u8 50), .lit (.int .u8 38), .lit (.int .u8 29), .lit (.int .u8 17), .lit (.int .u8 4), .lit (.int .u8 62), .lit (.int .u8 47), .lit (.int .u8 59), .lit (.int .u8 36), .lit (.int .u8 45), .lit (.int .u8 43), .lit (.int .u8 51), .lit (.int .u8 22), .lit (.int .u8 53), .lit (.int .u8 39), .lit (.int .u8 33), .lit (.int .u8 30), .lit (.int .u8 24), .lit (.int .u8 18), .lit (.int .u8 12), .lit (.int .u8 5), .lit (.int .u8 63), .lit (.int .u8 55), .lit (.int .u8 48), .lit (.int .u8 27), .lit (.int .u8 60), .lit (.int .u8 41), .lit (.int .u8 37), .lit (.int .u8 16), .lit (.int .u8 46), .lit (.int .u8 35), .lit (.int .u8 44), .lit (.int .u8 21), .lit (.int .u8 52), .lit (.int .u8 32), .lit (.int .u8 23), .lit (.int .u8 11), .lit (.int .u8 54), .lit (.int .u8 26), .lit (.int .u8 40), .lit (.int .u8 15), .lit (.int .u8 34), .lit (.int .u8 20), .lit (.int .u8 31), .lit (.int .u8 10), .lit (.int .u8 25), .lit (.int .u8 14), .lit (.int .u8 19), .lit (.int .u8 9), .lit (.int .u8 13), .lit (.int .u8 8), .lit (.int .u8 7), .lit (.int .u8 6)]
def laid_internal_strconv_uint64pow10 {H : Type} : DataW H := .agg [.lit (.int .u64 1), .lit (.int .u64 10), .lit (.int .u64 100), .lit (.int .u64 1000), .lit (.int .u64 10000), .lit (.int .u64 100000), .lit (.int .u64 1000000), .lit (.int .u64 10000000), .lit (.int .u64 100000000), .lit (.int .u64 1000000000), .lit (.int .u64 10000000000), .lit (.int .u64 100000000000), .lit (.int .u64 1000000000000), .lit (.int .u64 10000000000000), .lit (.int .u64 100000000000000), .lit (.int .u64 1000000000000000), .lit (.int .u64 10000000000000000), .lit (.int .u64 100000000000000000), .lit (.int .u64 1000000000000000000), .lit (.int .u64 10000000000000000000)]

/-- 'laws.FnRunOf': WHATEVER THE INPUT: true; the input reads as it did. -/
def fnRunOfSpec : ChangeSpec := { name := "fnRunOf", vars := ["loop.example/coinmachine/impl.worths"], fn := fun _ => fun
  | [d, g1] => { results := [.lit (.bool true)], args := [d], vars := [g1] }
  | _ => none }
def fnRunOfRow : OpenClaim := { program := "ytmhipmllpkkhjaadoor", sum := "c8edc414d428ad98d0258b280819f375440a6275168f87575a5f8e59133163f8", func := "loop.example/coinmachine/laws.FnRunOf", spec := "fnRunOf", unfollowed := true, recurses := true, named := ["loop.example/coinmachine/impl.worths"], plainKeys := false, apart := false, laid := [("loop.example/coinmachine/impl.worths", laid_loop_example_coinmachine_impl_worths)] }
def FnRunOfSaid : Prop := fnRunOfRow.holds Tryd.pinned (OpenSpec.ofChange fnRunOfSpec)

/-- ITS FALSE NEIGHBOUR: 'it returns false'. Refute it at one input. -/
def fnRunOfWrong : ChangeSpec := { name := "fnRunOf", vars := ["loop.example/coinmachine/impl.worths"], fn := fun _ => fun
  | [d, g1] => { results := [.lit (.bool false)], args := [d], vars := [g1] }
  | _ => none }
def FnRunOfWrongFalsely : Prop := fnRunOfRow.holds Tryd.pinned (OpenSpec.ofChange fnRunOfWrong)

/-- 'laws.FnSoldBy': WHATEVER THE INPUT: true; the input reads as it did. -/
def fnSoldBySpec : ChangeSpec := { name := "fnSoldBy", vars := ["loop.example/coinmachine/impl.worths"], fn := fun _ => fun
  | [d1, d2, g1] => { results := [.lit (.bool true)], args := [d1, d2], vars := [g1] }
  | _ => none }
def fnSoldByRow : OpenClaim := { program := "ytmhipmllpkkhjaadoor", sum := "c8edc414d428ad98d0258b280819f375440a6275168f87575a5f8e59133163f8", func := "loop.example/coinmachine/laws.FnSoldBy", spec := "fnSoldBy", unfollowed := true, recurses := true, named := ["loop.example/coinmachine/impl.worths"], plainKeys := false, apart := false, laid := [("loop.example/coinmachine/impl.worths", laid_loop_example_coinmachine_impl_worths)] }
def FnSoldBySaid : Prop := fnSoldByRow.holds Tryd.pinned (OpenSpec.ofChange fnSoldBySpec)

/-- ITS FALSE NEIGHBOUR: 'it returns false'. Refute it at one input. -/
def fnSoldByWrong : ChangeSpec := { name := "fnSoldBy", vars := ["loop.example/coinmachine/impl.worths"], fn := fun _ => fun
  | [d1, d2, g1] => { results := [.lit (.bool false)], args := [d1, d2], vars := [g1] }
  | _ => none }
def FnSoldByWrongFalsely : Prop := fnSoldByRow.holds Tryd.pinned (OpenSpec.ofChange fnSoldByWrong)

/-- 'laws.FnCoinsPut': WHATEVER THE INPUT: true; the input reads as it did. -/
def fnCoinsPutSpec : ChangeSpec := { name := "fnCoinsPut", vars := ["loop.example/coinmachine/impl.worths"], fn := fun _ => fun
  | [d1, d2, g1] => { results := [.lit (.bool true)], args := [d1, d2], vars := [g1] }
  | _ => none }
def fnCoinsPutRow : OpenClaim := { program := "ytmhipmllpkkhjaadoor", sum := "c8edc414d428ad98d0258b280819f375440a6275168f87575a5f8e59133163f8", func := "loop.example/coinmachine/laws.FnCoinsPut", spec := "fnCoinsPut", unfollowed := true, recurses := true, named := ["loop.example/coinmachine/impl.worths"], plainKeys := false, apart := false, laid := [("loop.example/coinmachine/impl.worths", laid_loop_example_coinmachine_impl_worths)] }
def FnCoinsPutSaid : Prop := fnCoinsPutRow.holds Tryd.pinned (OpenSpec.ofChange fnCoinsPutSpec)

/-- ITS FALSE NEIGHBOUR: 'it returns false'. Refute it at one input. -/
def fnCoinsPutWrong : ChangeSpec := { name := "fnCoinsPut", vars := ["loop.example/coinmachine/impl.worths"], fn := fun _ => fun
  | [d1, d2, g1] => { results := [.lit (.bool false)], args := [d1, d2], vars := [g1] }
  | _ => none }
def FnCoinsPutWrongFalsely : Prop := fnCoinsPutRow.holds Tryd.pinned (OpenSpec.ofChange fnCoinsPutWrong)

/-- 'laws.FnActedBy': WHATEVER THE INPUT: true; the input reads as it did. -/
def fnActedBySpec : ChangeSpec := { name := "fnActedBy", vars := ["loop.example/coinmachine/impl.worths"], fn := fun _ => fun
  | [d, g1] => { results := [.lit (.bool true)], args := [d], vars := [g1] }
  | _ => none }
def fnActedByRow : OpenClaim := { program := "ytmhipmllpkkhjaadoor", sum := "c8edc414d428ad98d0258b280819f375440a6275168f87575a5f8e59133163f8", func := "loop.example/coinmachine/laws.FnActedBy", spec := "fnActedBy", unfollowed := true, recurses := true, named := ["loop.example/coinmachine/impl.worths"], plainKeys := false, apart := false, laid := [("loop.example/coinmachine/impl.worths", laid_loop_example_coinmachine_impl_worths)] }
def FnActedBySaid : Prop := fnActedByRow.holds Tryd.pinned (OpenSpec.ofChange fnActedBySpec)

/-- ITS FALSE NEIGHBOUR: 'it returns false'. Refute it at one input. -/
def fnActedByWrong : ChangeSpec := { name := "fnActedBy", vars := ["loop.example/coinmachine/impl.worths"], fn := fun _ => fun
  | [d, g1] => { results := [.lit (.bool false)], args := [d], vars := [g1] }
  | _ => none }
def FnActedByWrongFalsely : Prop := fnActedByRow.holds Tryd.pinned (OpenSpec.ofChange fnActedByWrong)

/-- 'laws.FnRunBy': WHATEVER THE INPUT: true; the input reads as it did. -/
def fnRunBySpec : ChangeSpec := { name := "fnRunBy", vars := ["loop.example/coinmachine/impl.worths"], fn := fun _ => fun
  | [d, g1] => { results := [.lit (.bool true)], args := [d], vars := [g1] }
  | _ => none }
def fnRunByRow : OpenClaim := { program := "ytmhipmllpkkhjaadoor", sum := "c8edc414d428ad98d0258b280819f375440a6275168f87575a5f8e59133163f8", func := "loop.example/coinmachine/laws.FnRunBy", spec := "fnRunBy", unfollowed := true, recurses := true, named := ["loop.example/coinmachine/impl.worths"], plainKeys := false, apart := false, laid := [("loop.example/coinmachine/impl.worths", laid_loop_example_coinmachine_impl_worths)] }
def FnRunBySaid : Prop := fnRunByRow.holds Tryd.pinned (OpenSpec.ofChange fnRunBySpec)

/-- ITS FALSE NEIGHBOUR: 'it returns false'. Refute it at one input. -/
def fnRunByWrong : ChangeSpec := { name := "fnRunBy", vars := ["loop.example/coinmachine/impl.worths"], fn := fun _ => fun
  | [d, g1] => { results := [.lit (.bool false)], args := [d], vars := [g1] }
  | _ => none }
def FnRunByWrongFalsely : Prop := fnRunByRow.holds Tryd.pinned (OpenSpec.ofChange fnRunByWrong)

/-- 'laws.FnWrittenFor': WHATEVER THE INPUT: true; the input reads as it did. -/
def fnWrittenForSpec : ChangeSpec := { name := "fnWrittenFor", vars := ["loop.example/coinmachine/impl.worths", "loop.example/coinmachine/impl.greatest"], fn := fun _ => fun
  | [d, g1, g2] => { results := [.lit (.bool true)], args := [d], vars := [g1, g2] }
  | _ => none }
def fnWrittenForRow : OpenClaim := { program := "ytmhipmllpkkhjaadoor", sum := "c8edc414d428ad98d0258b280819f375440a6275168f87575a5f8e59133163f8", func := "loop.example/coinmachine/laws.FnWrittenFor", spec := "fnWrittenFor", unfollowed := true, recurses := true, named := ["loop.example/coinmachine/impl.worths", "loop.example/coinmachine/impl.greatest"], plainKeys := false, apart := false, laid := [("loop.example/coinmachine/impl.worths", laid_loop_example_coinmachine_impl_worths), ("loop.example/coinmachine/impl.greatest", laid_loop_example_coinmachine_impl_greatest)] }
def FnWrittenForSaid : Prop := fnWrittenForRow.holds Tryd.pinned (OpenSpec.ofChange fnWrittenForSpec)

/-- ITS FALSE NEIGHBOUR: 'it returns false'. Refute it at one input. -/
def fnWrittenForWrong : ChangeSpec := { name := "fnWrittenFor", vars := ["loop.example/coinmachine/impl.worths", "loop.example/coinmachine/impl.greatest"], fn := fun _ => fun
  | [d, g1, g2] => { results := [.lit (.bool false)], args := [d], vars := [g1, g2] }
  | _ => none }
def FnWrittenForWrongFalsely : Prop := fnWrittenForRow.holds Tryd.pinned (OpenSpec.ofChange fnWrittenForWrong)

/-- 'laws.FnWrongEntry': WHATEVER THE INPUT: true; the input reads as it did. -/
def fnWrongEntrySpec : ChangeSpec := { name := "fnWrongEntry", vars := ["loop.example/coinmachine/impl.greatest", "loop.example/coinmachine/impl.worths"], fn := fun _ => fun
  | [d, g1, g2] => { results := [.lit (.bool true)], args := [d], vars := [g1, g2] }
  | _ => none }
def fnWrongEntryRow : OpenClaim := { program := "ytmhipmllpkkhjaadoor", sum := "c8edc414d428ad98d0258b280819f375440a6275168f87575a5f8e59133163f8", func := "loop.example/coinmachine/laws.FnWrongEntry", spec := "fnWrongEntry", unfollowed := true, recurses := true, named := ["loop.example/coinmachine/impl.greatest", "loop.example/coinmachine/impl.worths"], plainKeys := false, apart := false, laid := [("loop.example/coinmachine/impl.worths", laid_loop_example_coinmachine_impl_worths), ("loop.example/coinmachine/impl.greatest", laid_loop_example_coinmachine_impl_greatest)] }
def FnWrongEntrySaid : Prop := fnWrongEntryRow.holds Tryd.pinned (OpenSpec.ofChange fnWrongEntrySpec)

/-- ITS FALSE NEIGHBOUR: 'it returns false'. Refute it at one input. -/
def fnWrongEntryWrong : ChangeSpec := { name := "fnWrongEntry", vars := ["loop.example/coinmachine/impl.greatest", "loop.example/coinmachine/impl.worths"], fn := fun _ => fun
  | [d, g1, g2] => { results := [.lit (.bool false)], args := [d], vars := [g1, g2] }
  | _ => none }
def FnWrongEntryWrongFalsely : Prop := fnWrongEntryRow.holds Tryd.pinned (OpenSpec.ofChange fnWrongEntryWrong)

/-- 'laws.FnTakingsOf': WHATEVER THE INPUT: true; the input reads as it did. -/
def fnTakingsOfSpec : ChangeSpec := { name := "fnTakingsOf", vars := ["loop.example/coinmachine/impl.greatest", "loop.example/coinmachine/impl.worths"], fn := fun _ => fun
  | [d1, d2, g1, g2] => { results := [.lit (.bool true)], args := [d1, d2], vars := [g1, g2] }
  | _ => none }
def fnTakingsOfRow : OpenClaim := { program := "ytmhipmllpkkhjaadoor", sum := "c8edc414d428ad98d0258b280819f375440a6275168f87575a5f8e59133163f8", func := "loop.example/coinmachine/laws.FnTakingsOf", spec := "fnTakingsOf", unfollowed := true, recurses := true, named := ["loop.example/coinmachine/impl.greatest", "loop.example/coinmachine/impl.worths"], plainKeys := false, apart := false, laid := [("loop.example/coinmachine/impl.worths", laid_loop_example_coinmachine_impl_worths), ("loop.example/coinmachine/impl.greatest", laid_loop_example_coinmachine_impl_greatest)] }
def FnTakingsOfSaid : Prop := fnTakingsOfRow.holds Tryd.pinned (OpenSpec.ofChange fnTakingsOfSpec)

/-- ITS FALSE NEIGHBOUR: 'it returns false'. Refute it at one input. -/
def fnTakingsOfWrong : ChangeSpec := { name := "fnTakingsOf", vars := ["loop.example/coinmachine/impl.greatest", "loop.example/coinmachine/impl.worths"], fn := fun _ => fun
  | [d1, d2, g1, g2] => { results := [.lit (.bool false)], args := [d1, d2], vars := [g1, g2] }
  | _ => none }
def FnTakingsOfWrongFalsely : Prop := fnTakingsOfRow.holds Tryd.pinned (OpenSpec.ofChange fnTakingsOfWrong)

/-- 'laws.FnTapeText': WHATEVER THE INPUT: true; the input reads as it did. -/
def fnTapeTextSpec : ChangeSpec := { name := "fnTapeText", vars := ["loop.example/coinmachine/impl.greatest", "loop.example/coinmachine/impl.worths"], fn := fun _ => fun
  | [d, g1, g2] => { results := [.lit (.bool true)], args := [d], vars := [g1, g2] }
  | _ => none }
def fnTapeTextRow : OpenClaim := { program := "ytmhipmllpkkhjaadoor", sum := "c8edc414d428ad98d0258b280819f375440a6275168f87575a5f8e59133163f8", func := "loop.example/coinmachine/laws.FnTapeText", spec := "fnTapeText", unfollowed := true, recurses := true, named := ["loop.example/coinmachine/impl.greatest", "internal/strconv.uint64pow10", "math/bits.deBruijn32tab", "math/bits.deBruijn64tab", "loop.example/coinmachine/impl.worths"], plainKeys := false, apart := false, laid := [("math/bits.deBruijn32tab", laid_math_bits_deBruijn32tab), ("math/bits.deBruijn64tab", laid_math_bits_deBruijn64tab), ("internal/strconv.uint64pow10", laid_internal_strconv_uint64pow10), ("loop.example/coinmachine/impl.worths", laid_loop_example_coinmachine_impl_worths), ("loop.example/coinmachine/impl.greatest", laid_loop_example_coinmachine_impl_greatest)] }
def FnTapeTextSaid : Prop := fnTapeTextRow.holds Tryd.pinned (OpenSpec.ofChange fnTapeTextSpec)

/-- ITS FALSE NEIGHBOUR: 'it returns false'. Refute it at one input. -/
def fnTapeTextWrong : ChangeSpec := { name := "fnTapeText", vars := ["loop.example/coinmachine/impl.greatest", "loop.example/coinmachine/impl.worths"], fn := fun _ => fun
  | [d, g1, g2] => { results := [.lit (.bool false)], args := [d], vars := [g1, g2] }
  | _ => none }
def FnTapeTextWrongFalsely : Prop := fnTapeTextRow.holds Tryd.pinned (OpenSpec.ofChange fnTapeTextWrong)

/-- 'laws.FnReadTape': WHATEVER THE INPUT: true; the input reads as it did. -/
def fnReadTapeSpec : ChangeSpec := { name := "fnReadTape", vars := ["loop.example/coinmachine/impl.greatest", "loop.example/coinmachine/impl.worths"], fn := fun _ => fun
  | [d, g1, g2] => { results := [.lit (.bool true)], args := [d], vars := [g1, g2] }
  | _ => none }
def fnReadTapeRow : OpenClaim := { program := "ytmhipmllpkkhjaadoor", sum := "c8edc414d428ad98d0258b280819f375440a6275168f87575a5f8e59133163f8", func := "loop.example/coinmachine/laws.FnReadTape", spec := "fnReadTape", unfollowed := true, recurses := true, named := ["loop.example/coinmachine/impl.greatest", "internal/strconv.uint64pow10", "math/bits.deBruijn32tab", "math/bits.deBruijn64tab", "loop.example/coinmachine/impl.worths"], plainKeys := false, apart := false, laid := [("math/bits.deBruijn32tab", laid_math_bits_deBruijn32tab), ("math/bits.deBruijn64tab", laid_math_bits_deBruijn64tab), ("internal/strconv.uint64pow10", laid_internal_strconv_uint64pow10), ("loop.example/coinmachine/impl.worths", laid_loop_example_coinmachine_impl_worths), ("loop.example/coinmachine/impl.greatest", laid_loop_example_coinmachine_impl_greatest)] }
def FnReadTapeSaid : Prop := fnReadTapeRow.holds Tryd.pinned (OpenSpec.ofChange fnReadTapeSpec)

/-- ITS FALSE NEIGHBOUR: 'it returns false'. Refute it at one input. -/
def fnReadTapeWrong : ChangeSpec := { name := "fnReadTape", vars := ["loop.example/coinmachine/impl.greatest", "loop.example/coinmachine/impl.worths"], fn := fun _ => fun
  | [d, g1, g2] => { results := [.lit (.bool false)], args := [d], vars := [g1, g2] }
  | _ => none }
def FnReadTapeWrongFalsely : Prop := fnReadTapeRow.holds Tryd.pinned (OpenSpec.ofChange fnReadTapeWrong)

/- THE SECOND FORM. 'bulk': how many values and letters a reading holds, each counted each time it is reached (what is shared counts as often as it is met; a slice's spare places count too). A statement '..UptoSaid' is the law's where the arguments, and the package variables that the reading takes, are together of bulk at most 1048576: NARROWER than '..Said'. Prove '..Said' where nothing that the law and all that it calls make is longer than what came in: it says more and counts as full. Else prove '..UptoSaid'. A law counts once. -/
mutual
def uptoBulk {H : Type} : DataW H → Nat
  | .lit (.string bytes) => bytes.length + 1
  | .lit _ => 1
  | .nil => 1
  | .ptr d => uptoBulk d + 1
  | .slice elems spare => uptoBulkAll elems + uptoBulkAll spare + 1
  | .agg parts => uptoBulkAll parts + 1
  | .iface _ d => uptoBulk d + 1
  | .map entries => uptoBulkEntries entries + 1
  | .held _ => 1
def uptoBulkAll {H : Type} : List (DataW H) → Nat
  | [] => 0
  | d :: r => uptoBulk d + uptoBulkAll r
def uptoBulkEntries {H : Type} : List (Lit × DataW H) → Nat
  | [] => 0
  | x :: r => uptoBulkEntry x + uptoBulkEntries r
def uptoBulkEntry {H : Type} : Lit × DataW H → Nat
  | (.string bytes, d) => bytes.length + uptoBulk d + 1
  | (_, d) => uptoBulk d + 1
 end
def uptoSmall : (H : Type) → List (DataW H) → Bool := fun _ ds => decide (uptoBulkAll ds ≤ 1048576)
def OpenSpec.upto (s : _root_.Go.ChangeSpec) : _root_.Go.OpenSpec := { _root_.Go.OpenSpec.ofChange s with cond := some uptoSmall }

/-- 'laws.FnRunOf', WHERE WHAT IT READS IS OF BULK AT MOST 1048576: true; the input reads as it did. -/
def fnRunOfUptoRow : OpenClaim := { program := "ytmhipmllpkkhjaadoor", sum := "c8edc414d428ad98d0258b280819f375440a6275168f87575a5f8e59133163f8", func := "loop.example/coinmachine/laws.FnRunOf", spec := "fnRunOf", unfollowed := true, recurses := true, named := ["loop.example/coinmachine/impl.worths"], plainKeys := false, apart := false, laid := [("loop.example/coinmachine/impl.worths", laid_loop_example_coinmachine_impl_worths)], narrowed := true }
def FnRunOfUptoSaid : Prop := fnRunOfUptoRow.holds Tryd.pinned (OpenSpec.upto fnRunOfSpec)

/-- 'laws.FnSoldBy', WHERE WHAT IT READS IS OF BULK AT MOST 1048576: true; the input reads as it did. -/
def fnSoldByUptoRow : OpenClaim := { program := "ytmhipmllpkkhjaadoor", sum := "c8edc414d428ad98d0258b280819f375440a6275168f87575a5f8e59133163f8", func := "loop.example/coinmachine/laws.FnSoldBy", spec := "fnSoldBy", unfollowed := true, recurses := true, named := ["loop.example/coinmachine/impl.worths"], plainKeys := false, apart := false, laid := [("loop.example/coinmachine/impl.worths", laid_loop_example_coinmachine_impl_worths)], narrowed := true }
def FnSoldByUptoSaid : Prop := fnSoldByUptoRow.holds Tryd.pinned (OpenSpec.upto fnSoldBySpec)

/-- 'laws.FnCoinsPut', WHERE WHAT IT READS IS OF BULK AT MOST 1048576: true; the input reads as it did. -/
def fnCoinsPutUptoRow : OpenClaim := { program := "ytmhipmllpkkhjaadoor", sum := "c8edc414d428ad98d0258b280819f375440a6275168f87575a5f8e59133163f8", func := "loop.example/coinmachine/laws.FnCoinsPut", spec := "fnCoinsPut", unfollowed := true, recurses := true, named := ["loop.example/coinmachine/impl.worths"], plainKeys := false, apart := false, laid := [("loop.example/coinmachine/impl.worths", laid_loop_example_coinmachine_impl_worths)], narrowed := true }
def FnCoinsPutUptoSaid : Prop := fnCoinsPutUptoRow.holds Tryd.pinned (OpenSpec.upto fnCoinsPutSpec)

/-- 'laws.FnActedBy', WHERE WHAT IT READS IS OF BULK AT MOST 1048576: true; the input reads as it did. -/
def fnActedByUptoRow : OpenClaim := { program := "ytmhipmllpkkhjaadoor", sum := "c8edc414d428ad98d0258b280819f375440a6275168f87575a5f8e59133163f8", func := "loop.example/coinmachine/laws.FnActedBy", spec := "fnActedBy", unfollowed := true, recurses := true, named := ["loop.example/coinmachine/impl.worths"], plainKeys := false, apart := false, laid := [("loop.example/coinmachine/impl.worths", laid_loop_example_coinmachine_impl_worths)], narrowed := true }
def FnActedByUptoSaid : Prop := fnActedByUptoRow.holds Tryd.pinned (OpenSpec.upto fnActedBySpec)

/-- 'laws.FnRunBy', WHERE WHAT IT READS IS OF BULK AT MOST 1048576: true; the input reads as it did. -/
def fnRunByUptoRow : OpenClaim := { program := "ytmhipmllpkkhjaadoor", sum := "c8edc414d428ad98d0258b280819f375440a6275168f87575a5f8e59133163f8", func := "loop.example/coinmachine/laws.FnRunBy", spec := "fnRunBy", unfollowed := true, recurses := true, named := ["loop.example/coinmachine/impl.worths"], plainKeys := false, apart := false, laid := [("loop.example/coinmachine/impl.worths", laid_loop_example_coinmachine_impl_worths)], narrowed := true }
def FnRunByUptoSaid : Prop := fnRunByUptoRow.holds Tryd.pinned (OpenSpec.upto fnRunBySpec)

/-- 'laws.FnWrittenFor', WHERE WHAT IT READS IS OF BULK AT MOST 1048576: true; the input reads as it did. -/
def fnWrittenForUptoRow : OpenClaim := { program := "ytmhipmllpkkhjaadoor", sum := "c8edc414d428ad98d0258b280819f375440a6275168f87575a5f8e59133163f8", func := "loop.example/coinmachine/laws.FnWrittenFor", spec := "fnWrittenFor", unfollowed := true, recurses := true, named := ["loop.example/coinmachine/impl.worths", "loop.example/coinmachine/impl.greatest"], plainKeys := false, apart := false, laid := [("loop.example/coinmachine/impl.worths", laid_loop_example_coinmachine_impl_worths), ("loop.example/coinmachine/impl.greatest", laid_loop_example_coinmachine_impl_greatest)], narrowed := true }
def FnWrittenForUptoSaid : Prop := fnWrittenForUptoRow.holds Tryd.pinned (OpenSpec.upto fnWrittenForSpec)

/-- 'laws.FnWrongEntry', WHERE WHAT IT READS IS OF BULK AT MOST 1048576: true; the input reads as it did. -/
def fnWrongEntryUptoRow : OpenClaim := { program := "ytmhipmllpkkhjaadoor", sum := "c8edc414d428ad98d0258b280819f375440a6275168f87575a5f8e59133163f8", func := "loop.example/coinmachine/laws.FnWrongEntry", spec := "fnWrongEntry", unfollowed := true, recurses := true, named := ["loop.example/coinmachine/impl.greatest", "loop.example/coinmachine/impl.worths"], plainKeys := false, apart := false, laid := [("loop.example/coinmachine/impl.worths", laid_loop_example_coinmachine_impl_worths), ("loop.example/coinmachine/impl.greatest", laid_loop_example_coinmachine_impl_greatest)], narrowed := true }
def FnWrongEntryUptoSaid : Prop := fnWrongEntryUptoRow.holds Tryd.pinned (OpenSpec.upto fnWrongEntrySpec)

/-- 'laws.FnTakingsOf', WHERE WHAT IT READS IS OF BULK AT MOST 1048576: true; the input reads as it did. -/
def fnTakingsOfUptoRow : OpenClaim := { program := "ytmhipmllpkkhjaadoor", sum := "c8edc414d428ad98d0258b280819f375440a6275168f87575a5f8e59133163f8", func := "loop.example/coinmachine/laws.FnTakingsOf", spec := "fnTakingsOf", unfollowed := true, recurses := true, named := ["loop.example/coinmachine/impl.greatest", "loop.example/coinmachine/impl.worths"], plainKeys := false, apart := false, laid := [("loop.example/coinmachine/impl.worths", laid_loop_example_coinmachine_impl_worths), ("loop.example/coinmachine/impl.greatest", laid_loop_example_coinmachine_impl_greatest)], narrowed := true }
def FnTakingsOfUptoSaid : Prop := fnTakingsOfUptoRow.holds Tryd.pinned (OpenSpec.upto fnTakingsOfSpec)

/-- 'laws.FnTapeText', WHERE WHAT IT READS IS OF BULK AT MOST 1048576: true; the input reads as it did. -/
def fnTapeTextUptoRow : OpenClaim := { program := "ytmhipmllpkkhjaadoor", sum := "c8edc414d428ad98d0258b280819f375440a6275168f87575a5f8e59133163f8", func := "loop.example/coinmachine/laws.FnTapeText", spec := "fnTapeText", unfollowed := true, recurses := true, named := ["loop.example/coinmachine/impl.greatest", "internal/strconv.uint64pow10", "math/bits.deBruijn32tab", "math/bits.deBruijn64tab", "loop.example/coinmachine/impl.worths"], plainKeys := false, apart := false, laid := [("math/bits.deBruijn32tab", laid_math_bits_deBruijn32tab), ("math/bits.deBruijn64tab", laid_math_bits_deBruijn64tab), ("internal/strconv.uint64pow10", laid_internal_strconv_uint64pow10), ("loop.example/coinmachine/impl.worths", laid_loop_example_coinmachine_impl_worths), ("loop.example/coinmachine/impl.greatest", laid_loop_example_coinmachine_impl_greatest)], narrowed := true }
def FnTapeTextUptoSaid : Prop := fnTapeTextUptoRow.holds Tryd.pinned (OpenSpec.upto fnTapeTextSpec)

/-- 'laws.FnReadTape', WHERE WHAT IT READS IS OF BULK AT MOST 1048576: true; the input reads as it did. -/
def fnReadTapeUptoRow : OpenClaim := { program := "ytmhipmllpkkhjaadoor", sum := "c8edc414d428ad98d0258b280819f375440a6275168f87575a5f8e59133163f8", func := "loop.example/coinmachine/laws.FnReadTape", spec := "fnReadTape", unfollowed := true, recurses := true, named := ["loop.example/coinmachine/impl.greatest", "internal/strconv.uint64pow10", "math/bits.deBruijn32tab", "math/bits.deBruijn64tab", "loop.example/coinmachine/impl.worths"], plainKeys := false, apart := false, laid := [("math/bits.deBruijn32tab", laid_math_bits_deBruijn32tab), ("math/bits.deBruijn64tab", laid_math_bits_deBruijn64tab), ("internal/strconv.uint64pow10", laid_internal_strconv_uint64pow10), ("loop.example/coinmachine/impl.worths", laid_loop_example_coinmachine_impl_worths), ("loop.example/coinmachine/impl.greatest", laid_loop_example_coinmachine_impl_greatest)], narrowed := true }
def FnReadTapeUptoSaid : Prop := fnReadTapeUptoRow.holds Tryd.pinned (OpenSpec.upto fnReadTapeSpec)

end Rows
end Go.Proofs.YtmhipmllpkkhjaaDoor

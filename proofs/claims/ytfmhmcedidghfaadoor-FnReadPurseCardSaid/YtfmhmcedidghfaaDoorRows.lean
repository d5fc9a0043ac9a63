/-
  NARROWER THAN 'FOR EVERY INPUT', by the rows' own cells (each row's printed sentence says how): FnWorthOf: laid · FnPurseOk: laid · FnValueOf: laid · FnCoinsIn: laid · FnPutTogether: laid · FnWithinOf: laid · FnTakenOut: laid · FnPurseText: laid · FnReadPurse: laid · FnExactWorthOf: laid · FnExactValueOf: laid · FnExactPurseText: laid · FnExactReadPurse: laid.
  DERIVED. THE GIVEN ROWS OF THIS SEAT. 13 by the template 'for every input the law returns true; each argument reads behind the call as it read before'; 0 by the template 'total and deterministic' (their statements: YtfmhmcedidghfaaDoorTotals.lean).
  GIVEN WITH THE SEED: the statements are not yours to turn. If you find one false, say at which input.
  Laid BY PROGRAM, IN A SANDBOX (cutbox-rows.mjs): the forced cells as the released guide's own fill.sh prints them over the translation abc9a2f885f387c4… (all of the seat's roots in one cut). By AI agents, Wed Nov 11 2026. No macro, syntax, notation, axiom, sorry.
-/
import Derived.Test.YtfmhmcedidghfaaDoorChecked
import GoSem.PinnedTables
import GoSem.Claim
import GoSem.ClaimJoined
import GoSem.ClaimMapViews
import Derived.JoinedTies
import Derived.KernelRfl
namespace Go.Proofs.YtfmhmcedidghfaaDoor
/- THE CELL 'sum', in the pinned program and in every row, IS THE sha256 OF THE DUMP (.gsa) THAT YtfmhmcedidghfaaDoorProg.lean LOADS. Nothing in Lean hashes anything: it is a label: what it is worth is what the hold of that sum in a sandbox is worth. -/
noncomputable def Tryd.pinned : Pinned := { name := "ytfmhmcedidghfaadoor", sum := "abc9a2f885f387c47f5a8f4e142d7b046e7e02f8c12c1dfb8e510afda2685e6d", checked := Tryd.checked }
namespace Rows
def none {H : Type} : Left H := { results := [], args := [] }

/- WHAT THE LISTED PACKAGE-LEVEL VARIABLES READ AS WHEN THE CALL BEGINS. Each datum BY PROGRAM (the guide's laid-datum.mjs) off the statement by which the dump's own 'gosem.cut.vars' lays the variable. In a bare row this is a premise. The card (YtfmhmcedidghfaaDoorCards.lean) ties it to the program's text. -/
def laid_loop_example_coinmachine_impl_worths {H : Type} : DataW H := .agg [.lit (.int .i64 1), .lit (.int .i64 2), .lit (.int .i64 5), .lit (.int .i64 10)]
def laid_math_bits_deBruijn32tab {H : Type} : DataW H := .agg [.lit (.int .u8 0), .lit (.int .u8 1), .lit (.int .u8 28), .lit (.int .u8 2), .lit (.int .u8 29), .lit (.int .u8 14), .lit (.int .u8 24), .lit (.int .u8 3), .lit (.int .u8 30), .lit (.int .u8 22), .lit (.int .u8 20), .lit (.int .u8 15), .lit (.int .u8 25), .lit (.int .u8 17), .lit (.int .u8 4), .lit (.int .u8 8), .lit (.int .u8 31), .lit (.int .u8 27), .lit (.int .u8 13), .lit (.int .u8 23), .lit (.int .u8 21), .lit (.int .u8 19), .lit (.int .u8 16), .lit (.int .u8 7), .lit (.int .u8 26), .lit (.int .u8 12), .lit (.int .u8 18), .lit (.int .u8 6), .lit (.int .u8 11), .lit (.int .u8 5), .lit (.int .u8 10), .lit (.int .u8 9)]
def laid_math_bits_deBruijn64tab {H : Type} : DataW H := .agg [.lit (.int .u8 0), .lit (.int .u8 1), .lit (.int .u8 56), .lit (.int .u8 2), .lit (.int .u8 57), .lit (.int .u8 49), .lit (.int .u8 28), .lit (.int .u8 3), .lit (.int .u8 61), .lit (.int .u8 58), .lit (.int .u8 42), .lit (.int .u8 50), .lit (.int .u8 38), .lit (.int .u8 29), .lit (.int .u8 17), .lit (.int .u8 4), .lit (.int .u8 62), .lit (.int .u8 47), .lit (.int .u8 59), .lit (.int .u8 36), .lit (.int .u8 45), .lit (.int .u8 43), .lit (.int .u8 51), .lit (.int .u8 22), .lit (.int .u8 53), .lit (.int .u8 39), .lit (.int .u8 33), .lit (.int .u8 30), .lit (.int .u8 24), .lit (.int .u8 18), .lit (.int .u8 12), .lit (.int .u8 5), .lit (.int .u8 63), .lit (.int .u8 55), .lit (.int .u8 48), .lit (.int .u8 27), .lit (.int .u8 60), .lit (.int .u8 41), .lit (.int .u8 37), .lit (.int .u8 16), .lit (.int .u8 46), .lit (.int .u8 35), .lit (.int .u8 44), .lit (.int .u8 21), .lit (.int .u8 52), .lit (.int .u8 32), .lit (.int .u8 23), .lit (.int .u8 11), .lit (.int .u8 54), .lit (.int .u8 26), .lit (.int .u8 40), .lit (.int .u8 15), .lit (.int .u8 34), .lit (.int .u8 20), .lit (.int .u8 31), .lit (.int .u8 10), .lit (.int .u8 25), .lit (.int .u8 14), .lit (.int .u8 19), .lit (.int .u8 9), .lit (.int .u8 13), .lit (.int .u8 8), .lit (.int .u8 7), .lit (.int .u8 6)]
def laid_internal_strconv_uint64pow10 {H : Type} : DataW H := .agg [.lit (.int .u64 1), .lit (.int .u64 10), .lit (.int .u64 100), .lit (.int .u64 1000), .lit (.int .u64 10000), .lit (.int .u64 100000), .lit (.int .u64 1000000), .lit (.int .u64 10000000), .lit (.int .u64 100000000), .lit (.int .u64 1000000000), .lit (.int .u64 10000000000), .lit (.int .u64 100000000000), .lit (.int .u64 1000000000000), .lit (.int .u64 10000000000000), .lit (.int .u64 100000000000000), .lit (.int .u64 1000000000000000), .lit (.int .u64 10000000000000000), .lit (.int .u64 100000000000000000), .lit (.int .u64 1000000000000000000), .lit (.int .u64 10000000000000000000)]
def laid_unicode_utf8_acceptRanges {H : Type} : DataW H := .agg [.agg [.lit (.int .u8 128), .lit (.int .u8 191)], .agg [.lit (.int .u8 160), .lit (.int .u8 191)], .agg [.lit (.int .u8 128), .lit (.int .u8 159)], .agg [.lit (.int .u8 144), .lit (.int .u8 191)], .agg [.lit (.int .u8 128), .lit (.int .u8 143)], .agg [.lit (.int .u8 0), .lit (.int .u8 0)], .agg [.lit (.int .u8 0), .lit (.int .u8 0)], .agg [.lit (.int .u8 0), .lit (.int .u8 0)], .agg [.lit (.int .u8 0), .lit (.int .u8 0)], .agg [.lit (.int .u8 0), .lit (.int .u8 0)], .agg [.lit (.int .u8 0), .lit (.int .u8 0)], .agg [.lit (.int .u8 0), .lit (.int .u8 0)], .agg [.lit (.int .u8 0), .lit (.int .u8 0)], .agg [.lit (.int .u8 0), .lit (.int .u8 0)], .agg [.lit (.int .u8 0), .lit (.int .u8 0)], .agg [.lit (.int .u8 0), .lit (.int .u8 0)]]
def laid_strconv_ErrRange {H : Type} : DataW H := .iface "*errors.errorString" (.ptr (.agg [.lit (.string [118, 97, 108, 117, 101, 32, 111, 117, 116, 32, 111, 102, 32, 114, 97, 110, 103, 101])]))
def laid_strconv_ErrSyntax {H : Type} : DataW H := .iface "*errors.errorString" (.ptr (.agg [.lit (.string [105, 110, 118, 97, 108, 105, 100, 32, 115, 121, 110, 116, 97, 120])]))
/-- One of Go's own tables, pinned by name: the form's constant. -/
def laid_unicode_utf8_first : DataW Unit := Go.Pinned.utf8First

/-- 'laws.FnWorthOf': WHATEVER THE INPUT: true; the input reads as it did. -/
def fnWorthOfSpec : ChangeSpec := { name := "fnWorthOf", vars := ["loop.example/coinmachine/impl.worths"], fn := fun _ => fun
  | [d, g1] => { results := [.lit (.bool true)], args := [d], vars := [g1] }
  | _ => none }
def fnWorthOfRow : OpenClaim := { program := "ytfmhmcedidghfaadoor", sum := "abc9a2f885f387c47f5a8f4e142d7b046e7e02f8c12c1dfb8e510afda2685e6d", func := "loop.example/coinmachine/laws.FnWorthOf", spec := "fnWorthOf", named := ["loop.example/coinmachine/impl.worths"], apart := false, laid := [("loop.example/coinmachine/impl.worths", laid_loop_example_coinmachine_impl_worths)] }
def FnWorthOfSaid : Prop := fnWorthOfRow.holds Tryd.pinned (OpenSpec.ofChange fnWorthOfSpec)

/-- ITS FALSE NEIGHBOUR: 'it returns false'. Refute it at one input. -/
def fnWorthOfWrong : ChangeSpec := { name := "fnWorthOf", vars := ["loop.example/coinmachine/impl.worths"], fn := fun _ => fun
  | [d, g1] => { results := [.lit (.bool false)], args := [d], vars := [g1] }
  | _ => none }
def FnWorthOfWrongFalsely : Prop := fnWorthOfRow.holds Tryd.pinned (OpenSpec.ofChange fnWorthOfWrong)

/-- 'laws.FnPurseOk': WHATEVER THE INPUT: true; the input reads as it did. -/
def fnPurseOkSpec : ChangeSpec := { name := "fnPurseOk", vars := ["loop.example/coinmachine/impl.worths"], fn := fun _ => fun
  | [d, g1] => { results := [.lit (.bool true)], args := [d], vars := [g1] }
  | _ => none }
def fnPurseOkRow : OpenClaim := { program := "ytfmhmcedidghfaadoor", sum := "abc9a2f885f387c47f5a8f4e142d7b046e7e02f8c12c1dfb8e510afda2685e6d", func := "loop.example/coinmachine/laws.FnPurseOk", spec := "fnPurseOk", named := ["loop.example/coinmachine/impl.worths"], apart := false, laid := [("loop.example/coinmachine/impl.worths", laid_loop_example_coinmachine_impl_worths)] }
def FnPurseOkSaid : Prop := fnPurseOkRow.holds Tryd.pinned (OpenSpec.ofChange fnPurseOkSpec)

/-- ITS FALSE NEIGHBOUR: 'it returns false'. Refute it at one input. -/
def fnPurseOkWrong : ChangeSpec := { name := "fnPurseOk", vars := ["loop.example/coinmachine/impl.worths"], fn := fun _ => fun
  | [d, g1] => { results := [.lit (.bool false)], args := [d], vars := [g1] }
  | _ => none }
def FnPurseOkWrongFalsely : Prop := fnPurseOkRow.holds Tryd.pinned (OpenSpec.ofChange fnPurseOkWrong)

/-- 'laws.FnValueOf': WHATEVER THE INPUT: true; the input reads as it did. -/
def fnValueOfSpec : ChangeSpec := { name := "fnValueOf", vars := ["loop.example/coinmachine/impl.worths"], fn := fun _ => fun
  | [d, g1] => { results := [.lit (.bool true)], args := [d], vars := [g1] }
  | _ => none }
def fnValueOfRow : OpenClaim := { program := "ytfmhmcedidghfaadoor", sum := "abc9a2f885f387c47f5a8f4e142d7b046e7e02f8c12c1dfb8e510afda2685e6d", func := "loop.example/coinmachine/laws.FnValueOf", spec := "fnValueOf", named := ["loop.example/coinmachine/impl.worths"], apart := false, laid := [("loop.example/coinmachine/impl.worths", laid_loop_example_coinmachine_impl_worths)] }
def FnValueOfSaid : Prop := fnValueOfRow.holds Tryd.pinned (OpenSpec.ofChange fnValueOfSpec)

/-- ITS FALSE NEIGHBOUR: 'it returns false'. Refute it at one input. -/
def fnValueOfWrong : ChangeSpec := { name := "fnValueOf", vars := ["loop.example/coinmachine/impl.worths"], fn := fun _ => fun
  | [d, g1] => { results := [.lit (.bool false)], args := [d], vars := [g1] }
  | _ => none }
def FnValueOfWrongFalsely : Prop := fnValueOfRow.holds Tryd.pinned (OpenSpec.ofChange fnValueOfWrong)

/-- 'laws.FnCoinsIn': WHATEVER THE INPUT: true; the input reads as it did. -/
def fnCoinsInSpec : ChangeSpec := { name := "fnCoinsIn", vars := ["loop.example/coinmachine/impl.worths"], fn := fun _ => fun
  | [d, g1] => { results := [.lit (.bool true)], args := [d], vars := [g1] }
  | _ => none }
def fnCoinsInRow : OpenClaim := { program := "ytfmhmcedidghfaadoor", sum := "abc9a2f885f387c47f5a8f4e142d7b046e7e02f8c12c1dfb8e510afda2685e6d", func := "loop.example/coinmachine/laws.FnCoinsIn", spec := "fnCoinsIn", named := ["loop.example/coinmachine/impl.worths"], apart := false, laid := [("loop.example/coinmachine/impl.worths", laid_loop_example_coinmachine_impl_worths)] }
def FnCoinsInSaid : Prop := fnCoinsInRow.holds Tryd.pinned (OpenSpec.ofChange fnCoinsInSpec)

/-- ITS FALSE NEIGHBOUR: 'it returns false'. Refute it at one input. -/
def fnCoinsInWrong : ChangeSpec := { name := "fnCoinsIn", vars := ["loop.example/coinmachine/impl.worths"], fn := fun _ => fun
  | [d, g1] => { results := [.lit (.bool false)], args := [d], vars := [g1] }
  | _ => none }
def FnCoinsInWrongFalsely : Prop := fnCoinsInRow.holds Tryd.pinned (OpenSpec.ofChange fnCoinsInWrong)

/-- 'laws.FnPutTogether': WHATEVER THE INPUT: true; the input reads as it did. -/
def fnPutTogetherSpec : ChangeSpec := { name := "fnPutTogether", vars := ["loop.example/coinmachine/impl.worths"], fn := fun _ => fun
  | [d, g1] => { results := [.lit (.bool true)], args := [d], vars := [g1] }
  | _ => none }
def fnPutTogetherRow : OpenClaim := { program := "ytfmhmcedidghfaadoor", sum := "abc9a2f885f387c47f5a8f4e142d7b046e7e02f8c12c1dfb8e510afda2685e6d", func := "loop.example/coinmachine/laws.FnPutTogether", spec := "fnPutTogether", named := ["loop.example/coinmachine/impl.worths"], apart := false, laid := [("loop.example/coinmachine/impl.worths", laid_loop_example_coinmachine_impl_worths)] }
def FnPutTogetherSaid : Prop := fnPutTogetherRow.holds Tryd.pinned (OpenSpec.ofChange fnPutTogetherSpec)

/-- ITS FALSE NEIGHBOUR: 'it returns false'. Refute it at one input. -/
def fnPutTogetherWrong : ChangeSpec := { name := "fnPutTogether", vars := ["loop.example/coinmachine/impl.worths"], fn := fun _ => fun
  | [d, g1] => { results := [.lit (.bool false)], args := [d], vars := [g1] }
  | _ => none }
def FnPutTogetherWrongFalsely : Prop := fnPutTogetherRow.holds Tryd.pinned (OpenSpec.ofChange fnPutTogetherWrong)

/-- 'laws.FnWithinOf': WHATEVER THE INPUT: true; the input reads as it did. -/
def fnWithinOfSpec : ChangeSpec := { name := "fnWithinOf", vars := ["loop.example/coinmachine/impl.worths"], fn := fun _ => fun
  | [d, g1] => { results := [.lit (.bool true)], args := [d], vars := [g1] }
  | _ => none }
def fnWithinOfRow : OpenClaim := { program := "ytfmhmcedidghfaadoor", sum := "abc9a2f885f387c47f5a8f4e142d7b046e7e02f8c12c1dfb8e510afda2685e6d", func := "loop.example/coinmachine/laws.FnWithinOf", spec := "fnWithinOf", named := ["loop.example/coinmachine/impl.worths"], apart := false, laid := [("loop.example/coinmachine/impl.worths", laid_loop_example_coinmachine_impl_worths)] }
def FnWithinOfSaid : Prop := fnWithinOfRow.holds Tryd.pinned (OpenSpec.ofChange fnWithinOfSpec)

/-- ITS FALSE NEIGHBOUR: 'it returns false'. Refute it at one input. -/
def fnWithinOfWrong : ChangeSpec := { name := "fnWithinOf", vars := ["loop.example/coinmachine/impl.worths"], fn := fun _ => fun
  | [d, g1] => { results := [.lit (.bool false)], args := [d], vars := [g1] }
  | _ => none }
def FnWithinOfWrongFalsely : Prop := fnWithinOfRow.holds Tryd.pinned (OpenSpec.ofChange fnWithinOfWrong)

/-- 'laws.FnTakenOut': WHATEVER THE INPUT: true; the input reads as it did. -/
def fnTakenOutSpec : ChangeSpec := { name := "fnTakenOut", vars := ["loop.example/coinmachine/impl.worths"], fn := fun _ => fun
  | [d, g1] => { results := [.lit (.bool true)], args := [d], vars := [g1] }
  | _ => none }
def fnTakenOutRow : OpenClaim := { program := "ytfmhmcedidghfaadoor", sum := "abc9a2f885f387c47f5a8f4e142d7b046e7e02f8c12c1dfb8e510afda2685e6d", func := "loop.example/coinmachine/laws.FnTakenOut", spec := "fnTakenOut", named := ["loop.example/coinmachine/impl.worths"], apart := false, laid := [("loop.example/coinmachine/impl.worths", laid_loop_example_coinmachine_impl_worths)] }
def FnTakenOutSaid : Prop := fnTakenOutRow.holds Tryd.pinned (OpenSpec.ofChange fnTakenOutSpec)

/-- ITS FALSE NEIGHBOUR: 'it returns false'. Refute it at one input. -/
def fnTakenOutWrong : ChangeSpec := { name := "fnTakenOut", vars := ["loop.example/coinmachine/impl.worths"], fn := fun _ => fun
  | [d, g1] => { results := [.lit (.bool false)], args := [d], vars := [g1] }
  | _ => none }
def FnTakenOutWrongFalsely : Prop := fnTakenOutRow.holds Tryd.pinned (OpenSpec.ofChange fnTakenOutWrong)

/-- 'laws.FnPurseText': WHATEVER THE INPUT: true; the input reads as it did. -/
def fnPurseTextSpec : ChangeSpec := { name := "fnPurseText", vars := ["loop.example/coinmachine/impl.worths"], fn := fun _ => fun
  | [d, g1] => { results := [.lit (.bool true)], args := [d], vars := [g1] }
  | _ => none }
def fnPurseTextRow : OpenClaim := { program := "ytfmhmcedidghfaadoor", sum := "abc9a2f885f387c47f5a8f4e142d7b046e7e02f8c12c1dfb8e510afda2685e6d", func := "loop.example/coinmachine/laws.FnPurseText", spec := "fnPurseText", inPlace := ["internal/abi.NoEscape", "internal/bytealg.MakeNoZero", "internal/bytealg.CountString", "internal/bytealg.IndexByteString", "internal/bytealg.IndexString"], recurses := true, named := ["loop.example/coinmachine/impl.worths", "internal/strconv.uint64pow10", "math/bits.deBruijn32tab", "math/bits.deBruijn64tab", "unicode/utf8.first", "unicode/utf8.acceptRanges", "internal/bytealg.MaxLen", "strconv.ErrSyntax", "strconv.ErrRange"], apart := false, laid := [("math/bits.deBruijn32tab", laid_math_bits_deBruijn32tab), ("math/bits.deBruijn64tab", laid_math_bits_deBruijn64tab), ("internal/strconv.uint64pow10", laid_internal_strconv_uint64pow10), ("unicode/utf8.acceptRanges", laid_unicode_utf8_acceptRanges), ("strconv.ErrRange", laid_strconv_ErrRange), ("strconv.ErrSyntax", laid_strconv_ErrSyntax), ("loop.example/coinmachine/impl.worths", laid_loop_example_coinmachine_impl_worths), ("unicode/utf8.first", laid_unicode_utf8_first)] }
def FnPurseTextSaid : Prop := fnPurseTextRow.holds Tryd.pinned (OpenSpec.ofChange fnPurseTextSpec)

/-- ITS FALSE NEIGHBOUR: 'it returns false'. Refute it at one input. -/
def fnPurseTextWrong : ChangeSpec := { name := "fnPurseText", vars := ["loop.example/coinmachine/impl.worths"], fn := fun _ => fun
  | [d, g1] => { results := [.lit (.bool false)], args := [d], vars := [g1] }
  | _ => none }
def FnPurseTextWrongFalsely : Prop := fnPurseTextRow.holds Tryd.pinned (OpenSpec.ofChange fnPurseTextWrong)

/-- 'laws.FnReadPurse': WHATEVER THE INPUT: true; the input reads as it did. -/
def fnReadPurseSpec : ChangeSpec := { name := "fnReadPurse", vars := ["loop.example/coinmachine/impl.worths"], fn := fun _ => fun
  | [d, g1] => { results := [.lit (.bool true)], args := [d], vars := [g1] }
  | _ => none }
def fnReadPurseRow : OpenClaim := { program := "ytfmhmcedidghfaadoor", sum := "abc9a2f885f387c47f5a8f4e142d7b046e7e02f8c12c1dfb8e510afda2685e6d", func := "loop.example/coinmachine/laws.FnReadPurse", spec := "fnReadPurse", inPlace := ["internal/bytealg.CountString", "internal/bytealg.IndexByteString", "internal/bytealg.IndexString", "internal/abi.NoEscape", "internal/bytealg.MakeNoZero"], recurses := true, named := ["unicode/utf8.first", "unicode/utf8.acceptRanges", "internal/bytealg.MaxLen", "loop.example/coinmachine/impl.worths", "strconv.ErrSyntax", "strconv.ErrRange", "internal/strconv.uint64pow10", "math/bits.deBruijn32tab", "math/bits.deBruijn64tab"], apart := false, laid := [("math/bits.deBruijn32tab", laid_math_bits_deBruijn32tab), ("math/bits.deBruijn64tab", laid_math_bits_deBruijn64tab), ("internal/strconv.uint64pow10", laid_internal_strconv_uint64pow10), ("unicode/utf8.acceptRanges", laid_unicode_utf8_acceptRanges), ("strconv.ErrRange", laid_strconv_ErrRange), ("strconv.ErrSyntax", laid_strconv_ErrSyntax), ("loop.example/coinmachine/impl.worths", laid_loop_example_coinmachine_impl_worths), ("unicode/utf8.first", laid_unicode_utf8_first)] }
def FnReadPurseSaid : Prop := fnReadPurseRow.holds Tryd.pinned (OpenSpec.ofChange fnReadPurseSpec)

/-- ITS FALSE NEIGHBOUR: 'it returns false'. Refute it at one input. -/
def fnReadPurseWrong : ChangeSpec := { name := "fnReadPurse", vars := ["loop.example/coinmachine/impl.worths"], fn := fun _ => fun
  | [d, g1] => { results := [.lit (.bool false)], args := [d], vars := [g1] }
  | _ => none }
def FnReadPurseWrongFalsely : Prop := fnReadPurseRow.holds Tryd.pinned (OpenSpec.ofChange fnReadPurseWrong)

/-- 'laws.FnExactWorthOf': WHATEVER THE INPUT: true; the input reads as it did. -/
def fnExactWorthOfSpec : ChangeSpec := { name := "fnExactWorthOf", vars := ["loop.example/coinmachine/impl.worths"], fn := fun _ => fun
  | [d, g1] => { results := [.lit (.bool true)], args := [d], vars := [g1] }
  | _ => none }
def fnExactWorthOfRow : OpenClaim := { program := "ytfmhmcedidghfaadoor", sum := "abc9a2f885f387c47f5a8f4e142d7b046e7e02f8c12c1dfb8e510afda2685e6d", func := "loop.example/coinmachine/laws.FnExactWorthOf", spec := "fnExactWorthOf", named := ["loop.example/coinmachine/impl.worths"], apart := false, laid := [("loop.example/coinmachine/impl.worths", laid_loop_example_coinmachine_impl_worths)] }
def FnExactWorthOfSaid : Prop := fnExactWorthOfRow.holds Tryd.pinned (OpenSpec.ofChange fnExactWorthOfSpec)

/-- ITS FALSE NEIGHBOUR: 'it returns false'. Refute it at one input. -/
def fnExactWorthOfWrong : ChangeSpec := { name := "fnExactWorthOf", vars := ["loop.example/coinmachine/impl.worths"], fn := fun _ => fun
  | [d, g1] => { results := [.lit (.bool false)], args := [d], vars := [g1] }
  | _ => none }
def FnExactWorthOfWrongFalsely : Prop := fnExactWorthOfRow.holds Tryd.pinned (OpenSpec.ofChange fnExactWorthOfWrong)

/-- 'laws.FnExactValueOf': WHATEVER THE INPUT: true; the input reads as it did. -/
def fnExactValueOfSpec : ChangeSpec := { name := "fnExactValueOf", vars := ["loop.example/coinmachine/impl.worths"], fn := fun _ => fun
  | [d, g1] => { results := [.lit (.bool true)], args := [d], vars := [g1] }
  | _ => none }
def fnExactValueOfRow : OpenClaim := { program := "ytfmhmcedidghfaadoor", sum := "abc9a2f885f387c47f5a8f4e142d7b046e7e02f8c12c1dfb8e510afda2685e6d", func := "loop.example/coinmachine/laws.FnExactValueOf", spec := "fnExactValueOf", named := ["loop.example/coinmachine/impl.worths"], apart := false, laid := [("loop.example/coinmachine/impl.worths", laid_loop_example_coinmachine_impl_worths)] }
def FnExactValueOfSaid : Prop := fnExactValueOfRow.holds Tryd.pinned (OpenSpec.ofChange fnExactValueOfSpec)

/-- ITS FALSE NEIGHBOUR: 'it returns false'. Refute it at one input. -/
def fnExactValueOfWrong : ChangeSpec := { name := "fnExactValueOf", vars := ["loop.example/coinmachine/impl.worths"], fn := fun _ => fun
  | [d, g1] => { results := [.lit (.bool false)], args := [d], vars := [g1] }
  | _ => none }
def FnExactValueOfWrongFalsely : Prop := fnExactValueOfRow.holds Tryd.pinned (OpenSpec.ofChange fnExactValueOfWrong)

/-- 'laws.FnExactPurseText': WHATEVER THE INPUT: true; the input reads as it did. -/
def fnExactPurseTextSpec : ChangeSpec := { name := "fnExactPurseText", vars := ["loop.example/coinmachine/impl.worths"], fn := fun _ => fun
  | [d, g1] => { results := [.lit (.bool true)], args := [d], vars := [g1] }
  | _ => none }
def fnExactPurseTextRow : OpenClaim := { program := "ytfmhmcedidghfaadoor", sum := "abc9a2f885f387c47f5a8f4e142d7b046e7e02f8c12c1dfb8e510afda2685e6d", func := "loop.example/coinmachine/laws.FnExactPurseText", spec := "fnExactPurseText", inPlace := ["internal/abi.NoEscape", "internal/bytealg.MakeNoZero"], recurses := true, named := ["loop.example/coinmachine/impl.worths", "internal/strconv.uint64pow10", "math/bits.deBruijn32tab", "math/bits.deBruijn64tab"], apart := false, laid := [("math/bits.deBruijn32tab", laid_math_bits_deBruijn32tab), ("math/bits.deBruijn64tab", laid_math_bits_deBruijn64tab), ("internal/strconv.uint64pow10", laid_internal_strconv_uint64pow10), ("loop.example/coinmachine/impl.worths", laid_loop_example_coinmachine_impl_worths)] }
def FnExactPurseTextSaid : Prop := fnExactPurseTextRow.holds Tryd.pinned (OpenSpec.ofChange fnExactPurseTextSpec)

/-- ITS FALSE NEIGHBOUR: 'it returns false'. Refute it at one input. -/
def fnExactPurseTextWrong : ChangeSpec := { name := "fnExactPurseText", vars := ["loop.example/coinmachine/impl.worths"], fn := fun _ => fun
  | [d, g1] => { results := [.lit (.bool false)], args := [d], vars := [g1] }
  | _ => none }
def FnExactPurseTextWrongFalsely : Prop := fnExactPurseTextRow.holds Tryd.pinned (OpenSpec.ofChange fnExactPurseTextWrong)

/-- 'laws.FnExactReadPurse': WHATEVER THE INPUT: true; the input reads as it did. -/
def fnExactReadPurseSpec : ChangeSpec := { name := "fnExactReadPurse", vars := ["loop.example/coinmachine/impl.worths"], fn := fun _ => fun
  | [d, g1] => { results := [.lit (.bool true)], args := [d], vars := [g1] }
  | _ => none }
def fnExactReadPurseRow : OpenClaim := { program := "ytfmhmcedidghfaadoor", sum := "abc9a2f885f387c47f5a8f4e142d7b046e7e02f8c12c1dfb8e510afda2685e6d", func := "loop.example/coinmachine/laws.FnExactReadPurse", spec := "fnExactReadPurse", inPlace := ["internal/bytealg.CountString", "internal/bytealg.IndexByteString", "internal/bytealg.IndexString", "internal/abi.NoEscape", "internal/bytealg.MakeNoZero"], recurses := true, named := ["unicode/utf8.first", "unicode/utf8.acceptRanges", "internal/bytealg.MaxLen", "loop.example/coinmachine/impl.worths", "strconv.ErrSyntax", "strconv.ErrRange", "internal/strconv.uint64pow10", "math/bits.deBruijn32tab", "math/bits.deBruijn64tab"], apart := false, laid := [("math/bits.deBruijn32tab", laid_math_bits_deBruijn32tab), ("math/bits.deBruijn64tab", laid_math_bits_deBruijn64tab), ("internal/strconv.uint64pow10", laid_internal_strconv_uint64pow10), ("unicode/utf8.acceptRanges", laid_unicode_utf8_acceptRanges), ("strconv.ErrRange", laid_strconv_ErrRange), ("strconv.ErrSyntax", laid_strconv_ErrSyntax), ("loop.example/coinmachine/impl.worths", laid_loop_example_coinmachine_impl_worths), ("unicode/utf8.first", laid_unicode_utf8_first)] }
def FnExactReadPurseSaid : Prop := fnExactReadPurseRow.holds Tryd.pinned (OpenSpec.ofChange fnExactReadPurseSpec)

/-- ITS FALSE NEIGHBOUR: 'it returns false'. Refute it at one input. -/
def fnExactReadPurseWrong : ChangeSpec := { name := "fnExactReadPurse", vars := ["loop.example/coinmachine/impl.worths"], fn := fun _ => fun
  | [d, g1] => { results := [.lit (.bool false)], args := [d], vars := [g1] }
  | _ => none }
def FnExactReadPurseWrongFalsely : Prop := fnExactReadPurseRow.holds Tryd.pinned (OpenSpec.ofChange fnExactReadPurseWrong)

/- THE SECOND FORM. 'bulk': how many values and letters a reading holds, each counted each time it is reached (what is shared counts as often as it is met; a slice's spare places count too). A statement '..UptoSaid' is the law's where the arguments, and the package variables that the reading takes, are together of bulk at most 1048576: NARROWER than '..Said'. Prove '..Said' where nothing that the law and all that it calls make is longer than what came in: it says more and counts as full. Else prove '..UptoSaid'. A law counts once. -/
mutual
def uptoBulk {H : Type} : DataW H → Nat
  | .lit (.string bytes) => bytes.length + 1
  | .lit _ => 1
  | .nil => 1
  | .ptr d => uptoBulk d + 1
  | .slice elems spare => uptoBulkAll elems + uptoBulkAll spare + 1
  | .agg parts => uptoBulkAll parts + 1
  | .iface _ d => uptoBulk d + 1
  | .map entries => uptoBulkEntries entries + 1
  | .held _ => 1
def uptoBulkAll {H : Type} : List (DataW H) → Nat
  | [] => 0
  | d :: r => uptoBulk d + uptoBulkAll r
def uptoBulkEntries {H : Type} : List (Lit × DataW H) → Nat
  | [] => 0
  | x :: r => uptoBulkEntry x + uptoBulkEntries r
def uptoBulkEntry {H : Type} : Lit × DataW H → Nat
  | (.string bytes, d) => bytes.length + uptoBulk d + 1
  | (_, d) => uptoBulk d + 1
 end
def uptoSmall : (H : Type) → List (DataW H) → Bool := fun _ ds => decide (uptoBulkAll ds ≤ 1048576)
def OpenSpec.upto (s : _root_.Go.ChangeSpec) : _root_.Go.OpenSpec := { _root_.Go.OpenSpec.ofChange s with cond := some uptoSmall }

/-- 'laws.FnWorthOf', WHERE WHAT IT READS IS OF BULK AT MOST 1048576: true; the input reads as it did. -/
def fnWorthOfUptoRow : OpenClaim := { program := "ytfmhmcedidghfaadoor", sum := "abc9a2f885f387c47f5a8f4e142d7b046e7e02f8c12c1dfb8e510afda2685e6d", func := "loop.example/coinmachine/laws.FnWorthOf", spec := "fnWorthOf", named := ["loop.example/coinmachine/impl.worths"], apart := false, laid := [("loop.example/coinmachine/impl.worths", laid_loop_example_coinmachine_impl_worths)], narrowed := true }
def FnWorthOfUptoSaid : Prop := fnWorthOfUptoRow.holds Tryd.pinned (OpenSpec.upto fnWorthOfSpec)

/-- 'laws.FnPurseOk', WHERE WHAT IT READS IS OF BULK AT MOST 1048576: true; the input reads as it did. -/
def fnPurseOkUptoRow : OpenClaim := { program := "ytfmhmcedidghfaadoor", sum := "abc9a2f885f387c47f5a8f4e142d7b046e7e02f8c12c1dfb8e510afda2685e6d", func := "loop.example/coinmachine/laws.FnPurseOk", spec := "fnPurseOk", named := ["loop.example/coinmachine/impl.worths"], apart := false, laid := [("loop.example/coinmachine/impl.worths", laid_loop_example_coinmachine_impl_worths)], narrowed := true }
def FnPurseOkUptoSaid : Prop := fnPurseOkUptoRow.holds Tryd.pinned (OpenSpec.upto fnPurseOkSpec)

/-- 'laws.FnValueOf', WHERE WHAT IT READS IS OF BULK AT MOST 1048576: true; the input reads as it did. -/
def fnValueOfUptoRow : OpenClaim := { program := "ytfmhmcedidghfaadoor", sum := "abc9a2f885f387c47f5a8f4e142d7b046e7e02f8c12c1dfb8e510afda2685e6d", func := "loop.example/coinmachine/laws.FnValueOf", spec := "fnValueOf", named := ["loop.example/coinmachine/impl.worths"], apart := false, laid := [("loop.example/coinmachine/impl.worths", laid_loop_example_coinmachine_impl_worths)], narrowed := true }
def FnValueOfUptoSaid : Prop := fnValueOfUptoRow.holds Tryd.pinned (OpenSpec.upto fnValueOfSpec)

/-- 'laws.FnCoinsIn', WHERE WHAT IT READS IS OF BULK AT MOST 1048576: true; the input reads as it did. -/
def fnCoinsInUptoRow : OpenClaim := { program := "ytfmhmcedidghfaadoor", sum := "abc9a2f885f387c47f5a8f4e142d7b046e7e02f8c12c1dfb8e510afda2685e6d", func := "loop.example/coinmachine/laws.FnCoinsIn", spec := "fnCoinsIn", named := ["loop.example/coinmachine/impl.worths"], apart := false, laid := [("loop.example/coinmachine/impl.worths", laid_loop_example_coinmachine_impl_worths)], narrowed := true }
def FnCoinsInUptoSaid : Prop := fnCoinsInUptoRow.holds Tryd.pinned (OpenSpec.upto fnCoinsInSpec)

/-- 'laws.FnPutTogether', WHERE WHAT IT READS IS OF BULK AT MOST 1048576: true; the input reads as it did. -/
def fnPutTogetherUptoRow : OpenClaim := { program := "ytfmhmcedidghfaadoor", sum := "abc9a2f885f387c47f5a8f4e142d7b046e7e02f8c12c1dfb8e510afda2685e6d", func := "loop.example/coinmachine/laws.FnPutTogether", spec := "fnPutTogether", named := ["loop.example/coinmachine/impl.worths"], apart := false, laid := [("loop.example/coinmachine/impl.worths", laid_loop_example_coinmachine_impl_worths)], narrowed := true }
def FnPutTogetherUptoSaid : Prop := fnPutTogetherUptoRow.holds Tryd.pinned (OpenSpec.upto fnPutTogetherSpec)

/-- 'laws.FnWithinOf', WHERE WHAT IT READS IS OF BULK AT MOST 1048576: true; the input reads as it did. -/
def fnWithinOfUptoRow : OpenClaim := { program := "ytfmhmcedidghfaadoor", sum := "abc9a2f885f387c47f5a8f4e142d7b046e7e02f8c12c1dfb8e510afda2685e6d", func := "loop.example/coinmachine/laws.FnWithinOf", spec := "fnWithinOf", named := ["loop.example/coinmachine/impl.worths"], apart := false, laid := [("loop.example/coinmachine/impl.worths", laid_loop_example_coinmachine_impl_worths)], narrowed := true }
def FnWithinOfUptoSaid : Prop := fnWithinOfUptoRow.holds Tryd.pinned (OpenSpec.upto fnWithinOfSpec)

/-- 'laws.FnTakenOut', WHERE WHAT IT READS IS OF BULK AT MOST 1048576: true; the input reads as it did. -/
def fnTakenOutUptoRow : OpenClaim := { program := "ytfmhmcedidghfaadoor", sum := "abc9a2f885f387c47f5a8f4e142d7b046e7e02f8c12c1dfb8e510afda2685e6d", func := "loop.example/coinmachine/laws.FnTakenOut", spec := "fnTakenOut", named := ["loop.example/coinmachine/impl.worths"], apart := false, laid := [("loop.example/coinmachine/impl.worths", laid_loop_example_coinmachine_impl_worths)], narrowed := true }
def FnTakenOutUptoSaid : Prop := fnTakenOutUptoRow.holds Tryd.pinned (OpenSpec.upto fnTakenOutSpec)

/-- 'laws.FnPurseText', WHERE WHAT IT READS IS OF BULK AT MOST 1048576: true; the input reads as it did. -/
def fnPurseTextUptoRow : OpenClaim := { program := "ytfmhmcedidghfaadoor", sum := "abc9a2f885f387c47f5a8f4e142d7b046e7e02f8c12c1dfb8e510afda2685e6d", func := "loop.example/coinmachine/laws.FnPurseText", spec := "fnPurseText", inPlace := ["internal/abi.NoEscape", "internal/bytealg.MakeNoZero", "internal/bytealg.CountString", "internal/bytealg.IndexByteString", "internal/bytealg.IndexString"], recurses := true, named := ["loop.example/coinmachine/impl.worths", "internal/strconv.uint64pow10", "math/bits.deBruijn32tab", "math/bits.deBruijn64tab", "unicode/utf8.first", "unicode/utf8.acceptRanges", "internal/bytealg.MaxLen", "strconv.ErrSyntax", "strconv.ErrRange"], apart := false, laid := [("math/bits.deBruijn32tab", laid_math_bits_deBruijn32tab), ("math/bits.deBruijn64tab", laid_math_bits_deBruijn64tab), ("internal/strconv.uint64pow10", laid_internal_strconv_uint64pow10), ("unicode/utf8.acceptRanges", laid_unicode_utf8_acceptRanges), ("strconv.ErrRange", laid_strconv_ErrRange), ("strconv.ErrSyntax", laid_strconv_ErrSyntax), ("loop.example/coinmachine/impl.worths", laid_loop_example_coinmachine_impl_worths), ("unicode/utf8.first", laid_unicode_utf8_first)], narrowed := true }
def FnPurseTextUptoSaid : Prop := fnPurseTextUptoRow.holds Tryd.pinned (OpenSpec.upto fnPurseTextSpec)

/-- 'laws.FnReadPurse', WHERE WHAT IT READS IS OF BULK AT MOST 1048576: true; the input reads as it did. -/
def fnReadPurseUptoRow : OpenClaim := { program := "ytfmhmcedidghfaadoor", sum := "abc9a2f885f387c47f5a8f4e142d7b046e7e02f8c12c1dfb8e510afda2685e6d", func := "loop.example/coinmachine/laws.FnReadPurse", spec := "fnReadPurse", inPlace := ["internal/bytealg.CountString", "internal/bytealg.IndexByteString", "internal/bytealg.IndexString", "internal/abi.NoEscape", "internal/bytealg.MakeNoZero"], recurses := true, named := ["unicode/utf8.first", "unicode/utf8.acceptRanges", "internal/bytealg.MaxLen", "loop.example/coinmachine/impl.worths", "strconv.ErrSyntax", "strconv.ErrRange", "internal/strconv.uint64pow10", "math/bits.deBruijn32tab", "math/bits.deBruijn64tab"], apart := false, laid := [("math/bits.deBruijn32tab", laid_math_bits_deBruijn32tab), ("math/bits.deBruijn64tab", laid_math_bits_deBruijn64tab), ("internal/strconv.uint64pow10", laid_internal_strconv_uint64pow10), ("unicode/utf8.acceptRanges", laid_unicode_utf8_acceptRanges), ("strconv.ErrRange", laid_strconv_ErrRange), ("strconv.ErrSyntax", laid_strconv_ErrSyntax), ("loop.example/coinmachine/impl.worths", laid_loop_example_coinmachine_impl_worths), ("unicode/utf8.first", laid_unicode_utf8_first)], narrowed := true }
def FnReadPurseUptoSaid : Prop := fnReadPurseUptoRow.holds Tryd.pinned (OpenSpec.upto fnReadPurseSpec)

/-- 'laws.FnExactWorthOf', WHERE WHAT IT READS IS OF BULK AT MOST 1048576: true; the input reads as it did. -/
def fnExactWorthOfUptoRow : OpenClaim := { program := "ytfmhmcedidghfaadoor", sum := "abc9a2f885f387c47f5a8f4e142d7b046e7e02f8c12c1dfb8e510afda2685e6d", func := "loop.example/coinmachine/laws.FnExactWorthOf", spec := "fnExactWorthOf", named := ["loop.example/coinmachine/impl.worths"], apart := false, laid := [("loop.example/coinmachine/impl.worths", laid_loop_example_coinmachine_impl_worths)], narrowed := true }
def FnExactWorthOfUptoSaid : Prop := fnExactWorthOfUptoRow.holds Tryd.pinned (OpenSpec.upto fnExactWorthOfSpec)

/-- 'laws.FnExactValueOf', WHERE WHAT IT READS IS OF BULK AT MOST 1048576: true; the input reads as it did. -/
def fnExactValueOfUptoRow : OpenClaim := { program := "ytfmhmcedidghfaadoor", sum := "abc9a2f885f387c47f5a8f4e142d7b046e7e02f8c12c1dfb8e510afda2685e6d", func := "loop.example/coinmachine/laws.FnExactValueOf", spec := "fnExactValueOf", named := ["loop.example/coinmachine/impl.worths"], apart := false, laid := [("loop.example/coinmachine/impl.worths", laid_loop_example_coinmachine_impl_worths)], narrowed := true }
def FnExactValueOfUptoSaid : Prop := fnExactValueOfUptoRow.holds Tryd.pinned (OpenSpec.upto fnExactValueOfSpec)

/-- 'laws.FnExactPurseText', WHERE WHAT IT READS IS OF BULK AT MOST 1048576: true; the input reads as it did. -/
def fnExactPurseTextUptoRow : OpenClaim := { program := "ytfmhmcedidghfaadoor", sum := "abc9a2f885f387c47f5a8f4e142d7b046e7e02f8c12c1dfb8e510afda2685e6d", func := "loop.example/coinmachine/laws.FnExactPurseText", spec := "fnExactPurseText", inPlace := ["internal/abi.NoEscape", "internal/bytealg.MakeNoZero"], recurses := true, named := ["loop.example/coinmachine/impl.worths", "internal/strconv.uint64pow10", "math/bits.deBruijn32tab", "math/bits.deBruijn64tab"], apart := false, laid := [("math/bits.deBruijn32tab", laid_math_bits_deBruijn32tab), ("math/bits.deBruijn64tab", laid_math_bits_deBruijn64tab), ("internal/strconv.uint64pow10", laid_internal_strconv_uint64pow10), ("loop.example/coinmachine/impl.worths", laid_loop_example_coinmachine_impl_worths)], narrowed := true }
def FnExactPurseTextUptoSaid : Prop := fnExactPurseTextUptoRow.holds Tryd.pinned (OpenSpec.upto fnExactPurseTextSpec)

/-- 'laws.FnExactReadPurse', WHERE WHAT IT READS IS OF BULK AT MOST 1048576: true; the input reads as it did. -/
def fnExactReadPurseUptoRow : OpenClaim := { program := "ytfmhmcedidghfaadoor", sum := "abc9a2f885f387c47f5a8f4e142d7b046e7e02f8c12c1dfb8e510afda2685e6d", func := "loop.example/coinmachine/laws.FnExactReadPurse", spec := "fnExactReadPurse", inPlace := ["internal/bytealg.CountString", "internal/bytealg.IndexByteString", "internal/bytealg.IndexString", "internal/abi.NoEscape", "internal/bytealg.MakeNoZero"], recurses := true, named := ["unicode/utf8.first", "unicode/utf8.acceptRanges", "internal/bytealg.MaxLen", "loop.example/coinmachine/impl.worths", "strconv.ErrSyntax", "strconv.ErrRange", "internal/strconv.uint64pow10", "math/bits.deBruijn32tab", "math/bits.deBruijn64tab"], apart := false, laid := [("math/bits.deBruijn32tab", laid_math_bits_deBruijn32tab), ("math/bits.deBruijn64tab", laid_math_bits_deBruijn64tab), ("internal/strconv.uint64pow10", laid_internal_strconv_uint64pow10), ("unicode/utf8.acceptRanges", laid_unicode_utf8_acceptRanges), ("strconv.ErrRange", laid_strconv_ErrRange), ("strconv.ErrSyntax", laid_strconv_ErrSyntax), ("loop.example/coinmachine/impl.worths", laid_loop_example_coinmachine_impl_worths), ("unicode/utf8.first", laid_unicode_utf8_first)], narrowed := true }
def FnExactReadPurseUptoSaid : Prop := fnExactReadPurseUptoRow.holds Tryd.pinned (OpenSpec.upto fnExactReadPurseSpec)

end Rows
end Go.Proofs.YtfmhmcedidghfaaDoor

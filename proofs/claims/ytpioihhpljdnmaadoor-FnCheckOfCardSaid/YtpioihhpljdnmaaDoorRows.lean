/-
  NARROWER THAN 'FOR EVERY INPUT', by the rows' own cells (each row's printed sentence says how): FnExactEntryOk: laid · FnExactCheckOf: laid · FnExactWrittenFor: laid · FnExactWrongEntry: laid · FnExactTakingsOf: laid · FnExactTapeText: laid · FnExactReadTape: laid · FnEntryOk: laid · FnCheckOf: laid.
  DERIVED. THE GIVEN ROWS OF THIS SEAT. 9 by the template 'for every input the law returns true; each argument reads behind the call as it read before'; 0 by the template 'total and deterministic' (their statements: YtpioihhpljdnmaaDoorTotals.lean).
  GIVEN WITH THE SEED: the statements are not yours to turn. If you find one false, say at which input.
  Laid BY PROGRAM, IN A SANDBOX (cutbox-rows.mjs): the forced cells as the released guide's own fill.sh prints them over the translation c8039692cc336179… (all of the seat's roots in one cut). By AI agents, Wed Nov 11 2026. No macro, syntax, notation, axiom, sorry.
-/
import Derived.Test.YtpioihhpljdnmaaDoorChecked
import GoSem.Claim
import GoSem.ClaimJoined
import GoSem.ClaimMapViews
import Derived.JoinedTies
import Derived.KernelRfl
namespace Go.Proofs.YtpioihhpljdnmaaDoor
/- THE CELL 'sum', in the pinned program and in every row, IS THE sha256 OF THE DUMP (.gsa) THAT YtpioihhpljdnmaaDoorProg.lean LOADS. Nothing in Lean hashes anything: it is a label: what it is worth is what the hold of that sum in a sandbox is worth. -/
noncomputable def Tryd.pinned : Pinned := { name := "ytpioihhpljdnmaadoor", sum := "c8039692cc336179d30219c14118d9071e92c37d431ed8890ed9fc3f73623789", checked := Tryd.checked }
namespace Rows
def none {H : Type} : Left H := { results := [], args := [] }

/- WHAT THE LISTED PACKAGE-LEVEL VARIABLES READ AS WHEN THE CALL BEGINS. Each datum BY PROGRAM (the guide's laid-datum.mjs) off the statement by which the dump's own 'gosem.cut.vars' lays the variable. In a bare row this is a premise. The card (YtpioihhpljdnmaaDoorCards.lean) ties it to the program's text. -/
def laid_loop_example_coinmachine_impl_greatest {H : Type} : DataW H := .agg [.lit (.int .i64 2), .lit (.int .i64 9), .lit (.int .i64 1), .lit (.int .i64 3), .lit (.int .i64 900), .lit (.int .i64 996)]
def laid_loop_example_coinmachine_impl_worths {H : Type} : DataW H := .agg [.lit (.int .i64 1), .lit (.int .i64 2), .lit (.int .i64 5), .lit (.int .i64 10)]
def laid_math_bits_deBruijn32tab {H : Type} : DataW H := .agg [.lit (.int .u8 0), .lit (.int .u8 1), .lit (.int .u8 28), .lit (.int .u8 2), .lit (.int .u8 29), .lit (.int .u8 14), .lit (.int .u8 24), .lit (.int .u8 3), .lit (.int .u8 30), .lit (.int .u8 22), .lit (.int .u8 20), .lit (.int .u8 15), .lit (.int .u8 25), .lit (.int .u8 17), .lit (.int .u8 4), .lit (.int .u8 8), .lit (.int .u8 31), .lit (.int .u8 27), .lit (.int .u8 13), .lit (.int .u8 23), .lit (.int .u8 21), .lit (.int .u8 19), .lit (.int .u8 16), .lit (.int .u8 7), .lit (.int .u8 26), .lit (.int .u8 12), .lit (.int .u8 18), .lit (.int .u8 6), .lit (.int .u8 11), .lit (.int .u8 5), .lit (.int .u8 10), .lit (.int .u8 9)]
def laid_math_bits_deBruijn64tab {H : Type} : DataW H := .agg [.lit (.int .u8 0), .lit (.int .u8 1), .lit (.int .u8 56), .lit (.int .u8 2), .lit (.int .u8 57), .lit (.int .u8 49), .lit (.int .u8 28), .lit (.int .u8 3), .lit (.int .u8 61), .lit (.int .u8 58), .lit (.int .u8 42), .lit (.int .u8 50), .lit (.int .u8 38), .lit (.int .u8 29), .lit (.int .u8 17), .lit (.int .u8 4), .lit (.int .u8 62), .lit (.int .u8 47), .lit (.int .u8 59), .lit (.int .u8 36), .lit (.int .u8 45), .lit (.int .u8 43), .lit (.int .u8 51), .lit (.int .u8 22), .lit (.int .u8 53), .lit (.int .u8 39), .lit (.int .u8 33), .lit (.int .u8 30), .lit (.int .u8 24), .lit (.int .u8 18), .lit (.int .u8 12), .lit (.int .u8 5), .lit (.int .u8 63), .lit (.int .u8 55), .lit (.int .u8 48), .lit (.int .u8 27), .lit (.int .u8 60), .lit (.int .u8 41), .lit (.int .u8 37), .lit (.int .u8 16), .lit (.int .u8 46), .lit (.int .u8 35), .lit (.int .u8 44), .lit (.int .u8 21), .lit (.int .u8 52), .lit (.int .u8 32), .lit (.int .u8 23), .lit (.int .u8 11), .lit (.int .u8 54), .lit (.int .u8 26), .lit (.int .u8 40), .lit (.int .u8 15), .lit (.int .u8 34), .lit (.int .u8 20), .lit (.int .u8 31), .lit (.int .u8 10), .lit (.int .u8 25), .lit (.int .u8 14), .lit (.int .u8 19), .lit (.int .u8 9), .lit (.int .u8 13), .lit (.int .u8 8), .lit (.int .u8 7), .lit (.int .u8 6)]
def laid_internal_strconv_uint64pow10 {H : Type} : DataW H := .agg [.lit (.int .u64 1), .lit (.int .u64 10), .lit (.int .u64 100), .lit (.int .u64 1000), .lit (.int .u64 10000), .lit (.int .u64 100000), .lit (.int .u64 1000000), .lit (.int .u64 10000000), .lit (.int .u64 100000000), .lit (.int .u64 1000000000), .lit (.int .u64 10000000000), .lit (.int .u64 100000000000), .lit (.int .u64 1000000000000), .lit (.int .u64 10000000000000), .lit (.int .u64 100000000000000), .lit (.int .u64 1000000000000000), .lit (.int .u64 10000000000000000), .lit (.int .u64 100000000000000000), .lit (.int .u64 1000000000000000000), .lit (.int .u64 10000000000000000000)]

/-- 'laws.FnExactEntryOk': WHATEVER THE INPUT: true; the input reads as it did. -/
def fnExactEntryOkSpec : ChangeSpec := { name := "fnExactEntryOk", vars := ["loop.example/coinmachine/impl.greatest"], fn := fun _ => fun
  | [d, g1] => { results := [.lit (.bool true)], args := [d], vars := [g1] }
  | _ => none }
def fnExactEntryOkRow : OpenClaim := { program := "ytpioihhpljdnmaadoor", sum := "c8039692cc336179d30219c14118d9071e92c37d431ed8890ed9fc3f73623789", func := "loop.example/coinmachine/laws.FnExactEntryOk", spec := "fnExactEntryOk", named := ["loop.example/coinmachine/impl.greatest"], apart := false, laid := [("loop.example/coinmachine/impl.greatest", laid_loop_example_coinmachine_impl_greatest)] }
def FnExactEntryOkSaid : Prop := fnExactEntryOkRow.holds Tryd.pinned (OpenSpec.ofChange fnExactEntryOkSpec)

/-- ITS FALSE NEIGHBOUR: 'it returns false'. Refute it at one input. -/
def fnExactEntryOkWrong : ChangeSpec := { name := "fnExactEntryOk", vars := ["loop.example/coinmachine/impl.greatest"], fn := fun _ => fun
  | [d, g1] => { results := [.lit (.bool false)], args := [d], vars := [g1] }
  | _ => none }
def FnExactEntryOkWrongFalsely : Prop := fnExactEntryOkRow.holds Tryd.pinned (OpenSpec.ofChange fnExactEntryOkWrong)

/-- 'laws.FnExactCheckOf': WHATEVER THE INPUT: true; the input reads as it did. -/
def fnExactCheckOfSpec : ChangeSpec := { name := "fnExactCheckOf", vars := ["loop.example/coinmachine/impl.greatest"], fn := fun _ => fun
  | [d1, d2, g1] => { results := [.lit (.bool true)], args := [d1, d2], vars := [g1] }
  | _ => none }
def fnExactCheckOfRow : OpenClaim := { program := "ytpioihhpljdnmaadoor", sum := "c8039692cc336179d30219c14118d9071e92c37d431ed8890ed9fc3f73623789", func := "loop.example/coinmachine/laws.FnExactCheckOf", spec := "fnExactCheckOf", unfollowed := true, recurses := true, named := ["loop.example/coinmachine/impl.greatest"], apart := false, laid := [("loop.example/coinmachine/impl.greatest", laid_loop_example_coinmachine_impl_greatest)] }
def FnExactCheckOfSaid : Prop := fnExactCheckOfRow.holds Tryd.pinned (OpenSpec.ofChange fnExactCheckOfSpec)

/-- ITS FALSE NEIGHBOUR: 'it returns false'. Refute it at one input. -/
def fnExactCheckOfWrong : ChangeSpec := { name := "fnExactCheckOf", vars := ["loop.example/coinmachine/impl.greatest"], fn := fun _ => fun
  | [d1, d2, g1] => { results := [.lit (.bool false)], args := [d1, d2], vars := [g1] }
  | _ => none }
def FnExactCheckOfWrongFalsely : Prop := fnExactCheckOfRow.holds Tryd.pinned (OpenSpec.ofChange fnExactCheckOfWrong)

/-- 'laws.FnExactWrittenFor': WHATEVER THE INPUT: true; the input reads as it did. -/
def fnExactWrittenForSpec : ChangeSpec := { name := "fnExactWrittenFor", vars := ["loop.example/coinmachine/impl.worths", "loop.example/coinmachine/impl.greatest"], fn := fun _ => fun
  | [d1, d2, g1, g2] => { results := [.lit (.bool true)], args := [d1, d2], vars := [g1, g2] }
  | _ => none }
def fnExactWrittenForRow : OpenClaim := { program := "ytpioihhpljdnmaadoor", sum := "c8039692cc336179d30219c14118d9071e92c37d431ed8890ed9fc3f73623789", func := "loop.example/coinmachine/laws.FnExactWrittenFor", spec := "fnExactWrittenFor", unfollowed := true, recurses := true, named := ["loop.example/coinmachine/impl.worths", "loop.example/coinmachine/impl.greatest"], apart := false, laid := [("loop.example/coinmachine/impl.worths", laid_loop_example_coinmachine_impl_worths), ("loop.example/coinmachine/impl.greatest", laid_loop_example_coinmachine_impl_greatest)] }
def FnExactWrittenForSaid : Prop := fnExactWrittenForRow.holds Tryd.pinned (OpenSpec.ofChange fnExactWrittenForSpec)

/-- ITS FALSE NEIGHBOUR: 'it returns false'. Refute it at one input. -/
def fnExactWrittenForWrong : ChangeSpec := { name := "fnExactWrittenFor", vars := ["loop.example/coinmachine/impl.worths", "loop.example/coinmachine/impl.greatest"], fn := fun _ => fun
  | [d1, d2, g1, g2] => { results := [.lit (.bool false)], args := [d1, d2], vars := [g1, g2] }
  | _ => none }
def FnExactWrittenForWrongFalsely : Prop := fnExactWrittenForRow.holds Tryd.pinned (OpenSpec.ofChange fnExactWrittenForWrong)

/-- 'laws.FnExactWrongEntry': WHATEVER THE INPUT: true; the input reads as it did. -/
def fnExactWrongEntrySpec : ChangeSpec := { name := "fnExactWrongEntry", vars := ["loop.example/coinmachine/impl.greatest"], fn := fun _ => fun
  | [d, g1] => { results := [.lit (.bool true)], args := [d], vars := [g1] }
  | _ => none }
def fnExactWrongEntryRow : OpenClaim := { program := "ytpioihhpljdnmaadoor", sum := "c8039692cc336179d30219c14118d9071e92c37d431ed8890ed9fc3f73623789", func := "loop.example/coinmachine/laws.FnExactWrongEntry", spec := "fnExactWrongEntry", unfollowed := true, recurses := true, named := ["loop.example/coinmachine/impl.greatest"], apart := false, laid := [("loop.example/coinmachine/impl.greatest", laid_loop_example_coinmachine_impl_greatest)] }
def FnExactWrongEntrySaid : Prop := fnExactWrongEntryRow.holds Tryd.pinned (OpenSpec.ofChange fnExactWrongEntrySpec)

/-- ITS FALSE NEIGHBOUR: 'it returns false'. Refute it at one input. -/
def fnExactWrongEntryWrong : ChangeSpec := { name := "fnExactWrongEntry", vars := ["loop.example/coinmachine/impl.greatest"], fn := fun _ => fun
  | [d, g1] => { results := [.lit (.bool false)], args := [d], vars := [g1] }
  | _ => none }
def FnExactWrongEntryWrongFalsely : Prop := fnExactWrongEntryRow.holds Tryd.pinned (OpenSpec.ofChange fnExactWrongEntryWrong)

/-- 'laws.FnExactTakingsOf': WHATEVER THE INPUT: true; the input reads as it did. -/
def fnExactTakingsOfSpec : ChangeSpec := { name := "fnExactTakingsOf", vars := ["loop.example/coinmachine/impl.greatest", "loop.example/coinmachine/impl.worths"], fn := fun _ => fun
  | [d, g1, g2] => { results := [.lit (.bool true)], args := [d], vars := [g1, g2] }
  | _ => none }
def fnExactTakingsOfRow : OpenClaim := { program := "ytpioihhpljdnmaadoor", sum := "c8039692cc336179d30219c14118d9071e92c37d431ed8890ed9fc3f73623789", func := "loop.example/coinmachine/laws.FnExactTakingsOf", spec := "fnExactTakingsOf", unfollowed := true, recurses := true, named := ["loop.example/coinmachine/impl.greatest", "loop.example/coinmachine/impl.worths"], apart := false, laid := [("loop.example/coinmachine/impl.worths", laid_loop_example_coinmachine_impl_worths), ("loop.example/coinmachine/impl.greatest", laid_loop_example_coinmachine_impl_greatest)] }
def FnExactTakingsOfSaid : Prop := fnExactTakingsOfRow.holds Tryd.pinned (OpenSpec.ofChange fnExactTakingsOfSpec)

/-- ITS FALSE NEIGHBOUR: 'it returns false'. Refute it at one input. -/
def fnExactTakingsOfWrong : ChangeSpec := { name := "fnExactTakingsOf", vars := ["loop.example/coinmachine/impl.greatest", "loop.example/coinmachine/impl.worths"], fn := fun _ => fun
  | [d, g1, g2] => { results := [.lit (.bool false)], args := [d], vars := [g1, g2] }
  | _ => none }
def FnExactTakingsOfWrongFalsely : Prop := fnExactTakingsOfRow.holds Tryd.pinned (OpenSpec.ofChange fnExactTakingsOfWrong)

/-- 'laws.FnExactTapeText': WHATEVER THE INPUT: true; the input reads as it did. -/
def fnExactTapeTextSpec : ChangeSpec := { name := "fnExactTapeText", vars := ["loop.example/coinmachine/impl.greatest"], fn := fun _ => fun
  | [d, g1] => { results := [.lit (.bool true)], args := [d], vars := [g1] }
  | _ => none }
def fnExactTapeTextRow : OpenClaim := { program := "ytpioihhpljdnmaadoor", sum := "c8039692cc336179d30219c14118d9071e92c37d431ed8890ed9fc3f73623789", func := "loop.example/coinmachine/laws.FnExactTapeText", spec := "fnExactTapeText", unfollowed := true, recurses := true, named := ["loop.example/coinmachine/impl.greatest", "internal/strconv.uint64pow10", "math/bits.deBruijn32tab", "math/bits.deBruijn64tab"], apart := false, laid := [("math/bits.deBruijn32tab", laid_math_bits_deBruijn32tab), ("math/bits.deBruijn64tab", laid_math_bits_deBruijn64tab), ("internal/strconv.uint64pow10", laid_internal_strconv_uint64pow10), ("loop.example/coinmachine/impl.greatest", laid_loop_example_coinmachine_impl_greatest)] }
def FnExactTapeTextSaid : Prop := fnExactTapeTextRow.holds Tryd.pinned (OpenSpec.ofChange fnExactTapeTextSpec)

/-- ITS FALSE NEIGHBOUR: 'it returns false'. Refute it at one input. -/
def fnExactTapeTextWrong : ChangeSpec := { name := "fnExactTapeText", vars := ["loop.example/coinmachine/impl.greatest"], fn := fun _ => fun
  | [d, g1] => { results := [.lit (.bool false)], args := [d], vars := [g1] }
  | _ => none }
def FnExactTapeTextWrongFalsely : Prop := fnExactTapeTextRow.holds Tryd.pinned (OpenSpec.ofChange fnExactTapeTextWrong)

/-- 'laws.FnExactReadTape': WHATEVER THE INPUT: true; the input reads as it did. -/
def fnExactReadTapeSpec : ChangeSpec := { name := "fnExactReadTape", vars := ["loop.example/coinmachine/impl.greatest"], fn := fun _ => fun
  | [d, g1] => { results := [.lit (.bool true)], args := [d], vars := [g1] }
  | _ => none }
def fnExactReadTapeRow : OpenClaim := { program := "ytpioihhpljdnmaadoor", sum := "c8039692cc336179d30219c14118d9071e92c37d431ed8890ed9fc3f73623789", func := "loop.example/coinmachine/laws.FnExactReadTape", spec := "fnExactReadTape", unfollowed := true, recurses := true, named := ["loop.example/coinmachine/impl.greatest", "internal/strconv.uint64pow10", "math/bits.deBruijn32tab", "math/bits.deBruijn64tab"], apart := false, laid := [("math/bits.deBruijn32tab", laid_math_bits_deBruijn32tab), ("math/bits.deBruijn64tab", laid_math_bits_deBruijn64tab), ("internal/strconv.uint64pow10", laid_internal_strconv_uint64pow10), ("loop.example/coinmachine/impl.greatest", laid_loop_example_coinmachine_impl_greatest)] }
def FnExactReadTapeSaid : Prop := fnExactReadTapeRow.holds Tryd.pinned (OpenSpec.ofChange fnExactReadTapeSpec)

/-- ITS FALSE NEIGHBOUR: 'it returns false'. Refute it at one input. -/
def fnExactReadTapeWrong : ChangeSpec := { name := "fnExactReadTape", vars := ["loop.example/coinmachine/impl.greatest"], fn := fun _ => fun
  | [d, g1] => { results := [.lit (.bool false)], args := [d], vars := [g1] }
  | _ => none }
def FnExactReadTapeWrongFalsely : Prop := fnExactReadTapeRow.holds Tryd.pinned (OpenSpec.ofChange fnExactReadTapeWrong)

/-- 'laws.FnEntryOk': WHATEVER THE INPUT: true; the input reads as it did. -/
def fnEntryOkSpec : ChangeSpec := { name := "fnEntryOk", vars := ["loop.example/coinmachine/impl.greatest", "loop.example/coinmachine/impl.worths"], fn := fun _ => fun
  | [d, g1, g2] => { results := [.lit (.bool true)], args := [d], vars := [g1, g2] }
  | _ => none }
def fnEntryOkRow : OpenClaim := { program := "ytpioihhpljdnmaadoor", sum := "c8039692cc336179d30219c14118d9071e92c37d431ed8890ed9fc3f73623789", func := "loop.example/coinmachine/laws.FnEntryOk", spec := "fnEntryOk", named := ["loop.example/coinmachine/impl.greatest", "loop.example/coinmachine/impl.worths"], apart := false, laid := [("loop.example/coinmachine/impl.worths", laid_loop_example_coinmachine_impl_worths), ("loop.example/coinmachine/impl.greatest", laid_loop_example_coinmachine_impl_greatest)] }
def FnEntryOkSaid : Prop := fnEntryOkRow.holds Tryd.pinned (OpenSpec.ofChange fnEntryOkSpec)

/-- ITS FALSE NEIGHBOUR: 'it returns false'. Refute it at one input. -/
def fnEntryOkWrong : ChangeSpec := { name := "fnEntryOk", vars := ["loop.example/coinmachine/impl.greatest", "loop.example/coinmachine/impl.worths"], fn := fun _ => fun
  | [d, g1, g2] => { results := [.lit (.bool false)], args := [d], vars := [g1, g2] }
  | _ => none }
def FnEntryOkWrongFalsely : Prop := fnEntryOkRow.holds Tryd.pinned (OpenSpec.ofChange fnEntryOkWrong)

/-- 'laws.FnCheckOf': WHATEVER THE INPUT: true; the input reads as it did. -/
def fnCheckOfSpec : ChangeSpec := { name := "fnCheckOf", vars := ["loop.example/coinmachine/impl.greatest", "loop.example/coinmachine/impl.worths"], fn := fun _ => fun
  | [d, g1, g2] => { results := [.lit (.bool true)], args := [d], vars := [g1, g2] }
  | _ => none }
def fnCheckOfRow : OpenClaim := { program := "ytpioihhpljdnmaadoor", sum := "c8039692cc336179d30219c14118d9071e92c37d431ed8890ed9fc3f73623789", func := "loop.example/coinmachine/laws.FnCheckOf", spec := "fnCheckOf", unfollowed := true, recurses := true, named := ["loop.example/coinmachine/impl.greatest", "loop.example/coinmachine/impl.worths"], apart := false, laid := [("loop.example/coinmachine/impl.worths", laid_loop_example_coinmachine_impl_worths), ("loop.example/coinmachine/impl.greatest", laid_loop_example_coinmachine_impl_greatest)] }
def FnCheckOfSaid : Prop := fnCheckOfRow.holds Tryd.pinned (OpenSpec.ofChange fnCheckOfSpec)

/-- ITS FALSE NEIGHBOUR: 'it returns false'. Refute it at one input. -/
def fnCheckOfWrong : ChangeSpec := { name := "fnCheckOf", vars := ["loop.example/coinmachine/impl.greatest", "loop.example/coinmachine/impl.worths"], fn := fun _ => fun
  | [d, g1, g2] => { results := [.lit (.bool false)], args := [d], vars := [g1, g2] }
  | _ => none }
def FnCheckOfWrongFalsely : Prop := fnCheckOfRow.holds Tryd.pinned (OpenSpec.ofChange fnCheckOfWrong)

/- THE SECOND FORM. 'bulk': how many values and letters a reading holds, each counted each time it is reached (what is shared counts as often as it is met; a slice's spare places count too). A statement '..UptoSaid' is the law's where the arguments, and the package variables that the reading takes, are together of bulk at most 1048576: NARROWER than '..Said'. Prove '..Said' where nothing that the law and all that it calls make is longer than what came in: it says more and counts as full. Else prove '..UptoSaid'. A law counts once. -/
mutual
def uptoBulk {H : Type} : DataW H → Nat
  | .lit (.string bytes) => bytes.length + 1
  | .lit _ => 1
  | .nil => 1
  | .ptr d => uptoBulk d + 1
  | .slice elems spare => uptoBulkAll elems + uptoBulkAll spare + 1
  | .agg parts => uptoBulkAll parts + 1
  | .iface _ d => uptoBulk d + 1
  | .map entries => uptoBulkEntries entries + 1
  | .held _ => 1
def uptoBulkAll {H : Type} : List (DataW H) → Nat
  | [] => 0
  | d :: r => uptoBulk d + uptoBulkAll r
def uptoBulkEntries {H : Type} : List (Lit × DataW H) → Nat
  | [] => 0
  | x :: r => uptoBulkEntry x + uptoBulkEntries r
def uptoBulkEntry {H : Type} : Lit × DataW H → Nat
  | (.string bytes, d) => bytes.length + uptoBulk d + 1
  | (_, d) => uptoBulk d + 1
 end
def uptoSmall : (H : Type) → List (DataW H) → Bool := fun _ ds => decide (uptoBulkAll ds ≤ 1048576)
def OpenSpec.upto (s : _root_.Go.ChangeSpec) : _root_.Go.OpenSpec := { _root_.Go.OpenSpec.ofChange s with cond := some uptoSmall }

/-- 'laws.FnExactEntryOk', WHERE WHAT IT READS IS OF BULK AT MOST 1048576: true; the input reads as it did. -/
def fnExactEntryOkUptoRow : OpenClaim := { program := "ytpioihhpljdnmaadoor", sum := "c8039692cc336179d30219c14118d9071e92c37d431ed8890ed9fc3f73623789", func := "loop.example/coinmachine/laws.FnExactEntryOk", spec := "fnExactEntryOk", named := ["loop.example/coinmachine/impl.greatest"], apart := false, laid := [("loop.example/coinmachine/impl.greatest", laid_loop_example_coinmachine_impl_greatest)], narrowed := true }
def FnExactEntryOkUptoSaid : Prop := fnExactEntryOkUptoRow.holds Tryd.pinned (OpenSpec.upto fnExactEntryOkSpec)

/-- 'laws.FnExactCheckOf', WHERE WHAT IT READS IS OF BULK AT MOST 1048576: true; the input reads as it did. -/
def fnExactCheckOfUptoRow : OpenClaim := { program := "ytpioihhpljdnmaadoor", sum := "c8039692cc336179d30219c14118d9071e92c37d431ed8890ed9fc3f73623789", func := "loop.example/coinmachine/laws.FnExactCheckOf", spec := "fnExactCheckOf", unfollowed := true, recurses := true, named := ["loop.example/coinmachine/impl.greatest"], apart := false, laid := [("loop.example/coinmachine/impl.greatest", laid_loop_example_coinmachine_impl_greatest)], narrowed := true }
def FnExactCheckOfUptoSaid : Prop := fnExactCheckOfUptoRow.holds Tryd.pinned (OpenSpec.upto fnExactCheckOfSpec)

/-- 'laws.FnExactWrittenFor', WHERE WHAT IT READS IS OF BULK AT MOST 1048576: true; the input reads as it did. -/
def fnExactWrittenForUptoRow : OpenClaim := { program := "ytpioihhpljdnmaadoor", sum := "c8039692cc336179d30219c14118d9071e92c37d431ed8890ed9fc3f73623789", func := "loop.example/coinmachine/laws.FnExactWrittenFor", spec := "fnExactWrittenFor", unfollowed := true, recurses := true, named := ["loop.example/coinmachine/impl.worths", "loop.example/coinmachine/impl.greatest"], apart := false, laid := [("loop.example/coinmachine/impl.worths", laid_loop_example_coinmachine_impl_worths), ("loop.example/coinmachine/impl.greatest", laid_loop_example_coinmachine_impl_greatest)], narrowed := true }
def FnExactWrittenForUptoSaid : Prop := fnExactWrittenForUptoRow.holds Tryd.pinned (OpenSpec.upto fnExactWrittenForSpec)

/-- 'laws.FnExactWrongEntry', WHERE WHAT IT READS IS OF BULK AT MOST 1048576: true; the input reads as it did. -/
def fnExactWrongEntryUptoRow : OpenClaim := { program := "ytpioihhpljdnmaadoor", sum := "c8039692cc336179d30219c14118d9071e92c37d431ed8890ed9fc3f73623789", func := "loop.example/coinmachine/laws.FnExactWrongEntry", spec := "fnExactWrongEntry", unfollowed := true, recurses := true, named := ["loop.example/coinmachine/impl.greatest"], apart := false, laid := [("loop.example/coinmachine/impl.greatest", laid_loop_example_coinmachine_impl_greatest)], narrowed := true }
def FnExactWrongEntryUptoSaid : Prop := fnExactWrongEntryUptoRow.holds Tryd.pinned (OpenSpec.upto fnExactWrongEntrySpec)

/-- 'laws.FnExactTakingsOf', WHERE WHAT IT READS IS OF BULK AT MOST 1048576: true; the input reads as it did. -/
def fnExactTakingsOfUptoRow : OpenClaim := { program := "ytpioihhpljdnmaadoor", sum := "c8039692cc336179d30219c14118d9071e92c37d431ed8890ed9fc3f73623789", func := "loop.example/coinmachine/laws.FnExactTakingsOf", spec := "fnExactTakingsOf", unfollowed := true, recurses := true, named := ["loop.example/coinmachine/impl.greatest", "loop.example/coinmachine/impl.worths"], apart := false, laid := [("loop.example/coinmachine/impl.worths", laid_loop_example_coinmachine_impl_worths), ("loop.example/coinmachine/impl.greatest", laid_loop_example_coinmachine_impl_greatest)], narrowed := true }
def FnExactTakingsOfUptoSaid : Prop := fnExactTakingsOfUptoRow.holds Tryd.pinned (OpenSpec.upto fnExactTakingsOfSpec)

/-- 'laws.FnExactTapeText', WHERE WHAT IT READS IS OF BULK AT MOST 1048576: true; the input reads as it did. -/
def fnExactTapeTextUptoRow : OpenClaim := { program := "ytpioihhpljdnmaadoor", sum := "c8039692cc336179d30219c14118d9071e92c37d431ed8890ed9fc3f73623789", func := "loop.example/coinmachine/laws.FnExactTapeText", spec := "fnExactTapeText", unfollowed := true, recurses := true, named := ["loop.example/coinmachine/impl.greatest", "internal/strconv.uint64pow10", "math/bits.deBruijn32tab", "math/bits.deBruijn64tab"], apart := false, laid := [("math/bits.deBruijn32tab", laid_math_bits_deBruijn32tab), ("math/bits.deBruijn64tab", laid_math_bits_deBruijn64tab), ("internal/strconv.uint64pow10", laid_internal_strconv_uint64pow10), ("loop.example/coinmachine/impl.greatest", laid_loop_example_coinmachine_impl_greatest)], narrowed := true }
def FnExactTapeTextUptoSaid : Prop := fnExactTapeTextUptoRow.holds Tryd.pinned (OpenSpec.upto fnExactTapeTextSpec)

/-- 'laws.FnExactReadTape', WHERE WHAT IT READS IS OF BULK AT MOST 1048576: true; the input reads as it did. -/
def fnExactReadTapeUptoRow : OpenClaim := { program := "ytpioihhpljdnmaadoor", sum := "c8039692cc336179d30219c14118d9071e92c37d431ed8890ed9fc3f73623789", func := "loop.example/coinmachine/laws.FnExactReadTape", spec := "fnExactReadTape", unfollowed := true, recurses := true, named := ["loop.example/coinmachine/impl.greatest", "internal/strconv.uint64pow10", "math/bits.deBruijn32tab", "math/bits.deBruijn64tab"], apart := false, laid := [("math/bits.deBruijn32tab", laid_math_bits_deBruijn32tab), ("math/bits.deBruijn64tab", laid_math_bits_deBruijn64tab), ("internal/strconv.uint64pow10", laid_internal_strconv_uint64pow10), ("loop.example/coinmachine/impl.greatest", laid_loop_example_coinmachine_impl_greatest)], narrowed := true }
def FnExactReadTapeUptoSaid : Prop := fnExactReadTapeUptoRow.holds Tryd.pinned (OpenSpec.upto fnExactReadTapeSpec)

/-- 'laws.FnEntryOk', WHERE WHAT IT READS IS OF BULK AT MOST 1048576: true; the input reads as it did. -/
def fnEntryOkUptoRow : OpenClaim := { program := "ytpioihhpljdnmaadoor", sum := "c8039692cc336179d30219c14118d9071e92c37d431ed8890ed9fc3f73623789", func := "loop.example/coinmachine/laws.FnEntryOk", spec := "fnEntryOk", named := ["loop.example/coinmachine/impl.greatest", "loop.example/coinmachine/impl.worths"], apart := false, laid := [("loop.example/coinmachine/impl.worths", laid_loop_example_coinmachine_impl_worths), ("loop.example/coinmachine/impl.greatest", laid_loop_example_coinmachine_impl_greatest)], narrowed := true }
def FnEntryOkUptoSaid : Prop := fnEntryOkUptoRow.holds Tryd.pinned (OpenSpec.upto fnEntryOkSpec)

/-- 'laws.FnCheckOf', WHERE WHAT IT READS IS OF BULK AT MOST 1048576: true; the input reads as it did. -/
def fnCheckOfUptoRow : OpenClaim := { program := "ytpioihhpljdnmaadoor", sum := "c8039692cc336179d30219c14118d9071e92c37d431ed8890ed9fc3f73623789", func := "loop.example/coinmachine/laws.FnCheckOf", spec := "fnCheckOf", unfollowed := true, recurses := true, named := ["loop.example/coinmachine/impl.greatest", "loop.example/coinmachine/impl.worths"], apart := false, laid := [("loop.example/coinmachine/impl.worths", laid_loop_example_coinmachine_impl_worths), ("loop.example/coinmachine/impl.greatest", laid_loop_example_coinmachine_impl_greatest)], narrowed := true }
def FnCheckOfUptoSaid : Prop := fnCheckOfUptoRow.holds Tryd.pinned (OpenSpec.upto fnCheckOfSpec)

end Rows
end Go.Proofs.YtpioihhpljdnmaaDoor

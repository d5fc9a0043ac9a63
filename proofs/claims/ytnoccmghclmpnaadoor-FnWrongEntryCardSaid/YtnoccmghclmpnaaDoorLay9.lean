/- The tables that the rows of entries list: what they give a walk, and what a world for the witness lays. -/
import Derived.Test.YtnoccmghclmpnaaDoorRows
import Derived.Test.YtnoccmghclmpnaaDoorLo
import Derived.Test.YtnoccmghclmpnaaDoorEn
import Derived.Lib.LaidTab
import Derived.Lib.AppendIntMem
import Derived.Stop.LaidErr
import Derived.ProofKit
namespace Go.Proofs.YtnoccmghclmpnaaDoor
open Go.RowKit

def lit1 : DataW Unit → Value
  | .lit (.int k z) => .int k z
  | _ => .nilIface
def lit2 : DataW Unit → List Value
  | .agg l => l.map lit1
  | d => [lit1 d]
/-- The cells of plain data. -/
def litsOf : DataW Unit → Array Value
  | .agg l => (l.flatMap lit2).toArray
  | d => #[lit1 d]
/-- A variable's cells, put. -/
def putVar (h : Array Obj) (g : Nat) (cs : Array Value) : Array Obj := h.modify g fun
  | .cells _ t frozen => .cells cs t frozen
  | o => o
theorem cellsInt9 : Tryd.prog.cellsOf 3 = 1 := by kernel_rfl
theorem gGre : Tryd.prog.globalNamed "loop.example/coinmachine/impl.greatest" = some 1 := by kernel_rfl
theorem gGreType : (Tryd.prog.globals[1]?).map (·.type) = some 96 := by kernel_rfl
theorem cellsGre : Tryd.prog.cellsOf 96 = 6 := by kernel_rfl
theorem table_greats {W : World} {rest : List (String × DataW Unit)} (h : laidMet Tryd.prog (("loop.example/coinmachine/impl.greatest", Rows.laid_loop_example_coinmachine_impl_greatest) :: rest) W) : Greats W := by
  have t : Lib.TabIs Tryd.prog W "loop.example/coinmachine/impl.greatest" .i64 [2, 9, 1, 3, 900, 996] :=
    Lib.tabIs_of_head (rest := rest) gGre gGreType Tryd.underlying96 Tryd.underlying3 cellsInt9 cellsGre h
  exact ⟨t.cell gGre 0 (by decide), t.cell gGre 1 (by decide), t.cell gGre 2 (by decide), t.cell gGre 3 (by decide), t.cell gGre 4 (by decide), t.cell gGre 5 (by decide)⟩
theorem gWor : Tryd.prog.globalNamed "loop.example/coinmachine/impl.worths" = some 0 := by kernel_rfl
theorem gWorType : (Tryd.prog.globals[0]?).map (·.type) = some 68 := by kernel_rfl
theorem cellsWor : Tryd.prog.cellsOf 68 = 4 := by kernel_rfl
theorem table_worths {W : World} {rest : List (String × DataW Unit)} (h : laidMet Tryd.prog (("loop.example/coinmachine/impl.worths", Rows.laid_loop_example_coinmachine_impl_worths) :: rest) W) : Worths W := by
  have t : Lib.TabIs Tryd.prog W "loop.example/coinmachine/impl.worths" .i64 [1, 2, 5, 10] :=
    Lib.tabIs_of_head (rest := rest) gWor gWorType Tryd.underlying68 Tryd.underlying3 cellsInt9 cellsWor h
  exact ⟨t.cell gWor 0 (by decide), t.cell gWor 1 (by decide), t.cell gWor 2 (by decide), t.cell gWor 3 (by decide)⟩
/-- The library's table of powers of ten. -/
def Pows (w : World) : Prop := Lib.TabIs Tryd.prog w "internal/strconv.uint64pow10" .u64 Lib.pow10Tab
theorem gPow : Tryd.prog.globalNamed "internal/strconv.uint64pow10" = some 2 := by kernel_rfl
theorem gPowType : (Tryd.prog.globals[2]?).map (·.type) = some 169 := by kernel_rfl
theorem cellsPow : Tryd.prog.cellsOf 169 = 20 := by kernel_rfl
theorem cellsU64 : Tryd.prog.cellsOf 132 = 1 := by kernel_rfl
theorem table_pows {W : World} {rest : List (String × DataW Unit)} (h : laidMet Tryd.prog (("internal/strconv.uint64pow10", Rows.laid_internal_strconv_uint64pow10) :: rest) W) : Pows W :=
  Lib.tabIs_of_head (rest := rest) gPow gPowType Tryd.underlying169 Tryd.underlying132 cellsU64 cellsPow h

end Go.Proofs.YtnoccmghclmpnaaDoor

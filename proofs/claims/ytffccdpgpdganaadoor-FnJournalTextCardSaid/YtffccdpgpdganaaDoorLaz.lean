/- The tables and the sentinels that rows list: what they give a walk, and what a world for the witness lays. -/
import Derived.Test.YtffccdpgpdganaaDoorRows
import Derived.Test.YtffccdpgpdganaaDoorSen
import Derived.Test.YtffccdpgpdganaaDoorWorth
import Derived.Lib.LaidTab
import Derived.Stop.LaidErr
import Derived.Deep.DeepHandedRow
import Derived.ProofKit
import Derived.DiesKit
namespace Go.Proofs.YtffccdpgpdganaaDoor
open Go.RowKit

def litZ : DataW Unit → Value
  | .lit (.int k z) => .int k z
  | _ => .nilIface
def litZ2 : DataW Unit → List Value
  | .agg l => l.map litZ
  | d => [litZ d]
/-- The cells of plain data. -/
def litsZ : DataW Unit → Array Value
  | .agg l => (l.flatMap litZ2).toArray
  | d => #[litZ d]
/-- The bytes of a sentinel's text. -/
def errZ : DataW Unit → List UInt8
  | .iface _ (.ptr (.agg [.lit (.string b)])) => b
  | _ => []
/-- A variable's cells, put. -/
def putZ (h : Array Obj) (g : Nat) (cs : Array Value) : Array Obj := h.modify g fun
  | .cells _ t frozen => .cells cs t frozen
  | o => o
theorem star_errZ : "*" ++ "errors.errorString" = "*errors.errorString" := by decide
theorem row_errZ (u : TypeId) (h : Tryd.prog.typeName? 3 u = some "*errors.errorString") : u = 160 :=
  typeName_ptr_named (nm := "errors.errorString") (by rw [star_errZ]; kernel_rfl) (by kernel_rfl) (by decide) u (by rw [star_errZ]; exact h)
theorem sentinelZ {W : World} {n : String} {g : Nat} {text : List UInt8} {r : List (String × DataW Unit)} (h : laidMet Tryd.prog ((n, .iface "*errors.errorString" (.ptr (.agg [.lit (.string text)]))) :: r) W)
    (hg : Tryd.prog.globalNamed n = some g) (ht : (Tryd.prog.globals[g]?).map (·.type) = some 109) : ∃ te pe, W.cell? ⟨g, 0, none⟩ = some (.iface te pe) := by
  obtain ⟨a, s, hv, _⟩ := laid_sentinel h hg ht Tryd.underlying109 row_errZ Tryd.underlying160 Tryd.underlying162 rfl rfl Tryd.underlying9 (by kernel_rfl) (by kernel_rfl)
  exact ⟨_, _, by simpa using World.var?_cell hg hv 0⟩
theorem Sen.of_laid {W : World} {r1 r2 : List (String × DataW Unit)} (h1 : laidMet Tryd.prog (("strconv.ErrRange", Rows.laid_strconv_ErrRange) :: r1) W) (h2 : laidMet Tryd.prog (("strconv.ErrSyntax", Rows.laid_strconv_ErrSyntax) :: r2) W) (hS : W.ShapedOpen Tryd.prog) : Sen W :=
  ⟨Tryd.laysM145.s1_3 W hS, sentinelZ h2 (by kernel_rfl) (by kernel_rfl), sentinelZ h1 (by kernel_rfl) (by kernel_rfl)⟩
theorem gWorZ : Tryd.prog.globalNamed "loop.example/coinmachine/impl.worths" = some 0 := by kernel_rfl
theorem gWorTypeZ : (Tryd.prog.globals[0]?).map (·.type) = some 115 := by kernel_rfl
theorem cellsWorZ : Tryd.prog.cellsOf 115 = 4 := by kernel_rfl
theorem cellsIntZ : Tryd.prog.cellsOf 3 = 1 := by kernel_rfl
theorem worthsZ {W : World} {rest : List (String × DataW Unit)} (h : laidMet Tryd.prog (("loop.example/coinmachine/impl.worths", Rows.laid_loop_example_coinmachine_impl_worths) :: rest) W) : Worths W := by
  have t : Lib.TabIs Tryd.prog W "loop.example/coinmachine/impl.worths" .i64 [1, 2, 5, 10] :=
    Lib.tabIs_of_head (rest := rest) gWorZ gWorTypeZ Tryd.underlying115 Tryd.underlying3 cellsIntZ cellsWorZ h
  exact ⟨t.cell gWorZ 0 (by decide), t.cell gWorZ 1 (by decide), t.cell gWorZ 2 (by decide), t.cell gWorZ 3 (by decide)⟩
end Go.Proofs.YtffccdpgpdganaaDoor

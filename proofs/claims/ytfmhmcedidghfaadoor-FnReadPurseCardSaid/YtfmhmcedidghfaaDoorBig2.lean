/- What the list of eight variables gives: the table of worths, the number in MaxLen, the two sentinels. -/
import Derived.Test.YtfmhmcedidghfaaDoorBig
import Derived.Test.YtfmhmcedidghfaaDoorShelf2
import Derived.LaidLaws
namespace Go.Proofs.YtfmhmcedidghfaaDoor
open Go.RowKit

theorem star_err : "*" ++ "errors.errorString" = "*errors.errorString" := by decide
/-- The one row of that name. -/
theorem row_err (u : TypeId) (h : Tryd.prog.typeName? 3 u = some "*errors.errorString") : u = 122 :=
  typeName_ptr_named (nm := "errors.errorString") (by rw [star_err]; kernel_rfl) (by kernel_rfl) (by decide) u (by rw [star_err]; exact h)

theorem sentinel {W : World} {n : String} {g : Nat} {text : List UInt8} {r : List (String × DataW Unit)} (h : laidMet Tryd.prog ((n, .iface "*errors.errorString" (.ptr (.agg [.lit (.string text)]))) :: r) W)
    (hg : Tryd.prog.globalNamed n = some g) (ht : (Tryd.prog.globals[g]?).map (·.type) = some 73) : ∃ te pe, W.cell? ⟨g, 0, none⟩ = some (.iface te pe) := by
  obtain ⟨a, s, hv, _⟩ := laid_sentinel h hg ht Tryd.underlying73 row_err Tryd.underlying122 Tryd.underlying124 rfl rfl Tryd.underlying9 (by kernel_rfl) (by kernel_rfl)
  exact ⟨_, _, by simpa using World.var?_cell hg hv 0⟩

theorem Big.of_laid {W : World} (h : laidMetH Tryd.prog Rows.fnPurseTextRow.laid W) (hS : W.ShapedOpen Tryd.prog) : Big W := by
  have h0 : laidMet Tryd.prog Rows.fnPurseTextRow.laid W := h
  have h4 := laidMet.tail (laidMet.tail (laidMet.tail (laidMet.tail h0)))
  exact ⟨tableOf (laidMet.tail (laidMet.tail h4)), Tryd.laysM145.s1_3 W hS, sentinel (laidMet.tail h4) (by kernel_rfl) (by kernel_rfl), sentinel h4 (by kernel_rfl) (by kernel_rfl)⟩
end Go.Proofs.YtfmhmcedidghfaaDoor

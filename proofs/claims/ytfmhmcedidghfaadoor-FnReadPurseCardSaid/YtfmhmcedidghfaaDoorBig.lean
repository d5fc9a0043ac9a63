/- The library's variables that the rows list beside the table of worths: what they give a walk, and a world for the witness that holds them all. -/
import Derived.Test.YtfmhmcedidghfaaDoorCards
import Derived.Test.YtfmhmcedidghfaaDoorWorth
import Derived.Test.YtfmhmcedidghfaaDoorPurse
import Derived.Lib.LaidTab
import Derived.Lib.LaidIn
import Derived.Stop.LaidErr
import Derived.Deep.DeepWitnessRowRef
import Derived.Deep.DeepHandedRow
import Derived.ProofKit
import Derived.DiesKit
namespace Go.Proofs.YtfmhmcedidghfaaDoor
open Go.RowKit

/-- What a reading of texts leans on: the table of worths, a number in MaxLen, an error in each of the two sentinels. -/
structure Big (w : World) : Prop where
  worths : Worths w
  maxlen : ∃ m : Int, w.cell? ⟨2, 0, none⟩ = some (.int .i64 m)
  syn : ∃ te pe, w.cell? ⟨3, 0, none⟩ = some (.iface te pe)
  rng : ∃ te pe, w.cell? ⟨4, 0, none⟩ = some (.iface te pe)
theorem Big.low {w : World} (h : Big w) : 2 < w.heap.size ∧ 3 < w.heap.size ∧ 4 < w.heap.size ∧ 0 < w.heap.size := by
  obtain ⟨h1, ⟨m, h2⟩, ⟨t3, p3, h3⟩, ⟨t4, p4, h4⟩⟩ := h
  exact ⟨World.block_lt_of_cell? w _ h2, World.block_lt_of_cell? w _ h3, World.block_lt_of_cell? w _ h4, World.block_lt_of_cell? w _ h1.1⟩
theorem Big.below {w w' : World} {B : Nat} (h : Big w) (hb : Below B w w') (hB : 2 < B ∧ 3 < B ∧ 4 < B ∧ 0 < B) : Big w' := by
  obtain ⟨h1, ⟨m, h2⟩, ⟨t3, p3, h3⟩, ⟨t4, p4, h4⟩⟩ := h
  exact ⟨h1.below hb hB.2.2.2, ⟨m, (hb.cell (by exact hB.1)).trans h2⟩, ⟨t3, p3, (hb.cell (by exact hB.2.1)).trans h3⟩, ⟨t4, p4, (hb.cell (by exact hB.2.2.1)).trans h4⟩⟩

def lit1 : DataW Unit → Value
  | .lit (.int k z) => .int k z
  | _ => .nilIface
def lit2 : DataW Unit → List Value
  | .agg l => l.map lit1
  | d => [lit1 d]
/-- The cells of plain data. -/
def litsOf : DataW Unit → Array Value
  | .agg l => (l.flatMap lit2).toArray
  | d => #[lit1 d]
/-- The bytes of a sentinel's text. -/
def errBytes : DataW Unit → List UInt8
  | .iface _ (.ptr (.agg [.lit (.string b)])) => b
  | _ => []
/-- A variable's cells, put. -/
def putVar (h : Array Obj) (g : Nat) (cs : Array Value) : Array Obj := h.modify g fun
  | .cells _ t frozen => .cells cs t frozen
  | o => o

noncomputable def laidWorld4 (os : Os) : World :=
  let w0 := World.holding Tryd.prog os ⟨#[], #[], []⟩
  { w0 with heap := putVar (putVar (putVar (putVar w0.heap 7 (litsOf Rows.laid_math_bits_deBruijn32tab)) 8 (litsOf Rows.laid_math_bits_deBruijn64tab))
      1 (litsOf Rows.laid_internal_strconv_uint64pow10)) 0 (litsOf Rows.laid_loop_example_coinmachine_impl_worths) }
set_option maxRecDepth 1000000 in
theorem laid_met4 (os : Os) (args : Array Value) : laidMet Tryd.prog Rows.fnExactPurseTextRow.laid ((laidWorld4 os).forCall (fun _ _ => 0) ⟨#[], args, []⟩).memory :=
  (LaidIn.of_run [7, 8, 1, 0] 8 (by kernel_rfl) (by kernel_rfl) (by kernel_rfl) (by kernel_rfl)).met

noncomputable def laidWorld8 (os : Os) : World :=
  let N := (World.settled Tryd.prog os).heap.size
  let w0 := World.holding Tryd.prog os ⟨#[.cells #[.string ⟨(errBytes Rows.laid_strconv_ErrSyntax).toArray⟩] 124, .cells #[.string ⟨(errBytes Rows.laid_strconv_ErrRange).toArray⟩] 124], #[], []⟩
  let h1 := putVar (putVar (putVar (putVar w0.heap 7 (litsOf Rows.laid_math_bits_deBruijn32tab)) 8 (litsOf Rows.laid_math_bits_deBruijn64tab))
      1 (litsOf Rows.laid_internal_strconv_uint64pow10)) 0 (litsOf Rows.laid_loop_example_coinmachine_impl_worths)
  let h2 := putVar (putVar h1 6 (litsOf Rows.laid_unicode_utf8_acceptRanges)) 5 (litsOf Rows.laid_unicode_utf8_first)
  { w0 with heap := putVar (putVar h2 3 #[.iface 122 (.pointer (some ⟨N, 0, none⟩))]) 4 #[.iface 122 (.pointer (some ⟨N + 1, 0, none⟩))] }
noncomputable abbrev N0 : Nat := (World.settled Tryd.prog default).heap.size
set_option maxRecDepth 1000000 in
theorem laid_met8 (os : Os) (args : Array Value) : laidMet Tryd.prog Rows.fnPurseTextRow.laid ((laidWorld8 os).forCall (fun _ _ => 0) ⟨#[], args, []⟩).memory :=
  (LaidIn.of_run [7, 8, 1, 0, 6, 5, 3, 4, N0, N0 + 1] 8 (by kernel_rfl) (by kernel_rfl) (by kernel_rfl) (by kernel_rfl)).met

theorem gTab : Tryd.prog.globalNamed "loop.example/coinmachine/impl.worths" = some 0 := by kernel_rfl
theorem gTabType : (Tryd.prog.globals[0]?).map (·.type) = some 45 := by kernel_rfl
theorem cellsTab : Tryd.prog.cellsOf 45 = 4 := by kernel_rfl
theorem cellsInt : Tryd.prog.cellsOf 3 = 1 := by kernel_rfl
theorem tableOf {W : World} {rest : List (String × DataW Unit)} (h : laidMet Tryd.prog (("loop.example/coinmachine/impl.worths", Rows.laid_loop_example_coinmachine_impl_worths) :: rest) W) : Worths W := by
  have t : Lib.TabIs Tryd.prog W "loop.example/coinmachine/impl.worths" .i64 [1, 2, 5, 10] :=
    Lib.tabIs_of_head (rest := rest) gTab gTabType Tryd.underlying45 Tryd.underlying3 cellsInt cellsTab h
  exact ⟨t.cell gTab 0 (by decide), t.cell gTab 1 (by decide), t.cell gTab 2 (by decide), t.cell gTab 3 (by decide)⟩
theorem worths_of4 {W : World} (h : laidMetH Tryd.prog Rows.fnExactPurseTextRow.laid W) : Worths W :=
  tableOf (laidMet.tail (laidMet.tail (laidMet.tail (show laidMet Tryd.prog Rows.fnExactPurseTextRow.laid W from h))))
end Go.Proofs.YtfmhmcedidghfaaDoor

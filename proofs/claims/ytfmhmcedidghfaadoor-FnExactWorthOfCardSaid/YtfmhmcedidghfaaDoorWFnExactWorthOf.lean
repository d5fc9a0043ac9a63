/- The walk of the law FnExactWorthOf: it returns true for every number and every world that holds the table of worths. -/
import Derived.Test.YtfmhmcedidghfaaDoorWorth
namespace Go.Proofs.YtfmhmcedidghfaaDoor
open Go.RowKit

theorem walk_FnExactWorthOf (a : Int) (w : World) (_wa : (Lit.int .i64 a).wf = true) (hT : Worths w) :
    Calls Tryd.prog 12 #[.int .i64 a] w fun e w' => e = .returned (.bool true) ∧ Below w.heap.size w w' := by
  have h0 : 0 < w.heap.size := World.block_lt_of_cell? w _ hT.1
  have HT := Lib.hid hT; clear hT
  go_enter Tryd.func12, Tryd.ntmps12
  go_wp2_with fail
  refine (specWorth_any _ _).mono ?_
  rintro e w1 ⟨rfl, hb⟩
  go_wp2_with fail
  refine (implWorth_any _ _ (HT.out.below hb h0)).mono ?_
  rintro e w2 ⟨rfl, rfl⟩
  go_wp2
  go_ret
  exact ⟨rfl, hb⟩

end Go.Proofs.YtfmhmcedidghfaaDoor

/- Same, SameM, Alive, in one text. -/
import Derived.Test.YtnoccmghclmpnaaDoorLo
import Derived.Test.YtnoccmghclmpnaaDoorSh
import Derived.Test.YtnoccmghclmpnaaDoorHelpM
import Derived.Test.YtnoccmghclmpnaaDoorPu
namespace Go.Proofs.YtnoccmghclmpnaaDoor
open Go.RowKit




end Go.Proofs.YtnoccmghclmpnaaDoor

namespace Go.Proofs.YtnoccmghclmpnaaDoor
open Go.RowKit




end Go.Proofs.YtnoccmghclmpnaaDoor

namespace Go.Proofs.YtnoccmghclmpnaaDoor
open Go.RowKit

theorem alive_trueG (w : World) (hT : Worths w) : Calls Tryd.prog 12 #[] w fun e w' => e = .returned (.bool true) ∧ Below w.heap.size w w' := by
  have h0 : 0 < w.heap.size := World.block_lt_of_cell? w _ hT.1
  have HT := Lib.hid hT
  have K1 : Hid (∀ A c W, Row .i64 W A [1, 1, 0, 1] → Worths W → Calls Tryd.prog 34 #[.slice A 4 c] W fun e w' => e = .returned (.int .i64 13) ∧ Below W.heap.size W w') := fun A c W h1 h2 => by
    have := implValueOf_yes A [1, 1, 0, 1] c W h1 h2 rfl
    have e : valueOf [1, 1, 0, 1] = 13 := by decide
    rw [e] at this
    exact this
  have K2 : Hid (∀ A c W, Row .i64 W A [1] → Calls Tryd.prog 34 #[.slice A 1 c] W fun e w' => e = .returned (.int .i64 (-1)) ∧ Below W.heap.size W w') := fun A c W h1 => implValueOf_no A [1] c W h1 rfl
  have q1 : Blk (w.alloc (.cells #[.int .i64 1, .int .i64 1, .int .i64 0, .int .i64 1] 3)) w.heap.size 3 (cellsOf [1, 1, 0, 1]) := Blk.new _ _ _
  clear hT
  go_enter Tryd.func12, Tryd.ntmps12
  go_wp2_with fail
  refine (K1.out _ _ _ q1.row (HT.out.below (B := w.heap.size) belo h0)).mono ?_
  rintro e w1 ⟨rfl, hb1⟩
  have hB1 : Below w.heap.size w w1 := Below.trans belo (hb1.mono (by simp))
  have q2 : Blk (w1.alloc (.cells #[.int .i64 1] 3)) w1.heap.size 3 (cellsOf [1]) := Blk.new _ _ _
  have hz := hB1.size
  clear hb1 q1
  go_wp2_with fail
  refine (K2.out _ _ _ q2.row).mono ?_
  rintro e w2 ⟨rfl, hb2⟩
  have hB2 : Below w.heap.size w w2 := Below.trans belo (hb2.mono (by simp; omega))
  go_wp2
  go_ret
  exact ⟨rfl, hB2⟩

end Go.Proofs.YtnoccmghclmpnaaDoor

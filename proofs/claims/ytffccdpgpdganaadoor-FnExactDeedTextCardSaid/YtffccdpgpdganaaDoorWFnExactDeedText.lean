/- The walk of FnExactDeedText: DeedText answers as its model. -/
import Derived.Test.YtffccdpgpdganaaDoorDeh
import Derived.Test.YtffccdpgpdganaaDoorDew
namespace Go.Proofs.YtffccdpgpdganaaDoor
open Go.RowKit

set_option maxHeartbeats 1600000 in
theorem walk_FnExactDeedText (x : Dee) (w : World) :
    Calls Tryd.prog 3 #[.agg #[.bool x.b, .int .i64 x.d, .int .i64 x.n]] w fun e w' => e = .returned (.bool true) ∧ Below w.heap.size w w' := by
  have KT := Lib.hid (fun W => toDeed_any x W)
  have KS := Lib.hid (fun W => specDeedText_any x W)
  have KI := Lib.hid (fun W => implDeedText_any x W)
  obtain ⟨b, d, n⟩ := x
  obtain ⟨TB, hTB⟩ : ∃ TB : ByteArray, TB = ⟨(deedT ⟨b, d, n⟩).toArray⟩ := ⟨_, rfl⟩
  rw [← hTB] at KS KI
  clear hTB
  dsimp only at KT KS KI ⊢
  have R1 := Lib.hid (Blk.new w 25 #[.bool b, .int .i64 d, .int .i64 n])
  go_enter Tryd.func3, Tryd.ntmps3
  go_wp2_with fail
  refine (KT.out _).mono ?_
  rintro e w1 ⟨rfl, b1⟩
  have B1 : Below w.heap.size w w1 := Below.trans belo (b1.mono belo)
  have q1 := R1.out.kept b1
  clear b1 R1
  have hl1 := q1.lt
  go_wp2_with fail
  refine (KS.out _).mono ?_
  rintro e w2 ⟨rfl, b2⟩
  have B2 : Below w.heap.size w w2 := Below.trans B1 (b2.mono B1.size)
  have q2 := q1.kept b2
  have c2 := fun i => q2.cell i
  have hl2 := q2.lt
  clear b2 q1 hl1
  go_wp2_with fail
  refine (KT.out _).mono ?_
  rintro e w3 ⟨rfl, b3⟩
  have B3 : Below w.heap.size w w3 := Below.trans B2 (b3.mono B2.size)
  clear b3 q2 c2
  go_wp2_with fail
  refine (KI.out _).mono ?_
  rintro e w4 ⟨rfl, b4⟩
  have B4 : Below w.heap.size w w4 := Below.trans B3 (b4.mono B3.size)
  clear b4
  go_wp2
  go_ret
  exact ⟨rfl, B4⟩
end Go.Proofs.YtffccdpgpdganaaDoor

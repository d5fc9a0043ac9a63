/- The walk of FnExactReadDeed: ReadDeed answers as its model. -/
import Derived.Test.YtffccdpgpdganaaDoorDeh
import Derived.Test.YtffccdpgpdganaaDoorDey
namespace Go.Proofs.YtffccdpgpdganaaDoor
open Go.RowKit

/-- What is read as a deed, cell by cell, and whether there is one. -/
theorem ddV_form (r : Option Dee) : ∃ b d n, ddV r = .agg #[.bool b, .int .i64 d, .int .i64 n] := by
  rcases r with _ | ⟨b, d, n⟩
  · exact ⟨_, _, _, rfl⟩
  · exact ⟨_, _, _, rfl⟩
set_option maxHeartbeats 1600000 in
theorem walk_FnExactReadDeed (S : ByteArray) (w : World) (hm : S.size ≤ maxLen) (hS : Sen w) :
    Calls Tryd.prog 4 #[.string S] w fun e w' => e = .returned (.bool true) ∧ Below w.heap.size w w' := by
  by_cases hs : S.data.toList.length ≤ 1048576
  · have e : S = ⟨S.data.toList.toArray⟩ := by apply ByteArray.ext; simp
    rw [e]
    generalize S.data.toList = l at *
    have KS := Lib.hid (fun W => specReadDeed_any l W (by omega))
    have KI := Lib.hid (fun W h => implReadDeed_any l W (by omega) h)
    unfold GotD at KS KI
    obtain ⟨b, d, n, hf⟩ := ddV_form (readD l)
    have KE := Lib.hid (fun W => eqDeed_same ⟨b, d, n⟩ W)
    rw [hf] at KS KI
    generalize (readD l).isSome = o at *
    have HS := Lib.hid hS
    clear hf hS e hm
    dsimp only at KE
    go_enter Tryd.func4, Tryd.ntmps4
    go_wp2_with fail
    refine (KS.out _).mono ?_
    rintro e w1 ⟨rfl, b1⟩
    have hz1 := b1.size
    have N1 := Lib.hid (Blk.new w1 29 #[.bool b, .int .i64 d, .int .i64 n])
    have B1 : Below w.heap.size w (w1.alloc (.cells #[.bool b, .int .i64 d, .int .i64 n] 29)) := Below.alloc b1 hz1 _
    clear b1
    go_wp2_with fail
    refine (KI.out _ (HS.out.below B1 (Nat.le_refl _))).mono ?_
    rintro e w2 ⟨rfl, b2⟩
    have B2 : Below w.heap.size w w2 := Below.trans B1 (b2.mono B1.size)
    have q2 := N1.out.kept b2
    have hl2 := q2.lt
    have c2 := fun i => q2.cell i
    clear b2 N1 B1
    go_wp2_with fail
    refine (KE.out _).mono ?_
    rintro e w3 ⟨rfl, b3⟩
    have z2 := B2.size
    have B3 : Below w.heap.size w w3 := Below.trans (Below.alloc B2 z2 _) (b3.mono (by simp; omega))
    clear b3 B2 q2 c2
    cases o
    all_goals
      go_wp2
      go_ret
      exact ⟨rfl, B3⟩
  · have hlz : S.data.toList.length = S.size := by rw [Array.length_toList]; rfl
    have hl : 1048576 < S.size := by omega
    unfold maxLen at hm
    have hl2 : (1048576 : Int) < (S.size : Int) := by omega
    clear hs hlz hS
    go_enter Tryd.func4, Tryd.ntmps4
    go_wp2
    go_ret
    exact ⟨rfl, belo⟩
end Go.Proofs.YtffccdpgpdganaaDoor

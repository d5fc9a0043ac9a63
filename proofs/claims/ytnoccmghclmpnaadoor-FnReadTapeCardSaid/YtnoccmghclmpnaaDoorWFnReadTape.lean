/- The walk of the law FnReadTape: for every bytes the law returns true. -/
import Derived.Test.YtnoccmghclmpnaaDoorDrU
import Derived.Test.YtnoccmghclmpnaaDoorSa
import Derived.Test.YtnoccmghclmpnaaDoorStx
import Derived.Test.YtnoccmghclmpnaaDoorRtp
import Derived.Test.YtnoccmghclmpnaaDoorSrd
namespace Go.Proofs.YtnoccmghclmpnaaDoor
open Go.RowKit

set_option maxRecDepth 100000 in
set_option maxHeartbeats 3200000 in
theorem walk_FnReadTape (A : Option Addr) (bs : List Int) (c : Nat) (w : World) (hr : Row .u8 w A bs) (hl : bs.length ≤ c) (hm : c ≤ maxLen) (hwf : ∀ n ∈ bs, (Lit.int .u8 n).wf = true) (hT : Worths w) (hg : Greats w) (hp : Pows w) :
    Calls Tryd.prog 4 #[.slice A bs.length c] w fun e w' => e = .returned (.bool true) ∧ Below w.heap.size w w' := by
  have hb := bytes_of_wfT hwf
  clear hwf
  have h0 : 0 < w.heap.size := World.block_lt_of_cell? w _ hT.1
  have HT := Lib.hid hT; clear hT
  have HG := Lib.hid hg
  have hz := hg.pos
  have HP := Lib.hid (Lib.tabBelow_of_tabIs hp)
  clear hg hp
  by_cases hbig : 1048576 < bs.length
  · unfold maxLen at hm
    clear hb hl
    go_enter Tryd.func4, Tryd.ntmps4
    go_wp2
    go_ret
    exact ⟨rfl, Below.refl _ _⟩
  have hs : bs.length ≤ 1048576 := by omega
  clear hbig
  have K := Lib.hid (DrawReadTape_any A bs c w hr hb hl hm)
  clear hb hl hm hr
  go_enter Tryd.func4, Tryd.ntmps4
  go_wp2_with fail
  refine K.out.mono ?_
  rintro e w1 ⟨l, rfl, hll, b1⟩
  have z1 := b1.size
  have B1 := Lib.hid b1
  have KI := Lib.hid (fun W hg hp => implReadTape_any l W hg hp)
  have KS := Lib.hid (fun W => specReadTape_any l W (by omega))
  clear b1 K hll
  by_cases hy : ∃ T, TapeOf l T
  · obtain ⟨T, hT⟩ := hy
    have HU : Hid (∀ W e w', GotTape W l e w' → Below W.heap.size W w' ∧ ∃ v, e = .returned (.tuple #[v, .bool true]) ∧ OwnE w' W.heap.size v T) := Lib.hid (fun W e w' k => by
      refine ⟨k.1, ?_⟩
      rcases k.2 with ⟨L, v, hL, rfl, ho⟩ | ⟨hn, _⟩
      · exact ⟨v, rfl, by rw [(TapeOf.same hT hL)]; exact ho⟩
      · exact absurd hT (hn T))
    have hlen : T.length ≤ 20 := (wrongE_iff.1 hT.1).1
    have KI2 := Lib.hid (fun W hg hp => (KI.out W hg hp).mono (HU.out W))
    have KS2 := Lib.hid (fun W => (KS.out W).mono (HU.out W))
    have KW := Lib.hid (fun A c W h hg => by
      have := implWrong_any A T c W h (by unfold maxLen; omega) hg
      rw [hT.1] at this
      exact this)
    have htx : tapeT T = l := by rw [← hT.2]; exact if_pos hT.1
    have KT := Lib.hid (fun A c W h hg hp => by
      have := implTapeText_any A T c W h (by unfold maxLen; omega) hg hp
      rw [htx] at this
      exact this)
    have KD := Lib.hid (fun A B c d W h1 h2 => sameTape_same A B T c d W h1 h2 (by omega))
    clear HU KI KS htx hT
    go_wp2_with fail
    refine (KI2.out _ (HG.out.below (B := w.heap.size) B1.out hz) (HP.out.on B1.out).here).mono ?_
    rintro e w2 ⟨b2, v, rfl, hown⟩
    obtain ⟨A2, c2, rfl, hr2⟩ := hown.row
    have HR2 := Lib.hid (fun W (hb : Below w2.heap.size w2 W) => hr2.below hb)
    have D2 : Hid (Below w.heap.size w w2) := Lib.hid (Below.trans B1.out (b2.mono z1))
    have z2 := D2.out.size
    clear b2 hown hr2 KI2
    go_wp2_with fail
    refine (KS2.out _).mono ?_
    rintro e w3 ⟨b3, v, rfl, hown⟩
    obtain ⟨A3, c3, rfl, hr3⟩ := hown.row
    have HR3 := Lib.hid hr3
    have D3 : Hid (Below w.heap.size w w3) := Lib.hid (Below.trans D2.out (b3.mono z2))
    have z3 := D3.out.size
    have T3 := Lib.hid b3
    have y3 := b3.size
    clear b3 hown hr3 KS2
    go_wp2_with fail
    refine (KD.out _ _ _ _ _ (HR2.out _ T3.out) HR3.out).mono ?_
    rintro e w4 ⟨rfl, b4⟩
    have D4 : Hid (Below w.heap.size w w4) := Lib.hid (Below.trans D3.out (b4.mono z3))
    have z4 := D4.out.size
    have T4 := Lib.hid (Below.trans T3.out (b4.mono y3))
    have y4 := T4.out.size
    clear b4 KD HR3
    go_wp2_with fail
    refine (KW.out _ _ _ (HR2.out _ T4.out) (HG.out.below (B := w.heap.size) D4.out hz)).mono ?_
    rintro e w5 ⟨rfl, b5⟩
    have D5 : Hid (Below w.heap.size w w5) := Lib.hid (Below.trans D4.out (b5.mono z4))
    have z5 := D5.out.size
    have T5 := Lib.hid (Below.trans T4.out (b5.mono y4))
    have y5 := T5.out.size
    clear b5 KW
    go_wp2_with fail
    refine (KT.out _ _ _ (HR2.out _ T5.out) (HG.out.below (B := w.heap.size) D5.out hz) (HP.out.on D5.out).here).mono ?_
    rintro e w6 ⟨rfl, b6⟩
    have D6 : Hid (Below w.heap.size w w6) := Lib.hid (Below.trans D5.out (b6.mono z5))
    have z6 := D6.out.size
    clear b6 KT
    go_wp2_with fail
    refine (alive_trueG _ (HT.out.below D6.out h0)).mono ?_
    rintro e w7 ⟨rfl, b7⟩
    have B7 : Below w.heap.size w w7 := Below.trans D6.out (b7.mono z6)
    clear b7
    go_wp2
    go_ret
    exact ⟨rfl, B7⟩
  · have HU : Hid (∀ W e w', GotTape W l e w' → Below W.heap.size W w' ∧ ∃ A c, e = .returned (.tuple #[.slice A 0 c, .bool false])) := Lib.hid (fun W e w' k => by
      refine ⟨k.1, ?_⟩
      rcases k.2 with ⟨L, v, hL, _⟩ | ⟨_, A, c, rfl⟩
      · exact absurd ⟨L, hL⟩ hy
      · exact ⟨A, c, rfl⟩)
    have KI2 := Lib.hid (fun W hg hp => (KI.out W hg hp).mono (HU.out W))
    have KS2 := Lib.hid (fun W => (KS.out W).mono (HU.out W))
    have KD := Lib.hid (fun A B c d W => sameTape_same A B [] c d W (ERow.nil _ _) (ERow.nil _ _) (Nat.zero_le _))
    clear HU KI KS hy
    go_wp2_with fail
    refine (KI2.out _ (HG.out.below (B := w.heap.size) B1.out hz) (HP.out.on B1.out).here).mono ?_
    rintro e w2 ⟨b2, A2, c2, rfl⟩
    have D2 : Hid (Below w.heap.size w w2) := Lib.hid (Below.trans B1.out (b2.mono z1))
    have z2 := D2.out.size
    clear b2 KI2
    go_wp2_with fail
    refine (KS2.out _).mono ?_
    rintro e w3 ⟨b3, A3, c3, rfl⟩
    have D3 : Hid (Below w.heap.size w w3) := Lib.hid (Below.trans D2.out (b3.mono z2))
    have z3 := D3.out.size
    clear b3 KS2
    go_wp2_with fail
    refine (KD.out _ _ _ _ _).mono ?_
    rintro e w4 ⟨rfl, b4⟩
    have D4 : Hid (Below w.heap.size w w4) := Lib.hid (Below.trans D3.out (b4.mono z3))
    have z4 := D4.out.size
    clear b4 KD
    go_wp2_with fail
    refine (alive_trueG _ (HT.out.below D4.out h0)).mono ?_
    rintro e w5 ⟨rfl, b5⟩
    have B5 : Below w.heap.size w w5 := Below.trans D4.out (b5.mono z4)
    clear b5
    go_wp2
    go_ret
    exact ⟨rfl, B5⟩
end Go.Proofs.YtnoccmghclmpnaaDoor

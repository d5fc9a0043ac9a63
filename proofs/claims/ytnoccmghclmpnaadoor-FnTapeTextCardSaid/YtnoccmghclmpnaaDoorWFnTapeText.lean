/- The walk of the law FnTapeText: for every bytes the law returns true. -/
import Derived.Test.YtnoccmghclmpnaaDoorDrT
import Derived.Test.YtnoccmghclmpnaaDoorSa
import Derived.Test.YtnoccmghclmpnaaDoorStx
import Derived.Test.YtnoccmghclmpnaaDoorRtp
namespace Go.Proofs.YtnoccmghclmpnaaDoor
open Go.RowKit

set_option maxRecDepth 100000 in
set_option maxHeartbeats 3200000 in
theorem walk_FnTapeText (A : Option Addr) (bs : List Int) (c : Nat) (w : World) (hr : Row .u8 w A bs) (hl : bs.length ≤ c) (hm : c ≤ maxLen) (hwf : ∀ n ∈ bs, (Lit.int .u8 n).wf = true) (hT : Worths w) (hg : Greats w) (hp : Pows w) :
    Calls Tryd.prog 3 #[.slice A bs.length c] w fun e w' => e = .returned (.bool true) ∧ Below w.heap.size w w' := by
  have hb := bytes_of_wfT hwf
  clear hwf
  have h0 : 0 < w.heap.size := World.block_lt_of_cell? w _ hT.1
  have HT := Lib.hid hT; clear hT
  have HG := Lib.hid hg
  have hz := hg.pos
  have HP := Lib.hid (Lib.tabBelow_of_tabIs hp)
  clear hg hp
  by_cases hbig : 1048576 < bs.length
  · unfold maxLen at hm
    clear hb hl
    go_enter Tryd.func3, Tryd.ntmps3
    go_wp2
    go_ret
    exact ⟨rfl, Below.refl _ _⟩
  have hs : bs.length ≤ 1048576 := by omega
  clear hbig
  have K := Lib.hid (DrawTapeText_any A bs c w hr hb hl hm)
  clear hb hl hm hr
  go_enter Tryd.func3, Tryd.ntmps3
  go_wp2_with fail
  refine K.out.mono ?_
  rintro e w1 ⟨A2, c2, T, rfl, hrow, hL, b1⟩
  have HR := Lib.hid (fun W (hb : Below w1.heap.size w1 W) => hrow.below hb)
  have z1 := b1.size
  have B1 := Lib.hid b1
  have KI := Lib.hid (fun W h hg hp => implTapeText_any A2 T c2 W h (by unfold maxLen; omega) hg hp)
  have KS := Lib.hid (fun W h => specTapeText_any A2 T c2 W h (by unfold maxLen; omega))
  have KW := Lib.hid (fun W h hg => implWrong_any A2 T c2 W h (by unfold maxLen; omega) hg)
  have KR := Lib.hid (fun W hg hp => implReadTape_any (tapeT T) W hg hp)
  have KD := Lib.hid (fun A B c d W h1 h2 => sameTape_same A B T c d W h1 h2 (by omega))
  have HN : Hid (wrongE T ≠ -1 → tapeT T = []) := Lib.hid (fun h => if_neg h)
  have HY : Hid (wrongE T = -1 → ∀ W e w', GotTape W (tapeT T) e w' → Below W.heap.size W w' ∧ ∃ v, e = .returned (.tuple #[v, .bool true]) ∧ OwnE w' W.heap.size v T) := Lib.hid (fun h W e w' k => by
    have e1 : tapeT T = textE T := if_pos h
    rw [e1] at k
    refine ⟨k.1, ?_⟩
    rcases k.2 with ⟨L, v, hL, rfl, ho⟩ | ⟨hn, _⟩
    · exact ⟨v, rfl, by rw [(TapeOf.same (L := T) (M := L) ⟨h, rfl⟩ hL)]; exact ho⟩
    · exact absurd ⟨h, rfl⟩ (hn T))
  generalize tapeT T = X at *
  obtain ⟨wr, hwr⟩ : ∃ wr : Int, wr = wrongE T := ⟨_, rfl⟩
  rw [← hwr] at KW HN HY
  clear hwr
  clear b1 K hrow
  go_wp2_with fail
  refine (KI.out _ (HR.out _ (Below.refl _ _)) (HG.out.below (B := w.heap.size) B1.out hz) (HP.out.on B1.out).here).mono ?_
  rintro e w2 ⟨rfl, b2⟩
  have B2 : Below w1.heap.size w1 w2 := b2
  clear b2
  go_wp2_with fail
  refine (KS.out _ (HR.out _ B2)).mono ?_
  rintro e w3 ⟨rfl, b3⟩
  have B3 : Below w1.heap.size w1 w3 := Below.trans B2 (b3.mono B2.size)
  have D3 : Hid (Below w.heap.size w w3) := Lib.hid (Below.trans B1.out (B3.mono z1))
  have z3 := D3.out.size
  clear b3
  go_wp2_with fail
  refine (KW.out _ (HR.out _ B3) (HG.out.below (B := w.heap.size) D3.out hz)).mono ?_
  rintro e w4 ⟨rfl, b4⟩
  have B4 : Below w1.heap.size w1 w4 := Below.trans B3 (b4.mono B3.size)
  have D4 : Hid (Below w.heap.size w w4) := Lib.hid (Below.trans B1.out (B4.mono z1))
  have z4 := D4.out.size
  clear b4
  by_cases hw : wr = -1
  · subst hw
    have hy := HY.out rfl
    have KR2 := Lib.hid (fun W hg hp => (KR.out W hg hp).mono (hy W))
    clear hy HY HN KR KI KS KW
    go_wp2_with fail
    refine (KR2.out _ (HG.out.below (B := w.heap.size) D4.out hz) (HP.out.on D4.out).here).mono ?_
    rintro e w5 ⟨b5, v, rfl, hown⟩
    obtain ⟨A5, c5, rfl, hr5⟩ := hown.row
    have HR5 := Lib.hid hr5
    have B5 : Below w1.heap.size w1 w5 := Below.trans B4 (b5.mono B4.size)
    have D5 : Hid (Below w.heap.size w w5) := Lib.hid (Below.trans B1.out (B5.mono z1))
    have z5 := D5.out.size
    clear b5 hown hr5
    go_wp2_with fail
    refine (KD.out _ _ _ _ _ HR5.out (HR.out _ B5)).mono ?_
    rintro e w6 ⟨rfl, b6⟩
    have D6 : Hid (Below w.heap.size w w6) := Lib.hid (Below.trans D5.out (b6.mono z5))
    have z6 := D6.out.size
    clear b6
    go_wp2_with fail
    refine (alive_trueG _ (HT.out.below D6.out h0)).mono ?_
    rintro e w7 ⟨rfl, b7⟩
    have B7 : Below w.heap.size w w7 := Below.trans D6.out (b7.mono z6)
    clear b7
    go_wp2
    go_ret
    exact ⟨rfl, B7⟩
  · have hX := HN.out hw
    have hne : (wr != -1) = true := by simpa using hw
    subst hX
    clear HY HN KR KI KS KW
    go_wp2_with fail
    refine (alive_trueG _ (HT.out.below D4.out h0)).mono ?_
    rintro e w5 ⟨rfl, b5⟩
    have B5 : Below w.heap.size w w5 := Below.trans D4.out (b5.mono z4)
    clear b5
    go_wp2
    go_ret
    exact ⟨rfl, B5⟩
end Go.Proofs.YtnoccmghclmpnaaDoor

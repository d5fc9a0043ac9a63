/- The walk of the law FnPurseOk: for every bytes the law returns true. -/
import Derived.Test.YtfmhmcedidghfaaDoorDraw3
import Derived.Test.YtfmhmcedidghfaaDoorSpec1
namespace Go.Proofs.YtfmhmcedidghfaaDoor
open Go.RowKit

theorem walk_FnPurseOk (A : Option Addr) (bs : List Int) (c : Nat) (w : World) (hr : Row .u8 w A bs) (hl : bs.length ≤ c) (hm : c ≤ maxLen) (hwf : ∀ n ∈ bs, (Lit.int .u8 n).wf = true) (hT : Worths w) :
    Calls Tryd.prog 4 #[.slice A bs.length c] w fun e w' => e = .returned (.bool true) ∧ Below w.heap.size w w' := by
  have hb := bytes_of_wf hwf
  clear hwf
  have h0 : 0 < w.heap.size := World.block_lt_of_cell? w _ hT.1
  have HT := Lib.hid hT; clear hT
  by_cases hbig : 1048576 < bs.length
  · clear hb hl hm
    go_enter Tryd.func4, Tryd.ntmps4
    go_wp2
    go_ret
    exact ⟨rfl, Below.refl _ _⟩
  · have hs : bs.length ≤ 1048576 := by omega
    clear hbig
    have K := Lib.hid (DrawPurseOk_any A bs c w hr hb hl hm)
    clear hb hl hm
    have Z : Hid (∀ A c W, Row .i64 W A [0, 0, 0, 0] → Calls Tryd.prog 21 #[.slice A 4 c] W fun e w' => e = .returned (.bool true) ∧ Below W.heap.size W w') := fun A c W h1 => implPurseOk_any A [0, 0, 0, 0] c W h1
    have N : Hid (∀ A c W, Calls Tryd.prog 21 #[.slice A 0 c] W fun e w' => e = .returned (.bool false) ∧ Below W.heap.size W w') := fun A c W => implPurseOk_any A [] c W (Row.nil _ _ _)
    have hmk : ∀ W : World, (Instr.makeSlice 27 (.int .i64 4) (.int .i64 4)).run Tryd.prog W = .ok (.slice (some ⟨W.heap.size, 0, none⟩) 4 4) (W.alloc (.cells #[.int .i64 0, .int .i64 0, .int .i64 0, .int .i64 0] 3)) := fun _ => by kernel_rfl
    go_enter Tryd.func4, Tryd.ntmps4
    go_wp2_with fail
    refine K.out.mono ?_
    rintro e w1 ⟨g2, cap, xs, rfl, hrow, hlen, hg2, hb1⟩
    have hz1 := hb1.size
    have I := implPurseOk_any (some ⟨g2, 0, none⟩) xs cap
    have S := specPurseOk_any (some ⟨g2, 0, none⟩) xs cap
    generalize okP xs = r at I S
    cases r
    all_goals
      have KI := Lib.hid I
      have KS := Lib.hid S
      clear I S
      go_wp2_with fail
      refine (KI.out _ hrow).mono ?_
      rintro e w2 ⟨rfl, hb2⟩
      have hB2 : Below w.heap.size w w2 := Below.trans hb1 (hb2.mono hz1)
      have hz2 := hB2.size
      have hrow2 := hrow.below hb2
      clear hb2 hrow
      go_wp2_with fail
      refine (KS.out _ hrow2 (by omega)).mono ?_
      rintro e w3 ⟨rfl, rfl⟩
      have q1 : Blk (w2.alloc (.cells #[.int .i64 0, .int .i64 0, .int .i64 0, .int .i64 0] 3)) w2.heap.size 3 (cellsOf [0, 0, 0, 0]) := Blk.new _ _ _
      go_wp2_with fail
      refine (Z.out _ _ _ q1.row).mono ?_
      rintro e w3 ⟨rfl, hb3⟩
      have hB3 : Below w.heap.size w w3 := Below.trans (by repeat' (first | with_reducible exact Below.refl _ _ | with_reducible assumption | with_reducible apply Below.drew | with_reducible apply below_drewN | (with_reducible refine Below.setCell ?_ ?_ _) | (with_reducible refine Below.alloc ?_ ?_ _) | with_reducible exact Nat.le_refl _ | with_reducible exact Below.size (by assumption) | (simp; done) | omega | (simp; omega))) (hb3.mono (by simp; omega))
      have hz3 := hB3.size
      clear hb3 q1
      go_wp2_with fail
      refine (N.out _ _ _).mono ?_
      rintro e w4 ⟨rfl, hb4⟩
      have hB4 : Below w.heap.size w w4 := Below.trans (by repeat' (first | with_reducible exact Below.refl _ _ | with_reducible assumption | with_reducible apply Below.drew | with_reducible apply below_drewN | (with_reducible refine Below.setCell ?_ ?_ _) | (with_reducible refine Below.alloc ?_ ?_ _) | with_reducible exact Nat.le_refl _ | with_reducible exact Below.size (by assumption) | (simp; done) | omega | (simp; omega))) (hb4.mono (by simp; omega))
      have hz4 := hB4.size
      clear hb4
      go_wp2_with fail
      refine (alive_true _ (HT.out.below hB4 h0)).mono ?_
      rintro e w5 ⟨rfl, hb5⟩
      have hB5 : Below w.heap.size w w5 := Below.trans hB4 (hb5.mono hz4)
      go_wp2
      go_ret
      exact ⟨rfl, hB5⟩

end Go.Proofs.YtfmhmcedidghfaaDoor

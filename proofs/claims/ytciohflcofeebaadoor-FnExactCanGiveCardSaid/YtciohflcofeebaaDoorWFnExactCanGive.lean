/- The walk of the law FnExactCanGive: it returns true for every slice of ints and every amount and writes into nothing that was there. -/
import Derived.Test.YtciohflcofeebaaDoorFind6
namespace Go.Proofs.YtciohflcofeebaaDoor
open Go.RowKit

set_option maxHeartbeats 800000 in
theorem walk_FnExactCanGive (A : Option Addr) (xs : List Int) (c : Nat) (n : Int) (w : World) (hr : Row .i64 w A xs) (_hl : xs.length ≤ c) (_hc : c ≤ maxLen) (_hwf : ∀ n ∈ xs, (Lit.int .i64 n).wf = true) (_hn : (Lit.int .i64 n).wf = true) (hT : Worths w) :
    Calls Tryd.prog 8 #[.slice A xs.length c, .int .i64 n] w fun e w' => e = .returned (.bool true) ∧ Below w.heap.size w w' := by
  clear _hl _hc _hwf _hn
  by_cases hbig : 1048576 < xs.length
  · go_enter Tryd.func8, Tryd.ntmps8
    go_wp2
    go_ret
    exact ⟨rfl, Below.refl _ _⟩
  · have hl : xs.length ≤ 1048576 := by omega
    clear hbig
    have H1 := fun A c W (h : Row .i64 W A xs) => specCanGive_any A xs c n W h hl
    have H2 := fun A c W (h : Row .i64 W A xs) h2 => implCanGive_any A xs c n W h h2
    generalize canR xs n = r at *
    have h0 : 0 < w.heap.size := World.block_lt_of_cell? w _ hT.1
    have HT := Lib.hid hT; clear hT
    cases r
    all_goals
      have K1 := Lib.hid H1
      have K2 := Lib.hid H2
      clear H1 H2
      go_enter Tryd.func8, Tryd.ntmps8
      go_wp2_with fail
      refine (toIntS_any A xs c _ hr hl).mono ?_
      rintro e w1 ⟨rfl, q1, b1⟩
      have hz := b1.size
      go_wp2_with fail
      refine (K1.out _ _ _ q1.row).mono ?_
      rintro e w1' ⟨rfl, b1'⟩
      have B1 : Below w.heap.size w w1' := Below.trans b1 (b1'.mono hz)
      have hz1 := B1.size
      go_wp2_with fail
      refine (toIntS_any A xs c _ (hr.below B1) hl).mono ?_
      rintro e w2 ⟨rfl, q2, b2⟩
      have B2 : Below w.heap.size w w2 := Below.trans B1 (b2.mono hz1)
      have hz2 := B2.size
      go_wp2_with fail
      refine (K2.out _ _ _ q2.row (HT.out.below (B := w.heap.size) B2 h0)).mono ?_
      rintro e w3 ⟨rfl, b3⟩
      have B3 : Below w.heap.size w w3 := Below.trans B2 (b3.mono hz2)
      have q3 := q2.kept b3
      have hz3 := B3.size
      go_wp2_with fail
      refine (toIntS_any A xs c _ (hr.below B3) hl).mono ?_
      rintro e w4 ⟨rfl, q4, b4⟩
      have B4 : Below w.heap.size w w4 := Below.trans B3 (b4.mono hz3)
      have q5 := q3.kept b4
      have hz4 := B4.size
      go_wp2_with fail
      refine (eqIntS_same _ _ xs _ _ _ q5.row q4.row hl).mono ?_
      rintro e w5 ⟨rfl, b5⟩
      have B5 : Below w.heap.size w w5 := Below.trans B4 (b5.mono hz4)
      go_wp2
      go_ret
      exact ⟨rfl, B5⟩

end Go.Proofs.YtciohflcofeebaaDoor

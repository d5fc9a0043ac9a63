/- The walk of the law FnExactCostOf: it returns true for all its arguments and writes into nothing that was there. -/
import Derived.Test.YtemhikgdbmmnjaaHelpG
import Derived.Test.YtemhikgdbmmnjaaSps2
namespace Go.Proofs.Ytemhikgdbmmnjaa
open Go.RowKit

set_option maxHeartbeats 1600000 in
theorem walk_FnExactCostOf (A : Option Addr) (gs : List Gd) (c : Nat) (B : Option Addr) (xs : List Int) (d : Nat) (w : World) (hr : GRow w A gs) (_hl : gs.length ≤ c) (_hc : c ≤ maxLen) (hq : Row .i64 w B xs) (_hl2 : xs.length ≤ d) (_hd : d ≤ maxLen) (_hwf : ∀ n ∈ xs, (Lit.int .i64 n).wf = true) :
    Calls Try.prog 4 #[.slice A gs.length c, .slice B xs.length d] w fun e w' => e = .returned (.bool true) ∧ Below w.heap.size w w' := by
  by_cases hbig2 : 1048576 < xs.length
  · clear _hl _hc _hl2 _hd _hwf
    go_enter Try.func4, Try.ntmps4
    go_wp2
    go_ret
    exact ⟨rfl, Below.refl _ _⟩
  have hl2 : xs.length ≤ 1048576 := by omega
  by_cases hbig : 1048576 < gs.length
  · have hc' : gs.length ≤ maxLen := by omega
    clear _hl _hc _hl2 _hd _hwf
    go_enter Try.func4, Try.ntmps4
    go_wp2_with fail
    refine (szGoodS_no A gs.length c _ hbig hc').mono ?_
    rintro e w0 ⟨rfl, rfl⟩
    go_wp2
    go_ret
    exact ⟨rfl, Below.refl _ _⟩
  have hl : gs.length ≤ 1048576 := by omega
  clear _hl _hc _hl2 _hd _hwf hbig hbig2
  have KS := Lib.hid (fun A B c d W (h1 : GRow W A gs) (h2 : Row .i64 W B xs) => specCostOf_any A B gs xs c d W h1 h2 (by omega))
  have KI := Lib.hid (fun A B c d W (h1 : GRow W A gs) (h2 : Row .i64 W B xs) => implCostOf_any A B gs xs c d W h1 h2)
  generalize costV gs xs = v at *
  go_enter Try.func4, Try.ntmps4
  go_wp2_with fail
  refine (szGoodS_yes A gs.length c _ hl).mono ?_
  rintro e w0 ⟨rfl, rfl⟩
  go_wp2_with fail
  refine (toGoodS_any A gs c _ hr hl).mono ?_
  rintro e w1 ⟨rfl, q1, b1⟩
  have B1 : Below w.heap.size w w1 := b1
  have hz1 := B1.size
  clear b1
  have s1 := q1.lt
  go_wp2_with fail
  refine (toIntS_any B xs d _ (hq.below (by assumption)) hl2).mono ?_
  rintro e w2 ⟨rfl, q2, b2⟩
  have B2 : Below w.heap.size w w2 := Below.trans B1 (b2.mono hz1)
  have hz2 := B2.size
  have sz2 := b2.size
  have q1_2 := q1.kept b2
  clear q1
  clear b2
  have s2 := q2.lt
  go_wp2_with fail
  refine (KS.out _ _ _ _ _ q1_2.row q2.row).mono ?_
  rintro e w3 ⟨rfl, b3⟩
  have B3 : Below w.heap.size w w3 := Below.trans B2 (b3.mono hz2)
  have hz3 := B3.size
  have sz3 := b3.size
  have q1_3 := q1_2.kept b3
  clear q1_2
  have q2_3 := q2.kept b3
  clear q2
  clear b3
  go_wp2_with fail
  refine (toGoodS_any A gs c _ (hr.below (by assumption)) hl).mono ?_
  rintro e w4 ⟨rfl, q4, b4⟩
  have B4 : Below w.heap.size w w4 := Below.trans B3 (b4.mono hz3)
  have hz4 := B4.size
  have sz4 := b4.size
  have q1_4 := q1_3.kept b4
  clear q1_3
  have q2_4 := q2_3.kept b4
  clear q2_3
  clear b4
  have s4 := q4.lt
  go_wp2_with fail
  refine (toIntS_any B xs d _ (hq.below (by assumption)) hl2).mono ?_
  rintro e w5 ⟨rfl, q5, b5⟩
  have B5 : Below w.heap.size w w5 := Below.trans B4 (b5.mono hz4)
  have hz5 := B5.size
  have sz5 := b5.size
  have q1_5 := q1_4.kept b5
  clear q1_4
  have q2_5 := q2_4.kept b5
  clear q2_4
  have q4_5 := q4.kept b5
  clear q4
  clear b5
  have s5 := q5.lt
  go_wp2_with fail
  refine (KI.out _ _ _ _ _ q4_5.row q5.row).mono ?_
  rintro e w6 ⟨rfl, b6⟩
  have B6 : Below w.heap.size w w6 := Below.trans B5 (b6.mono hz5)
  have hz6 := B6.size
  have sz6 := b6.size
  have q1_6 := q1_5.kept b6
  clear q1_5
  have q2_6 := q2_5.kept b6
  clear q2_5
  have q4_6 := q4_5.kept b6
  clear q4_5
  have q5_6 := q5.kept b6
  clear q5
  clear b6
  go_wp2_with fail
  refine (toGoodS_any A gs c _ (hr.below (by assumption)) hl).mono ?_
  rintro e w7 ⟨rfl, q7, b7⟩
  have B7 : Below w.heap.size w w7 := Below.trans B6 (b7.mono hz6)
  have hz7 := B7.size
  have sz7 := b7.size
  have q1_7 := q1_6.kept b7
  clear q1_6
  have q2_7 := q2_6.kept b7
  clear q2_6
  have q4_7 := q4_6.kept b7
  clear q4_6
  have q5_7 := q5_6.kept b7
  clear q5_6
  clear b7
  have s7 := q7.lt
  go_wp2_with fail
  refine (eqGoodS_same _ _ gs gs.length _ _ rfl _ q4_7.row q7.row hl).mono ?_
  rintro e w8 ⟨rfl, b8⟩
  have B8 : Below w.heap.size w w8 := Below.trans B7 (b8.mono hz7)
  have hz8 := B8.size
  have sz8 := b8.size
  have q1_8 := q1_7.kept b8
  clear q1_7
  have q2_8 := q2_7.kept b8
  clear q2_7
  have q4_8 := q4_7.kept b8
  clear q4_7
  have q5_8 := q5_7.kept b8
  clear q5_7
  have q7_8 := q7.kept b8
  clear q7
  clear b8
  go_wp2_with fail
  refine (toIntS_any B xs d _ (hq.below (by assumption)) hl2).mono ?_
  rintro e w9 ⟨rfl, q9, b9⟩
  have B9 : Below w.heap.size w w9 := Below.trans B8 (b9.mono hz8)
  have hz9 := B9.size
  have sz9 := b9.size
  have q1_9 := q1_8.kept b9
  clear q1_8
  have q2_9 := q2_8.kept b9
  clear q2_8
  have q4_9 := q4_8.kept b9
  clear q4_8
  have q5_9 := q5_8.kept b9
  clear q5_8
  have q7_9 := q7_8.kept b9
  clear q7_8
  clear b9
  have s9 := q9.lt
  go_wp2_with fail
  refine (eqIntS_same _ _ xs _ _ _ q5_9.row q9.row hl2).mono ?_
  rintro e w10 ⟨rfl, b10⟩
  have B10 : Below w.heap.size w w10 := Below.trans B9 (b10.mono hz9)
  have hz10 := B10.size
  have sz10 := b10.size
  have q1_10 := q1_9.kept b10
  clear q1_9
  have q2_10 := q2_9.kept b10
  clear q2_9
  have q4_10 := q4_9.kept b10
  clear q4_9
  have q5_10 := q5_9.kept b10
  clear q5_9
  have q7_10 := q7_9.kept b10
  clear q7_9
  have q9_10 := q9.kept b10
  clear q9
  clear b10
  go_wp2
  go_ret
  exact ⟨rfl, B10⟩

end Go.Proofs.Ytemhikgdbmmnjaa

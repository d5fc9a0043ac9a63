/- The walk of the law FnExactAfterBasket: it returns true for all its arguments and writes into nothing that was there. -/
import Derived.Test.YtemhikgdbmmnjaaHelpA
namespace Go.Proofs.Ytemhikgdbmmnjaa
open Go.RowKit

/-- The goods that the model hands back beside true. -/
def GotLeftN (w : World) (n : Nat) (ls : List Gd) (e : Ending) (w' : World) : Prop :=
  ∃ A cap, e = .returned (.tuple #[.slice A n cap, .bool true]) ∧ OwnG w' w.heap.size (.slice A n cap) ls ∧ Below w.heap.size w w'

set_option maxHeartbeats 3200000 in
theorem walkNone_FnExactAfterBasket (A : Option Addr) (gs : List Gd) (c : Nat) (B : Option Addr) (xs : List Int) (d : Nat) (w : World) (hr : GRow w A gs) (hq : Row .i64 w B xs) (hl : gs.length ≤ 1048576) (hl2 : xs.length ≤ 1048576)
    (S : ∀ A B c d W, GRow W A gs → Row .i64 W B xs → Calls Try.prog 31 #[.slice A gs.length c, .slice B xs.length d] W  fun e w' => (∃ A', e = .returned (.tuple #[.slice A' 0 0, .bool false])) ∧ Below W.heap.size W w') (I : ∀ A B c d W, GRow W A gs → Row .i64 W B xs → Calls Try.prog 32 #[.slice A gs.length c, .slice B xs.length d] W  fun e w' => e = .returned (.tuple #[.slice none 0 0, .bool false]) ∧ Below W.heap.size W w') :
    Calls Try.prog 8 #[.slice A gs.length c, .slice B xs.length d] w fun e w' => e = .returned (.bool true) ∧ Below w.heap.size w w' := by
  have KS := Lib.hid S; clear S
  have KI := Lib.hid I; clear I
  go_enter Try.func8, Try.ntmps8
  go_wp2_with fail
  refine (szGoodS_yes A gs.length c _ hl).mono ?_
  rintro e w0 ⟨rfl, rfl⟩
  go_wp2_with fail
  refine (toGoodS_any A gs c _ hr hl).mono ?_
  rintro e w1 ⟨rfl, q1, b1⟩
  have B1 : Below w.heap.size w w1 := b1
  have hz1 := B1.size
  clear b1
  have s1 := q1.lt
  go_wp2_with fail
  refine (toIntS_any B xs d _ (hq.below (by assumption)) hl2).mono ?_
  rintro e w2 ⟨rfl, q2, b2⟩
  have B2 : Below w.heap.size w w2 := Below.trans B1 (b2.mono hz1)
  have hz2 := B2.size
  have sz2 := b2.size
  have q1_2 := q1.kept b2
  clear q1
  clear b2
  have s2 := q2.lt
  go_wp2_with fail
  refine (KS.out _ _ _ _ _ q1_2.row q2.row).mono ?_
  rintro e w3 ⟨⟨A3, rfl⟩, b3⟩
  have B3 : Below w.heap.size w w3 := Below.trans B2 (b3.mono hz2)
  have hz3 := B3.size
  have sz3 := b3.size
  have q1_3 := q1_2.kept b3
  clear q1_2
  have q2_3 := q2.kept b3
  clear q2
  clear b3
  go_wp2_with fail
  refine (toGoodS_any A gs c _ (hr.below (by assumption)) hl).mono ?_
  rintro e w4 ⟨rfl, q4, b4⟩
  have B4 : Below w.heap.size w w4 := Below.trans B3 (b4.mono hz3)
  have hz4 := B4.size
  have sz4 := b4.size
  have q1_4 := q1_3.kept b4
  clear q1_3
  have q2_4 := q2_3.kept b4
  clear q2_3
  clear b4
  have s4 := q4.lt
  go_wp2_with fail
  refine (toIntS_any B xs d _ (hq.below (by assumption)) hl2).mono ?_
  rintro e w5 ⟨rfl, q5, b5⟩
  have B5 : Below w.heap.size w w5 := Below.trans B4 (b5.mono hz4)
  have hz5 := B5.size
  have sz5 := b5.size
  have q1_5 := q1_4.kept b5
  clear q1_4
  have q2_5 := q2_4.kept b5
  clear q2_4
  have q4_5 := q4.kept b5
  clear q4
  clear b5
  have s5 := q5.lt
  go_wp2_with fail
  refine (KI.out _ _ _ _ _ q4_5.row q5.row).mono ?_
  rintro e w6 ⟨rfl, b6⟩
  have B6 : Below w.heap.size w w6 := Below.trans B5 (b6.mono hz5)
  have hz6 := B6.size
  have sz6 := b6.size
  have q1_6 := q1_5.kept b6
  clear q1_5
  have q2_6 := q2_5.kept b6
  clear q2_5
  have q4_6 := q4_5.kept b6
  clear q4_5
  have q5_6 := q5.kept b6
  clear q5
  clear b6
  go_wp2_with fail
  refine (eqGoodS_same _ _ [] 0 _ _ rfl _ (GRow.nil _ _) (GRow.nil _ _) (by omega)).mono ?_
  rintro e w7 ⟨rfl, b7⟩
  have B7 : Below w.heap.size w w7 := Below.trans B6 (b7.mono hz6)
  have hz7 := B7.size
  have sz7 := b7.size
  have q1_7 := q1_6.kept b7
  clear q1_6
  have q2_7 := q2_6.kept b7
  clear q2_6
  have q4_7 := q4_6.kept b7
  clear q4_6
  have q5_7 := q5_6.kept b7
  clear q5_6
  clear b7
  go_wp2_with fail
  refine (toGoodS_any A gs c _ (hr.below (by assumption)) hl).mono ?_
  rintro e w8 ⟨rfl, q8, b8⟩
  have B8 : Below w.heap.size w w8 := Below.trans B7 (b8.mono hz7)
  have hz8 := B8.size
  have sz8 := b8.size
  have q1_8 := q1_7.kept b8
  clear q1_7
  have q2_8 := q2_7.kept b8
  clear q2_7
  have q4_8 := q4_7.kept b8
  clear q4_7
  have q5_8 := q5_7.kept b8
  clear q5_7
  clear b8
  have s8 := q8.lt
  go_wp2_with fail
  refine (eqGoodS_same _ _ gs gs.length _ _ rfl _ q4_8.row q8.row hl).mono ?_
  rintro e w9 ⟨rfl, b9⟩
  have B9 : Below w.heap.size w w9 := Below.trans B8 (b9.mono hz8)
  have hz9 := B9.size
  have sz9 := b9.size
  have q1_9 := q1_8.kept b9
  clear q1_8
  have q2_9 := q2_8.kept b9
  clear q2_8
  have q4_9 := q4_8.kept b9
  clear q4_8
  have q5_9 := q5_8.kept b9
  clear q5_8
  have q8_9 := q8.kept b9
  clear q8
  clear b9
  go_wp2_with fail
  refine (toIntS_any B xs d _ (hq.below (by assumption)) hl2).mono ?_
  rintro e w10 ⟨rfl, q10, b10⟩
  have B10 : Below w.heap.size w w10 := Below.trans B9 (b10.mono hz9)
  have hz10 := B10.size
  have sz10 := b10.size
  have q1_10 := q1_9.kept b10
  clear q1_9
  have q2_10 := q2_9.kept b10
  clear q2_9
  have q4_10 := q4_9.kept b10
  clear q4_9
  have q5_10 := q5_9.kept b10
  clear q5_9
  have q8_10 := q8_9.kept b10
  clear q8_9
  clear b10
  have s10 := q10.lt
  go_wp2_with fail
  refine (eqIntS_same _ _ xs _ _ _ q5_10.row q10.row hl2).mono ?_
  rintro e w11 ⟨rfl, b11⟩
  have B11 : Below w.heap.size w w11 := Below.trans B10 (b11.mono hz10)
  have hz11 := B11.size
  have sz11 := b11.size
  have q1_11 := q1_10.kept b11
  clear q1_10
  have q2_11 := q2_10.kept b11
  clear q2_10
  have q4_11 := q4_10.kept b11
  clear q4_10
  have q5_11 := q5_10.kept b11
  clear q5_10
  have q8_11 := q8_10.kept b11
  clear q8_10
  have q10_11 := q10.kept b11
  clear q10
  clear b11
  obtain ⟨csA, hA, hAs, _⟩ := q4_11
  go_wp2_with fail
  refine (markGoodS_any _ gs.length _ 1 _ _ _ hA (by omega) hl (by omega) (by omega)).mono ?_
  rintro e w12 ⟨rfl, ⟨cs12, q12, m12⟩, b12, o12⟩
  have O12 := Lib.hid o12; clear o12
  have B12 : Below w.heap.size w w12 := Below.trans B11 (b12.mono (by omega))
  have hz12 := B12.size
  have sz12 := b12.size
  clear q1_11
  clear q2_11
  have q5_12 := q5_11.other O12.out (by omega)
  clear q5_11
  clear q8_11
  clear q10_11
  clear b12
  clear hA
  go_wp2_with fail
  refine (markIntS_any _ xs.length _ (1 + 2 * (gs.length : Int)) _ _ _ q5_12 (cellsOf_size xs) hl2 (by omega) (by omega)).mono ?_
  rintro e w13 ⟨rfl, ⟨cs13, q13, m13⟩, b13, o13⟩
  have O13 := Lib.hid o13; clear o13
  have B13 : Below w.heap.size w w13 := Below.trans B12 (b13.mono (by omega))
  have hz13 := B13.size
  have sz13 := b13.size
  clear q5_12
  clear b13
  have kz : ¬ (1 + 2 * (gs.length : Int) + (xs.length : Int) < 0) := by omega
  go_wp2_with fail
  refine (eqGoodS_same _ _ [] 0 _ _ rfl _ (GRow.nil _ _) (GRow.nil _ _) (by omega)).mono ?_
  rintro e w14 ⟨rfl, b14⟩
  have B14 : Below w.heap.size w w14 := Below.trans B13 (b14.mono hz13)
  have hz14 := B14.size
  have sz14 := b14.size
  clear b14
  go_wp2_with fail
  refine (markGoodS_none _ _ _ _).mono ?_
  rintro e w15 ⟨rfl, rfl⟩
  go_wp2_with fail
  refine (heldGoodS_none _ _ _ _).mono ?_
  rintro e w16 ⟨rfl, rfl⟩
  go_wp2_with fail
  refine (toGoodS_any A gs c _ (hr.below (by assumption)) hl).mono ?_
  rintro e w17 ⟨rfl, q17, b17⟩
  have B17 : Below w.heap.size w w17 := Below.trans B14 (b17.mono hz14)
  have hz17 := B17.size
  have sz17 := b17.size
  clear b17
  have s17 := q17.lt
  go_wp2_with fail
  refine (toIntS_any B xs d _ (hq.below (by assumption)) hl2).mono ?_
  rintro e w18 ⟨rfl, q18, b18⟩
  have B18 : Below w.heap.size w w18 := Below.trans B17 (b18.mono hz17)
  have hz18 := B18.size
  have sz18 := b18.size
  have q17_18 := q17.kept b18
  clear q17
  clear b18
  have s18 := q18.lt
  go_wp2_with fail
  refine (KI.out _ _ _ _ _ q17_18.row q18.row).mono ?_
  rintro e w19 ⟨rfl, b19⟩
  have B19 : Below w.heap.size w w19 := Below.trans B18 (b19.mono hz18)
  have hz19 := B19.size
  have sz19 := b19.size
  have q17_19 := q17_18.kept b19
  clear q17_18
  have q18_19 := q18.kept b19
  clear q18
  clear b19
  go_wp2_with fail
  refine (eqGoodS_same _ _ [] 0 _ _ rfl _ (GRow.nil _ _) (GRow.nil _ _) (by omega)).mono ?_
  rintro e w20 ⟨rfl, b20⟩
  have B20 : Below w.heap.size w w20 := Below.trans B19 (b20.mono hz19)
  have hz20 := B20.size
  have sz20 := b20.size
  have q17_20 := q17_19.kept b20
  clear q17_19
  have q18_20 := q18_19.kept b20
  clear q18_19
  clear b20
  go_wp2_with fail
  refine (heldGoodS_none _ _ _ _).mono ?_
  rintro e w21 ⟨rfl, rfl⟩
  go_wp2
  go_ret
  exact ⟨rfl, B20⟩

set_option maxHeartbeats 3200000 in
theorem walkSome_FnExactAfterBasket (A : Option Addr) (gs : List Gd) (c : Nat) (B : Option Addr) (xs : List Int) (d : Nat) (w : World) (hr : GRow w A gs) (hq : Row .i64 w B xs) (hl : gs.length ≤ 3) (hl2 : xs.length ≤ 1048576) (ls : List Gd) (hx : ls.length = gs.length)
    (S : ∀ A B c d W, GRow W A gs → Row .i64 W B xs → Calls Try.prog 31 #[.slice A gs.length c, .slice B xs.length d] W  (GotLeftN W gs.length ls)) (I : ∀ A B c d W, GRow W A gs → Row .i64 W B xs → Calls Try.prog 32 #[.slice A gs.length c, .slice B xs.length d] W  (GotGoodsP W gs.length ls)) :
    Calls Try.prog 8 #[.slice A gs.length c, .slice B xs.length d] w fun e w' => e = .returned (.bool true) ∧ Below w.heap.size w w' := by
  have HX := Lib.hid hx; clear hx
  have hl3 := hl
  replace hl : gs.length ≤ 1048576 := by omega
  have KS := Lib.hid S; clear S
  have KI := Lib.hid I; clear I
  go_enter Try.func8, Try.ntmps8
  go_wp2_with fail
  refine (szGoodS_yes A gs.length c _ hl).mono ?_
  rintro e w0 ⟨rfl, rfl⟩
  go_wp2_with fail
  refine (toGoodS_any A gs c _ hr hl).mono ?_
  rintro e w1 ⟨rfl, q1, b1⟩
  have B1 : Below w.heap.size w w1 := b1
  have hz1 := B1.size
  clear b1
  have s1 := q1.lt
  go_wp2_with fail
  refine (toIntS_any B xs d _ (hq.below (by assumption)) hl2).mono ?_
  rintro e w2 ⟨rfl, q2, b2⟩
  have B2 : Below w.heap.size w w2 := Below.trans B1 (b2.mono hz1)
  have hz2 := B2.size
  have sz2 := b2.size
  have q1_2 := q1.kept b2
  clear q1
  clear b2
  have s2 := q2.lt
  go_wp2_with fail
  refine (KS.out _ _ _ _ _ q1_2.row q2.row).mono ?_
  rintro e w3 ⟨A3, cap3, rfl, W3, b3⟩
  have B3 : Below w.heap.size w w3 := Below.trans B2 (b3.mono hz2)
  have hz3 := B3.size
  have sz3 := b3.size
  have q1_3 := q1_2.kept b3
  clear q1_2
  have q2_3 := q2.kept b3
  clear q2
  clear b3
  have o2 := Lib.hid (fun k hk => (World.ownsRow.lt W3 k hk).2)
  have zs := B3.size
  go_wp2_with fail
  refine (toGoodS_any A gs c _ (hr.below (by assumption)) hl).mono ?_
  rintro e w4 ⟨rfl, q4, b4⟩
  have B4 : Below w.heap.size w w4 := Below.trans B3 (b4.mono hz3)
  have hz4 := B4.size
  have sz4 := b4.size
  have W4 := W3.kept b4
  clear W3
  have q1_4 := q1_3.kept b4
  clear q1_3
  have q2_4 := q2_3.kept b4
  clear q2_3
  clear b4
  have s4 := q4.lt
  go_wp2_with fail
  refine (toIntS_any B xs d _ (hq.below (by assumption)) hl2).mono ?_
  rintro e w5 ⟨rfl, q5, b5⟩
  have B5 : Below w.heap.size w w5 := Below.trans B4 (b5.mono hz4)
  have hz5 := B5.size
  have sz5 := b5.size
  have W5 := W4.kept b5
  clear W4
  have q1_5 := q1_4.kept b5
  clear q1_4
  have q2_5 := q2_4.kept b5
  clear q2_4
  have q4_5 := q4.kept b5
  clear q4
  clear b5
  have s5 := q5.lt
  go_wp2_with fail
  refine (KI.out _ _ _ _ _ q4_5.row q5.row).mono ?_
  rintro e w6 ⟨g6, rfl, p6, hg6, b6⟩
  have B6 : Below w.heap.size w w6 := Below.trans B5 (b6.mono hz5)
  have hz6 := B6.size
  have sz6 := b6.size
  have W6 := W5.kept b6
  clear W5
  have q1_6 := q1_5.kept b6
  clear q1_5
  have q2_6 := q2_5.kept b6
  clear q2_5
  have q4_6 := q4_5.kept b6
  clear q4_5
  have q5_6 := q5.kept b6
  clear q5
  clear b6
  have gl6 := p6.lt
  go_wp2_with fail
  refine (eqGoodS_same _ _ ls gs.length _ _ HX.out _ p6.row W6.grow hl).mono ?_
  rintro e w7 ⟨rfl, b7⟩
  have B7 : Below w.heap.size w w7 := Below.trans B6 (b7.mono hz6)
  have hz7 := B7.size
  have sz7 := b7.size
  have W7 := W6.kept b7
  clear W6
  have q1_7 := q1_6.kept b7
  clear q1_6
  have q2_7 := q2_6.kept b7
  clear q2_6
  have q4_7 := q4_6.kept b7
  clear q4_6
  have q5_7 := q5_6.kept b7
  clear q5_6
  have p6_7 := p6.kept b7
  clear p6
  clear b7
  go_wp2_with fail
  refine (toGoodS_any A gs c _ (hr.below (by assumption)) hl).mono ?_
  rintro e w8 ⟨rfl, q8, b8⟩
  have B8 : Below w.heap.size w w8 := Below.trans B7 (b8.mono hz7)
  have hz8 := B8.size
  have sz8 := b8.size
  have W8 := W7.kept b8
  clear W7
  have q1_8 := q1_7.kept b8
  clear q1_7
  have q2_8 := q2_7.kept b8
  clear q2_7
  have q4_8 := q4_7.kept b8
  clear q4_7
  have q5_8 := q5_7.kept b8
  clear q5_7
  have p6_8 := p6_7.kept b8
  clear p6_7
  clear b8
  have s8 := q8.lt
  go_wp2_with fail
  refine (eqGoodS_same _ _ gs gs.length _ _ rfl _ q4_8.row q8.row hl).mono ?_
  rintro e w9 ⟨rfl, b9⟩
  have B9 : Below w.heap.size w w9 := Below.trans B8 (b9.mono hz8)
  have hz9 := B9.size
  have sz9 := b9.size
  have W9 := W8.kept b9
  clear W8
  have q1_9 := q1_8.kept b9
  clear q1_8
  have q2_9 := q2_8.kept b9
  clear q2_8
  have q4_9 := q4_8.kept b9
  clear q4_8
  have q5_9 := q5_8.kept b9
  clear q5_8
  have p6_9 := p6_8.kept b9
  clear p6_8
  have q8_9 := q8.kept b9
  clear q8
  clear b9
  go_wp2_with fail
  refine (toIntS_any B xs d _ (hq.below (by assumption)) hl2).mono ?_
  rintro e w10 ⟨rfl, q10, b10⟩
  have B10 : Below w.heap.size w w10 := Below.trans B9 (b10.mono hz9)
  have hz10 := B10.size
  have sz10 := b10.size
  have W10 := W9.kept b10
  clear W9
  have q1_10 := q1_9.kept b10
  clear q1_9
  have q2_10 := q2_9.kept b10
  clear q2_9
  have q4_10 := q4_9.kept b10
  clear q4_9
  have q5_10 := q5_9.kept b10
  clear q5_9
  have p6_10 := p6_9.kept b10
  clear p6_9
  have q8_10 := q8_9.kept b10
  clear q8_9
  clear b10
  have s10 := q10.lt
  go_wp2_with fail
  refine (eqIntS_same _ _ xs _ _ _ q5_10.row q10.row hl2).mono ?_
  rintro e w11 ⟨rfl, b11⟩
  have B11 : Below w.heap.size w w11 := Below.trans B10 (b11.mono hz10)
  have hz11 := B11.size
  have sz11 := b11.size
  have W11 := W10.kept b11
  clear W10
  have q1_11 := q1_10.kept b11
  clear q1_10
  have q2_11 := q2_10.kept b11
  clear q2_10
  have q4_11 := q4_10.kept b11
  clear q4_10
  have q5_11 := q5_10.kept b11
  clear q5_10
  have p6_11 := p6_10.kept b11
  clear p6_10
  have q8_11 := q8_10.kept b11
  clear q8_10
  have q10_11 := q10.kept b11
  clear q10
  clear b11
  obtain ⟨csA, hA, hAs, _⟩ := q4_11
  go_wp2_with fail
  refine (markGoodS_any _ gs.length _ 1 _ _ _ hA (by omega) hl (by omega) (by omega)).mono ?_
  rintro e w12 ⟨rfl, ⟨cs12, q12, m12⟩, b12, o12⟩
  have O12 := Lib.hid o12; clear o12
  have B12 : Below w.heap.size w w12 := Below.trans B11 (b12.mono (by omega))
  have hz12 := B12.size
  have sz12 := b12.size
  have W12 := W11.below b12 (fun k hk => by have := o2.out k hk; omega)
  clear W11
  clear q1_11
  clear q2_11
  have q5_12 := q5_11.other O12.out (by omega)
  clear q5_11
  have p6_12 := p6_11.other O12.out (by omega)
  clear p6_11
  clear q8_11
  clear q10_11
  clear b12
  clear hA
  go_wp2_with fail
  refine (markIntS_any _ xs.length _ (1 + 2 * (gs.length : Int)) _ _ _ q5_12 (cellsOf_size xs) hl2 (by omega) (by omega)).mono ?_
  rintro e w13 ⟨rfl, ⟨cs13, q13, m13⟩, b13, o13⟩
  have O13 := Lib.hid o13; clear o13
  have B13 : Below w.heap.size w w13 := Below.trans B12 (b13.mono (by omega))
  have hz13 := B13.size
  have sz13 := b13.size
  have W13 := W12.below b13 (fun k hk => by have := o2.out k hk; omega)
  clear W12
  clear q5_12
  have p6_13 := p6_12.other O13.out (by omega)
  clear p6_12
  clear b13
  have kz : ¬ (1 + 2 * (gs.length : Int) + (xs.length : Int) < 0) := by omega
  go_wp2_with fail
  refine (eqGoodS_same _ _ ls gs.length _ _ HX.out _ p6_13.row W13.grow hl).mono ?_
  rintro e w14 ⟨rfl, b14⟩
  have B14 : Below w.heap.size w w14 := Below.trans B13 (b14.mono hz13)
  have hz14 := B14.size
  have sz14 := b14.size
  have W14 := W13.kept b14
  clear W13
  have p6_14 := p6_13.kept b14
  clear p6_13
  clear b14
  obtain ⟨csP, hA, hps, _⟩ := p6_14
  rw [HX.out] at hps
  go_wp2_with fail
  refine (markGoodS_any _ gs.length _ 1 _ _ _ hA hps hl (by omega) (by omega)).mono ?_
  rintro e w15 ⟨rfl, ⟨cs15, q15, m15⟩, b15, o15⟩
  have O15 := Lib.hid o15; clear o15
  have B15 : Below w.heap.size w w15 := Below.trans B14 (b15.mono (by omega))
  have hz15 := B15.size
  have sz15 := b15.size
  have W15 := W14.below b15 (fun k hk => by have := o2.out k hk; omega)
  clear W14
  clear b15
  have t15 := m15.goods q15
  clear q15 hA
  go_wp2_with fail
  refine (heldGoodS_yes _ (gmarks gs.length) gs.length _ (gmarks_length _) _ t15 hl (fun i hi => gmarks_get hi)).mono ?_
  rintro e w16 ⟨rfl, rfl⟩
  go_wp2_with fail
  refine (toGoodS_any A gs c _ (hr.below (by assumption)) hl).mono ?_
  rintro e w17 ⟨rfl, q17, b17⟩
  have B17 : Below w.heap.size w w17 := Below.trans B15 (b17.mono hz15)
  have hz17 := B17.size
  have sz17 := b17.size
  have W17 := W15.kept b17
  clear W15
  have t15_17 := t15.below b17
  clear t15
  clear b17
  have s17 := q17.lt
  go_wp2_with fail
  refine (toIntS_any B xs d _ (hq.below (by assumption)) hl2).mono ?_
  rintro e w18 ⟨rfl, q18, b18⟩
  have B18 : Below w.heap.size w w18 := Below.trans B17 (b18.mono hz17)
  have hz18 := B18.size
  have sz18 := b18.size
  have W18 := W17.kept b18
  clear W17
  have t15_18 := t15_17.below b18
  clear t15_17
  have q17_18 := q17.kept b18
  clear q17
  clear b18
  have s18 := q18.lt
  go_wp2_with fail
  refine (KI.out _ _ _ _ _ q17_18.row q18.row).mono ?_
  rintro e w19 ⟨g19, rfl, p19, hg19, b19⟩
  have B19 : Below w.heap.size w w19 := Below.trans B18 (b19.mono hz18)
  have hz19 := B19.size
  have sz19 := b19.size
  have W19 := W18.kept b19
  clear W18
  have t15_19 := t15_18.below b19
  clear t15_18
  have q17_19 := q17_18.kept b19
  clear q17_18
  have q18_19 := q18.kept b19
  clear q18
  clear b19
  go_wp2_with fail
  refine (eqGoodS_same _ _ ls gs.length _ _ HX.out _ p19.row W19.grow hl).mono ?_
  rintro e w20 ⟨rfl, b20⟩
  have B20 : Below w.heap.size w w20 := Below.trans B19 (b20.mono hz19)
  have hz20 := B20.size
  have sz20 := b20.size
  have W20 := W19.kept b20
  clear W19
  have t15_20 := t15_19.below b20
  clear t15_19
  have q17_20 := q17_19.kept b20
  clear q17_19
  have q18_20 := q18_19.kept b20
  clear q18_19
  have p19_20 := p19.kept b20
  clear p19
  clear b20
  go_wp2_with fail
  refine (heldGoodS_yes _ (gmarks gs.length) gs.length _ (gmarks_length _) _ t15_20 hl (fun i hi => gmarks_get hi)).mono ?_
  rintro e w21 ⟨rfl, rfl⟩
  go_wp2
  go_ret
  exact ⟨rfl, B20⟩

theorem walk_FnExactAfterBasket (A : Option Addr) (gs : List Gd) (c : Nat) (B : Option Addr) (xs : List Int) (d : Nat) (w : World) (hr : GRow w A gs) (_hl : gs.length ≤ c) (_hc : c ≤ maxLen) (hq : Row .i64 w B xs) (_hl2 : xs.length ≤ d) (_hd : d ≤ maxLen) (_hwf : ∀ n ∈ xs, (Lit.int .i64 n).wf = true) :
    Calls Try.prog 8 #[.slice A gs.length c, .slice B xs.length d] w fun e w' => e = .returned (.bool true) ∧ Below w.heap.size w w' := by
  by_cases hbig2 : 1048576 < xs.length
  · clear _hl _hc _hl2 _hd _hwf
    go_enter Try.func8, Try.ntmps8
    go_wp2
    go_ret
    exact ⟨rfl, Below.refl _ _⟩
  have hl2 : xs.length ≤ 1048576 := by omega
  by_cases hbig : 1048576 < gs.length
  · have hc' : gs.length ≤ maxLen := by omega
    clear _hl _hc _hl2 _hd _hwf
    go_enter Try.func8, Try.ntmps8
    go_wp2_with fail
    refine (szGoodS_no A gs.length c _ hbig hc').mono ?_
    rintro e w0 ⟨rfl, rfl⟩
    go_wp2
    go_ret
    exact ⟨rfl, Below.refl _ _⟩
  have hl : gs.length ≤ 1048576 := by omega
  cases h : (okS gs && bOk (shOf gs) xs)
  · exact walkNone_FnExactAfterBasket A gs c B xs d w hr hq hl hl2 (fun A B c d W h1 h2 => specAfterBasket_no A B gs xs c d W h1 h2 (by omega) h) (fun A B c d W h1 h2 => implAfterBasket_no A B gs xs c d W h1 h2 h)
  · have hgb : okS gs = true ∧ bOk (shOf gs) xs = true := by simpa using h
    obtain ⟨hg, hb⟩ := hgb
    have em : (shOf gs).m = (gs.length : Int) := rfl
    refine walkSome_FnExactAfterBasket A gs c B xs d w hr hq (okS_iff.1 hg).1 hl2 (leftTo gs xs gs.length) (leftTo_length _ _ _) (fun A B c d W h1 h2 => (specAfterBasket_yes A B gs xs c d W h1 h2 hg hb).mono ?_) (fun A B c d W h1 h2 => (implAfterBasket_yes A B gs xs c d W h1 h2 hg hb).mono fun e W' ⟨g, h3, h4, h5, h6⟩ => ⟨g, ?_, ⟨_, h4, ?_, left_pairs (okS_iff.1 hg).1 xs⟩, h5, h6⟩)
    · rintro e W' ⟨A', cap, h3, h4, h5⟩
      rw [leftTo_length] at h3 h4
      exact ⟨A', cap, h3, h4, h5⟩
    · rw [h3]
      show Ending.returned (.tuple #[.slice _ ((shOf gs).m).toNat ((shOf gs).m).toNat, _]) = _
      rw [em]; rfl
    · have := (okS_iff.1 hg).1
      rw [leftTo_length]
      show gs.length * 2 ≤ 7
      omega

end Go.Proofs.Ytemhikgdbmmnjaa

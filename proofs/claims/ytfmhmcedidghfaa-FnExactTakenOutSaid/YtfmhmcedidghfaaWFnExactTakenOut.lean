/- The walk of the law FnExactTakenOut: it returns true for every two slices of ints and writes into nothing that was there. -/
import Derived.Test.YtfmhmcedidghfaaSpec2
namespace Go.Proofs.Ytfmhmcedidghfaa
open Go.RowKit

set_option maxHeartbeats 1600000 in
theorem walkNone_FnExactTakenOut (A : Option Addr) (xs : List Int) (c : Nat) (B : Option Addr) (ys : List Int) (d : Nat) (w : World) (hr : Row .i64 w A xs) (hl : xs.length ≤ 1048576) (hq : Row .i64 w B ys) (hm : ys.length ≤ 1048576)
    (S : ∀ A c B d W, Row .i64 W A xs → Row .i64 W B ys → Calls Try.prog 20 #[.slice A xs.length c, .slice B ys.length d] W  (GivesNone W)) (I : ∀ A c B d W, Row .i64 W A xs → Row .i64 W B ys → Calls Try.prog 21 #[.slice A xs.length c, .slice B ys.length d] W  fun e w' => e = .returned (.tuple #[.slice none 0 0, .bool false]) ∧ Below W.heap.size W w') :
    Calls Try.prog 7 #[.slice A xs.length c, .slice B ys.length d] w fun e w' => e = .returned (.bool true) ∧ Below w.heap.size w w' := by
  have KS := Lib.hid S; clear S
  have KI := Lib.hid I; clear I
  go_enter Try.func7, Try.ntmps7
  go_wp2_with fail
  refine (toIntS_any A xs c _ hr hl).mono ?_
  rintro e w1 ⟨rfl, q1, b1⟩
  have B1 : Below w.heap.size w w1 := b1
  have hz1 := B1.size
  clear b1
  have s1 := q1.lt
  go_wp2_with fail
  refine (toIntS_any B ys d _ (hq.below (by assumption)) hm).mono ?_
  rintro e w2 ⟨rfl, q2, b2⟩
  have B2 : Below w.heap.size w w2 := Below.trans B1 (b2.mono hz1)
  have hz2 := B2.size
  have sz2 := b2.size
  have q1_2 := q1.kept b2
  clear q1
  clear b2
  have s2 := q2.lt
  go_wp2_with fail
  refine (KS.out _ _ _ _ _ q1_2.row q2.row).mono ?_
  rintro e w3 ⟨g3, rfl, b3⟩
  have B3 : Below w.heap.size w w3 := Below.trans B2 (b3.mono hz2)
  have hz3 := B3.size
  have sz3 := b3.size
  have q1_3 := q1_2.kept b3
  clear q1_2
  have q2_3 := q2.kept b3
  clear q2
  clear b3
  go_wp2_with fail
  refine (toIntS_any A xs c _ (hr.below (by assumption)) hl).mono ?_
  rintro e w4 ⟨rfl, q4, b4⟩
  have B4 : Below w.heap.size w w4 := Below.trans B3 (b4.mono hz3)
  have hz4 := B4.size
  have sz4 := b4.size
  have q1_4 := q1_3.kept b4
  clear q1_3
  have q2_4 := q2_3.kept b4
  clear q2_3
  clear b4
  have s4 := q4.lt
  go_wp2_with fail
  refine (toIntS_any B ys d _ (hq.below (by assumption)) hm).mono ?_
  rintro e w5 ⟨rfl, q5, b5⟩
  have B5 : Below w.heap.size w w5 := Below.trans B4 (b5.mono hz4)
  have hz5 := B5.size
  have sz5 := b5.size
  have q1_5 := q1_4.kept b5
  clear q1_4
  have q2_5 := q2_4.kept b5
  clear q2_4
  have q4_5 := q4.kept b5
  clear q4
  clear b5
  have s5 := q5.lt
  go_wp2_with fail
  refine (KI.out _ _ _ _ _ q4_5.row q5.row).mono ?_
  rintro e w6 ⟨rfl, b6⟩
  have B6 : Below w.heap.size w w6 := Below.trans B5 (b6.mono hz5)
  have hz6 := B6.size
  have sz6 := b6.size
  have q1_6 := q1_5.kept b6
  clear q1_5
  have q2_6 := q2_5.kept b6
  clear q2_5
  have q4_6 := q4_5.kept b6
  clear q4_5
  have q5_6 := q5.kept b6
  clear q5
  clear b6
  go_wp2_with fail
  refine (eqIntS_n _ _ [] 0 _ _ rfl _ (Row.nil _ _ _) (Row.nil _ _ _) (by omega)).mono ?_
  rintro e w7 ⟨rfl, b7⟩
  have B7 : Below w.heap.size w w7 := Below.trans B6 (b7.mono hz6)
  have hz7 := B7.size
  have sz7 := b7.size
  have q1_7 := q1_6.kept b7
  clear q1_6
  have q2_7 := q2_6.kept b7
  clear q2_6
  have q4_7 := q4_6.kept b7
  clear q4_6
  have q5_7 := q5_6.kept b7
  clear q5_6
  clear b7
  go_wp2_with fail
  refine (toIntS_any A xs c _ (hr.below (by assumption)) hl).mono ?_
  rintro e w8 ⟨rfl, q8, b8⟩
  have B8 : Below w.heap.size w w8 := Below.trans B7 (b8.mono hz7)
  have hz8 := B8.size
  have sz8 := b8.size
  have q1_8 := q1_7.kept b8
  clear q1_7
  have q2_8 := q2_7.kept b8
  clear q2_7
  have q4_8 := q4_7.kept b8
  clear q4_7
  have q5_8 := q5_7.kept b8
  clear q5_7
  clear b8
  have s8 := q8.lt
  go_wp2_with fail
  refine (eqIntS_same _ _ xs _ _ _ q4_8.row q8.row hl).mono ?_
  rintro e w9 ⟨rfl, b9⟩
  have B9 : Below w.heap.size w w9 := Below.trans B8 (b9.mono hz8)
  have hz9 := B9.size
  have sz9 := b9.size
  have q1_9 := q1_8.kept b9
  clear q1_8
  have q2_9 := q2_8.kept b9
  clear q2_8
  have q4_9 := q4_8.kept b9
  clear q4_8
  have q5_9 := q5_8.kept b9
  clear q5_8
  have q8_9 := q8.kept b9
  clear q8
  clear b9
  go_wp2_with fail
  refine (toIntS_any B ys d _ (hq.below (by assumption)) hm).mono ?_
  rintro e w10 ⟨rfl, q10, b10⟩
  have B10 : Below w.heap.size w w10 := Below.trans B9 (b10.mono hz9)
  have hz10 := B10.size
  have sz10 := b10.size
  have q1_10 := q1_9.kept b10
  clear q1_9
  have q2_10 := q2_9.kept b10
  clear q2_9
  have q4_10 := q4_9.kept b10
  clear q4_9
  have q5_10 := q5_9.kept b10
  clear q5_9
  have q8_10 := q8_9.kept b10
  clear q8_9
  clear b10
  have s10 := q10.lt
  go_wp2_with fail
  refine (eqIntS_same _ _ ys _ _ _ q5_10.row q10.row hm).mono ?_
  rintro e w11 ⟨rfl, b11⟩
  have B11 : Below w.heap.size w w11 := Below.trans B10 (b11.mono hz10)
  have hz11 := B11.size
  have sz11 := b11.size
  have q1_11 := q1_10.kept b11
  clear q1_10
  have q2_11 := q2_10.kept b11
  clear q2_10
  have q4_11 := q4_10.kept b11
  clear q4_10
  have q5_11 := q5_10.kept b11
  clear q5_10
  have q8_11 := q8_10.kept b11
  clear q8_10
  have q10_11 := q10.kept b11
  clear q10
  clear b11
  go_wp2_with fail
  refine (markIntS_any _ xs.length _ 1 _ _ _ q4_11 (cellsOf_size xs) hl (by omega) (by omega)).mono ?_
  rintro e w12 ⟨rfl, ⟨cs12, q12, m12⟩, b12, o12⟩
  have O12 := Lib.hid o12; clear o12
  have B12 : Below w.heap.size w w12 := Below.trans B11 (b12.mono (by omega))
  have hz12 := B12.size
  have sz12 := b12.size
  have q1_12 := q1_11.other O12.out (by omega)
  clear q1_11
  have q2_12 := q2_11.other O12.out (by omega)
  clear q2_11
  clear q4_11
  have q5_12 := q5_11.other O12.out (by omega)
  clear q5_11
  have q8_12 := q8_11.other O12.out (by omega)
  clear q8_11
  have q10_12 := q10_11.other O12.out (by omega)
  clear q10_11
  clear b12
  go_wp2_with fail
  refine (markIntS_any _ ys.length _ (1 + (xs.length : Int)) _ _ _ q5_12 (cellsOf_size ys) hm (by omega) (by omega)).mono ?_
  rintro e w13 ⟨rfl, ⟨cs13, q13, m13⟩, b13, o13⟩
  have O13 := Lib.hid o13; clear o13
  have B13 : Below w.heap.size w w13 := Below.trans B12 (b13.mono (by omega))
  have hz13 := B13.size
  have sz13 := b13.size
  have q1_13 := q1_12.other O13.out (by omega)
  clear q1_12
  have q2_13 := q2_12.other O13.out (by omega)
  clear q2_12
  clear q5_12
  have q8_13 := q8_12.other O13.out (by omega)
  clear q8_12
  have q10_13 := q10_12.other O13.out (by omega)
  clear q10_12
  clear b13
  go_wp2_with fail
  refine (eqIntS_n _ _ [] 0 _ _ rfl _ (Row.nil _ _ _) (Row.nil _ _ _) (by omega)).mono ?_
  rintro e w14 ⟨rfl, b14⟩
  have B14 : Below w.heap.size w w14 := Below.trans B13 (b14.mono hz13)
  have hz14 := B14.size
  have sz14 := b14.size
  have q1_14 := q1_13.kept b14
  clear q1_13
  have q2_14 := q2_13.kept b14
  clear q2_13
  have q8_14 := q8_13.kept b14
  clear q8_13
  have q10_14 := q10_13.kept b14
  clear q10_13
  clear b14
  go_wp2_with fail
  refine (markIntS_none _ _ _ _).mono ?_
  rintro e w15 ⟨rfl, rfl⟩
  go_wp2_with fail
  refine (heldIntS_none _ _ _ _).mono ?_
  rintro e w16 ⟨rfl, rfl⟩
  go_wp2_with fail
  refine (toIntS_any A xs c _ (hr.below (by assumption)) hl).mono ?_
  rintro e w17 ⟨rfl, q17, b17⟩
  have B17 : Below w.heap.size w w17 := Below.trans B14 (b17.mono hz14)
  have hz17 := B17.size
  have sz17 := b17.size
  have q1_17 := q1_14.kept b17
  clear q1_14
  have q2_17 := q2_14.kept b17
  clear q2_14
  have q8_17 := q8_14.kept b17
  clear q8_14
  have q10_17 := q10_14.kept b17
  clear q10_14
  clear b17
  have s17 := q17.lt
  go_wp2_with fail
  refine (toIntS_any B ys d _ (hq.below (by assumption)) hm).mono ?_
  rintro e w18 ⟨rfl, q18, b18⟩
  have B18 : Below w.heap.size w w18 := Below.trans B17 (b18.mono hz17)
  have hz18 := B18.size
  have sz18 := b18.size
  have q1_18 := q1_17.kept b18
  clear q1_17
  have q2_18 := q2_17.kept b18
  clear q2_17
  have q8_18 := q8_17.kept b18
  clear q8_17
  have q10_18 := q10_17.kept b18
  clear q10_17
  have q17_18 := q17.kept b18
  clear q17
  clear b18
  have s18 := q18.lt
  go_wp2_with fail
  refine (KI.out _ _ _ _ _ q17_18.row q18.row).mono ?_
  rintro e w19 ⟨rfl, b19⟩
  have B19 : Below w.heap.size w w19 := Below.trans B18 (b19.mono hz18)
  have hz19 := B19.size
  have sz19 := b19.size
  have q1_19 := q1_18.kept b19
  clear q1_18
  have q2_19 := q2_18.kept b19
  clear q2_18
  have q8_19 := q8_18.kept b19
  clear q8_18
  have q10_19 := q10_18.kept b19
  clear q10_18
  have q17_19 := q17_18.kept b19
  clear q17_18
  have q18_19 := q18.kept b19
  clear q18
  clear b19
  go_wp2_with fail
  refine (eqIntS_n _ _ [] 0 _ _ rfl _ (Row.nil _ _ _) (Row.nil _ _ _) (by omega)).mono ?_
  rintro e w20 ⟨rfl, b20⟩
  have B20 : Below w.heap.size w w20 := Below.trans B19 (b20.mono hz19)
  have hz20 := B20.size
  have sz20 := b20.size
  have q1_20 := q1_19.kept b20
  clear q1_19
  have q2_20 := q2_19.kept b20
  clear q2_19
  have q8_20 := q8_19.kept b20
  clear q8_19
  have q10_20 := q10_19.kept b20
  clear q10_19
  have q17_20 := q17_19.kept b20
  clear q17_19
  have q18_20 := q18_19.kept b20
  clear q18_19
  clear b20
  go_wp2_with fail
  refine (heldIntS_none _ _ _ _).mono ?_
  rintro e w21 ⟨rfl, rfl⟩
  go_wp2
  go_ret
  exact ⟨rfl, B20⟩

set_option maxHeartbeats 3200000 in
theorem walkSome_FnExactTakenOut (A : Option Addr) (xs : List Int) (c : Nat) (B : Option Addr) (ys : List Int) (d : Nat) (w : World) (hr : Row .i64 w A xs) (hl : xs.length ≤ 1048576) (hq : Row .i64 w B ys) (hm : ys.length ≤ 1048576) (f : Nat → Int)
    (S : ∀ A c B d W, Row .i64 W A xs → Row .i64 W B ys → Calls Try.prog 20 #[.slice A xs.length c, .slice B ys.length d] W  (GivesRow W f true)) (I : ∀ A c B d W, Row .i64 W A xs → Row .i64 W B ys → Calls Try.prog 21 #[.slice A xs.length c, .slice B ys.length d] W  (GivesPurse W (f 0) (f 1) (f 2) (f 3))) :
    Calls Try.prog 7 #[.slice A xs.length c, .slice B ys.length d] w fun e w' => e = .returned (.bool true) ∧ Below w.heap.size w w' := by
  obtain ⟨ls, hls⟩ : ∃ ls : List Int, ls = (List.range 4).map f := ⟨_, rfl⟩
  have h4 : ls.length = 4 := by rw [hls]; simp
  have H4 := Lib.hid h4
  have HP : Hid ((#[.int .i64 (f 0), .int .i64 (f 1), .int .i64 (f 2), .int .i64 (f 3)] : Array Value) = cellsOf ls) := by rw [hls]; rfl
  have HL := Lib.hid hls
  clear h4 hls
  have KS := Lib.hid S; clear S
  have KI := Lib.hid I; clear I
  go_enter Try.func7, Try.ntmps7
  go_wp2_with fail
  refine (toIntS_any A xs c _ hr hl).mono ?_
  rintro e w1 ⟨rfl, q1, b1⟩
  have B1 : Below w.heap.size w w1 := b1
  have hz1 := B1.size
  clear b1
  have s1 := q1.lt
  go_wp2_with fail
  refine (toIntS_any B ys d _ (hq.below (by assumption)) hm).mono ?_
  rintro e w2 ⟨rfl, q2, b2⟩
  have B2 : Below w.heap.size w w2 := Below.trans B1 (b2.mono hz1)
  have hz2 := B2.size
  have sz2 := b2.size
  have q1_2 := q1.kept b2
  clear q1
  clear b2
  have s2 := q2.lt
  go_wp2_with fail
  refine (KS.out _ _ _ _ _ q1_2.row q2.row).mono ?_
  rintro e w3 ⟨g3, cap3, rfl, r3, hg3, b3⟩
  have B3 : Below w.heap.size w w3 := Below.trans B2 (b3.mono hz2)
  have hz3 := B3.size
  have sz3 := b3.size
  have q1_3 := q1_2.kept b3
  clear q1_2
  have q2_3 := q2.kept b3
  clear q2
  clear b3
  rw [← HL.out] at r3
  have gl3 : g3 < w3.heap.size := r3.lt (by rw [H4.out]; omega)
  go_wp2_with fail
  refine (toIntS_any A xs c _ (hr.below (by assumption)) hl).mono ?_
  rintro e w4 ⟨rfl, q4, b4⟩
  have B4 : Below w.heap.size w w4 := Below.trans B3 (b4.mono hz3)
  have hz4 := B4.size
  have sz4 := b4.size
  have r3_4 := r3.below b4
  clear r3
  have q1_4 := q1_3.kept b4
  clear q1_3
  have q2_4 := q2_3.kept b4
  clear q2_3
  clear b4
  have s4 := q4.lt
  go_wp2_with fail
  refine (toIntS_any B ys d _ (hq.below (by assumption)) hm).mono ?_
  rintro e w5 ⟨rfl, q5, b5⟩
  have B5 : Below w.heap.size w w5 := Below.trans B4 (b5.mono hz4)
  have hz5 := B5.size
  have sz5 := b5.size
  have r3_5 := r3_4.below b5
  clear r3_4
  have q1_5 := q1_4.kept b5
  clear q1_4
  have q2_5 := q2_4.kept b5
  clear q2_4
  have q4_5 := q4.kept b5
  clear q4
  clear b5
  have s5 := q5.lt
  go_wp2_with fail
  refine (KI.out _ _ _ _ _ q4_5.row q5.row).mono ?_
  rintro e w6 ⟨g6, rfl, p6, hg6, b6⟩
  have B6 : Below w.heap.size w w6 := Below.trans B5 (b6.mono hz5)
  have hz6 := B6.size
  have sz6 := b6.size
  have r3_6 := r3_5.below b6
  clear r3_5
  have q1_6 := q1_5.kept b6
  clear q1_5
  have q2_6 := q2_5.kept b6
  clear q2_5
  have q4_6 := q4_5.kept b6
  clear q4_5
  have q5_6 := q5.kept b6
  clear q5
  clear b6
  rw [HP.out] at p6
  have gl6 := p6.lt
  go_wp2_with fail
  refine (eqIntS_n _ _ ls 4 _ _ H4.out _ p6.row r3_6 (by omega)).mono ?_
  rintro e w7 ⟨rfl, b7⟩
  have B7 : Below w.heap.size w w7 := Below.trans B6 (b7.mono hz6)
  have hz7 := B7.size
  have sz7 := b7.size
  have r3_7 := r3_6.below b7
  clear r3_6
  have q1_7 := q1_6.kept b7
  clear q1_6
  have q2_7 := q2_6.kept b7
  clear q2_6
  have q4_7 := q4_6.kept b7
  clear q4_6
  have q5_7 := q5_6.kept b7
  clear q5_6
  have p6_7 := p6.kept b7
  clear p6
  clear b7
  go_wp2_with fail
  refine (toIntS_any A xs c _ (hr.below (by assumption)) hl).mono ?_
  rintro e w8 ⟨rfl, q8, b8⟩
  have B8 : Below w.heap.size w w8 := Below.trans B7 (b8.mono hz7)
  have hz8 := B8.size
  have sz8 := b8.size
  have r3_8 := r3_7.below b8
  clear r3_7
  have q1_8 := q1_7.kept b8
  clear q1_7
  have q2_8 := q2_7.kept b8
  clear q2_7
  have q4_8 := q4_7.kept b8
  clear q4_7
  have q5_8 := q5_7.kept b8
  clear q5_7
  have p6_8 := p6_7.kept b8
  clear p6_7
  clear b8
  have s8 := q8.lt
  go_wp2_with fail
  refine (eqIntS_same _ _ xs _ _ _ q4_8.row q8.row hl).mono ?_
  rintro e w9 ⟨rfl, b9⟩
  have B9 : Below w.heap.size w w9 := Below.trans B8 (b9.mono hz8)
  have hz9 := B9.size
  have sz9 := b9.size
  have r3_9 := r3_8.below b9
  clear r3_8
  have q1_9 := q1_8.kept b9
  clear q1_8
  have q2_9 := q2_8.kept b9
  clear q2_8
  have q4_9 := q4_8.kept b9
  clear q4_8
  have q5_9 := q5_8.kept b9
  clear q5_8
  have p6_9 := p6_8.kept b9
  clear p6_8
  have q8_9 := q8.kept b9
  clear q8
  clear b9
  go_wp2_with fail
  refine (toIntS_any B ys d _ (hq.below (by assumption)) hm).mono ?_
  rintro e w10 ⟨rfl, q10, b10⟩
  have B10 : Below w.heap.size w w10 := Below.trans B9 (b10.mono hz9)
  have hz10 := B10.size
  have sz10 := b10.size
  have r3_10 := r3_9.below b10
  clear r3_9
  have q1_10 := q1_9.kept b10
  clear q1_9
  have q2_10 := q2_9.kept b10
  clear q2_9
  have q4_10 := q4_9.kept b10
  clear q4_9
  have q5_10 := q5_9.kept b10
  clear q5_9
  have p6_10 := p6_9.kept b10
  clear p6_9
  have q8_10 := q8_9.kept b10
  clear q8_9
  clear b10
  have s10 := q10.lt
  go_wp2_with fail
  refine (eqIntS_same _ _ ys _ _ _ q5_10.row q10.row hm).mono ?_
  rintro e w11 ⟨rfl, b11⟩
  have B11 : Below w.heap.size w w11 := Below.trans B10 (b11.mono hz10)
  have hz11 := B11.size
  have sz11 := b11.size
  have r3_11 := r3_10.below b11
  clear r3_10
  have q1_11 := q1_10.kept b11
  clear q1_10
  have q2_11 := q2_10.kept b11
  clear q2_10
  have q4_11 := q4_10.kept b11
  clear q4_10
  have q5_11 := q5_10.kept b11
  clear q5_10
  have p6_11 := p6_10.kept b11
  clear p6_10
  have q8_11 := q8_10.kept b11
  clear q8_10
  have q10_11 := q10.kept b11
  clear q10
  clear b11
  clear q1_11
  clear q2_11
  clear q8_11
  clear q10_11
  go_wp2_with fail
  refine (markIntS_any _ xs.length _ 1 _ _ _ q4_11 (cellsOf_size xs) hl (by omega) (by omega)).mono ?_
  rintro e w12 ⟨rfl, ⟨cs12, q12, m12⟩, b12, o12⟩
  have O12 := Lib.hid o12; clear o12
  have B12 : Below w.heap.size w w12 := Below.trans B11 (b12.mono (by omega))
  have hz12 := B12.size
  have sz12 := b12.size
  have r3_12 := r3_11.other O12.out (by omega)
  clear r3_11
  clear q4_11
  have q5_12 := q5_11.other O12.out (by omega)
  clear q5_11
  have p6_12 := p6_11.other O12.out (by omega)
  clear p6_11
  clear b12
  go_wp2_with fail
  refine (markIntS_any _ ys.length _ (1 + (xs.length : Int)) _ _ _ q5_12 (cellsOf_size ys) hm (by omega) (by omega)).mono ?_
  rintro e w13 ⟨rfl, ⟨cs13, q13, m13⟩, b13, o13⟩
  have O13 := Lib.hid o13; clear o13
  have B13 : Below w.heap.size w w13 := Below.trans B12 (b13.mono (by omega))
  have hz13 := B13.size
  have sz13 := b13.size
  have r3_13 := r3_12.other O13.out (by omega)
  clear r3_12
  clear q5_12
  have p6_13 := p6_12.other O13.out (by omega)
  clear p6_12
  clear b13
  go_wp2_with fail
  refine (eqIntS_n _ _ ls 4 _ _ H4.out _ p6_13.row r3_13 (by omega)).mono ?_
  rintro e w14 ⟨rfl, b14⟩
  have B14 : Below w.heap.size w w14 := Below.trans B13 (b14.mono hz13)
  have hz14 := B14.size
  have sz14 := b14.size
  have r3_14 := r3_13.below b14
  clear r3_13
  have p6_14 := p6_13.kept b14
  clear p6_13
  clear b14
  go_wp2_with fail
  refine (markIntS_any _ 4 _ 1 _ _ _ p6_14 ((cellsOf_size ls).trans H4.out) (by omega) (by omega) (by omega)).mono ?_
  rintro e w15 ⟨rfl, ⟨cs15, q15, m15⟩, b15, o15⟩
  have O15 := Lib.hid o15; clear o15
  have B15 : Below w.heap.size w w15 := Below.trans B14 (b15.mono (by omega))
  have hz15 := B15.size
  have sz15 := b15.size
  have r3_15 := r3_14.other O15.out (by omega)
  clear r3_14
  clear p6_14
  clear b15
  have t15 := m15.row q15
  clear q15
  go_wp2_with fail
  refine (heldIntS_n _ (marks 4) 4 _ (marks_length 4) _ t15 (by omega) (fun i hi => marks_get hi)).mono ?_
  rintro e w16 ⟨rfl, rfl⟩
  go_wp2_with fail
  refine (toIntS_any A xs c _ (hr.below (by assumption)) hl).mono ?_
  rintro e w17 ⟨rfl, q17, b17⟩
  have B17 : Below w.heap.size w w17 := Below.trans B15 (b17.mono hz15)
  have hz17 := B17.size
  have sz17 := b17.size
  have r3_17 := r3_15.below b17
  clear r3_15
  have t15_17 := t15.below b17
  clear t15
  clear b17
  have s17 := q17.lt
  go_wp2_with fail
  refine (toIntS_any B ys d _ (hq.below (by assumption)) hm).mono ?_
  rintro e w18 ⟨rfl, q18, b18⟩
  have B18 : Below w.heap.size w w18 := Below.trans B17 (b18.mono hz17)
  have hz18 := B18.size
  have sz18 := b18.size
  have r3_18 := r3_17.below b18
  clear r3_17
  have t15_18 := t15_17.below b18
  clear t15_17
  have q17_18 := q17.kept b18
  clear q17
  clear b18
  have s18 := q18.lt
  go_wp2_with fail
  refine (KI.out _ _ _ _ _ q17_18.row q18.row).mono ?_
  rintro e w19 ⟨g19, rfl, p19, hg19, b19⟩
  have B19 : Below w.heap.size w w19 := Below.trans B18 (b19.mono hz18)
  have hz19 := B19.size
  have sz19 := b19.size
  have r3_19 := r3_18.below b19
  clear r3_18
  have t15_19 := t15_18.below b19
  clear t15_18
  have q17_19 := q17_18.kept b19
  clear q17_18
  have q18_19 := q18.kept b19
  clear q18
  clear b19
  rw [HP.out] at p19
  go_wp2_with fail
  refine (eqIntS_n _ _ ls 4 _ _ H4.out _ p19.row r3_19 (by omega)).mono ?_
  rintro e w20 ⟨rfl, b20⟩
  have B20 : Below w.heap.size w w20 := Below.trans B19 (b20.mono hz19)
  have hz20 := B20.size
  have sz20 := b20.size
  have r3_20 := r3_19.below b20
  clear r3_19
  have t15_20 := t15_19.below b20
  clear t15_19
  have q17_20 := q17_19.kept b20
  clear q17_19
  have q18_20 := q18_19.kept b20
  clear q18_19
  have p19_20 := p19.kept b20
  clear p19
  clear b20
  go_wp2_with fail
  refine (heldIntS_n _ (marks 4) 4 _ (marks_length 4) _ t15_20 (by omega) (fun i hi => marks_get hi)).mono ?_
  rintro e w21 ⟨rfl, rfl⟩
  go_wp2
  go_ret
  exact ⟨rfl, B20⟩

theorem walk_FnExactTakenOut (A : Option Addr) (xs : List Int) (c : Nat) (B : Option Addr) (ys : List Int) (d : Nat) (w : World) (hr : Row .i64 w A xs) (_hl : xs.length ≤ c) (_hc : c ≤ maxLen) (_hwf : ∀ n ∈ xs, (Lit.int .i64 n).wf = true) (hq : Row .i64 w B ys) (_hl2 : ys.length ≤ d) (_hc2 : d ≤ maxLen) (_hwf2 : ∀ n ∈ ys, (Lit.int .i64 n).wf = true) :
    Calls Try.prog 7 #[.slice A xs.length c, .slice B ys.length d] w fun e w' => e = .returned (.bool true) ∧ Below w.heap.size w w' := by
  clear _hl _hc _hwf _hl2 _hc2 _hwf2
  by_cases hbig : 1048576 < xs.length
  · go_enter Try.func7, Try.ntmps7
    go_wp2
    go_ret
    exact ⟨rfl, Below.refl _ _⟩
  by_cases hbig2 : 1048576 < ys.length
  · have hl : xs.length ≤ 1048576 := by omega
    clear hbig
    go_enter Try.func7, Try.ntmps7
    go_wp2
    go_ret
    exact ⟨rfl, Below.refl _ _⟩
  have hl : xs.length ≤ 1048576 := by omega
  have hm : ys.length ≤ 1048576 := by omega
  clear hbig hbig2
  cases h : (okP xs && okP ys)
  · have hk : okQ ys xs = false := by rw [okQ, Bool.and_comm (okP ys), h, Bool.false_and]
    exact walkNone_FnExactTakenOut A xs c B ys d w hr hl hq hm (fun A c B d W h1 h2 => specTaken_none A B xs ys c d W h1 h2 hl hm hk) (fun A c B d W h1 h2 => implTaken_none A B xs ys c d W h1 h2 h)
  · have h' := h
    simp at h'
    obtain ⟨hx, hy⟩ := h'
    have hk : okQ ys xs = inQ (nth ys 0) (nth ys 1) (nth ys 2) (nth ys 3) (nth xs 0) (nth xs 1) (nth xs 2) (nth xs 3) := by rw [okQ, Bool.and_comm (okP ys), h, Bool.true_and]
    cases hs : okQ ys xs
    · exact walkNone_FnExactTakenOut A xs c B ys d w hr hl hq hm (fun A c B d W h1 h2 => specTaken_none A B xs ys c d W h1 h2 hl hm hs) (fun A c B d W h1 h2 => implTaken_out A B xs ys c d W h1 h2 h (by rw [← hk, hs]))
    · exact walkSome_FnExactTakenOut A xs c B ys d w hr hl hq hm (fun i => nth xs i - nth ys i) (fun A c B d W h1 h2 => specTaken_some A B xs ys c d W h1 h2 hx hy hs) (fun A c B d W h1 h2 => (implTaken_yes A B xs ys c d W h1 h2 h (by rw [← hk, hs])).mono fun _ _ p => p)

end Go.Proofs.Ytfmhmcedidghfaa

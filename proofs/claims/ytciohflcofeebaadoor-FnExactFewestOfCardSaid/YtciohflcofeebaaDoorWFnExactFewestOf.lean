/- The walk of the law FnExactFewestOf: it returns true for every slice of ints and every amount and writes into nothing that was there. -/
import Derived.Test.YtciohflcofeebaaDoorFind6
namespace Go.Proofs.YtciohflcofeebaaDoor
open Go.RowKit

set_option maxHeartbeats 1600000 in
theorem walkNone_FnExactFewestOf (A : Option Addr) (xs : List Int) (c : Nat) (n : Int) (w : World) (hr : Row .i64 w A xs) (hl : xs.length ≤ 1048576) (hT : Worths w)
    (S : ∀ A c W, Row .i64 W A xs → Worths W → Calls Tryd.prog 11 #[.slice A xs.length c, .int .i64 n] W  (GivesNone W)) (I : ∀ A c W, Row .i64 W A xs → Worths W → Calls Tryd.prog 10 #[.slice A xs.length c, .int .i64 n] W  fun e w' => e = .returned (.tuple #[.slice none 0 0, .bool false]) ∧ Below W.heap.size W w') :
    Calls Tryd.prog 7 #[.slice A xs.length c, .int .i64 n] w fun e w' => e = .returned (.bool true) ∧ Below w.heap.size w w' := by
  have h0 : 0 < w.heap.size := World.block_lt_of_cell? w _ hT.1
  have HT := Lib.hid hT; clear hT
  have KS := Lib.hid S; clear S
  have KI := Lib.hid I; clear I
  go_enter Tryd.func7, Tryd.ntmps7
  go_wp2_with fail
  refine (toIntS_any A xs c _ hr hl).mono ?_
  rintro e w1 ⟨rfl, q1, b1⟩
  have B1 : Below w.heap.size w w1 := b1
  have hz1 := B1.size
  clear b1
  have s1 := q1.lt
  go_wp2_with fail
  refine (KS.out _ _ _ q1.row (HT.out.below (B := w.heap.size) B1 h0)).mono ?_
  rintro e w2 ⟨g2, rfl, b2⟩
  have B2 : Below w.heap.size w w2 := Below.trans B1 (b2.mono hz1)
  have hz2 := B2.size
  have sz2 := b2.size
  have q1_2 := q1.kept b2
  clear q1
  clear b2
  go_wp2_with fail
  refine (toIntS_any A xs c _ (hr.below (by assumption)) hl).mono ?_
  rintro e w3 ⟨rfl, q3, b3⟩
  have B3 : Below w.heap.size w w3 := Below.trans B2 (b3.mono hz2)
  have hz3 := B3.size
  have sz3 := b3.size
  have q1_3 := q1_2.kept b3
  clear q1_2
  clear b3
  have s3 := q3.lt
  go_wp2_with fail
  refine (KI.out _ _ _ q3.row (HT.out.below (B := w.heap.size) B3 h0)).mono ?_
  rintro e w4 ⟨rfl, b4⟩
  have B4 : Below w.heap.size w w4 := Below.trans B3 (b4.mono hz3)
  have hz4 := B4.size
  have sz4 := b4.size
  have q1_4 := q1_3.kept b4
  clear q1_3
  have q3_4 := q3.kept b4
  clear q3
  clear b4
  go_wp2_with fail
  refine (eqIntS_n _ _ [] 0 _ _ rfl _ (Row.nil _ _ _) (Row.nil _ _ _) (by omega)).mono ?_
  rintro e w5 ⟨rfl, b5⟩
  have B5 : Below w.heap.size w w5 := Below.trans B4 (b5.mono hz4)
  have hz5 := B5.size
  have sz5 := b5.size
  have q1_5 := q1_4.kept b5
  clear q1_4
  have q3_5 := q3_4.kept b5
  clear q3_4
  clear b5
  go_wp2_with fail
  refine (toIntS_any A xs c _ (hr.below (by assumption)) hl).mono ?_
  rintro e w6 ⟨rfl, q6, b6⟩
  have B6 : Below w.heap.size w w6 := Below.trans B5 (b6.mono hz5)
  have hz6 := B6.size
  have sz6 := b6.size
  have q1_6 := q1_5.kept b6
  clear q1_5
  have q3_6 := q3_5.kept b6
  clear q3_5
  clear b6
  have s6 := q6.lt
  go_wp2_with fail
  refine (eqIntS_same _ _ xs _ _ _ q3_6.row q6.row hl).mono ?_
  rintro e w7 ⟨rfl, b7⟩
  have B7 : Below w.heap.size w w7 := Below.trans B6 (b7.mono hz6)
  have hz7 := B7.size
  have sz7 := b7.size
  have q1_7 := q1_6.kept b7
  clear q1_6
  have q3_7 := q3_6.kept b7
  clear q3_6
  have q6_7 := q6.kept b7
  clear q6
  clear b7
  go_wp2_with fail
  refine (markIntS_any _ xs.length _ 1 _ _ _ q3_7 (cellsOf_size xs) hl (by omega) (by omega)).mono ?_
  rintro e w8 ⟨rfl, ⟨cs8, q8, m8⟩, b8, o8⟩
  have O8 := Lib.hid o8; clear o8
  have B8 : Below w.heap.size w w8 := Below.trans B7 (b8.mono (by omega))
  have hz8 := B8.size
  have sz8 := b8.size
  have q1_8 := q1_7.other O8.out (by omega)
  clear q1_7
  clear q3_7
  have q6_8 := q6_7.other O8.out (by omega)
  clear q6_7
  clear b8
  go_wp2_with fail
  refine (eqIntS_n _ _ [] 0 _ _ rfl _ (Row.nil _ _ _) (Row.nil _ _ _) (by omega)).mono ?_
  rintro e w9 ⟨rfl, b9⟩
  have B9 : Below w.heap.size w w9 := Below.trans B8 (b9.mono hz8)
  have hz9 := B9.size
  have sz9 := b9.size
  have q1_9 := q1_8.kept b9
  clear q1_8
  have q6_9 := q6_8.kept b9
  clear q6_8
  clear b9
  go_wp2_with fail
  refine (markIntS_none _ _ _ _).mono ?_
  rintro e w10 ⟨rfl, rfl⟩
  go_wp2_with fail
  refine (heldIntS_none _ _ _ _).mono ?_
  rintro e w11 ⟨rfl, rfl⟩
  go_wp2_with fail
  refine (toIntS_any A xs c _ (hr.below (by assumption)) hl).mono ?_
  rintro e w12 ⟨rfl, q12, b12⟩
  have B12 : Below w.heap.size w w12 := Below.trans B9 (b12.mono hz9)
  have hz12 := B12.size
  have sz12 := b12.size
  have q1_12 := q1_9.kept b12
  clear q1_9
  have q6_12 := q6_9.kept b12
  clear q6_9
  clear b12
  have s12 := q12.lt
  go_wp2_with fail
  refine (KI.out _ _ _ q12.row (HT.out.below (B := w.heap.size) B12 h0)).mono ?_
  rintro e w13 ⟨rfl, b13⟩
  have B13 : Below w.heap.size w w13 := Below.trans B12 (b13.mono hz12)
  have hz13 := B13.size
  have sz13 := b13.size
  have q1_13 := q1_12.kept b13
  clear q1_12
  have q6_13 := q6_12.kept b13
  clear q6_12
  have q12_13 := q12.kept b13
  clear q12
  clear b13
  go_wp2_with fail
  refine (eqIntS_n _ _ [] 0 _ _ rfl _ (Row.nil _ _ _) (Row.nil _ _ _) (by omega)).mono ?_
  rintro e w14 ⟨rfl, b14⟩
  have B14 : Below w.heap.size w w14 := Below.trans B13 (b14.mono hz13)
  have hz14 := B14.size
  have sz14 := b14.size
  have q1_14 := q1_13.kept b14
  clear q1_13
  have q6_14 := q6_13.kept b14
  clear q6_13
  have q12_14 := q12_13.kept b14
  clear q12_13
  clear b14
  go_wp2_with fail
  refine (heldIntS_none _ _ _ _).mono ?_
  rintro e w15 ⟨rfl, rfl⟩
  go_wp2
  go_ret
  exact ⟨rfl, B14⟩

set_option maxHeartbeats 3200000 in
theorem walkSome_FnExactFewestOf (A : Option Addr) (xs : List Int) (c : Nat) (n : Int) (w : World) (hr : Row .i64 w A xs) (hl : xs.length ≤ 1048576) (hT : Worths w) (v : Q4)
    (S : ∀ A c W, Row .i64 W A xs → Worths W → Calls Tryd.prog 11 #[.slice A xs.length c, .int .i64 n] W  (GotRow W v)) (I : ∀ A c W, Row .i64 W A xs → Worths W → Calls Tryd.prog 10 #[.slice A xs.length c, .int .i64 n] W  (GotPurse W v)) :
    Calls Tryd.prog 7 #[.slice A xs.length c, .int .i64 n] w fun e w' => e = .returned (.bool true) ∧ Below w.heap.size w w' := by
  obtain ⟨ls, hls⟩ : ∃ ls : List Int, ls = li v := ⟨_, rfl⟩
  have h4 : ls.length = 4 := by rw [hls]; rfl
  have H4 := Lib.hid h4
  have HP : Hid (qc v = cellsOf ls) := by rw [hls]; rfl
  have HL := Lib.hid hls
  clear h4 hls
  have h0 : 0 < w.heap.size := World.block_lt_of_cell? w _ hT.1
  have HT := Lib.hid hT; clear hT
  have KS := Lib.hid S; clear S
  have KI := Lib.hid I; clear I
  go_enter Tryd.func7, Tryd.ntmps7
  go_wp2_with fail
  refine (toIntS_any A xs c _ hr hl).mono ?_
  rintro e w1 ⟨rfl, q1, b1⟩
  have B1 : Below w.heap.size w w1 := b1
  have hz1 := B1.size
  clear b1
  have s1 := q1.lt
  go_wp2_with fail
  refine (KS.out _ _ _ q1.row (HT.out.below (B := w.heap.size) B1 h0)).mono ?_
  rintro e w2 ⟨g2, cap2, rfl, r2, hg2, b2⟩
  have B2 : Below w.heap.size w w2 := Below.trans B1 (b2.mono hz1)
  have hz2 := B2.size
  have sz2 := b2.size
  have q1_2 := q1.kept b2
  clear q1
  clear b2
  rw [← HL.out] at r2
  have gl2 : g2 < w2.heap.size := r2.lt (by rw [H4.out]; omega)
  go_wp2_with fail
  refine (toIntS_any A xs c _ (hr.below (by assumption)) hl).mono ?_
  rintro e w3 ⟨rfl, q3, b3⟩
  have B3 : Below w.heap.size w w3 := Below.trans B2 (b3.mono hz2)
  have hz3 := B3.size
  have sz3 := b3.size
  have r2_3 := r2.below b3
  clear r2
  have q1_3 := q1_2.kept b3
  clear q1_2
  clear b3
  have s3 := q3.lt
  go_wp2_with fail
  refine (KI.out _ _ _ q3.row (HT.out.below (B := w.heap.size) B3 h0)).mono ?_
  rintro e w4 ⟨g4, rfl, p4, hg4, b4⟩
  have B4 : Below w.heap.size w w4 := Below.trans B3 (b4.mono hz3)
  have hz4 := B4.size
  have sz4 := b4.size
  have r2_4 := r2_3.below b4
  clear r2_3
  have q1_4 := q1_3.kept b4
  clear q1_3
  have q3_4 := q3.kept b4
  clear q3
  clear b4
  rw [HP.out] at p4
  have gl4 := p4.lt
  go_wp2_with fail
  refine (eqIntS_n _ _ ls 4 _ _ H4.out _ p4.row r2_4 (by omega)).mono ?_
  rintro e w5 ⟨rfl, b5⟩
  have B5 : Below w.heap.size w w5 := Below.trans B4 (b5.mono hz4)
  have hz5 := B5.size
  have sz5 := b5.size
  have r2_5 := r2_4.below b5
  clear r2_4
  have q1_5 := q1_4.kept b5
  clear q1_4
  have q3_5 := q3_4.kept b5
  clear q3_4
  have p4_5 := p4.kept b5
  clear p4
  clear b5
  go_wp2_with fail
  refine (toIntS_any A xs c _ (hr.below (by assumption)) hl).mono ?_
  rintro e w6 ⟨rfl, q6, b6⟩
  have B6 : Below w.heap.size w w6 := Below.trans B5 (b6.mono hz5)
  have hz6 := B6.size
  have sz6 := b6.size
  have r2_6 := r2_5.below b6
  clear r2_5
  have q1_6 := q1_5.kept b6
  clear q1_5
  have q3_6 := q3_5.kept b6
  clear q3_5
  have p4_6 := p4_5.kept b6
  clear p4_5
  clear b6
  have s6 := q6.lt
  go_wp2_with fail
  refine (eqIntS_same _ _ xs _ _ _ q3_6.row q6.row hl).mono ?_
  rintro e w7 ⟨rfl, b7⟩
  have B7 : Below w.heap.size w w7 := Below.trans B6 (b7.mono hz6)
  have hz7 := B7.size
  have sz7 := b7.size
  have r2_7 := r2_6.below b7
  clear r2_6
  have q1_7 := q1_6.kept b7
  clear q1_6
  have q3_7 := q3_6.kept b7
  clear q3_6
  have p4_7 := p4_6.kept b7
  clear p4_6
  have q6_7 := q6.kept b7
  clear q6
  clear b7
  clear q1_7
  clear q6_7
  go_wp2_with fail
  refine (markIntS_any _ xs.length _ 1 _ _ _ q3_7 (cellsOf_size xs) hl (by omega) (by omega)).mono ?_
  rintro e w8 ⟨rfl, ⟨cs8, q8, m8⟩, b8, o8⟩
  have O8 := Lib.hid o8; clear o8
  have B8 : Below w.heap.size w w8 := Below.trans B7 (b8.mono (by omega))
  have hz8 := B8.size
  have sz8 := b8.size
  have r2_8 := r2_7.other O8.out (by omega)
  clear r2_7
  clear q3_7
  have p4_8 := p4_7.other O8.out (by omega)
  clear p4_7
  clear b8
  go_wp2_with fail
  refine (eqIntS_n _ _ ls 4 _ _ H4.out _ p4_8.row r2_8 (by omega)).mono ?_
  rintro e w9 ⟨rfl, b9⟩
  have B9 : Below w.heap.size w w9 := Below.trans B8 (b9.mono hz8)
  have hz9 := B9.size
  have sz9 := b9.size
  have r2_9 := r2_8.below b9
  clear r2_8
  have p4_9 := p4_8.kept b9
  clear p4_8
  clear b9
  go_wp2_with fail
  refine (markIntS_any _ 4 _ 1 _ _ _ p4_9 ((cellsOf_size ls).trans H4.out) (by omega) (by omega) (by omega)).mono ?_
  rintro e w10 ⟨rfl, ⟨cs10, q10, m10⟩, b10, o10⟩
  have O10 := Lib.hid o10; clear o10
  have B10 : Below w.heap.size w w10 := Below.trans B9 (b10.mono (by omega))
  have hz10 := B10.size
  have sz10 := b10.size
  have r2_10 := r2_9.other O10.out (by omega)
  clear r2_9
  clear p4_9
  clear b10
  have t10 := m10.row q10
  clear q10
  go_wp2_with fail
  refine (heldIntS_n _ (marks 4) 4 _ (marks_length 4) _ t10 (by omega) (fun i hi => marks_get hi)).mono ?_
  rintro e w11 ⟨rfl, rfl⟩
  go_wp2_with fail
  refine (toIntS_any A xs c _ (hr.below (by assumption)) hl).mono ?_
  rintro e w12 ⟨rfl, q12, b12⟩
  have B12 : Below w.heap.size w w12 := Below.trans B10 (b12.mono hz10)
  have hz12 := B12.size
  have sz12 := b12.size
  have r2_12 := r2_10.below b12
  clear r2_10
  have t10_12 := t10.below b12
  clear t10
  clear b12
  have s12 := q12.lt
  go_wp2_with fail
  refine (KI.out _ _ _ q12.row (HT.out.below (B := w.heap.size) B12 h0)).mono ?_
  rintro e w13 ⟨g13, rfl, p13, hg13, b13⟩
  have B13 : Below w.heap.size w w13 := Below.trans B12 (b13.mono hz12)
  have hz13 := B13.size
  have sz13 := b13.size
  have r2_13 := r2_12.below b13
  clear r2_12
  have t10_13 := t10_12.below b13
  clear t10_12
  have q12_13 := q12.kept b13
  clear q12
  clear b13
  rw [HP.out] at p13
  go_wp2_with fail
  refine (eqIntS_n _ _ ls 4 _ _ H4.out _ p13.row r2_13 (by omega)).mono ?_
  rintro e w14 ⟨rfl, b14⟩
  have B14 : Below w.heap.size w w14 := Below.trans B13 (b14.mono hz13)
  have hz14 := B14.size
  have sz14 := b14.size
  have r2_14 := r2_13.below b14
  clear r2_13
  have t10_14 := t10_13.below b14
  clear t10_13
  have q12_14 := q12_13.kept b14
  clear q12_13
  have p13_14 := p13.kept b14
  clear p13
  clear b14
  go_wp2_with fail
  refine (heldIntS_n _ (marks 4) 4 _ (marks_length 4) _ t10_14 (by omega) (fun i hi => marks_get hi)).mono ?_
  rintro e w15 ⟨rfl, rfl⟩
  go_wp2
  go_ret
  exact ⟨rfl, B14⟩

theorem walk_FnExactFewestOf (A : Option Addr) (xs : List Int) (c : Nat) (n : Int) (w : World) (hr : Row .i64 w A xs) (_hl : xs.length ≤ c) (_hc : c ≤ maxLen) (_hwf : ∀ n ∈ xs, (Lit.int .i64 n).wf = true) (_hn : (Lit.int .i64 n).wf = true) (hT : Worths w) :
    Calls Tryd.prog 7 #[.slice A xs.length c, .int .i64 n] w fun e w' => e = .returned (.bool true) ∧ Below w.heap.size w w' := by
  by_cases hbig : 1048576 < xs.length
  · clear _hl _hc _hwf _hn
    go_enter Tryd.func7, Tryd.ntmps7
    go_wp2
    go_ret
    exact ⟨rfl, Below.refl _ _⟩
  have hl : xs.length ≤ 1048576 := by omega
  cases h : fewR xs n with
  | none => exact walkNone_FnExactFewestOf A xs c n w hr hl hT (fun A c W h1 _ => specFewestOf_none A xs c n W h1 hl h) (fun A c W h1 h2 => implFewestOf_none A xs c n W h1 h2 h)
  | some v => exact walkSome_FnExactFewestOf A xs c n w hr hl hT v (fun A c W h1 _ => specFewestOf_some A xs c n v W h1 hl h) (fun A c W h1 h2 => implFewestOf_some A xs c n v W h1 h2 h)

end Go.Proofs.YtciohflcofeebaaDoor

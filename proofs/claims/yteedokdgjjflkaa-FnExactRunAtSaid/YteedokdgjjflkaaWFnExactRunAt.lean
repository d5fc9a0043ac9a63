/- The walk of the law FnExactRunAt: it returns true for all its arguments and writes into nothing that was there. -/
import Derived.Test.YteedokdgjjflkaaHelpQm
import Derived.Test.YteedokdgjjflkaaRat
namespace Go.Proofs.Yteedokdgjjflkaa
open Go.RowKit

set_option maxHeartbeats 3200000 in
theorem walkNone_FnExactRunAt (A : Option Addr) (L : List Ac) (c : Nat) (n : Int) (number : Int) (ok : Bool) (w : World) (hr : ARow w A L) (_hl : L.length ≤ c) (_hc : c ≤ maxLen)
    (S : ∀ A W, ARow W A L → Calls Try.prog 10 #[.slice A L.length L.length, .int .i64 n, .int .i64 number] W fun e w' => (∃ B d, e = .returned (.tuple #[.slice B 0 d, .bool ok])) ∧ Below W.heap.size W w') (I : ∀ A W, ARow W A L → Calls Try.prog 11 #[.slice A L.length L.length, .int .i64 n, .int .i64 number] W fun e w' => (∃ B d, e = .returned (.tuple #[.slice B 0 d, .bool ok])) ∧ Below W.heap.size W w') :
    Calls Try.prog 4 #[.slice A L.length c, .int .i64 n, .int .i64 number] w fun e w' => e = .returned (.bool true) ∧ Below w.heap.size w w' := by
  have KS := Lib.hid S; clear S
  have KI := Lib.hid I; clear I
  by_cases hs : 1048576 < L.length
  · have KN := Lib.hid (fun W => szActS_no A L.length c 1048576 W (by omega) (by omega) (by omega) (by omega))
    clear hr KS KI
    generalize L.length = N at *
    go_enter Try.func4, Try.ntmps4
    go_wp2_with fail
    refine (KN.out _).mono ?_
    rintro e w1 ⟨rfl, hb⟩
    have B1 : Below w.heap.size w w1 := Below.trans belo (hb.mono belo)
    clear hb
    go_wp2
    go_ret
    exact ⟨rfl, belo⟩
  replace hs : L.length ≤ 1048576 := by omega
  have KZ := Lib.hid (fun W => szActS_yes A L.length c 1048576 W (by omega) (by omega))
  have KEQ := Lib.hid (fun A B c d W h1 h2 => eqActS_same A B L L.length c d rfl W h1 h2 hs)
  clear _hl _hc
  go_enter Try.func4, Try.ntmps4
  go_wp2_with fail
  refine (KZ.out _).mono ?_
  rintro e w1 ⟨rfl, b1⟩
  have s1 : Below w.heap.size w w1 := Below.trans belo (b1.mono belo)
  have B1 : Below w.heap.size w w1 := Below.trans (Below.refl w.heap.size w) (s1.mono (by omega))
  have hz1 : w.heap.size ≤ w1.heap.size := B1.size
  have sz1 : w.heap.size ≤ w1.heap.size := s1.size
  clear b1 s1
  go_wp2_with fail
  refine (toActS_any A L c _ (hr.below belo) hs).mono ?_
  rintro e w2 ⟨rfl, q2, b2⟩
  have s2 : Below w1.heap.size w1 w2 := Below.trans belo (b2.mono belo)
  have B2 : Below w.heap.size w w2 := Below.trans B1 (s2.mono (by omega))
  have hz2 : w.heap.size ≤ w2.heap.size := B2.size
  have sz2 : w1.heap.size ≤ w2.heap.size := s2.size
  clear b2 s2
  have l2 := q2.lt
  go_wp2_with fail
  refine (KS.out _ _ q2.row).mono ?_
  rintro e w3 ⟨⟨D3, d3, rfl⟩, b3⟩
  have s3 : Below w2.heap.size w2 w3 := Below.trans belo (b3.mono belo)
  have B3 : Below w.heap.size w w3 := Below.trans B2 (s3.mono (by omega))
  have hz3 : w.heap.size ≤ w3.heap.size := B3.size
  have sz3 : w2.heap.size ≤ w3.heap.size := s3.size
  have q2_3 := q2.kept s3
  clear q2
  clear b3 s3
  clear q2_3
  go_wp2_with fail
  refine (toActS_any A L c _ (hr.below belo) hs).mono ?_
  rintro e w4 ⟨rfl, q4, b4⟩
  have s4 : Below w3.heap.size w3 w4 := Below.trans belo (b4.mono belo)
  have B4 : Below w.heap.size w w4 := Below.trans B3 (s4.mono (by omega))
  have hz4 : w.heap.size ≤ w4.heap.size := B4.size
  have sz4 : w3.heap.size ≤ w4.heap.size := s4.size
  clear b4 s4
  have l4 := q4.lt
  go_wp2_with fail
  refine (KI.out _ _ q4.row).mono ?_
  rintro e w5 ⟨⟨D5, d5, rfl⟩, b5⟩
  have s5 : Below w4.heap.size w4 w5 := Below.trans belo (b5.mono belo)
  have B5 : Below w.heap.size w w5 := Below.trans B4 (s5.mono (by omega))
  have hz5 : w.heap.size ≤ w5.heap.size := B5.size
  have sz5 : w4.heap.size ≤ w5.heap.size := s5.size
  have q4_5 := q4.kept s5
  clear q4
  clear b5 s5
  go_wp2_with fail
  refine (eqActS_same _ _ [] 0 _ _ rfl _ (ARow.nil _ _) (ARow.nil _ _) (by omega)).mono ?_
  rintro e w6 ⟨rfl, b6⟩
  have s6 : Below w5.heap.size w5 w6 := Below.trans belo (b6.mono belo)
  have B6 : Below w.heap.size w w6 := Below.trans B5 (s6.mono (by omega))
  have hz6 : w.heap.size ≤ w6.heap.size := B6.size
  have sz6 : w5.heap.size ≤ w6.heap.size := s6.size
  have q4_6 := q4_5.kept s6
  clear q4_5
  clear b6 s6
  go_wp2_with fail
  refine (toActS_any A L c _ (hr.below belo) hs).mono ?_
  rintro e w7 ⟨rfl, q7, b7⟩
  have s7 : Below w6.heap.size w6 w7 := Below.trans belo (b7.mono belo)
  have B7 : Below w.heap.size w w7 := Below.trans B6 (s7.mono (by omega))
  have hz7 : w.heap.size ≤ w7.heap.size := B7.size
  have sz7 : w6.heap.size ≤ w7.heap.size := s7.size
  have q4_7 := q4_6.kept s7
  clear q4_6
  clear b7 s7
  have l7 := q7.lt
  go_wp2_with fail
  refine (KEQ.out _ _ _ _ _ q4_7.row q7.row).mono ?_
  rintro e w8 ⟨rfl, b8⟩
  have s8 : Below w7.heap.size w7 w8 := Below.trans belo (b8.mono belo)
  have B8 : Below w.heap.size w w8 := Below.trans B7 (s8.mono (by omega))
  have hz8 : w.heap.size ≤ w8.heap.size := B8.size
  have sz8 : w7.heap.size ≤ w8.heap.size := s8.size
  have q4_8 := q4_7.kept s8
  clear q4_7
  have q7_8 := q7.kept s8
  clear q7
  clear b8 s8
  clear q7_8
  go_wp2_with fail
  refine (markActS_any _ L.length _ 1 _ L _ q4_8 rfl hs (by omega) (by omega)).mono ?_
  rintro e w9 ⟨rfl, q9, s9, o9⟩
  have O9 := Lib.hid o9; clear o9
  have B9 : Below w.heap.size w w9 := Below.trans B8 (s9.mono (by omega))
  have hz9 : w.heap.size ≤ w9.heap.size := B9.size
  have sz9 : w8.heap.size ≤ w9.heap.size := s9.size
  clear q4_8
  clear s9
  clear q9
  go_wp2_with fail
  refine (eqActS_same _ _ [] 0 _ _ rfl _ (ARow.nil _ _) (ARow.nil _ _) (by omega)).mono ?_
  rintro e w10 ⟨rfl, b10⟩
  have s10 : Below w9.heap.size w9 w10 := Below.trans belo (b10.mono belo)
  have B10 : Below w.heap.size w w10 := Below.trans B9 (s10.mono (by omega))
  have hz10 : w.heap.size ≤ w10.heap.size := B10.size
  have sz10 : w9.heap.size ≤ w10.heap.size := s10.size
  clear b10 s10
  go_wp2_with fail
  refine (markActS_none _ _ _ _).mono ?_
  rintro e wq ⟨rfl, rfl⟩
  go_wp2_with fail
  refine (heldActS_none _ _ _ _).mono ?_
  rintro e wq ⟨rfl, rfl⟩
  go_wp2_with fail
  refine (toActS_any A L c _ (hr.below belo) hs).mono ?_
  rintro e w11 ⟨rfl, q11, b11⟩
  have s11 : Below w10.heap.size w10 w11 := Below.trans belo (b11.mono belo)
  have B11 : Below w.heap.size w w11 := Below.trans B10 (s11.mono (by omega))
  have hz11 : w.heap.size ≤ w11.heap.size := B11.size
  have sz11 : w10.heap.size ≤ w11.heap.size := s11.size
  clear b11 s11
  have l11 := q11.lt
  go_wp2_with fail
  refine (KI.out _ _ q11.row).mono ?_
  rintro e w12 ⟨⟨D12, d12, rfl⟩, b12⟩
  have s12 : Below w11.heap.size w11 w12 := Below.trans belo (b12.mono belo)
  have B12 : Below w.heap.size w w12 := Below.trans B11 (s12.mono (by omega))
  have hz12 : w.heap.size ≤ w12.heap.size := B12.size
  have sz12 : w11.heap.size ≤ w12.heap.size := s12.size
  have q11_12 := q11.kept s12
  clear q11
  clear b12 s12
  clear q11_12
  go_wp2_with fail
  refine (eqActS_same _ _ [] 0 _ _ rfl _ (ARow.nil _ _) (ARow.nil _ _) (by omega)).mono ?_
  rintro e w13 ⟨rfl, b13⟩
  have s13 : Below w12.heap.size w12 w13 := Below.trans belo (b13.mono belo)
  have B13 : Below w.heap.size w w13 := Below.trans B12 (s13.mono (by omega))
  have hz13 : w.heap.size ≤ w13.heap.size := B13.size
  have sz13 : w12.heap.size ≤ w13.heap.size := s13.size
  clear b13 s13
  go_wp2_with fail
  refine (heldActS_none _ _ _ _).mono ?_
  rintro e wq ⟨rfl, rfl⟩
  go_wp2
  go_ret
  exact ⟨rfl, belo⟩

set_option maxHeartbeats 3200000 in
theorem walkSome_FnExactRunAt (A : Option Addr) (L : List Ac) (c : Nat) (n : Int) (number : Int) (ok : Bool) (w : World) (hr : ARow w A L) (_hl : L.length ≤ c) (_hc : c ≤ maxLen) (M : List Ac) (N : Nat) (hM : M.length = N) (hN : N ≤ 1000)
    (S : ∀ A W, ARow W A L → Calls Try.prog 10 #[.slice A L.length L.length, .int .i64 n, .int .i64 number] W fun e w' => ∃ g cap, e = .returned (.tuple #[.slice (some ⟨g, 0, none⟩) N cap, .bool ok]) ∧ AAt w' g 34 M ∧ W.heap.size ≤ g ∧ Below W.heap.size W w') (I : ∀ A W, ARow W A L → Calls Try.prog 11 #[.slice A L.length L.length, .int .i64 n, .int .i64 number] W fun e w' => ∃ g cap, e = .returned (.tuple #[.slice (some ⟨g, 0, none⟩) N cap, .bool ok]) ∧ AAt w' g 34 M ∧ W.heap.size ≤ g ∧ Below W.heap.size W w') :
    Calls Try.prog 4 #[.slice A L.length c, .int .i64 n, .int .i64 number] w fun e w' => e = .returned (.bool true) ∧ Below w.heap.size w w' := by
  have KS := Lib.hid S; clear S
  have KI := Lib.hid I; clear I
  by_cases hs : 1048576 < L.length
  · have KN := Lib.hid (fun W => szActS_no A L.length c 1048576 W (by omega) (by omega) (by omega) (by omega))
    clear hr KS KI hM
    generalize L.length = N at *
    go_enter Try.func4, Try.ntmps4
    go_wp2_with fail
    refine (KN.out _).mono ?_
    rintro e w1 ⟨rfl, hb⟩
    have B1 : Below w.heap.size w w1 := Below.trans belo (hb.mono belo)
    clear hb
    go_wp2
    go_ret
    exact ⟨rfl, belo⟩
  replace hs : L.length ≤ 1048576 := by omega
  have KZ := Lib.hid (fun W => szActS_yes A L.length c 1048576 W (by omega) (by omega))
  have KEQ := Lib.hid (fun A B c d W h1 h2 => eqActS_same A B L L.length c d rfl W h1 h2 hs)
  have HX := Lib.hid hM; clear hM
  have hN0 : N ≤ 1048576 := by omega
  clear _hl _hc
  go_enter Try.func4, Try.ntmps4
  go_wp2_with fail
  refine (KZ.out _).mono ?_
  rintro e w1 ⟨rfl, b1⟩
  have s1 : Below w.heap.size w w1 := Below.trans belo (b1.mono belo)
  have B1 : Below w.heap.size w w1 := Below.trans (Below.refl w.heap.size w) (s1.mono (by omega))
  have hz1 : w.heap.size ≤ w1.heap.size := B1.size
  have sz1 : w.heap.size ≤ w1.heap.size := s1.size
  clear b1 s1
  go_wp2_with fail
  refine (toActS_any A L c _ (hr.below belo) hs).mono ?_
  rintro e w2 ⟨rfl, q2, b2⟩
  have s2 : Below w1.heap.size w1 w2 := Below.trans belo (b2.mono belo)
  have B2 : Below w.heap.size w w2 := Below.trans B1 (s2.mono (by omega))
  have hz2 : w.heap.size ≤ w2.heap.size := B2.size
  have sz2 : w1.heap.size ≤ w2.heap.size := s2.size
  clear b2 s2
  have l2 := q2.lt
  go_wp2_with fail
  refine (KS.out _ _ q2.row).mono ?_
  rintro e w3 ⟨g3, d3, rfl, p3, hg3, b3⟩
  have s3 : Below w2.heap.size w2 w3 := Below.trans belo (b3.mono belo)
  have B3 : Below w.heap.size w w3 := Below.trans B2 (s3.mono (by omega))
  have hz3 : w.heap.size ≤ w3.heap.size := B3.size
  have sz3 : w2.heap.size ≤ w3.heap.size := s3.size
  have q2_3 := q2.kept s3
  clear q2
  clear b3 s3
  clear q2_3
  have l3 := p3.lt
  go_wp2_with fail
  refine (toActS_any A L c _ (hr.below belo) hs).mono ?_
  rintro e w4 ⟨rfl, q4, b4⟩
  have s4 : Below w3.heap.size w3 w4 := Below.trans belo (b4.mono belo)
  have B4 : Below w.heap.size w w4 := Below.trans B3 (s4.mono (by omega))
  have hz4 : w.heap.size ≤ w4.heap.size := B4.size
  have sz4 : w3.heap.size ≤ w4.heap.size := s4.size
  have p3_4 := p3.kept s4
  clear p3
  clear b4 s4
  have l4 := q4.lt
  go_wp2_with fail
  refine (KI.out _ _ q4.row).mono ?_
  rintro e w5 ⟨g5, d5, rfl, p5, hg5, b5⟩
  have s5 : Below w4.heap.size w4 w5 := Below.trans belo (b5.mono belo)
  have B5 : Below w.heap.size w w5 := Below.trans B4 (s5.mono (by omega))
  have hz5 : w.heap.size ≤ w5.heap.size := B5.size
  have sz5 : w4.heap.size ≤ w5.heap.size := s5.size
  have p3_5 := p3_4.kept s5
  clear p3_4
  have q4_5 := q4.kept s5
  clear q4
  clear b5 s5
  have l5 := p5.lt
  go_wp2_with fail
  refine (eqActS_same _ _ M N _ _ HX.out _ p5.row p3_5.row hN0).mono ?_
  rintro e w6 ⟨rfl, b6⟩
  have s6 : Below w5.heap.size w5 w6 := Below.trans belo (b6.mono belo)
  have B6 : Below w.heap.size w w6 := Below.trans B5 (s6.mono (by omega))
  have hz6 : w.heap.size ≤ w6.heap.size := B6.size
  have sz6 : w5.heap.size ≤ w6.heap.size := s6.size
  have p3_6 := p3_5.kept s6
  clear p3_5
  have q4_6 := q4_5.kept s6
  clear q4_5
  have p5_6 := p5.kept s6
  clear p5
  clear b6 s6
  go_wp2_with fail
  refine (toActS_any A L c _ (hr.below belo) hs).mono ?_
  rintro e w7 ⟨rfl, q7, b7⟩
  have s7 : Below w6.heap.size w6 w7 := Below.trans belo (b7.mono belo)
  have B7 : Below w.heap.size w w7 := Below.trans B6 (s7.mono (by omega))
  have hz7 : w.heap.size ≤ w7.heap.size := B7.size
  have sz7 : w6.heap.size ≤ w7.heap.size := s7.size
  have p3_7 := p3_6.kept s7
  clear p3_6
  have q4_7 := q4_6.kept s7
  clear q4_6
  have p5_7 := p5_6.kept s7
  clear p5_6
  clear b7 s7
  have l7 := q7.lt
  go_wp2_with fail
  refine (KEQ.out _ _ _ _ _ q4_7.row q7.row).mono ?_
  rintro e w8 ⟨rfl, b8⟩
  have s8 : Below w7.heap.size w7 w8 := Below.trans belo (b8.mono belo)
  have B8 : Below w.heap.size w w8 := Below.trans B7 (s8.mono (by omega))
  have hz8 : w.heap.size ≤ w8.heap.size := B8.size
  have sz8 : w7.heap.size ≤ w8.heap.size := s8.size
  have p3_8 := p3_7.kept s8
  clear p3_7
  have q4_8 := q4_7.kept s8
  clear q4_7
  have p5_8 := p5_7.kept s8
  clear p5_7
  have q7_8 := q7.kept s8
  clear q7
  clear b8 s8
  clear q7_8
  go_wp2_with fail
  refine (markActS_any _ L.length _ 1 _ L _ q4_8 rfl hs (by omega) (by omega)).mono ?_
  rintro e w9 ⟨rfl, q9, s9, o9⟩
  have O9 := Lib.hid o9; clear o9
  have B9 : Below w.heap.size w w9 := Below.trans B8 (s9.mono (by omega))
  have hz9 : w.heap.size ≤ w9.heap.size := B9.size
  have sz9 : w8.heap.size ≤ w9.heap.size := s9.size
  have p3_9 := p3_8.other O9.out (by omega)
  clear p3_8
  clear q4_8
  have p5_9 := p5_8.other O9.out (by omega)
  clear p5_8
  clear s9
  clear q9
  go_wp2_with fail
  refine (eqActS_same _ _ M N _ _ HX.out _ p5_9.row p3_9.row hN0).mono ?_
  rintro e w10 ⟨rfl, b10⟩
  have s10 : Below w9.heap.size w9 w10 := Below.trans belo (b10.mono belo)
  have B10 : Below w.heap.size w w10 := Below.trans B9 (s10.mono (by omega))
  have hz10 : w.heap.size ≤ w10.heap.size := B10.size
  have sz10 : w9.heap.size ≤ w10.heap.size := s10.size
  have p3_10 := p3_9.kept s10
  clear p3_9
  have p5_10 := p5_9.kept s10
  clear p5_9
  clear b10 s10
  go_wp2_with fail
  refine (markActS_any _ N _ 1 _ M _ p5_10 HX.out hN0 (by omega) (by omega)).mono ?_
  rintro e w11 ⟨rfl, q11, s11, o11⟩
  have O11 := Lib.hid o11; clear o11
  have B11 : Below w.heap.size w w11 := Below.trans B10 (s11.mono (by omega))
  have hz11 : w.heap.size ≤ w11.heap.size := B11.size
  have sz11 : w10.heap.size ≤ w11.heap.size := s11.size
  have p3_11 := p3_10.other O11.out (by omega)
  clear p3_10
  clear p5_10
  clear s11
  go_wp2_with fail
  refine (heldActS_from _ (mkA 1 N) N _ (mkA_length _ _) 1 _ q11.row hN0 (by omega) (by omega) (fun i hi => mkA_get hi)).mono ?_
  rintro e wq ⟨rfl, rfl⟩
  go_wp2_with fail
  refine (toActS_any A L c _ (hr.below belo) hs).mono ?_
  rintro e w12 ⟨rfl, q12, b12⟩
  have s12 : Below w11.heap.size w11 w12 := Below.trans belo (b12.mono belo)
  have B12 : Below w.heap.size w w12 := Below.trans B11 (s12.mono (by omega))
  have hz12 : w.heap.size ≤ w12.heap.size := B12.size
  have sz12 : w11.heap.size ≤ w12.heap.size := s12.size
  have p3_12 := p3_11.kept s12
  clear p3_11
  have q11_12 := q11.kept s12
  clear q11
  clear b12 s12
  have l12 := q12.lt
  go_wp2_with fail
  refine (KI.out _ _ q12.row).mono ?_
  rintro e w13 ⟨g13, d13, rfl, p13, hg13, b13⟩
  have s13 : Below w12.heap.size w12 w13 := Below.trans belo (b13.mono belo)
  have B13 : Below w.heap.size w w13 := Below.trans B12 (s13.mono (by omega))
  have hz13 : w.heap.size ≤ w13.heap.size := B13.size
  have sz13 : w12.heap.size ≤ w13.heap.size := s13.size
  have p3_13 := p3_12.kept s13
  clear p3_12
  have q11_13 := q11_12.kept s13
  clear q11_12
  have q12_13 := q12.kept s13
  clear q12
  clear b13 s13
  clear q12_13
  have l13 := p13.lt
  go_wp2_with fail
  refine (eqActS_same _ _ M N _ _ HX.out _ p13.row p3_13.row hN0).mono ?_
  rintro e w14 ⟨rfl, b14⟩
  have s14 : Below w13.heap.size w13 w14 := Below.trans belo (b14.mono belo)
  have B14 : Below w.heap.size w w14 := Below.trans B13 (s14.mono (by omega))
  have hz14 : w.heap.size ≤ w14.heap.size := B14.size
  have sz14 : w13.heap.size ≤ w14.heap.size := s14.size
  have p3_14 := p3_13.kept s14
  clear p3_13
  have q11_14 := q11_13.kept s14
  clear q11_13
  have p13_14 := p13.kept s14
  clear p13
  clear b14 s14
  go_wp2_with fail
  refine (heldActS_from _ (mkA 1 N) N _ (mkA_length _ _) 1 _ q11_14.row hN0 (by omega) (by omega) (fun i hi => mkA_get hi)).mono ?_
  rintro e wq ⟨rfl, rfl⟩
  go_wp2
  go_ret
  exact ⟨rfl, belo⟩

theorem got_noneR {w : World} {e : Ending} {w' : World} {M : List Ac} {ok : Bool} (hM : M.length = 0) (p : GotRunA w M ok e w') : (∃ B d, e = .returned (.tuple #[.slice B 0 d, .bool ok])) ∧ Below w.heap.size w w' := by
  obtain ⟨v, h1, h2, h3⟩ := p
  obtain ⟨A, cap, rfl⟩ := h2.form
  rw [hM] at h1
  exact ⟨⟨A, cap, h1⟩, h3⟩
theorem got_someR {w : World} {e : Ending} {w' : World} {M : List Ac} {ok : Bool} (hM : 0 < M.length) (p : GotRunA w M ok e w') : ∃ g cap, e = .returned (.tuple #[.slice (some ⟨g, 0, none⟩) M.length cap, .bool ok]) ∧ AAt w' g 34 M ∧ w.heap.size ≤ g ∧ Below w.heap.size w w' := by
  obtain ⟨v, h1, h2, h3⟩ := p
  obtain ⟨g, cap, rfl, h4, h5⟩ := h2.aat hM
  exact ⟨g, cap, h1, h4, h5, h3⟩
theorem runAtR_len (L : List Ac) (n number : Int) : (runAtR L n number).length ≤ 4 := by
  unfold runAtR
  split
  · next h =>
    unfold runAtOk at h
    rw [Bool.and_eq_true, Bool.and_eq_true] at h
    have := of_decide_eq_true h.2.1
    rw [runL_length]
    omega
  · exact Nat.zero_le _
theorem int_max {n : Int} (h : (Lit.int .i64 n).wf = true) : n ≤ 9223372036854775807 := by
  have := h
  simp [Lit.wf, IntKind.min, IntKind.max, IntKind.signed, IntKind.bits] at this
  omega
theorem walk_FnExactRunAt (A : Option Addr) (L : List Ac) (c : Nat) (n : Int) (number : Int) (w : World) (hr : ARow w A L) (_hl : L.length ≤ c) (_hc : c ≤ maxLen) (_w1 : (Lit.int .i64 n).wf = true) (w2 : (Lit.int .i64 number).wf = true) :
    Calls Try.prog 4 #[.slice A L.length c, .int .i64 n, .int .i64 number] w fun e w' => e = .returned (.bool true) ∧ Below w.heap.size w w' := by
  have hm := int_max w2
  by_cases hs : 1048576 < L.length
  · have KN := Lib.hid (fun W => szActS_no A L.length c 1048576 W (by omega) (by omega) (by omega) (by omega))
    clear hr
    generalize L.length = N at *
    go_enter Try.func4, Try.ntmps4
    go_wp2_with fail
    refine (KN.out _).mono ?_
    rintro e w1 ⟨rfl, hb⟩
    have B1 : Below w.heap.size w w1 := Below.trans belo (hb.mono belo)
    clear hb
    go_wp2
    go_ret
    exact ⟨rfl, belo⟩
  have hlen := runAtR_len L n number
  by_cases h0 : (runAtR L n number).length = 0
  · exact walkNone_FnExactRunAt A L c n number (runAtOk L n number) w hr _hl _hc (fun A W h => (specRunAt_any A L L.length n number W h (by omega) hm).mono fun e w' p => got_noneR h0 p) (fun A W h => (implRunAt_any A L L.length n number W h (by omega) (Nat.le_refl _) (by unfold maxLen; omega) hm).mono fun e w' p => got_noneR h0 p)
  · exact walkSome_FnExactRunAt A L c n number (runAtOk L n number) w hr _hl _hc (runAtR L n number) _ rfl (by omega) (fun A W h => (specRunAt_any A L L.length n number W h (by omega) hm).mono fun e w' p => got_someR (by omega) p) (fun A W h => (implRunAt_any A L L.length n number W h (by omega) (Nat.le_refl _) (by unfold maxLen; omega) hm).mono fun e w' p => got_someR (by omega) p)

end Go.Proofs.Yteedokdgjjflkaa

/- The walk of the law FnExactPicksBy: it returns true for all its arguments and writes into nothing that was there. -/
import Derived.Test.YtpficldaokbdpaaDoorMarkM
import Derived.Test.YtpficldaokbdpaaDoorPks
namespace Go.Proofs.YtpficldaokbdpaaDoor
open Go.RowKit

set_option maxHeartbeats 6400000 in
theorem walkNone_FnExactPicksBy (ver : Int) (v : Value) (m : Mc) (w : World) (hrm : MRow w v m) (hT : Worths w) (hm : SmallM m)
    (S : ∀ v W, MRow W v m → Calls Tryd.prog 82 #[.int .i64 ver, v] W fun e w' => (∃ B d, e = .returned (.slice B 0 d)) ∧ Below W.heap.size W w') (I : ∀ v W, MRow W v m → Worths W → Calls Tryd.prog 81 #[.int .i64 ver, v] W fun e w' => (∃ B d, e = .returned (.slice B 0 d)) ∧ Below W.heap.size W w') :
    Calls Tryd.prog 17 #[.int .i64 ver, v] w fun e w' => e = .returned (.bool true) ∧ Below w.heap.size w w' := by
  have h0 : 0 < w.heap.size := World.block_lt_of_cell? w _ hT.1
  have HT := Lib.hid hT; clear hT
  have KS := Lib.hid S; clear S
  have KI := Lib.hid I; clear I
  have KEm := Lib.hid (fun v u W h1 h2 => eqMachine_same v u m W h1 h2 hm)
  have KT := Lib.hid (fun W h => toMachine_any v m W h hm)
  have KMm := Lib.hid (fun v lo hi W h h1 => markMachine_any v m lo hi 1 W h hm h1 (by omega) (by omega))
  have hu := totM_bnd hm
  generalize totM m = tom at *
  obtain ⟨hu0, hu1⟩ := hu
  have KZ : Hid (∀ W, MRow W v m → Calls Tryd.prog 55 #[v, .int .i64 1048576] W fun e w' => e = .returned (.int .i64 (1048576 - (m.own.length : Int) - (m.inn.length : Int) - (m.gs.length : Int))) ∧ Below W.heap.size W w') := Lib.hid (fun W h => szMachine_yes v m W h hm)
  have hk : 0 ≤ 1048576 - (m.own.length : Int) - (m.inn.length : Int) - (m.gs.length : Int) := by unfold SmallM at hm; omega
  generalize 1048576 - (m.own.length : Int) - (m.inn.length : Int) - (m.gs.length : Int) = lft at *
  have HR := Lib.hid hrm
  obtain ⟨P1, p1, P2, p2, P3, p3, rfl, _, _, _⟩ := hrm
  clear hm
  go_enter Tryd.func17, Tryd.ntmps17
  go_wp2_with fail
  refine (KZ.out _ (HR.out.below belo)).mono ?_
  rintro e w1 ⟨rfl, b1⟩
  have RA_1 := (Blk.new' (w := w) (cs := #[.slice P1 m.own.length p1, .slice P2 m.inn.length p2, .slice P3 m.gs.length p3]) (t := 73) (g := w.heap.size) (by simp)).kept b1
  have s1 : Below w.heap.size w w1 := Below.trans belo (b1.mono belo)
  have B1 : Below w.heap.size w w1 := Below.trans (Below.refl w.heap.size w) (s1.mono (by omega))
  have hz1 : w.heap.size ≤ w1.heap.size := B1.size
  have sz1 : w.heap.size ≤ w1.heap.size := s1.size
  clear b1 s1
  have lra := RA_1.lt
  have c_RA := fun i => (RA_1).cell i
  have n_RA := (RA_1).lt
  go_wp2_with fail
  refine (KT.out _ (HR.out.below belo)).mono ?_
  rintro e w2 ⟨v2, rfl, q2, b2⟩
  have s2 : Below w1.heap.size w1 w2 := Below.trans belo (b2.mono belo)
  have B2 : Below w.heap.size w w2 := Below.trans B1 (s2.mono (by omega))
  have hz2 : w.heap.size ≤ w2.heap.size := B2.size
  have sz2 : w1.heap.size ≤ w2.heap.size := s2.size
  clear c_RA n_RA
  have RA_2 := RA_1.kept s2
  clear RA_1
  clear b2 s2
  obtain ⟨X2, x2, Y2, y2, Z2, z2, hv, _⟩ := q2.row; subst hv
  go_wp2_with fail
  refine (KS.out _ _ q2.row).mono ?_
  rintro e w3 ⟨⟨D3, d3, rfl⟩, b3⟩
  have s3 : Below w2.heap.size w2 w3 := Below.trans belo (b3.mono belo)
  have B3 : Below w.heap.size w w3 := Below.trans B2 (s3.mono (by omega))
  have hz3 : w.heap.size ≤ w3.heap.size := B3.size
  have sz3 : w2.heap.size ≤ w3.heap.size := s3.size
  have RA_3 := RA_2.kept s3
  clear RA_2
  have q2_3 := q2.kept s3
  clear q2
  clear b3 s3
  clear q2_3
  have c_RA := fun i => (RA_3).cell i
  have n_RA := (RA_3).lt
  go_wp2_with fail
  refine (KT.out _ (HR.out.below belo)).mono ?_
  rintro e w4 ⟨v4, rfl, q4, b4⟩
  have s4 : Below w3.heap.size w3 w4 := Below.trans belo (b4.mono belo)
  have B4 : Below w.heap.size w w4 := Below.trans B3 (s4.mono (by omega))
  have hz4 : w.heap.size ≤ w4.heap.size := B4.size
  have sz4 : w3.heap.size ≤ w4.heap.size := s4.size
  clear c_RA n_RA
  have RA_4 := RA_3.kept s4
  clear RA_3
  clear b4 s4
  obtain ⟨X4, x4, Y4, y4, Z4, z4, hv, _⟩ := q4.row; subst hv
  go_wp2_with fail
  refine (KI.out _ _ (q4.row.below belo) (HT.out.below (B := w.heap.size) belo h0)).mono ?_
  rintro e w5 ⟨⟨D5, d5, rfl⟩, b5⟩
  have V0_5 := (Blk.new' (w := w4) (cs := #[.slice X4 m.own.length x4, .slice Y4 m.inn.length y4, .slice Z4 m.gs.length z4]) (t := 26) (g := w4.heap.size) (by simp)).kept b5
  have s5 : Below w4.heap.size w4 w5 := Below.trans belo (b5.mono belo)
  have B5 : Below w.heap.size w w5 := Below.trans B4 (s5.mono (by omega))
  have hz5 : w.heap.size ≤ w5.heap.size := B5.size
  have sz5 : w4.heap.size ≤ w5.heap.size := s5.size
  have RA_5 := RA_4.kept s5
  clear RA_4
  have q4_5 := q4.kept s5
  clear q4
  clear b5 s5
  go_wp2_with fail
  refine (eqIntS_n _ _ [] 0 _ _ rfl _ (Row.nil _ _ _) (Row.nil _ _ _) (by omega)).mono ?_
  rintro e w6 ⟨rfl, b6⟩
  have s6 : Below w5.heap.size w5 w6 := Below.trans belo (b6.mono belo)
  have B6 : Below w.heap.size w w6 := Below.trans B5 (s6.mono (by omega))
  have hz6 : w.heap.size ≤ w6.heap.size := B6.size
  have sz6 : w5.heap.size ≤ w6.heap.size := s6.size
  have RA_6 := RA_5.kept s6
  clear RA_5
  have q4_6 := q4_5.kept s6
  clear q4_5
  have V0_6 := V0_5.kept s6
  clear V0_5
  clear b6 s6
  have e1 := fun i => (V0_6).cell i
  have e2 := fun i => (RA_6).cell i
  have m1 := (V0_6).lt
  have m2 := (RA_6).lt
  have hqq := Lib.hid q4_6
  go_wp2_with fail
  go_region_held3 (fun w' => w'.cell? ⟨w4.heap.size, 0, none⟩ = some (.slice X4 m.own.length x4) ∧ w'.cell? ⟨w4.heap.size, 1, none⟩ = some (.slice Y4 m.inn.length y4) ∧ w'.cell? ⟨w4.heap.size, 2, none⟩ = some (.slice Z4 m.gs.length z4) ∧ w'.cell? ⟨w.heap.size, 0, none⟩ = some (.slice P1 m.own.length p1) ∧ w'.cell? ⟨w.heap.size, 1, none⟩ = some (.slice P2 m.inn.length p2) ∧ w'.cell? ⟨w.heap.size, 2, none⟩ = some (.slice P3 m.gs.length p3)) (go_keep)
    (first
      | (go_at_call 56; refine (KT.out _ (HR.out.below belo)).mono ?_; rintro e w7 ⟨v7, rfl, q7, b7⟩; have s7 : Below w6.heap.size w6 w7 := Below.trans belo (b7.mono belo); have B7 : Below w.heap.size w w7 := Below.trans B6 (s7.mono hz6); have sz7 := s7.size; have hz7 := B7.size; have m1 : w4.heap.size < w7.heap.size := (by omega); have m2 : w.heap.size < w7.heap.size := (by omega); obtain ⟨o7, f7⟩ := olds s7; have hq2 := Lib.hid q7; have hq3 := Lib.hid (hqq.out.kept s7); obtain ⟨X7, x7, Y7, y7, Z7, z7, hv, _⟩ := q7.row; subst hv; clear q7)
      | (go_at_call 58; refine (KEm.out _ _ _ hq3.out.row hq2.out.row).mono ?_; rintro e w8 ⟨rfl, b8⟩; have B8 : Below w.heap.size w w8 := Below.trans B7 (b8.mono hz7); have sz8 := b8.size; have hz8 := B8.size; have m1 : w4.heap.size < w8.heap.size := (by omega); have m2 : w.heap.size < w8.heap.size := (by omega); obtain ⟨o8, f8⟩ := olds b8))
  clear o7 f7 o8 f8
  have s8 : Below w6.heap.size w6 w8 := Below.trans s7 (b8.mono sz7)
  have sy8 := s8.size
  have RA_8 := RA_6.kept s8
  clear RA_6
  have q4_8 := q4_6.kept s8
  clear q4_6
  have V0_8 := V0_6.kept s8
  clear V0_6
  clear e1 e2 m1 m2 hqq hq2 hq3 s7 s8
  have c_V0 := fun i => (V0_8).cell i
  have n_V0 := (V0_8).lt
  go_wp2_with fail
  refine (KMm.out _ _ _ _ q4_8 (by omega)).mono ?_
  rintro e w9 ⟨rfl, q9, o9⟩
  have O9 := Lib.hid o9; have s9 := o9.1; clear o9
  have B9 : Below w.heap.size w w9 := Below.trans B8 (s9.mono (by omega))
  have hz9 : w.heap.size ≤ w9.heap.size := B9.size
  have sz9 : w8.heap.size ≤ w9.heap.size := s9.size
  clear c_V0 n_V0
  have RA_9 := RA_8.outs O9.out (by omega)
  clear RA_8
  clear q4_8
  have V0_9 := V0_8.outs O9.out (by omega)
  clear V0_8
  clear q9
  clear s9
  clear V0_9
  go_wp2_with fail
  refine (eqIntS_n _ _ [] 0 _ _ rfl _ (Row.nil _ _ _) (Row.nil _ _ _) (by omega)).mono ?_
  rintro e w10 ⟨rfl, b10⟩
  have s10 : Below w9.heap.size w9 w10 := Below.trans belo (b10.mono belo)
  have B10 : Below w.heap.size w w10 := Below.trans B9 (s10.mono (by omega))
  have hz10 : w.heap.size ≤ w10.heap.size := B10.size
  have sz10 : w9.heap.size ≤ w10.heap.size := s10.size
  have RA_10 := RA_9.kept s10
  clear RA_9
  clear b10 s10
  go_wp2_with fail
  refine (markIntS_none _ _ _ _).mono ?_
  rintro e wq ⟨rfl, rfl⟩
  go_wp2_with fail
  refine (heldIntS_none _ _ _ _).mono ?_
  rintro e wq ⟨rfl, rfl⟩
  have c_RA := fun i => (RA_10).cell i
  have n_RA := (RA_10).lt
  go_wp2_with fail
  refine (KT.out _ (HR.out.below belo)).mono ?_
  rintro e w11 ⟨v11, rfl, q11, b11⟩
  have s11 : Below w10.heap.size w10 w11 := Below.trans belo (b11.mono belo)
  have B11 : Below w.heap.size w w11 := Below.trans B10 (s11.mono (by omega))
  have hz11 : w.heap.size ≤ w11.heap.size := B11.size
  have sz11 : w10.heap.size ≤ w11.heap.size := s11.size
  clear c_RA n_RA
  have RA_11 := RA_10.kept s11
  clear RA_10
  clear b11 s11
  obtain ⟨X11, x11, Y11, y11, Z11, z11, hv, _⟩ := q11.row; subst hv
  go_wp2_with fail
  refine (KI.out _ _ q11.row (HT.out.below (B := w.heap.size) belo h0)).mono ?_
  rintro e w12 ⟨⟨D12, d12, rfl⟩, b12⟩
  have s12 : Below w11.heap.size w11 w12 := Below.trans belo (b12.mono belo)
  have B12 : Below w.heap.size w w12 := Below.trans B11 (s12.mono (by omega))
  have hz12 : w.heap.size ≤ w12.heap.size := B12.size
  have sz12 : w11.heap.size ≤ w12.heap.size := s12.size
  have RA_12 := RA_11.kept s12
  clear RA_11
  have q11_12 := q11.kept s12
  clear q11
  clear b12 s12
  clear q11_12
  clear RA_12
  go_wp2_with fail
  refine (eqIntS_n _ _ [] 0 _ _ rfl _ (Row.nil _ _ _) (Row.nil _ _ _) (by omega)).mono ?_
  rintro e w13 ⟨rfl, b13⟩
  have s13 : Below w12.heap.size w12 w13 := Below.trans belo (b13.mono belo)
  have B13 : Below w.heap.size w w13 := Below.trans B12 (s13.mono (by omega))
  have hz13 : w.heap.size ≤ w13.heap.size := B13.size
  have sz13 : w12.heap.size ≤ w13.heap.size := s13.size
  clear b13 s13
  go_wp2_with fail
  refine (heldIntS_none _ _ _ _).mono ?_
  rintro e wq ⟨rfl, rfl⟩
  go_wp2
  go_ret
  exact ⟨rfl, belo⟩

set_option maxHeartbeats 6400000 in
theorem walkSome_FnExactPicksBy (ver : Int) (v : Value) (m : Mc) (w : World) (hrm : MRow w v m) (hT : Worths w) (hm : SmallM m) (xs : List Int) (N : Nat) (hx : xs.length = N) (hN : N ≤ 1000)
    (S : ∀ v W, MRow W v m → Calls Tryd.prog 82 #[.int .i64 ver, v] W fun e w' => ∃ A cap, e = .returned (.slice A N cap) ∧ Row .i64 w' A xs ∧ Below W.heap.size W w') (I : ∀ v W, MRow W v m → Worths W → Calls Tryd.prog 81 #[.int .i64 ver, v] W fun e w' => ∃ g cap, e = .returned (.slice (some ⟨g, 0, none⟩) N cap) ∧ RowAt w' g 3 xs ∧ W.heap.size ≤ g ∧ Below W.heap.size W w') :
    Calls Tryd.prog 17 #[.int .i64 ver, v] w fun e w' => e = .returned (.bool true) ∧ Below w.heap.size w w' := by
  have h0 : 0 < w.heap.size := World.block_lt_of_cell? w _ hT.1
  have HT := Lib.hid hT; clear hT
  have KS := Lib.hid S; clear S
  have KI := Lib.hid I; clear I
  have KEm := Lib.hid (fun v u W h1 h2 => eqMachine_same v u m W h1 h2 hm)
  have KT := Lib.hid (fun W h => toMachine_any v m W h hm)
  have KMm := Lib.hid (fun v lo hi W h h1 => markMachine_any v m lo hi 1 W h hm h1 (by omega) (by omega))
  have hu := totM_bnd hm
  generalize totM m = tom at *
  obtain ⟨hu0, hu1⟩ := hu
  have KZ : Hid (∀ W, MRow W v m → Calls Tryd.prog 55 #[v, .int .i64 1048576] W fun e w' => e = .returned (.int .i64 (1048576 - (m.own.length : Int) - (m.inn.length : Int) - (m.gs.length : Int))) ∧ Below W.heap.size W w') := Lib.hid (fun W h => szMachine_yes v m W h hm)
  have hk : 0 ≤ 1048576 - (m.own.length : Int) - (m.inn.length : Int) - (m.gs.length : Int) := by unfold SmallM at hm; omega
  generalize 1048576 - (m.own.length : Int) - (m.inn.length : Int) - (m.gs.length : Int) = lft at *
  have HR := Lib.hid hrm
  obtain ⟨P1, p1, P2, p2, P3, p3, rfl, _, _, _⟩ := hrm
  clear hm
  have HX := Lib.hid hx; clear hx
  have hN0 : N ≤ 1048576 := by omega
  go_enter Tryd.func17, Tryd.ntmps17
  go_wp2_with fail
  refine (KZ.out _ (HR.out.below belo)).mono ?_
  rintro e w1 ⟨rfl, b1⟩
  have RA_1 := (Blk.new' (w := w) (cs := #[.slice P1 m.own.length p1, .slice P2 m.inn.length p2, .slice P3 m.gs.length p3]) (t := 73) (g := w.heap.size) (by simp)).kept b1
  have s1 : Below w.heap.size w w1 := Below.trans belo (b1.mono belo)
  have B1 : Below w.heap.size w w1 := Below.trans (Below.refl w.heap.size w) (s1.mono (by omega))
  have hz1 : w.heap.size ≤ w1.heap.size := B1.size
  have sz1 : w.heap.size ≤ w1.heap.size := s1.size
  clear b1 s1
  have lra := RA_1.lt
  have c_RA := fun i => (RA_1).cell i
  have n_RA := (RA_1).lt
  go_wp2_with fail
  refine (KT.out _ (HR.out.below belo)).mono ?_
  rintro e w2 ⟨v2, rfl, q2, b2⟩
  have s2 : Below w1.heap.size w1 w2 := Below.trans belo (b2.mono belo)
  have B2 : Below w.heap.size w w2 := Below.trans B1 (s2.mono (by omega))
  have hz2 : w.heap.size ≤ w2.heap.size := B2.size
  have sz2 : w1.heap.size ≤ w2.heap.size := s2.size
  clear c_RA n_RA
  have RA_2 := RA_1.kept s2
  clear RA_1
  clear b2 s2
  obtain ⟨X2, x2, Y2, y2, Z2, z2, hv, _⟩ := q2.row; subst hv
  go_wp2_with fail
  refine (KS.out _ _ q2.row).mono ?_
  rintro e w3 ⟨D3, d3, rfl, r3, b3⟩
  have s3 : Below w2.heap.size w2 w3 := Below.trans belo (b3.mono belo)
  have B3 : Below w.heap.size w w3 := Below.trans B2 (s3.mono (by omega))
  have hz3 : w.heap.size ≤ w3.heap.size := B3.size
  have sz3 : w2.heap.size ≤ w3.heap.size := s3.size
  have RA_3 := RA_2.kept s3
  clear RA_2
  have q2_3 := q2.kept s3
  clear q2
  clear b3 s3
  clear q2_3
  have hR := r3; clear r3
  have RW := Lib.hid hR; clear hR
  have c_RA := fun i => (RA_3).cell i
  have n_RA := (RA_3).lt
  go_wp2_with fail
  refine (KT.out _ (HR.out.below belo)).mono ?_
  rintro e w4 ⟨v4, rfl, q4, b4⟩
  have s4 : Below w3.heap.size w3 w4 := Below.trans belo (b4.mono belo)
  have B4 : Below w.heap.size w w4 := Below.trans B3 (s4.mono (by omega))
  have hz4 : w.heap.size ≤ w4.heap.size := B4.size
  have sz4 : w3.heap.size ≤ w4.heap.size := s4.size
  have D4 : Below w3.heap.size w3 w4 := Below.trans (Below.refl w3.heap.size w3) (s4.mono (by omega))
  clear c_RA n_RA
  have RA_4 := RA_3.kept s4
  clear RA_3
  clear b4 s4
  obtain ⟨X4, x4, Y4, y4, Z4, z4, hv, _⟩ := q4.row; subst hv
  go_wp2_with fail
  refine (KI.out _ _ (q4.row.below belo) (HT.out.below (B := w.heap.size) belo h0)).mono ?_
  rintro e w5 ⟨g5, d5, rfl, p5, hg5, b5⟩
  have V0_5 := (Blk.new' (w := w4) (cs := #[.slice X4 m.own.length x4, .slice Y4 m.inn.length y4, .slice Z4 m.gs.length z4]) (t := 26) (g := w4.heap.size) (by simp)).kept b5
  have s5 : Below w4.heap.size w4 w5 := Below.trans belo (b5.mono belo)
  have B5 : Below w.heap.size w w5 := Below.trans B4 (s5.mono (by omega))
  have hz5 : w.heap.size ≤ w5.heap.size := B5.size
  have sz5 : w4.heap.size ≤ w5.heap.size := s5.size
  have D5 : Below w3.heap.size w3 w5 := Below.trans D4 (s5.mono (by omega))
  clear D4
  have RA_5 := RA_4.kept s5
  clear RA_4
  have q4_5 := q4.kept s5
  clear q4
  clear b5 s5
  have l5 := p5.lt
  simp only [World.size_alloc] at hg5
  go_wp2_with fail
  refine (eqIntS_n _ _ xs N _ _ HX.out _ (p5.row.below (w' := _) belo) (RW.out.below (w' := _) belo) hN0).mono ?_
  rintro e w6 ⟨rfl, b6⟩
  have s6 : Below w5.heap.size w5 w6 := Below.trans belo (b6.mono belo)
  have B6 : Below w.heap.size w w6 := Below.trans B5 (s6.mono (by omega))
  have hz6 : w.heap.size ≤ w6.heap.size := B6.size
  have sz6 : w5.heap.size ≤ w6.heap.size := s6.size
  have D6 : Below w3.heap.size w3 w6 := Below.trans D5 (s6.mono (by omega))
  clear D5
  have RA_6 := RA_5.kept s6
  clear RA_5
  have q4_6 := q4_5.kept s6
  clear q4_5
  have V0_6 := V0_5.kept s6
  clear V0_5
  have p5_6 := p5.kept s6
  clear p5
  clear b6 s6
  have e1 := fun i => (V0_6).cell i
  have e2 := fun i => (RA_6).cell i
  have m1 := (V0_6).lt
  have m2 := (RA_6).lt
  have hqq := Lib.hid q4_6
  go_wp2_with fail
  go_region_held3 (fun w' => w'.cell? ⟨w4.heap.size, 0, none⟩ = some (.slice X4 m.own.length x4) ∧ w'.cell? ⟨w4.heap.size, 1, none⟩ = some (.slice Y4 m.inn.length y4) ∧ w'.cell? ⟨w4.heap.size, 2, none⟩ = some (.slice Z4 m.gs.length z4) ∧ w'.cell? ⟨w.heap.size, 0, none⟩ = some (.slice P1 m.own.length p1) ∧ w'.cell? ⟨w.heap.size, 1, none⟩ = some (.slice P2 m.inn.length p2) ∧ w'.cell? ⟨w.heap.size, 2, none⟩ = some (.slice P3 m.gs.length p3)) (go_keep)
    (first
      | (go_at_call 56; refine (KT.out _ (HR.out.below belo)).mono ?_; rintro e w7 ⟨v7, rfl, q7, b7⟩; have s7 : Below w6.heap.size w6 w7 := Below.trans belo (b7.mono belo); have B7 : Below w.heap.size w w7 := Below.trans B6 (s7.mono hz6); have sz7 := s7.size; have hz7 := B7.size; have m1 : w4.heap.size < w7.heap.size := (by omega); have m2 : w.heap.size < w7.heap.size := (by omega); obtain ⟨o7, f7⟩ := olds s7; have hq2 := Lib.hid q7; have hq3 := Lib.hid (hqq.out.kept s7); obtain ⟨X7, x7, Y7, y7, Z7, z7, hv, _⟩ := q7.row; subst hv; clear q7)
      | (go_at_call 58; refine (KEm.out _ _ _ hq3.out.row hq2.out.row).mono ?_; rintro e w8 ⟨rfl, b8⟩; have B8 : Below w.heap.size w w8 := Below.trans B7 (b8.mono hz7); have sz8 := b8.size; have hz8 := B8.size; have m1 : w4.heap.size < w8.heap.size := (by omega); have m2 : w.heap.size < w8.heap.size := (by omega); obtain ⟨o8, f8⟩ := olds b8))
  clear o7 f7 o8 f8
  have s8 : Below w6.heap.size w6 w8 := Below.trans s7 (b8.mono sz7)
  have D8 : Below w3.heap.size w3 w8 := Below.trans D6 (s8.mono (by omega))
  clear D6
  have sy8 := s8.size
  have RA_8 := RA_6.kept s8
  clear RA_6
  have q4_8 := q4_6.kept s8
  clear q4_6
  have V0_8 := V0_6.kept s8
  clear V0_6
  have p5_8 := p5_6.kept s8
  clear p5_6
  clear e1 e2 m1 m2 hqq hq2 hq3 s7 s8
  have c_V0 := fun i => (V0_8).cell i
  have n_V0 := (V0_8).lt
  go_wp2_with fail
  refine (KMm.out _ _ _ _ q4_8 (by omega)).mono ?_
  rintro e w9 ⟨rfl, q9, o9⟩
  have O9 := Lib.hid o9; have s9 := o9.1; clear o9
  have B9 : Below w.heap.size w w9 := Below.trans B8 (s9.mono (by omega))
  have hz9 : w.heap.size ≤ w9.heap.size := B9.size
  have sz9 : w8.heap.size ≤ w9.heap.size := s9.size
  have D9 : Below w3.heap.size w3 w9 := Below.trans D8 (s9.mono (by omega))
  clear D8
  clear c_V0 n_V0
  have RA_9 := RA_8.outs O9.out (by omega)
  clear RA_8
  clear q4_8
  have V0_9 := V0_8.outs O9.out (by omega)
  clear V0_8
  have p5_9 := p5_8.outs O9.out (by omega)
  clear p5_8
  clear q9
  clear s9
  clear V0_9
  go_wp2_with fail
  refine (eqIntS_n _ _ xs N _ _ HX.out _ (p5_9.row.below (w' := _) belo) (RW.out.below (w' := _) belo) hN0).mono ?_
  rintro e w10 ⟨rfl, b10⟩
  have s10 : Below w9.heap.size w9 w10 := Below.trans belo (b10.mono belo)
  have B10 : Below w.heap.size w w10 := Below.trans B9 (s10.mono (by omega))
  have hz10 : w.heap.size ≤ w10.heap.size := B10.size
  have sz10 : w9.heap.size ≤ w10.heap.size := s10.size
  have D10 : Below w3.heap.size w3 w10 := Below.trans D9 (s10.mono (by omega))
  clear D9
  have RA_10 := RA_9.kept s10
  clear RA_9
  have p5_10 := p5_9.kept s10
  clear p5_9
  clear b10 s10
  go_wp2_with fail
  refine (markI_at _ N _ _ xs 1 _ p5_10 HX.out hN0 (by omega) (by omega)).mono ?_
  rintro e w11 ⟨rfl, q11, s11, o11⟩
  have O11 := Lib.hid o11; clear o11
  have B11 : Below w.heap.size w w11 := Below.trans B10 (s11.mono (by omega))
  have hz11 : w.heap.size ≤ w11.heap.size := B11.size
  have sz11 : w10.heap.size ≤ w11.heap.size := s11.size
  have D11 : Below w3.heap.size w3 w11 := Below.trans D10 (s11.mono (by omega))
  clear D10
  have RA_11 := RA_10.other O11.out (by omega)
  clear RA_10
  clear p5_10
  clear s11
  go_wp2_with fail
  refine (heldI_from _ (mkI 1 N) N _ (mkI_length _ _) 1 _ q11.row hN0 (by omega) (by omega) (fun i hi => mkI_get hi)).mono ?_
  rintro e wq ⟨rfl, rfl⟩
  have c_RA := fun i => (RA_11).cell i
  have n_RA := (RA_11).lt
  go_wp2_with fail
  refine (KT.out _ (HR.out.below belo)).mono ?_
  rintro e w12 ⟨v12, rfl, q12, b12⟩
  have s12 : Below w11.heap.size w11 w12 := Below.trans belo (b12.mono belo)
  have B12 : Below w.heap.size w w12 := Below.trans B11 (s12.mono (by omega))
  have hz12 : w.heap.size ≤ w12.heap.size := B12.size
  have sz12 : w11.heap.size ≤ w12.heap.size := s12.size
  have D12 : Below w3.heap.size w3 w12 := Below.trans D11 (s12.mono (by omega))
  clear D11
  clear c_RA n_RA
  have RA_12 := RA_11.kept s12
  clear RA_11
  have t11_12 := q11.kept s12
  clear q11
  clear b12 s12
  obtain ⟨X12, x12, Y12, y12, Z12, z12, hv, _⟩ := q12.row; subst hv
  go_wp2_with fail
  refine (KI.out _ _ q12.row (HT.out.below (B := w.heap.size) belo h0)).mono ?_
  rintro e w13 ⟨g13, d13, rfl, p13, hg13, b13⟩
  have s13 : Below w12.heap.size w12 w13 := Below.trans belo (b13.mono belo)
  have B13 : Below w.heap.size w w13 := Below.trans B12 (s13.mono (by omega))
  have hz13 : w.heap.size ≤ w13.heap.size := B13.size
  have sz13 : w12.heap.size ≤ w13.heap.size := s13.size
  have D13 : Below w3.heap.size w3 w13 := Below.trans D12 (s13.mono (by omega))
  clear D12
  have RA_13 := RA_12.kept s13
  clear RA_12
  have t11_13 := t11_12.kept s13
  clear t11_12
  have q12_13 := q12.kept s13
  clear q12
  clear b13 s13
  have l13 := p13.lt
  clear q12_13
  clear RA_13
  go_wp2_with fail
  refine (eqIntS_n _ _ xs N _ _ HX.out _ (p13.row.below (w' := _) belo) (RW.out.below (w' := _) belo) hN0).mono ?_
  rintro e w14 ⟨rfl, b14⟩
  have s14 : Below w13.heap.size w13 w14 := Below.trans belo (b14.mono belo)
  have B14 : Below w.heap.size w w14 := Below.trans B13 (s14.mono (by omega))
  have hz14 : w.heap.size ≤ w14.heap.size := B14.size
  have sz14 : w13.heap.size ≤ w14.heap.size := s14.size
  have D14 : Below w3.heap.size w3 w14 := Below.trans D13 (s14.mono (by omega))
  clear D13
  have t11_14 := t11_13.kept s14
  clear t11_13
  have p13_14 := p13.kept s14
  clear p13
  clear b14 s14
  go_wp2_with fail
  refine (heldI_from _ (mkI 1 N) N _ (mkI_length _ _) 1 _ t11_14.row hN0 (by omega) (by omega) (fun i hi => mkI_get hi)).mono ?_
  rintro e wq ⟨rfl, rfl⟩
  go_wp2
  go_ret
  exact ⟨rfl, belo⟩

theorem canV_length (ver : Int) (m : Mc) : (canV ver m).length ≤ m.gs.length := by
  unfold canV
  split
  · exact canTB_length _ m _
  · exact Nat.zero_le _
theorem walk_FnExactPicksBy (ver : Int) (v : Value) (m : Mc) (w : World) (_hver : (Lit.int .i64 ver).wf = true) (hrm : MRow w v m) (l1 : m.own.length ≤ maxLen) (l2 : m.inn.length ≤ maxLen) (l3 : m.gs.length ≤ maxLen) (hT : Worths w) :
    Calls Tryd.prog 17 #[.int .i64 ver, v] w fun e w' => e = .returned (.bool true) ∧ Below w.heap.size w w' := by
  by_cases hm : ¬ SmallM m
  · have KN := Lib.hid (fun W h => szMachine_no v m W h l1 l2 l3 hm)
    have HR := Lib.hid hrm
    obtain ⟨P1, p1, P2, p2, P3, p3, rfl, _, _, _⟩ := hrm
    clear hm l1 l2 l3 hT
    go_enter Tryd.func17, Tryd.ntmps17
    go_wp2_with fail
    refine (KN.out _ (HR.out.below belo)).mono ?_
    rintro e w1 ⟨rfl, hb⟩
    have B1 : Below w.heap.size w w1 := Below.trans belo (hb.mono belo)
    clear hb
    go_wp2
    go_ret
    exact ⟨rfl, belo⟩
  replace hm : SmallM m := Classical.not_not.1 hm
  have hsm : SmM m := by unfold SmallM at hm; unfold SmM; omega
  by_cases h0 : (canV ver m).length = 0
  · exact walkNone_FnExactPicksBy ver v m w hrm hT hm (fun v W h => (specPicksBy_any ver v m W h hsm).mono fun e w' ⟨A, cap, h1, h2, h3⟩ => ⟨⟨A, cap, by rw [h1, h0]⟩, h3⟩) (fun v W h hT => (implPicksBy_any ver v m W h hT).mono fun e w' ⟨A, cap, h1, h2, h3⟩ => ⟨⟨A, cap, by rw [h1, h0]⟩, h3⟩)
  · have hN : (canV ver m).length ≤ 1000 := by
      cases hk : okM m
      · have e : canV ver m = [] := by unfold canV; rw [if_neg (by simp [hk])]
        rw [e]; exact Nat.zero_le _
      · have := canV_length ver m
        have := (okS_iff.1 (okM_iff.1 hk).2.2).1
        omega
    exact walkSome_FnExactPicksBy ver v m w hrm hT hm (canV ver m) _ rfl hN (fun v W h => (specPicksBy_any ver v m W h hsm).mono fun e w' ⟨A, cap, h1, h2, h3⟩ => ⟨A, cap, h1, h2, h3⟩) (fun v W h hT => (implPicksBy_any ver v m W h hT).mono fun e w' ⟨A, cap, h1, h2, h3⟩ => by
      have h4 : OwnN w' W.heap.size (.slice A (canV ver m).length cap) (canV ver m) := h2
      obtain ⟨g, cap2, e2, k1, k2⟩ := h4.rowAt (by omega)
      injection e2 with e2 _ e3
      subst e2; subst e3
      exact ⟨g, cap, h1, k1, k2, h3⟩)

end Go.Proofs.YtpficldaokbdpaaDoor

/- The walk of the law FnExactBasketsFor: it returns true for all its arguments and writes into nothing that was there. -/
import Derived.Test.YtemhikgdbmmnjaaHelpS
import Derived.Test.YtemhikgdbmmnjaaSbk
namespace Go.Proofs.Ytemhikgdbmmnjaa
open Go.RowKit

/-- Rows handed back in memory of their own. -/
def GotRowsC (T : TypeId) (w : World) (r : Nat) (L : List (List Int)) (e : Ending) (w' : World) : Prop :=
  ∃ A cap m, e = .returned (.slice A L.length cap) ∧ RowsC w' w.heap.size w.heap.size (.slice A L.length cap) T r L m ∧ m ≤ w'.heap.size ∧ Below w.heap.size w w'

set_option maxHeartbeats 3200000 in
theorem walkNone_FnExactBasketsFor (A : Option Addr) (gs : List Gd) (c : Nat) (n : Int) (w : World) (hr : GRow w A gs) (hl : gs.length ≤ 1048576)
    (S : ∀ A c W, GRow W A gs → Calls Try.prog 19 #[.slice A gs.length c, .int .i64 n] W  fun e w' => (∃ A' cap, e = .returned (.slice A' 0 cap)) ∧ Below W.heap.size W w') (I : ∀ A c W, GRow W A gs → Calls Try.prog 20 #[.slice A gs.length c, .int .i64 n] W  fun e w' => e = .returned (.slice none 0 0) ∧ Below W.heap.size W w') :
    Calls Try.prog 5 #[.slice A gs.length c, .int .i64 n] w fun e w' => e = .returned (.bool true) ∧ Below w.heap.size w w' := by
  have KS := Lib.hid S; clear S
  have KI := Lib.hid I; clear I
  go_enter Try.func5, Try.ntmps5
  go_wp2_with fail
  refine (szGoodS_yes A gs.length c _ hl).mono ?_
  rintro e w0 ⟨rfl, rfl⟩
  go_wp2_with fail
  refine (toGoodS_any A gs c _ hr hl).mono ?_
  rintro e w1 ⟨rfl, q1, b1⟩
  have B1 : Below w.heap.size w w1 := b1
  have hz1 := B1.size
  clear b1
  have s1 := q1.lt
  go_wp2_with fail
  refine (KS.out _ _ _ q1.row).mono ?_
  rintro e w2 ⟨⟨g2, cap2, rfl⟩, b2⟩
  have B2 : Below w.heap.size w w2 := Below.trans B1 (b2.mono hz1)
  have hz2 := B2.size
  have sz2 := b2.size
  have q1_2 := q1.kept b2
  clear q1
  clear b2
  go_wp2_with fail
  refine (toGoodS_any A gs c _ (hr.below (by assumption)) hl).mono ?_
  rintro e w3 ⟨rfl, q3, b3⟩
  have B3 : Below w.heap.size w w3 := Below.trans B2 (b3.mono hz2)
  have hz3 := B3.size
  have sz3 := b3.size
  have q1_3 := q1_2.kept b3
  clear q1_2
  clear b3
  have s3 := q3.lt
  go_wp2_with fail
  refine (KI.out _ _ _ q3.row).mono ?_
  rintro e w4 ⟨rfl, b4⟩
  have B4 : Below w.heap.size w w4 := Below.trans B3 (b4.mono hz3)
  have hz4 := B4.size
  have sz4 := b4.size
  have q1_4 := q1_3.kept b4
  clear q1_3
  have q3_4 := q3.kept b4
  clear q3
  clear b4
  go_wp2_with fail
  refine (eqIntSS_none _ _ _ _ _).mono ?_
  rintro e w5 ⟨rfl, b5⟩
  have B5 : Below w.heap.size w w5 := Below.trans B4 (b5.mono hz4)
  have hz5 := B5.size
  have sz5 := b5.size
  have q1_5 := q1_4.kept b5
  clear q1_4
  have q3_5 := q3_4.kept b5
  clear q3_4
  clear b5
  go_wp2_with fail
  refine (toGoodS_any A gs c _ (hr.below (by assumption)) hl).mono ?_
  rintro e w6 ⟨rfl, q6, b6⟩
  have B6 : Below w.heap.size w w6 := Below.trans B5 (b6.mono hz5)
  have hz6 := B6.size
  have sz6 := b6.size
  have q1_6 := q1_5.kept b6
  clear q1_5
  have q3_6 := q3_5.kept b6
  clear q3_5
  clear b6
  have s6 := q6.lt
  go_wp2_with fail
  refine (eqGoodS_same _ _ gs gs.length _ _ rfl _ q3_6.row q6.row hl).mono ?_
  rintro e w7 ⟨rfl, b7⟩
  have B7 : Below w.heap.size w w7 := Below.trans B6 (b7.mono hz6)
  have hz7 := B7.size
  have sz7 := b7.size
  have q1_7 := q1_6.kept b7
  clear q1_6
  have q3_7 := q3_6.kept b7
  clear q3_6
  have q6_7 := q6.kept b7
  clear q6
  clear b7
  obtain ⟨csA, hA, hAs⟩ := q3_7
  go_wp2_with fail
  refine (markGoodS_any _ gs.length _ 1 _ _ _ hA (by omega) hl (by omega) (by omega)).mono ?_
  rintro e w8 ⟨rfl, ⟨cs8, q8, m8⟩, b8, o8⟩
  have O8 := Lib.hid o8; clear o8
  have B8 : Below w.heap.size w w8 := Below.trans B7 (b8.mono (by omega))
  have hz8 := B8.size
  have sz8 := b8.size
  clear q1_7
  clear q6_7
  clear b8 hA
  have kz : ¬ (1 + 2 * (gs.length : Int) < 0) := by omega
  go_wp2_with fail
  refine (eqIntSS_none _ _ _ _ _).mono ?_
  rintro e w9 ⟨rfl, b9⟩
  have B9 : Below w.heap.size w w9 := Below.trans B8 (b9.mono hz8)
  have hz9 := B9.size
  have sz9 := b9.size
  clear b9
  go_wp2_with fail
  refine (markIntSS_none _ _ _ _).mono ?_
  rintro e w10 ⟨rfl, rfl⟩
  go_wp2_with fail
  refine (heldIntSS_none _ _ _ _).mono ?_
  rintro e w11 ⟨rfl, rfl⟩
  go_wp2_with fail
  refine (toGoodS_any A gs c _ (hr.below (by assumption)) hl).mono ?_
  rintro e w12 ⟨rfl, q12, b12⟩
  have B12 : Below w.heap.size w w12 := Below.trans B9 (b12.mono hz9)
  have hz12 := B12.size
  have sz12 := b12.size
  clear b12
  have s12 := q12.lt
  go_wp2_with fail
  refine (KI.out _ _ _ q12.row).mono ?_
  rintro e w13 ⟨rfl, b13⟩
  have B13 : Below w.heap.size w w13 := Below.trans B12 (b13.mono hz12)
  have hz13 := B13.size
  have sz13 := b13.size
  have q12_13 := q12.kept b13
  clear q12
  clear b13
  go_wp2_with fail
  refine (eqIntSS_none _ _ _ _ _).mono ?_
  rintro e w14 ⟨rfl, b14⟩
  have B14 : Below w.heap.size w w14 := Below.trans B13 (b14.mono hz13)
  have hz14 := B14.size
  have sz14 := b14.size
  have q12_14 := q12_13.kept b14
  clear q12_13
  clear b14
  go_wp2_with fail
  refine (heldIntSS_none _ _ _ _).mono ?_
  rintro e w15 ⟨rfl, rfl⟩
  go_wp2
  go_ret
  exact ⟨rfl, B14⟩

set_option maxHeartbeats 3200000 in
theorem walkSome_FnExactBasketsFor (A : Option Addr) (gs : List Gd) (c : Nat) (n : Int) (w : World) (hr : GRow w A gs) (hl3 : gs.length ≤ 3) (L : List (List Int)) (hL : L.length ≤ 216)
    (S : ∀ A c W, GRow W A gs → Calls Try.prog 19 #[.slice A gs.length c, .int .i64 n] W  (GotRowsC 3 W gs.length L)) (I : ∀ A c W, GRow W A gs → Calls Try.prog 20 #[.slice A gs.length c, .int .i64 n] W  (GotRowsC 58 W gs.length L)) :
    Calls Try.prog 5 #[.slice A gs.length c, .int .i64 n] w fun e w' => e = .returned (.bool true) ∧ Below w.heap.size w w' := by
  have hl : gs.length ≤ 1048576 := by omega
  obtain ⟨s, hs⟩ : ∃ s, s = gs.length * L.length := ⟨_, rfl⟩
  have hs1 : s ≤ 3000 := by rw [hs]; exact mul_small hl3 (Nat.le_refl _) (by omega)
  have KM := Lib.hid (fun A c W base rb m (h1 : RowsC W base rb (.slice A L.length c) 58 gs.length L m) => (show Calls Try.prog 23 #[.slice A L.length c, .int .i64 1] W (fun e w' => e = .returned (.int .i64 (1 + (s : Int))) ∧ RowsC w' base rb (.slice A L.length c) 58 gs.length (mkB gs.length L.length L) m ∧ Below rb W w') by rw [hs]; exact markIntSS_rows A L.length c L rfl W (by decide) h1 (by omega) hl3))
  have KH := Lib.hid (fun A c W base rb m (h1 : RowsC W base rb (.slice A L.length c) 58 gs.length (mkB gs.length L.length L) m) => (show Calls Try.prog 24 #[.slice A L.length c, .int .i64 1] W (fun e w' => e = .returned (.int .i64 (1 + (s : Int))) ∧ W = w') by rw [hs]; exact heldIntSS_rows A L.length c L rfl W h1 (by omega) hl3))
  clear hs
  have KS := Lib.hid S; clear S
  have KI := Lib.hid I; clear I
  go_enter Try.func5, Try.ntmps5
  go_wp2_with fail
  refine (szGoodS_yes A gs.length c _ hl).mono ?_
  rintro e w0 ⟨rfl, rfl⟩
  go_wp2_with fail
  refine (toGoodS_any A gs c _ hr hl).mono ?_
  rintro e w1 ⟨rfl, q1, b1⟩
  have B1 : Below w.heap.size w w1 := b1
  have hz1 := B1.size
  clear b1
  have s1 := q1.lt
  go_wp2_with fail
  refine (KS.out _ _ _ q1.row).mono ?_
  rintro e w2 ⟨A2, cap2, m2, rfl, r2, hm2, b2⟩
  have B2 : Below w.heap.size w w2 := Below.trans B1 (b2.mono hz1)
  have hz2 := B2.size
  have sz2 := b2.size
  have q1_2 := q1.kept b2
  clear q1
  clear b2
  have o2 := Lib.hid (fun k hk => (r2.own k hk).2)
  go_wp2_with fail
  refine (toGoodS_any A gs c _ (hr.below (by assumption)) hl).mono ?_
  rintro e w3 ⟨rfl, q3, b3⟩
  have B3 : Below w.heap.size w w3 := Below.trans B2 (b3.mono hz2)
  have hz3 := B3.size
  have sz3 := b3.size
  have r2_3 := r2.kept b3
  clear r2
  have q1_3 := q1_2.kept b3
  clear q1_2
  clear b3
  have s3 := q3.lt
  go_wp2_with fail
  refine (KI.out _ _ _ q3.row).mono ?_
  rintro e w4 ⟨A4, cap4, m4, rfl, r4, hm4, b4⟩
  have B4 : Below w.heap.size w w4 := Below.trans B3 (b4.mono hz3)
  have hz4 := B4.size
  have sz4 := b4.size
  have r2_4 := r2_3.kept b4
  clear r2_3
  have q1_4 := q1_3.kept b4
  clear q1_3
  have q3_4 := q3.kept b4
  clear q3
  clear b4
  go_wp2_with fail
  refine (eqIntSS_rows _ _ L.length _ _ L rfl _ r4 r2_4 (by omega) hl3).mono ?_
  rintro e w5 ⟨rfl, b5⟩
  have B5 : Below w.heap.size w w5 := Below.trans B4 (b5.mono hz4)
  have hz5 := B5.size
  have sz5 := b5.size
  have r2_5 := r2_4.kept b5
  clear r2_4
  have r4_5 := r4.kept b5
  clear r4
  have q1_5 := q1_4.kept b5
  clear q1_4
  have q3_5 := q3_4.kept b5
  clear q3_4
  clear b5
  go_wp2_with fail
  refine (toGoodS_any A gs c _ (hr.below (by assumption)) hl).mono ?_
  rintro e w6 ⟨rfl, q6, b6⟩
  have B6 : Below w.heap.size w w6 := Below.trans B5 (b6.mono hz5)
  have hz6 := B6.size
  have sz6 := b6.size
  have r2_6 := r2_5.kept b6
  clear r2_5
  have r4_6 := r4_5.kept b6
  clear r4_5
  have q1_6 := q1_5.kept b6
  clear q1_5
  have q3_6 := q3_5.kept b6
  clear q3_5
  clear b6
  have s6 := q6.lt
  go_wp2_with fail
  refine (eqGoodS_same _ _ gs gs.length _ _ rfl _ q3_6.row q6.row hl).mono ?_
  rintro e w7 ⟨rfl, b7⟩
  have B7 : Below w.heap.size w w7 := Below.trans B6 (b7.mono hz6)
  have hz7 := B7.size
  have sz7 := b7.size
  have r2_7 := r2_6.kept b7
  clear r2_6
  have r4_7 := r4_6.kept b7
  clear r4_6
  have q1_7 := q1_6.kept b7
  clear q1_6
  have q3_7 := q3_6.kept b7
  clear q3_6
  have q6_7 := q6.kept b7
  clear q6
  clear b7
  obtain ⟨csA, hA, hAs, _⟩ := q3_7
  go_wp2_with fail
  refine (markGoodS_any _ gs.length _ 1 _ _ _ hA (by omega) hl (by omega) (by omega)).mono ?_
  rintro e w8 ⟨rfl, ⟨cs8, q8, k8⟩, b8, o8⟩
  have B8 : Below w.heap.size w w8 := Below.trans B7 (b8.mono (by omega))
  have hz8 := B8.size
  have sz8 := b8.size
  have r2_8 := r2_7.below b8 (by omega) (fun k hk => by have := o2.out k hk; omega)
  have r4_8 := r4_7.other o8 (by omega) (by omega)
  clear r2_7 r4_7 q8 k8 b8 o8 hA
  clear q1_7
  clear q6_7
  have kz : ¬ (1 + 2 * (gs.length : Int) < 0) := by omega
  go_wp2_with fail
  refine (eqIntSS_rows _ _ L.length _ _ L rfl _ r4_8 r2_8 (by omega) hl3).mono ?_
  rintro e w9 ⟨rfl, b9⟩
  have B9 : Below w.heap.size w w9 := Below.trans B8 (b9.mono hz8)
  have hz9 := B9.size
  have sz9 := b9.size
  have r2_9 := r2_8.kept b9
  clear r2_8
  have r4_9 := r4_8.kept b9
  clear r4_8
  clear b9
  go_wp2_with fail
  refine (KM.out _ _ _ _ _ _ r4_9).mono ?_
  rintro e w10 ⟨rfl, t10, b10⟩
  have B10 : Below w.heap.size w w10 := Below.trans B9 (b10.mono (by omega))
  have hz10 := B10.size
  have sz10 := b10.size
  have r2_10 := r2_9.below b10 (by omega) (fun k hk => by have := o2.out k hk; omega)
  clear r2_9 r4_9 b10
  go_wp2_with fail
  refine (KH.out _ _ _ _ _ _ t10).mono ?_
  rintro e w11 ⟨rfl, rfl⟩
  go_wp2_with fail
  refine (toGoodS_any A gs c _ (hr.below (by assumption)) hl).mono ?_
  rintro e w12 ⟨rfl, q12, b12⟩
  have B12 : Below w.heap.size w w12 := Below.trans B10 (b12.mono hz10)
  have hz12 := B12.size
  have sz12 := b12.size
  have r2_12 := r2_10.kept b12
  clear r2_10
  have t10_12 := t10.kept b12
  clear t10
  clear b12
  have s12 := q12.lt
  go_wp2_with fail
  refine (KI.out _ _ _ q12.row).mono ?_
  rintro e w13 ⟨A13, cap13, m13, rfl, r13, hm13, b13⟩
  have B13 : Below w.heap.size w w13 := Below.trans B12 (b13.mono hz12)
  have hz13 := B13.size
  have sz13 := b13.size
  have r2_13 := r2_12.kept b13
  clear r2_12
  have t10_13 := t10_12.kept b13
  clear t10_12
  have q12_13 := q12.kept b13
  clear q12
  clear b13
  go_wp2_with fail
  refine (eqIntSS_rows _ _ L.length _ _ L rfl _ r13 r2_13 (by omega) hl3).mono ?_
  rintro e w14 ⟨rfl, b14⟩
  have B14 : Below w.heap.size w w14 := Below.trans B13 (b14.mono hz13)
  have hz14 := B14.size
  have sz14 := b14.size
  have r2_14 := r2_13.kept b14
  clear r2_13
  have t10_14 := t10_13.kept b14
  clear t10_13
  have r13_14 := r13.kept b14
  clear r13
  have q12_14 := q12_13.kept b14
  clear q12_13
  clear b14
  go_wp2_with fail
  refine (KH.out _ _ _ _ _ _ t10_14).mono ?_
  rintro e w15 ⟨rfl, rfl⟩
  go_wp2
  go_ret
  exact ⟨rfl, B14⟩

theorem walk_FnExactBasketsFor (A : Option Addr) (gs : List Gd) (c : Nat) (n : Int) (w : World) (hr : GRow w A gs) (_hl : gs.length ≤ c) (_hc : c ≤ maxLen) (_hn : (Lit.int .i64 n).wf = true) :
    Calls Try.prog 5 #[.slice A gs.length c, .int .i64 n] w fun e w' => e = .returned (.bool true) ∧ Below w.heap.size w w' := by
  by_cases hbig : 1048576 < gs.length
  · have hc' : gs.length ≤ maxLen := by omega
    clear _hl _hc _hn
    go_enter Try.func5, Try.ntmps5
    go_wp2_with fail
    refine (szGoodS_no A gs.length c _ hbig hc').mono ?_
    rintro e w0 ⟨rfl, rfl⟩
    go_wp2
    go_ret
    exact ⟨rfl, Below.refl _ _⟩
  have hl : gs.length ≤ 1048576 := by omega
  cases h : okSN gs n
  · exact walkNone_FnExactBasketsFor A gs c n w hr hl (fun A c W h1 => (specBasketsFor_no A gs c n W h1 (by omega) h).mono fun e W' ⟨A', cap, m, h2, _, _, h3⟩ => ⟨⟨A', cap, h2⟩, h3⟩) (fun A c W h1 => implBasketsFor_no A gs c n W h1 h)
  · obtain ⟨hg, _, _⟩ := okSN_iff.1 h
    have hin := shOf_in hg
    have em : (shOf gs).m.toNat = gs.length := rfl
    refine walkSome_FnExactBasketsFor A gs c n w hr (okS_iff.1 hg).1 ((bsk (shOf gs) n).map (rowOf (shOf gs).m)) (by rw [List.length_map]; exact bsk_length hin n) (fun A c W h1 => specBasketsFor_yes A gs c n W h1 h) (fun A c W h1 => ?_)
    have h2 := implBasketsFor_yes A gs c n W h1 h _ rfl
    rw [em] at h2
    exact h2

end Go.Proofs.Ytemhikgdbmmnjaa

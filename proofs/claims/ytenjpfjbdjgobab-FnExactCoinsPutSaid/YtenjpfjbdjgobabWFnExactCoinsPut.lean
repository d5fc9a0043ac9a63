/- The walk of the law FnExactCoinsPut: it returns true for all its arguments and writes into nothing that was there. -/
import Derived.Test.YtenjpfjbdjgobabHelpQm
import Derived.Test.YtenjpfjbdjgobabActA
namespace Go.Proofs.Ytenjpfjbdjgobab
open Go.RowKit

set_option maxHeartbeats 3200000 in
theorem walkNone_FnExactCoinsPut (A : Option Addr) (xs : List Int) (c : Nat) (w : World) (hr : Row .i64 w A xs) (hl : xs.length ≤ 1048576)
    (S : ∀ A c W, Row .i64 W A xs → Calls Try.prog 17 #[.slice A xs.length c] W fun e w' => (∃ B d, e = .returned (.slice B 0 d)) ∧ Below W.heap.size W w') (I : ∀ A c W, Row .i64 W A xs → Calls Try.prog 19 #[.slice A xs.length c] W fun e w' => (∃ B d, e = .returned (.slice B 0 d)) ∧ Below W.heap.size W w') :
    Calls Try.prog 5 #[.slice A xs.length c] w fun e w' => e = .returned (.bool true) ∧ Below w.heap.size w w' := by
  have KS := Lib.hid S; clear S
  have KI := Lib.hid I; clear I
  go_enter Try.func5, Try.ntmps5
  go_wp2_with fail
  refine (toIntS_any A xs c _ (hr.below (by repeat' (first | with_reducible exact Below.refl _ _ | with_reducible assumption | with_reducible apply Below.drew | with_reducible apply below_drewN | (with_reducible refine Below.setCell ?_ ?_ _) | (with_reducible refine Below.alloc ?_ ?_ _) | with_reducible exact Nat.le_refl _ | with_reducible exact Below.size (by assumption) | (simp; done) | (simp; done) | omega | (simp; omega)))) hl).mono ?_
  rintro e w1 ⟨rfl, q1, b1⟩
  have s1 : Below w.heap.size w w1 := Below.trans (by repeat' (first | with_reducible exact Below.refl _ _ | with_reducible assumption | with_reducible apply Below.drew | with_reducible apply below_drewN | (with_reducible refine Below.setCell ?_ ?_ _) | (with_reducible refine Below.alloc ?_ ?_ _) | with_reducible exact Nat.le_refl _ | with_reducible exact Below.size (by assumption) | (simp; done) | (simp; done) | omega | (simp; omega))) (b1.mono (by repeat' (first | with_reducible exact Below.refl _ _ | with_reducible assumption | with_reducible apply Below.drew | with_reducible apply below_drewN | (with_reducible refine Below.setCell ?_ ?_ _) | (with_reducible refine Below.alloc ?_ ?_ _) | with_reducible exact Nat.le_refl _ | with_reducible exact Below.size (by assumption) | (simp; done) | (simp; done) | omega | (simp; omega))))
  have B1 : Below w.heap.size w w1 := Below.trans (Below.refl w.heap.size w) (s1.mono (by omega))
  have hz1 : w.heap.size ≤ w1.heap.size := B1.size
  have sz1 : w.heap.size ≤ w1.heap.size := s1.size
  clear b1 s1
  have l1 := q1.lt
  go_wp2_with fail
  refine (KS.out _ _ _ q1.row).mono ?_
  rintro e w2 ⟨⟨D2, d2, rfl⟩, b2⟩
  have s2 : Below w1.heap.size w1 w2 := Below.trans (by repeat' (first | with_reducible exact Below.refl _ _ | with_reducible assumption | with_reducible apply Below.drew | with_reducible apply below_drewN | (with_reducible refine Below.setCell ?_ ?_ _) | (with_reducible refine Below.alloc ?_ ?_ _) | with_reducible exact Nat.le_refl _ | with_reducible exact Below.size (by assumption) | (simp; done) | (simp; done) | omega | (simp; omega))) (b2.mono (by repeat' (first | with_reducible exact Below.refl _ _ | with_reducible assumption | with_reducible apply Below.drew | with_reducible apply below_drewN | (with_reducible refine Below.setCell ?_ ?_ _) | (with_reducible refine Below.alloc ?_ ?_ _) | with_reducible exact Nat.le_refl _ | with_reducible exact Below.size (by assumption) | (simp; done) | (simp; done) | omega | (simp; omega))))
  have B2 : Below w.heap.size w w2 := Below.trans B1 (s2.mono (by omega))
  have hz2 : w.heap.size ≤ w2.heap.size := B2.size
  have sz2 : w1.heap.size ≤ w2.heap.size := s2.size
  have q1_2 := q1.kept s2
  clear q1
  clear b2 s2
  clear q1_2
  go_wp2_with fail
  refine (toIntS_any A xs c _ (hr.below (by repeat' (first | with_reducible exact Below.refl _ _ | with_reducible assumption | with_reducible apply Below.drew | with_reducible apply below_drewN | (with_reducible refine Below.setCell ?_ ?_ _) | (with_reducible refine Below.alloc ?_ ?_ _) | with_reducible exact Nat.le_refl _ | with_reducible exact Below.size (by assumption) | (simp; done) | (simp; done) | omega | (simp; omega)))) hl).mono ?_
  rintro e w3 ⟨rfl, q3, b3⟩
  have s3 : Below w2.heap.size w2 w3 := Below.trans (by repeat' (first | with_reducible exact Below.refl _ _ | with_reducible assumption | with_reducible apply Below.drew | with_reducible apply below_drewN | (with_reducible refine Below.setCell ?_ ?_ _) | (with_reducible refine Below.alloc ?_ ?_ _) | with_reducible exact Nat.le_refl _ | with_reducible exact Below.size (by assumption) | (simp; done) | (simp; done) | omega | (simp; omega))) (b3.mono (by repeat' (first | with_reducible exact Below.refl _ _ | with_reducible assumption | with_reducible apply Below.drew | with_reducible apply below_drewN | (with_reducible refine Below.setCell ?_ ?_ _) | (with_reducible refine Below.alloc ?_ ?_ _) | with_reducible exact Nat.le_refl _ | with_reducible exact Below.size (by assumption) | (simp; done) | (simp; done) | omega | (simp; omega))))
  have B3 : Below w.heap.size w w3 := Below.trans B2 (s3.mono (by omega))
  have hz3 : w.heap.size ≤ w3.heap.size := B3.size
  have sz3 : w2.heap.size ≤ w3.heap.size := s3.size
  clear b3 s3
  have l3 := q3.lt
  go_wp2_with fail
  refine (KI.out _ _ _ q3.row).mono ?_
  rintro e w4 ⟨⟨D4, d4, rfl⟩, b4⟩
  have s4 : Below w3.heap.size w3 w4 := Below.trans (by repeat' (first | with_reducible exact Below.refl _ _ | with_reducible assumption | with_reducible apply Below.drew | with_reducible apply below_drewN | (with_reducible refine Below.setCell ?_ ?_ _) | (with_reducible refine Below.alloc ?_ ?_ _) | with_reducible exact Nat.le_refl _ | with_reducible exact Below.size (by assumption) | (simp; done) | (simp; done) | omega | (simp; omega))) (b4.mono (by repeat' (first | with_reducible exact Below.refl _ _ | with_reducible assumption | with_reducible apply Below.drew | with_reducible apply below_drewN | (with_reducible refine Below.setCell ?_ ?_ _) | (with_reducible refine Below.alloc ?_ ?_ _) | with_reducible exact Nat.le_refl _ | with_reducible exact Below.size (by assumption) | (simp; done) | (simp; done) | omega | (simp; omega))))
  have B4 : Below w.heap.size w w4 := Below.trans B3 (s4.mono (by omega))
  have hz4 : w.heap.size ≤ w4.heap.size := B4.size
  have sz4 : w3.heap.size ≤ w4.heap.size := s4.size
  have q3_4 := q3.kept s4
  clear q3
  clear b4 s4
  go_wp2_with fail
  refine (eqActS_same _ _ [] 0 _ _ rfl _ (ARow.nil _ _) (ARow.nil _ _) (by omega)).mono ?_
  rintro e w5 ⟨rfl, b5⟩
  have s5 : Below w4.heap.size w4 w5 := Below.trans (by repeat' (first | with_reducible exact Below.refl _ _ | with_reducible assumption | with_reducible apply Below.drew | with_reducible apply below_drewN | (with_reducible refine Below.setCell ?_ ?_ _) | (with_reducible refine Below.alloc ?_ ?_ _) | with_reducible exact Nat.le_refl _ | with_reducible exact Below.size (by assumption) | (simp; done) | (simp; done) | omega | (simp; omega))) (b5.mono (by repeat' (first | with_reducible exact Below.refl _ _ | with_reducible assumption | with_reducible apply Below.drew | with_reducible apply below_drewN | (with_reducible refine Below.setCell ?_ ?_ _) | (with_reducible refine Below.alloc ?_ ?_ _) | with_reducible exact Nat.le_refl _ | with_reducible exact Below.size (by assumption) | (simp; done) | (simp; done) | omega | (simp; omega))))
  have B5 : Below w.heap.size w w5 := Below.trans B4 (s5.mono (by omega))
  have hz5 : w.heap.size ≤ w5.heap.size := B5.size
  have sz5 : w4.heap.size ≤ w5.heap.size := s5.size
  have q3_5 := q3_4.kept s5
  clear q3_4
  clear b5 s5
  go_wp2_with fail
  refine (toIntS_any A xs c _ (hr.below (by repeat' (first | with_reducible exact Below.refl _ _ | with_reducible assumption | with_reducible apply Below.drew | with_reducible apply below_drewN | (with_reducible refine Below.setCell ?_ ?_ _) | (with_reducible refine Below.alloc ?_ ?_ _) | with_reducible exact Nat.le_refl _ | with_reducible exact Below.size (by assumption) | (simp; done) | (simp; done) | omega | (simp; omega)))) hl).mono ?_
  rintro e w6 ⟨rfl, q6, b6⟩
  have s6 : Below w5.heap.size w5 w6 := Below.trans (by repeat' (first | with_reducible exact Below.refl _ _ | with_reducible assumption | with_reducible apply Below.drew | with_reducible apply below_drewN | (with_reducible refine Below.setCell ?_ ?_ _) | (with_reducible refine Below.alloc ?_ ?_ _) | with_reducible exact Nat.le_refl _ | with_reducible exact Below.size (by assumption) | (simp; done) | (simp; done) | omega | (simp; omega))) (b6.mono (by repeat' (first | with_reducible exact Below.refl _ _ | with_reducible assumption | with_reducible apply Below.drew | with_reducible apply below_drewN | (with_reducible refine Below.setCell ?_ ?_ _) | (with_reducible refine Below.alloc ?_ ?_ _) | with_reducible exact Nat.le_refl _ | with_reducible exact Below.size (by assumption) | (simp; done) | (simp; done) | omega | (simp; omega))))
  have B6 : Below w.heap.size w w6 := Below.trans B5 (s6.mono (by omega))
  have hz6 : w.heap.size ≤ w6.heap.size := B6.size
  have sz6 : w5.heap.size ≤ w6.heap.size := s6.size
  have q3_6 := q3_5.kept s6
  clear q3_5
  clear b6 s6
  have l6 := q6.lt
  go_wp2_with fail
  refine (eqIntS_same _ _ xs _ _ _ q3_6.row q6.row hl).mono ?_
  rintro e w7 ⟨rfl, b7⟩
  have s7 : Below w6.heap.size w6 w7 := Below.trans (by repeat' (first | with_reducible exact Below.refl _ _ | with_reducible assumption | with_reducible apply Below.drew | with_reducible apply below_drewN | (with_reducible refine Below.setCell ?_ ?_ _) | (with_reducible refine Below.alloc ?_ ?_ _) | with_reducible exact Nat.le_refl _ | with_reducible exact Below.size (by assumption) | (simp; done) | (simp; done) | omega | (simp; omega))) (b7.mono (by repeat' (first | with_reducible exact Below.refl _ _ | with_reducible assumption | with_reducible apply Below.drew | with_reducible apply below_drewN | (with_reducible refine Below.setCell ?_ ?_ _) | (with_reducible refine Below.alloc ?_ ?_ _) | with_reducible exact Nat.le_refl _ | with_reducible exact Below.size (by assumption) | (simp; done) | (simp; done) | omega | (simp; omega))))
  have B7 : Below w.heap.size w w7 := Below.trans B6 (s7.mono (by omega))
  have hz7 : w.heap.size ≤ w7.heap.size := B7.size
  have sz7 : w6.heap.size ≤ w7.heap.size := s7.size
  have q3_7 := q3_6.kept s7
  clear q3_6
  have q6_7 := q6.kept s7
  clear q6
  clear b7 s7
  clear q6_7
  go_wp2_with fail
  refine (markIntS_any _ xs.length _ 1 _ _ _ q3_7 (cellsOf_size xs) hl (by omega) (by omega)).mono ?_
  rintro e w8 ⟨rfl, ⟨cs8, q8, m8⟩, s8, o8⟩
  have O8 := Lib.hid o8; clear o8
  have B8 : Below w.heap.size w w8 := Below.trans B7 (s8.mono (by omega))
  have hz8 : w.heap.size ≤ w8.heap.size := B8.size
  have sz8 : w7.heap.size ≤ w8.heap.size := s8.size
  clear q3_7
  clear s8
  clear q8 m8
  go_wp2_with fail
  refine (eqActS_same _ _ [] 0 _ _ rfl _ (ARow.nil _ _) (ARow.nil _ _) (by omega)).mono ?_
  rintro e w9 ⟨rfl, b9⟩
  have s9 : Below w8.heap.size w8 w9 := Below.trans (by repeat' (first | with_reducible exact Below.refl _ _ | with_reducible assumption | with_reducible apply Below.drew | with_reducible apply below_drewN | (with_reducible refine Below.setCell ?_ ?_ _) | (with_reducible refine Below.alloc ?_ ?_ _) | with_reducible exact Nat.le_refl _ | with_reducible exact Below.size (by assumption) | (simp; done) | (simp; done) | omega | (simp; omega))) (b9.mono (by repeat' (first | with_reducible exact Below.refl _ _ | with_reducible assumption | with_reducible apply Below.drew | with_reducible apply below_drewN | (with_reducible refine Below.setCell ?_ ?_ _) | (with_reducible refine Below.alloc ?_ ?_ _) | with_reducible exact Nat.le_refl _ | with_reducible exact Below.size (by assumption) | (simp; done) | (simp; done) | omega | (simp; omega))))
  have B9 : Below w.heap.size w w9 := Below.trans B8 (s9.mono (by omega))
  have hz9 : w.heap.size ≤ w9.heap.size := B9.size
  have sz9 : w8.heap.size ≤ w9.heap.size := s9.size
  clear b9 s9
  go_wp2_with fail
  refine (markActS_none _ _ _ _).mono ?_
  rintro e wq ⟨rfl, rfl⟩
  go_wp2_with fail
  refine (heldActS_none _ _ _ _).mono ?_
  rintro e wq ⟨rfl, rfl⟩
  go_wp2_with fail
  refine (toIntS_any A xs c _ (hr.below (by repeat' (first | with_reducible exact Below.refl _ _ | with_reducible assumption | with_reducible apply Below.drew | with_reducible apply below_drewN | (with_reducible refine Below.setCell ?_ ?_ _) | (with_reducible refine Below.alloc ?_ ?_ _) | with_reducible exact Nat.le_refl _ | with_reducible exact Below.size (by assumption) | (simp; done) | (simp; done) | omega | (simp; omega)))) hl).mono ?_
  rintro e w10 ⟨rfl, q10, b10⟩
  have s10 : Below w9.heap.size w9 w10 := Below.trans (by repeat' (first | with_reducible exact Below.refl _ _ | with_reducible assumption | with_reducible apply Below.drew | with_reducible apply below_drewN | (with_reducible refine Below.setCell ?_ ?_ _) | (with_reducible refine Below.alloc ?_ ?_ _) | with_reducible exact Nat.le_refl _ | with_reducible exact Below.size (by assumption) | (simp; done) | (simp; done) | omega | (simp; omega))) (b10.mono (by repeat' (first | with_reducible exact Below.refl _ _ | with_reducible assumption | with_reducible apply Below.drew | with_reducible apply below_drewN | (with_reducible refine Below.setCell ?_ ?_ _) | (with_reducible refine Below.alloc ?_ ?_ _) | with_reducible exact Nat.le_refl _ | with_reducible exact Below.size (by assumption) | (simp; done) | (simp; done) | omega | (simp; omega))))
  have B10 : Below w.heap.size w w10 := Below.trans B9 (s10.mono (by omega))
  have hz10 : w.heap.size ≤ w10.heap.size := B10.size
  have sz10 : w9.heap.size ≤ w10.heap.size := s10.size
  clear b10 s10
  have l10 := q10.lt
  go_wp2_with fail
  refine (KI.out _ _ _ q10.row).mono ?_
  rintro e w11 ⟨⟨D11, d11, rfl⟩, b11⟩
  have s11 : Below w10.heap.size w10 w11 := Below.trans (by repeat' (first | with_reducible exact Below.refl _ _ | with_reducible assumption | with_reducible apply Below.drew | with_reducible apply below_drewN | (with_reducible refine Below.setCell ?_ ?_ _) | (with_reducible refine Below.alloc ?_ ?_ _) | with_reducible exact Nat.le_refl _ | with_reducible exact Below.size (by assumption) | (simp; done) | (simp; done) | omega | (simp; omega))) (b11.mono (by repeat' (first | with_reducible exact Below.refl _ _ | with_reducible assumption | with_reducible apply Below.drew | with_reducible apply below_drewN | (with_reducible refine Below.setCell ?_ ?_ _) | (with_reducible refine Below.alloc ?_ ?_ _) | with_reducible exact Nat.le_refl _ | with_reducible exact Below.size (by assumption) | (simp; done) | (simp; done) | omega | (simp; omega))))
  have B11 : Below w.heap.size w w11 := Below.trans B10 (s11.mono (by omega))
  have hz11 : w.heap.size ≤ w11.heap.size := B11.size
  have sz11 : w10.heap.size ≤ w11.heap.size := s11.size
  have q10_11 := q10.kept s11
  clear q10
  clear b11 s11
  clear q10_11
  go_wp2_with fail
  refine (eqActS_same _ _ [] 0 _ _ rfl _ (ARow.nil _ _) (ARow.nil _ _) (by omega)).mono ?_
  rintro e w12 ⟨rfl, b12⟩
  have s12 : Below w11.heap.size w11 w12 := Below.trans (by repeat' (first | with_reducible exact Below.refl _ _ | with_reducible assumption | with_reducible apply Below.drew | with_reducible apply below_drewN | (with_reducible refine Below.setCell ?_ ?_ _) | (with_reducible refine Below.alloc ?_ ?_ _) | with_reducible exact Nat.le_refl _ | with_reducible exact Below.size (by assumption) | (simp; done) | (simp; done) | omega | (simp; omega))) (b12.mono (by repeat' (first | with_reducible exact Below.refl _ _ | with_reducible assumption | with_reducible apply Below.drew | with_reducible apply below_drewN | (with_reducible refine Below.setCell ?_ ?_ _) | (with_reducible refine Below.alloc ?_ ?_ _) | with_reducible exact Nat.le_refl _ | with_reducible exact Below.size (by assumption) | (simp; done) | (simp; done) | omega | (simp; omega))))
  have B12 : Below w.heap.size w w12 := Below.trans B11 (s12.mono (by omega))
  have hz12 : w.heap.size ≤ w12.heap.size := B12.size
  have sz12 : w11.heap.size ≤ w12.heap.size := s12.size
  clear b12 s12
  go_wp2_with fail
  refine (heldActS_none _ _ _ _).mono ?_
  rintro e wq ⟨rfl, rfl⟩
  go_wp2
  go_ret
  exact ⟨rfl, (by repeat' (first | with_reducible exact Below.refl _ _ | with_reducible assumption | with_reducible apply Below.drew | with_reducible apply below_drewN | (with_reducible refine Below.setCell ?_ ?_ _) | (with_reducible refine Below.alloc ?_ ?_ _) | with_reducible exact Nat.le_refl _ | with_reducible exact Below.size (by assumption) | (simp; done) | (simp; done) | omega | (simp; omega)))⟩

set_option maxHeartbeats 3200000 in
theorem walkSome_FnExactCoinsPut (A : Option Addr) (xs : List Int) (c : Nat) (w : World) (hr : Row .i64 w A xs) (hl : xs.length ≤ 1048576) (M : List Ac) (N : Nat) (hM : M.length = N) (hN : N ≤ 1000)
    (S : ∀ A c W, Row .i64 W A xs → Calls Try.prog 17 #[.slice A xs.length c] W fun e w' => ∃ g cap, e = .returned (.slice (some ⟨g, 0, none⟩) N cap) ∧ AAt w' g 50 M ∧ W.heap.size ≤ g ∧ Below W.heap.size W w') (I : ∀ A c W, Row .i64 W A xs → Calls Try.prog 19 #[.slice A xs.length c] W fun e w' => ∃ g cap, e = .returned (.slice (some ⟨g, 0, none⟩) N cap) ∧ AAt w' g 50 M ∧ W.heap.size ≤ g ∧ Below W.heap.size W w') :
    Calls Try.prog 5 #[.slice A xs.length c] w fun e w' => e = .returned (.bool true) ∧ Below w.heap.size w w' := by
  have KS := Lib.hid S; clear S
  have KI := Lib.hid I; clear I
  have HX := Lib.hid hM; clear hM
  have hN0 : N ≤ 1048576 := by omega
  go_enter Try.func5, Try.ntmps5
  go_wp2_with fail
  refine (toIntS_any A xs c _ (hr.below (by repeat' (first | with_reducible exact Below.refl _ _ | with_reducible assumption | with_reducible apply Below.drew | with_reducible apply below_drewN | (with_reducible refine Below.setCell ?_ ?_ _) | (with_reducible refine Below.alloc ?_ ?_ _) | with_reducible exact Nat.le_refl _ | with_reducible exact Below.size (by assumption) | (simp; done) | (simp; done) | omega | (simp; omega)))) hl).mono ?_
  rintro e w1 ⟨rfl, q1, b1⟩
  have s1 : Below w.heap.size w w1 := Below.trans (by repeat' (first | with_reducible exact Below.refl _ _ | with_reducible assumption | with_reducible apply Below.drew | with_reducible apply below_drewN | (with_reducible refine Below.setCell ?_ ?_ _) | (with_reducible refine Below.alloc ?_ ?_ _) | with_reducible exact Nat.le_refl _ | with_reducible exact Below.size (by assumption) | (simp; done) | (simp; done) | omega | (simp; omega))) (b1.mono (by repeat' (first | with_reducible exact Below.refl _ _ | with_reducible assumption | with_reducible apply Below.drew | with_reducible apply below_drewN | (with_reducible refine Below.setCell ?_ ?_ _) | (with_reducible refine Below.alloc ?_ ?_ _) | with_reducible exact Nat.le_refl _ | with_reducible exact Below.size (by assumption) | (simp; done) | (simp; done) | omega | (simp; omega))))
  have B1 : Below w.heap.size w w1 := Below.trans (Below.refl w.heap.size w) (s1.mono (by omega))
  have hz1 : w.heap.size ≤ w1.heap.size := B1.size
  have sz1 : w.heap.size ≤ w1.heap.size := s1.size
  clear b1 s1
  have l1 := q1.lt
  go_wp2_with fail
  refine (KS.out _ _ _ q1.row).mono ?_
  rintro e w2 ⟨g2, d2, rfl, p2, hg2, b2⟩
  have s2 : Below w1.heap.size w1 w2 := Below.trans (by repeat' (first | with_reducible exact Below.refl _ _ | with_reducible assumption | with_reducible apply Below.drew | with_reducible apply below_drewN | (with_reducible refine Below.setCell ?_ ?_ _) | (with_reducible refine Below.alloc ?_ ?_ _) | with_reducible exact Nat.le_refl _ | with_reducible exact Below.size (by assumption) | (simp; done) | (simp; done) | omega | (simp; omega))) (b2.mono (by repeat' (first | with_reducible exact Below.refl _ _ | with_reducible assumption | with_reducible apply Below.drew | with_reducible apply below_drewN | (with_reducible refine Below.setCell ?_ ?_ _) | (with_reducible refine Below.alloc ?_ ?_ _) | with_reducible exact Nat.le_refl _ | with_reducible exact Below.size (by assumption) | (simp; done) | (simp; done) | omega | (simp; omega))))
  have B2 : Below w.heap.size w w2 := Below.trans B1 (s2.mono (by omega))
  have hz2 : w.heap.size ≤ w2.heap.size := B2.size
  have sz2 : w1.heap.size ≤ w2.heap.size := s2.size
  have q1_2 := q1.kept s2
  clear q1
  clear b2 s2
  clear q1_2
  have l2 := p2.lt
  go_wp2_with fail
  refine (toIntS_any A xs c _ (hr.below (by repeat' (first | with_reducible exact Below.refl _ _ | with_reducible assumption | with_reducible apply Below.drew | with_reducible apply below_drewN | (with_reducible refine Below.setCell ?_ ?_ _) | (with_reducible refine Below.alloc ?_ ?_ _) | with_reducible exact Nat.le_refl _ | with_reducible exact Below.size (by assumption) | (simp; done) | (simp; done) | omega | (simp; omega)))) hl).mono ?_
  rintro e w3 ⟨rfl, q3, b3⟩
  have s3 : Below w2.heap.size w2 w3 := Below.trans (by repeat' (first | with_reducible exact Below.refl _ _ | with_reducible assumption | with_reducible apply Below.drew | with_reducible apply below_drewN | (with_reducible refine Below.setCell ?_ ?_ _) | (with_reducible refine Below.alloc ?_ ?_ _) | with_reducible exact Nat.le_refl _ | with_reducible exact Below.size (by assumption) | (simp; done) | (simp; done) | omega | (simp; omega))) (b3.mono (by repeat' (first | with_reducible exact Below.refl _ _ | with_reducible assumption | with_reducible apply Below.drew | with_reducible apply below_drewN | (with_reducible refine Below.setCell ?_ ?_ _) | (with_reducible refine Below.alloc ?_ ?_ _) | with_reducible exact Nat.le_refl _ | with_reducible exact Below.size (by assumption) | (simp; done) | (simp; done) | omega | (simp; omega))))
  have B3 : Below w.heap.size w w3 := Below.trans B2 (s3.mono (by omega))
  have hz3 : w.heap.size ≤ w3.heap.size := B3.size
  have sz3 : w2.heap.size ≤ w3.heap.size := s3.size
  have p2_3 := p2.kept s3
  clear p2
  clear b3 s3
  have l3 := q3.lt
  go_wp2_with fail
  refine (KI.out _ _ _ q3.row).mono ?_
  rintro e w4 ⟨g4, d4, rfl, p4, hg4, b4⟩
  have s4 : Below w3.heap.size w3 w4 := Below.trans (by repeat' (first | with_reducible exact Below.refl _ _ | with_reducible assumption | with_reducible apply Below.drew | with_reducible apply below_drewN | (with_reducible refine Below.setCell ?_ ?_ _) | (with_reducible refine Below.alloc ?_ ?_ _) | with_reducible exact Nat.le_refl _ | with_reducible exact Below.size (by assumption) | (simp; done) | (simp; done) | omega | (simp; omega))) (b4.mono (by repeat' (first | with_reducible exact Below.refl _ _ | with_reducible assumption | with_reducible apply Below.drew | with_reducible apply below_drewN | (with_reducible refine Below.setCell ?_ ?_ _) | (with_reducible refine Below.alloc ?_ ?_ _) | with_reducible exact Nat.le_refl _ | with_reducible exact Below.size (by assumption) | (simp; done) | (simp; done) | omega | (simp; omega))))
  have B4 : Below w.heap.size w w4 := Below.trans B3 (s4.mono (by omega))
  have hz4 : w.heap.size ≤ w4.heap.size := B4.size
  have sz4 : w3.heap.size ≤ w4.heap.size := s4.size
  have p2_4 := p2_3.kept s4
  clear p2_3
  have q3_4 := q3.kept s4
  clear q3
  clear b4 s4
  have l4 := p4.lt
  go_wp2_with fail
  refine (eqActS_same _ _ M N _ _ HX.out _ p4.row p2_4.row hN0).mono ?_
  rintro e w5 ⟨rfl, b5⟩
  have s5 : Below w4.heap.size w4 w5 := Below.trans (by repeat' (first | with_reducible exact Below.refl _ _ | with_reducible assumption | with_reducible apply Below.drew | with_reducible apply below_drewN | (with_reducible refine Below.setCell ?_ ?_ _) | (with_reducible refine Below.alloc ?_ ?_ _) | with_reducible exact Nat.le_refl _ | with_reducible exact Below.size (by assumption) | (simp; done) | (simp; done) | omega | (simp; omega))) (b5.mono (by repeat' (first | with_reducible exact Below.refl _ _ | with_reducible assumption | with_reducible apply Below.drew | with_reducible apply below_drewN | (with_reducible refine Below.setCell ?_ ?_ _) | (with_reducible refine Below.alloc ?_ ?_ _) | with_reducible exact Nat.le_refl _ | with_reducible exact Below.size (by assumption) | (simp; done) | (simp; done) | omega | (simp; omega))))
  have B5 : Below w.heap.size w w5 := Below.trans B4 (s5.mono (by omega))
  have hz5 : w.heap.size ≤ w5.heap.size := B5.size
  have sz5 : w4.heap.size ≤ w5.heap.size := s5.size
  have p2_5 := p2_4.kept s5
  clear p2_4
  have q3_5 := q3_4.kept s5
  clear q3_4
  have p4_5 := p4.kept s5
  clear p4
  clear b5 s5
  go_wp2_with fail
  refine (toIntS_any A xs c _ (hr.below (by repeat' (first | with_reducible exact Below.refl _ _ | with_reducible assumption | with_reducible apply Below.drew | with_reducible apply below_drewN | (with_reducible refine Below.setCell ?_ ?_ _) | (with_reducible refine Below.alloc ?_ ?_ _) | with_reducible exact Nat.le_refl _ | with_reducible exact Below.size (by assumption) | (simp; done) | (simp; done) | omega | (simp; omega)))) hl).mono ?_
  rintro e w6 ⟨rfl, q6, b6⟩
  have s6 : Below w5.heap.size w5 w6 := Below.trans (by repeat' (first | with_reducible exact Below.refl _ _ | with_reducible assumption | with_reducible apply Below.drew | with_reducible apply below_drewN | (with_reducible refine Below.setCell ?_ ?_ _) | (with_reducible refine Below.alloc ?_ ?_ _) | with_reducible exact Nat.le_refl _ | with_reducible exact Below.size (by assumption) | (simp; done) | (simp; done) | omega | (simp; omega))) (b6.mono (by repeat' (first | with_reducible exact Below.refl _ _ | with_reducible assumption | with_reducible apply Below.drew | with_reducible apply below_drewN | (with_reducible refine Below.setCell ?_ ?_ _) | (with_reducible refine Below.alloc ?_ ?_ _) | with_reducible exact Nat.le_refl _ | with_reducible exact Below.size (by assumption) | (simp; done) | (simp; done) | omega | (simp; omega))))
  have B6 : Below w.heap.size w w6 := Below.trans B5 (s6.mono (by omega))
  have hz6 : w.heap.size ≤ w6.heap.size := B6.size
  have sz6 : w5.heap.size ≤ w6.heap.size := s6.size
  have p2_6 := p2_5.kept s6
  clear p2_5
  have q3_6 := q3_5.kept s6
  clear q3_5
  have p4_6 := p4_5.kept s6
  clear p4_5
  clear b6 s6
  have l6 := q6.lt
  go_wp2_with fail
  refine (eqIntS_same _ _ xs _ _ _ q3_6.row q6.row hl).mono ?_
  rintro e w7 ⟨rfl, b7⟩
  have s7 : Below w6.heap.size w6 w7 := Below.trans (by repeat' (first | with_reducible exact Below.refl _ _ | with_reducible assumption | with_reducible apply Below.drew | with_reducible apply below_drewN | (with_reducible refine Below.setCell ?_ ?_ _) | (with_reducible refine Below.alloc ?_ ?_ _) | with_reducible exact Nat.le_refl _ | with_reducible exact Below.size (by assumption) | (simp; done) | (simp; done) | omega | (simp; omega))) (b7.mono (by repeat' (first | with_reducible exact Below.refl _ _ | with_reducible assumption | with_reducible apply Below.drew | with_reducible apply below_drewN | (with_reducible refine Below.setCell ?_ ?_ _) | (with_reducible refine Below.alloc ?_ ?_ _) | with_reducible exact Nat.le_refl _ | with_reducible exact Below.size (by assumption) | (simp; done) | (simp; done) | omega | (simp; omega))))
  have B7 : Below w.heap.size w w7 := Below.trans B6 (s7.mono (by omega))
  have hz7 : w.heap.size ≤ w7.heap.size := B7.size
  have sz7 : w6.heap.size ≤ w7.heap.size := s7.size
  have p2_7 := p2_6.kept s7
  clear p2_6
  have q3_7 := q3_6.kept s7
  clear q3_6
  have p4_7 := p4_6.kept s7
  clear p4_6
  have q6_7 := q6.kept s7
  clear q6
  clear b7 s7
  clear q6_7
  go_wp2_with fail
  refine (markIntS_any _ xs.length _ 1 _ _ _ q3_7 (cellsOf_size xs) hl (by omega) (by omega)).mono ?_
  rintro e w8 ⟨rfl, ⟨cs8, q8, m8⟩, s8, o8⟩
  have O8 := Lib.hid o8; clear o8
  have B8 : Below w.heap.size w w8 := Below.trans B7 (s8.mono (by omega))
  have hz8 : w.heap.size ≤ w8.heap.size := B8.size
  have sz8 : w7.heap.size ≤ w8.heap.size := s8.size
  have p2_8 := p2_7.other O8.out (by omega)
  clear p2_7
  clear q3_7
  have p4_8 := p4_7.other O8.out (by omega)
  clear p4_7
  clear s8
  clear q8 m8
  go_wp2_with fail
  refine (eqActS_same _ _ M N _ _ HX.out _ p4_8.row p2_8.row hN0).mono ?_
  rintro e w9 ⟨rfl, b9⟩
  have s9 : Below w8.heap.size w8 w9 := Below.trans (by repeat' (first | with_reducible exact Below.refl _ _ | with_reducible assumption | with_reducible apply Below.drew | with_reducible apply below_drewN | (with_reducible refine Below.setCell ?_ ?_ _) | (with_reducible refine Below.alloc ?_ ?_ _) | with_reducible exact Nat.le_refl _ | with_reducible exact Below.size (by assumption) | (simp; done) | (simp; done) | omega | (simp; omega))) (b9.mono (by repeat' (first | with_reducible exact Below.refl _ _ | with_reducible assumption | with_reducible apply Below.drew | with_reducible apply below_drewN | (with_reducible refine Below.setCell ?_ ?_ _) | (with_reducible refine Below.alloc ?_ ?_ _) | with_reducible exact Nat.le_refl _ | with_reducible exact Below.size (by assumption) | (simp; done) | (simp; done) | omega | (simp; omega))))
  have B9 : Below w.heap.size w w9 := Below.trans B8 (s9.mono (by omega))
  have hz9 : w.heap.size ≤ w9.heap.size := B9.size
  have sz9 : w8.heap.size ≤ w9.heap.size := s9.size
  have p2_9 := p2_8.kept s9
  clear p2_8
  have p4_9 := p4_8.kept s9
  clear p4_8
  clear b9 s9
  go_wp2_with fail
  refine (markActS_any _ N _ 1 _ M _ p4_9 HX.out hN0 (by omega) (by omega)).mono ?_
  rintro e w10 ⟨rfl, q10, s10, o10⟩
  have O10 := Lib.hid o10; clear o10
  have B10 : Below w.heap.size w w10 := Below.trans B9 (s10.mono (by omega))
  have hz10 : w.heap.size ≤ w10.heap.size := B10.size
  have sz10 : w9.heap.size ≤ w10.heap.size := s10.size
  have p2_10 := p2_9.other O10.out (by omega)
  clear p2_9
  clear p4_9
  clear s10
  go_wp2_with fail
  refine (heldActS_from _ (mkA 1 N) N _ (mkA_length _ _) 1 _ q10.row hN0 (by omega) (by omega) (fun i hi => mkA_get hi)).mono ?_
  rintro e wq ⟨rfl, rfl⟩
  go_wp2_with fail
  refine (toIntS_any A xs c _ (hr.below (by repeat' (first | with_reducible exact Below.refl _ _ | with_reducible assumption | with_reducible apply Below.drew | with_reducible apply below_drewN | (with_reducible refine Below.setCell ?_ ?_ _) | (with_reducible refine Below.alloc ?_ ?_ _) | with_reducible exact Nat.le_refl _ | with_reducible exact Below.size (by assumption) | (simp; done) | (simp; done) | omega | (simp; omega)))) hl).mono ?_
  rintro e w11 ⟨rfl, q11, b11⟩
  have s11 : Below w10.heap.size w10 w11 := Below.trans (by repeat' (first | with_reducible exact Below.refl _ _ | with_reducible assumption | with_reducible apply Below.drew | with_reducible apply below_drewN | (with_reducible refine Below.setCell ?_ ?_ _) | (with_reducible refine Below.alloc ?_ ?_ _) | with_reducible exact Nat.le_refl _ | with_reducible exact Below.size (by assumption) | (simp; done) | (simp; done) | omega | (simp; omega))) (b11.mono (by repeat' (first | with_reducible exact Below.refl _ _ | with_reducible assumption | with_reducible apply Below.drew | with_reducible apply below_drewN | (with_reducible refine Below.setCell ?_ ?_ _) | (with_reducible refine Below.alloc ?_ ?_ _) | with_reducible exact Nat.le_refl _ | with_reducible exact Below.size (by assumption) | (simp; done) | (simp; done) | omega | (simp; omega))))
  have B11 : Below w.heap.size w w11 := Below.trans B10 (s11.mono (by omega))
  have hz11 : w.heap.size ≤ w11.heap.size := B11.size
  have sz11 : w10.heap.size ≤ w11.heap.size := s11.size
  have p2_11 := p2_10.kept s11
  clear p2_10
  have q10_11 := q10.kept s11
  clear q10
  clear b11 s11
  have l11 := q11.lt
  go_wp2_with fail
  refine (KI.out _ _ _ q11.row).mono ?_
  rintro e w12 ⟨g12, d12, rfl, p12, hg12, b12⟩
  have s12 : Below w11.heap.size w11 w12 := Below.trans (by repeat' (first | with_reducible exact Below.refl _ _ | with_reducible assumption | with_reducible apply Below.drew | with_reducible apply below_drewN | (with_reducible refine Below.setCell ?_ ?_ _) | (with_reducible refine Below.alloc ?_ ?_ _) | with_reducible exact Nat.le_refl _ | with_reducible exact Below.size (by assumption) | (simp; done) | (simp; done) | omega | (simp; omega))) (b12.mono (by repeat' (first | with_reducible exact Below.refl _ _ | with_reducible assumption | with_reducible apply Below.drew | with_reducible apply below_drewN | (with_reducible refine Below.setCell ?_ ?_ _) | (with_reducible refine Below.alloc ?_ ?_ _) | with_reducible exact Nat.le_refl _ | with_reducible exact Below.size (by assumption) | (simp; done) | (simp; done) | omega | (simp; omega))))
  have B12 : Below w.heap.size w w12 := Below.trans B11 (s12.mono (by omega))
  have hz12 : w.heap.size ≤ w12.heap.size := B12.size
  have sz12 : w11.heap.size ≤ w12.heap.size := s12.size
  have p2_12 := p2_11.kept s12
  clear p2_11
  have q10_12 := q10_11.kept s12
  clear q10_11
  have q11_12 := q11.kept s12
  clear q11
  clear b12 s12
  clear q11_12
  have l12 := p12.lt
  go_wp2_with fail
  refine (eqActS_same _ _ M N _ _ HX.out _ p12.row p2_12.row hN0).mono ?_
  rintro e w13 ⟨rfl, b13⟩
  have s13 : Below w12.heap.size w12 w13 := Below.trans (by repeat' (first | with_reducible exact Below.refl _ _ | with_reducible assumption | with_reducible apply Below.drew | with_reducible apply below_drewN | (with_reducible refine Below.setCell ?_ ?_ _) | (with_reducible refine Below.alloc ?_ ?_ _) | with_reducible exact Nat.le_refl _ | with_reducible exact Below.size (by assumption) | (simp; done) | (simp; done) | omega | (simp; omega))) (b13.mono (by repeat' (first | with_reducible exact Below.refl _ _ | with_reducible assumption | with_reducible apply Below.drew | with_reducible apply below_drewN | (with_reducible refine Below.setCell ?_ ?_ _) | (with_reducible refine Below.alloc ?_ ?_ _) | with_reducible exact Nat.le_refl _ | with_reducible exact Below.size (by assumption) | (simp; done) | (simp; done) | omega | (simp; omega))))
  have B13 : Below w.heap.size w w13 := Below.trans B12 (s13.mono (by omega))
  have hz13 : w.heap.size ≤ w13.heap.size := B13.size
  have sz13 : w12.heap.size ≤ w13.heap.size := s13.size
  have p2_13 := p2_12.kept s13
  clear p2_12
  have q10_13 := q10_12.kept s13
  clear q10_12
  have p12_13 := p12.kept s13
  clear p12
  clear b13 s13
  go_wp2_with fail
  refine (heldActS_from _ (mkA 1 N) N _ (mkA_length _ _) 1 _ q10_13.row hN0 (by omega) (by omega) (fun i hi => mkA_get hi)).mono ?_
  rintro e wq ⟨rfl, rfl⟩
  go_wp2
  go_ret
  exact ⟨rfl, (by repeat' (first | with_reducible exact Below.refl _ _ | with_reducible assumption | with_reducible apply Below.drew | with_reducible apply below_drewN | (with_reducible refine Below.setCell ?_ ?_ _) | (with_reducible refine Below.alloc ?_ ?_ _) | with_reducible exact Nat.le_refl _ | with_reducible exact Below.size (by assumption) | (simp; done) | (simp; done) | omega | (simp; omega)))⟩

theorem got_none {w : World} {e : Ending} {w' : World} {M : List Ac} (hM : M.length = 0) (p : GotActs w M e w') : (∃ B d, e = .returned (.slice B 0 d)) ∧ Below w.heap.size w w' := by
  obtain ⟨v, h1, h2, h3⟩ := p
  obtain ⟨A, cap, rfl⟩ := h2.form
  rw [hM] at h1
  exact ⟨⟨A, cap, h1⟩, h3⟩
theorem got_some {w : World} {e : Ending} {w' : World} {M : List Ac} (hM : 0 < M.length) (p : GotActs w M e w') : ∃ g cap, e = .returned (.slice (some ⟨g, 0, none⟩) M.length cap) ∧ AAt w' g 50 M ∧ w.heap.size ≤ g ∧ Below w.heap.size w w' := by
  obtain ⟨v, h1, h2, h3⟩ := p
  obtain ⟨g, cap, rfl, h4, h5⟩ := h2.aat hM
  exact ⟨g, cap, h1, h4, h5, h3⟩
theorem walk_FnExactCoinsPut (A : Option Addr) (xs : List Int) (c : Nat) (w : World) (hr : Row .i64 w A xs) (_hl : xs.length ≤ c) (_hc : c ≤ maxLen) (_hwf : ∀ n ∈ xs, (Lit.int .i64 n).wf = true) :
    Calls Try.prog 5 #[.slice A xs.length c] w fun e w' => e = .returned (.bool true) ∧ Below w.heap.size w w' := by
  by_cases hbig : 1048576 < xs.length
  · clear _hwf
    go_enter Try.func5, Try.ntmps5
    go_wp2
    go_ret
    exact ⟨rfl, Below.refl _ _⟩
  have hl : xs.length ≤ 1048576 := by omega
  cases hx : okP xs
  · exact walkNone_FnExactCoinsPut A xs c w hr hl (fun A c W h => specCoinsPut_no A xs c W h hl hx) (fun A c W h => (implCoinsPut_no A xs c W h hx).mono fun e w' p => ⟨⟨_, _, p.1⟩, p.2⟩)
  · by_cases hm : nth xs 0 + nth xs 1 + nth xs 2 + nth xs 3 ≤ 20
    · by_cases h0 : (putTo xs 4 0).length = 0
      · exact walkNone_FnExactCoinsPut A xs c w hr hl (fun A c W h => (specCoinsPut_yes A xs c W h hx hm).mono fun e w' p => got_none h0 p) (fun A c W h => (implCoinsPut_yes A xs c W h hx hm).mono fun e w' p => got_none h0 p)
      · have hlen : (putTo xs 4 0).length ≤ 1000 := by
          obtain ⟨h0, h1, h2, h3⟩ := okP_bnd hx
          have := putTo_length xs (fun i hi => by
            match i, hi with
            | 0, _ => exact h0
            | 1, _ => exact h1
            | 2, _ => exact h2
            | 3, _ => exact h3) 4 (by omega) 0
          omega
        exact walkSome_FnExactCoinsPut A xs c w hr hl (putTo xs 4 0) _ rfl hlen (fun A c W h => (specCoinsPut_yes A xs c W h hx hm).mono fun e w' p => got_some (by omega) p) (fun A c W h => (implCoinsPut_yes A xs c W h hx hm).mono fun e w' p => got_some (by omega) p)
    · exact walkNone_FnExactCoinsPut A xs c w hr hl (fun A c W h => specCoinsPut_many A xs c W h hx (by omega)) (fun A c W h => (implCoinsPut_many A xs c W h hx (by omega)).mono fun e w' p => ⟨⟨_, _, p.1⟩, p.2⟩)

end Go.Proofs.Ytenjpfjbdjgobab

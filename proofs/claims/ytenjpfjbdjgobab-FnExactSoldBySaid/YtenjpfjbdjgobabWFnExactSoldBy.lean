/- The walk of the law FnExactSoldBy: it returns true for all its arguments and writes into nothing that was there. -/
import Derived.Test.YtenjpfjbdjgobabHelpQm
import Derived.Test.YtenjpfjbdjgobabRns2
namespace Go.Proofs.Ytenjpfjbdjgobab
open Go.RowKit

set_option maxHeartbeats 3200000 in
theorem walkNone_FnExactSoldBy (n : Int) (A : Option Addr) (L : List Rs) (c : Nat) (w : World) (hr : QRow w A L) (_hl : L.length ≤ c) (_hc : c ≤ maxLen) (ho : ∀ i, i < L.length → (rs L i).out.length ≤ maxLen)
    (S : ∀ A c W, QRow W A L → Calls Try.prog 7 #[.int .i64 n, .slice A L.length c] W  fun e w' => (∃ B d, e = .returned (.slice B 0 d)) ∧ Below W.heap.size W w') (I : ∀ A c W, QRow W A L → Calls Try.prog 9 #[.int .i64 n, .slice A L.length c] W  fun e w' => e = .returned (.slice none 0 0) ∧ Below W.heap.size W w') :
    Calls Try.prog 3 #[.int .i64 n, .slice A L.length c] w fun e w' => e = .returned (.bool true) ∧ Below w.heap.size w w' := by
  have KS := Lib.hid S; clear S
  have KI := Lib.hid I; clear I
  by_cases hs : ¬ SmallQ L 1048576
  · have KN := Lib.hid (fun W h => szResultS_no A L c 1048576 W h (by unfold SmallQ at hs; omega) (by omega) (by omega) (by omega) ho)
    clear hs _hl _hc ho KS KI
    go_enter Try.func3, Try.ntmps3
    go_wp2_with fail
    refine (KN.out _ (hr.below (by repeat' (first | with_reducible exact Below.refl _ _ | with_reducible assumption | with_reducible apply Below.drew | with_reducible apply below_drewN | (with_reducible refine Below.setCell ?_ ?_ _) | (with_reducible refine Below.alloc ?_ ?_ _) | with_reducible exact Nat.le_refl _ | with_reducible exact Below.size (by assumption) | (simp; done) | (simp; done) | omega | (simp; omega))))).mono ?_
    rintro e w1 ⟨rfl, hb⟩
    have B1 : Below w.heap.size w w1 := Below.trans (by repeat' (first | with_reducible exact Below.refl _ _ | with_reducible assumption | with_reducible apply Below.drew | with_reducible apply below_drewN | (with_reducible refine Below.setCell ?_ ?_ _) | (with_reducible refine Below.alloc ?_ ?_ _) | with_reducible exact Nat.le_refl _ | with_reducible exact Below.size (by assumption) | (simp; done) | (simp; done) | omega | (simp; omega))) (hb.mono (by repeat' (first | with_reducible exact Below.refl _ _ | with_reducible assumption | with_reducible apply Below.drew | with_reducible apply below_drewN | (with_reducible refine Below.setCell ?_ ?_ _) | (with_reducible refine Below.alloc ?_ ?_ _) | with_reducible exact Nat.le_refl _ | with_reducible exact Below.size (by assumption) | (simp; done) | (simp; done) | omega | (simp; omega))))
    clear hb
    go_wp2
    go_ret
    exact ⟨rfl, (by repeat' (first | with_reducible exact Below.refl _ _ | with_reducible assumption | with_reducible apply Below.drew | with_reducible apply below_drewN | (with_reducible refine Below.setCell ?_ ?_ _) | (with_reducible refine Below.alloc ?_ ?_ _) | with_reducible exact Nat.le_refl _ | with_reducible exact Below.size (by assumption) | (simp; done) | (simp; done) | omega | (simp; omega)))⟩
  replace hs : SmallQ L 1048576 := Classical.not_not.1 hs
  have hlen := hs.len
  have KZ := Lib.hid (fun W h => szResultS_yes A L c 1048576 W h (by unfold SmallQ at hs; omega) (by omega))
  have hk : 0 ≤ 1048576 - ((L.length + outTo L L.length : Nat) : Int) := by unfold SmallQ at hs; omega
  generalize 1048576 - ((L.length + outTo L L.length : Nat) : Int) = lft at *
  have KEQ := Lib.hid (fun A B c d W h1 h2 => eqResultS_same A B L L.length c d rfl W h1 h2 hs)
  clear _hl _hc ho
  have KM := Lib.hid (fun g c lo hi T W h => markResultS_any g c lo hi T L 1 W h hs (by omega) (by omega))
  have hpre : (preQ L L.length : Int) ≤ 2097152 := by unfold preQ; unfold SmallQ at hs; omega
  have hpre0 : 0 ≤ 1 + (preQ L L.length : Int) := by omega
  generalize (preQ L L.length : Int) = tot at *
  go_enter Try.func3, Try.ntmps3
  go_wp2_with fail
  refine (KZ.out _ (hr.below (by repeat' (first | with_reducible exact Below.refl _ _ | with_reducible assumption | with_reducible apply Below.drew | with_reducible apply below_drewN | (with_reducible refine Below.setCell ?_ ?_ _) | (with_reducible refine Below.alloc ?_ ?_ _) | with_reducible exact Nat.le_refl _ | with_reducible exact Below.size (by assumption) | (simp; done) | (simp; done) | omega | (simp; omega))))).mono ?_
  rintro e w1 ⟨rfl, b1⟩
  have s1 : Below w.heap.size w w1 := Below.trans (by repeat' (first | with_reducible exact Below.refl _ _ | with_reducible assumption | with_reducible apply Below.drew | with_reducible apply below_drewN | (with_reducible refine Below.setCell ?_ ?_ _) | (with_reducible refine Below.alloc ?_ ?_ _) | with_reducible exact Nat.le_refl _ | with_reducible exact Below.size (by assumption) | (simp; done) | (simp; done) | omega | (simp; omega))) (b1.mono (by repeat' (first | with_reducible exact Below.refl _ _ | with_reducible assumption | with_reducible apply Below.drew | with_reducible apply below_drewN | (with_reducible refine Below.setCell ?_ ?_ _) | (with_reducible refine Below.alloc ?_ ?_ _) | with_reducible exact Nat.le_refl _ | with_reducible exact Below.size (by assumption) | (simp; done) | (simp; done) | omega | (simp; omega))))
  have B1 : Below w.heap.size w w1 := Below.trans (Below.refl w.heap.size w) (s1.mono (by omega))
  have hz1 : w.heap.size ≤ w1.heap.size := B1.size
  have sz1 : w.heap.size ≤ w1.heap.size := s1.size
  clear b1 s1
  go_wp2_with fail
  refine (toResultS_any A L c _ (hr.below (by repeat' (first | with_reducible exact Below.refl _ _ | with_reducible assumption | with_reducible apply Below.drew | with_reducible apply below_drewN | (with_reducible refine Below.setCell ?_ ?_ _) | (with_reducible refine Below.alloc ?_ ?_ _) | with_reducible exact Nat.le_refl _ | with_reducible exact Below.size (by assumption) | (simp; done) | (simp; done) | omega | (simp; omega)))) hs).mono ?_
  rintro e w2 ⟨rfl, q2, b2⟩
  have s2 : Below w1.heap.size w1 w2 := Below.trans (by repeat' (first | with_reducible exact Below.refl _ _ | with_reducible assumption | with_reducible apply Below.drew | with_reducible apply below_drewN | (with_reducible refine Below.setCell ?_ ?_ _) | (with_reducible refine Below.alloc ?_ ?_ _) | with_reducible exact Nat.le_refl _ | with_reducible exact Below.size (by assumption) | (simp; done) | (simp; done) | omega | (simp; omega))) (b2.mono (by repeat' (first | with_reducible exact Below.refl _ _ | with_reducible assumption | with_reducible apply Below.drew | with_reducible apply below_drewN | (with_reducible refine Below.setCell ?_ ?_ _) | (with_reducible refine Below.alloc ?_ ?_ _) | with_reducible exact Nat.le_refl _ | with_reducible exact Below.size (by assumption) | (simp; done) | (simp; done) | omega | (simp; omega))))
  have B2 : Below w.heap.size w w2 := Below.trans B1 (s2.mono (by omega))
  have hz2 : w.heap.size ≤ w2.heap.size := B2.size
  have sz2 : w1.heap.size ≤ w2.heap.size := s2.size
  clear b2 s2
  have l2 := q2.lt
  go_wp2_with fail
  refine (KS.out _ _ _ q2.row).mono ?_
  rintro e w3 ⟨⟨D3, d3, rfl⟩, b3⟩
  have s3 : Below w2.heap.size w2 w3 := Below.trans (by repeat' (first | with_reducible exact Below.refl _ _ | with_reducible assumption | with_reducible apply Below.drew | with_reducible apply below_drewN | (with_reducible refine Below.setCell ?_ ?_ _) | (with_reducible refine Below.alloc ?_ ?_ _) | with_reducible exact Nat.le_refl _ | with_reducible exact Below.size (by assumption) | (simp; done) | (simp; done) | omega | (simp; omega))) (b3.mono (by repeat' (first | with_reducible exact Below.refl _ _ | with_reducible assumption | with_reducible apply Below.drew | with_reducible apply below_drewN | (with_reducible refine Below.setCell ?_ ?_ _) | (with_reducible refine Below.alloc ?_ ?_ _) | with_reducible exact Nat.le_refl _ | with_reducible exact Below.size (by assumption) | (simp; done) | (simp; done) | omega | (simp; omega))))
  have B3 : Below w.heap.size w w3 := Below.trans B2 (s3.mono (by omega))
  have hz3 : w.heap.size ≤ w3.heap.size := B3.size
  have sz3 : w2.heap.size ≤ w3.heap.size := s3.size
  have q2_3 := q2.kept s3 (by omega)
  clear q2
  clear b3 s3
  clear q2_3
  go_wp2_with fail
  refine (toResultS_any A L c _ (hr.below (by repeat' (first | with_reducible exact Below.refl _ _ | with_reducible assumption | with_reducible apply Below.drew | with_reducible apply below_drewN | (with_reducible refine Below.setCell ?_ ?_ _) | (with_reducible refine Below.alloc ?_ ?_ _) | with_reducible exact Nat.le_refl _ | with_reducible exact Below.size (by assumption) | (simp; done) | (simp; done) | omega | (simp; omega)))) hs).mono ?_
  rintro e w4 ⟨rfl, q4, b4⟩
  have s4 : Below w3.heap.size w3 w4 := Below.trans (by repeat' (first | with_reducible exact Below.refl _ _ | with_reducible assumption | with_reducible apply Below.drew | with_reducible apply below_drewN | (with_reducible refine Below.setCell ?_ ?_ _) | (with_reducible refine Below.alloc ?_ ?_ _) | with_reducible exact Nat.le_refl _ | with_reducible exact Below.size (by assumption) | (simp; done) | (simp; done) | omega | (simp; omega))) (b4.mono (by repeat' (first | with_reducible exact Below.refl _ _ | with_reducible assumption | with_reducible apply Below.drew | with_reducible apply below_drewN | (with_reducible refine Below.setCell ?_ ?_ _) | (with_reducible refine Below.alloc ?_ ?_ _) | with_reducible exact Nat.le_refl _ | with_reducible exact Below.size (by assumption) | (simp; done) | (simp; done) | omega | (simp; omega))))
  have B4 : Below w.heap.size w w4 := Below.trans B3 (s4.mono (by omega))
  have hz4 : w.heap.size ≤ w4.heap.size := B4.size
  have sz4 : w3.heap.size ≤ w4.heap.size := s4.size
  clear b4 s4
  have l4 := q4.lt
  go_wp2_with fail
  refine (KI.out _ _ _ q4.row).mono ?_
  rintro e w5 ⟨rfl, b5⟩
  have s5 : Below w4.heap.size w4 w5 := Below.trans (by repeat' (first | with_reducible exact Below.refl _ _ | with_reducible assumption | with_reducible apply Below.drew | with_reducible apply below_drewN | (with_reducible refine Below.setCell ?_ ?_ _) | (with_reducible refine Below.alloc ?_ ?_ _) | with_reducible exact Nat.le_refl _ | with_reducible exact Below.size (by assumption) | (simp; done) | (simp; done) | omega | (simp; omega))) (b5.mono (by repeat' (first | with_reducible exact Below.refl _ _ | with_reducible assumption | with_reducible apply Below.drew | with_reducible apply below_drewN | (with_reducible refine Below.setCell ?_ ?_ _) | (with_reducible refine Below.alloc ?_ ?_ _) | with_reducible exact Nat.le_refl _ | with_reducible exact Below.size (by assumption) | (simp; done) | (simp; done) | omega | (simp; omega))))
  have B5 : Below w.heap.size w w5 := Below.trans B4 (s5.mono (by omega))
  have hz5 : w.heap.size ≤ w5.heap.size := B5.size
  have sz5 : w4.heap.size ≤ w5.heap.size := s5.size
  have q4_5 := q4.kept s5 (by omega)
  clear q4
  clear b5 s5
  go_wp2_with fail
  refine (eqIntS_n _ _ [] 0 _ _ rfl _ (Row.nil _ _ _) (Row.nil _ _ _) (by omega)).mono ?_
  rintro e w6 ⟨rfl, b6⟩
  have s6 : Below w5.heap.size w5 w6 := Below.trans (by repeat' (first | with_reducible exact Below.refl _ _ | with_reducible assumption | with_reducible apply Below.drew | with_reducible apply below_drewN | (with_reducible refine Below.setCell ?_ ?_ _) | (with_reducible refine Below.alloc ?_ ?_ _) | with_reducible exact Nat.le_refl _ | with_reducible exact Below.size (by assumption) | (simp; done) | (simp; done) | omega | (simp; omega))) (b6.mono (by repeat' (first | with_reducible exact Below.refl _ _ | with_reducible assumption | with_reducible apply Below.drew | with_reducible apply below_drewN | (with_reducible refine Below.setCell ?_ ?_ _) | (with_reducible refine Below.alloc ?_ ?_ _) | with_reducible exact Nat.le_refl _ | with_reducible exact Below.size (by assumption) | (simp; done) | (simp; done) | omega | (simp; omega))))
  have B6 : Below w.heap.size w w6 := Below.trans B5 (s6.mono (by omega))
  have hz6 : w.heap.size ≤ w6.heap.size := B6.size
  have sz6 : w5.heap.size ≤ w6.heap.size := s6.size
  have q4_6 := q4_5.kept s6 (by omega)
  clear q4_5
  clear b6 s6
  go_wp2_with fail
  refine (toResultS_any A L c _ (hr.below (by repeat' (first | with_reducible exact Below.refl _ _ | with_reducible assumption | with_reducible apply Below.drew | with_reducible apply below_drewN | (with_reducible refine Below.setCell ?_ ?_ _) | (with_reducible refine Below.alloc ?_ ?_ _) | with_reducible exact Nat.le_refl _ | with_reducible exact Below.size (by assumption) | (simp; done) | (simp; done) | omega | (simp; omega)))) hs).mono ?_
  rintro e w7 ⟨rfl, q7, b7⟩
  have s7 : Below w6.heap.size w6 w7 := Below.trans (by repeat' (first | with_reducible exact Below.refl _ _ | with_reducible assumption | with_reducible apply Below.drew | with_reducible apply below_drewN | (with_reducible refine Below.setCell ?_ ?_ _) | (with_reducible refine Below.alloc ?_ ?_ _) | with_reducible exact Nat.le_refl _ | with_reducible exact Below.size (by assumption) | (simp; done) | (simp; done) | omega | (simp; omega))) (b7.mono (by repeat' (first | with_reducible exact Below.refl _ _ | with_reducible assumption | with_reducible apply Below.drew | with_reducible apply below_drewN | (with_reducible refine Below.setCell ?_ ?_ _) | (with_reducible refine Below.alloc ?_ ?_ _) | with_reducible exact Nat.le_refl _ | with_reducible exact Below.size (by assumption) | (simp; done) | (simp; done) | omega | (simp; omega))))
  have B7 : Below w.heap.size w w7 := Below.trans B6 (s7.mono (by omega))
  have hz7 : w.heap.size ≤ w7.heap.size := B7.size
  have sz7 : w6.heap.size ≤ w7.heap.size := s7.size
  have q4_7 := q4_6.kept s7 (by omega)
  clear q4_6
  clear b7 s7
  have l7 := q7.lt
  go_wp2_with fail
  refine (KEQ.out _ _ _ _ _ q4_7.row q7.row).mono ?_
  rintro e w8 ⟨rfl, b8⟩
  have s8 : Below w7.heap.size w7 w8 := Below.trans (by repeat' (first | with_reducible exact Below.refl _ _ | with_reducible assumption | with_reducible apply Below.drew | with_reducible apply below_drewN | (with_reducible refine Below.setCell ?_ ?_ _) | (with_reducible refine Below.alloc ?_ ?_ _) | with_reducible exact Nat.le_refl _ | with_reducible exact Below.size (by assumption) | (simp; done) | (simp; done) | omega | (simp; omega))) (b8.mono (by repeat' (first | with_reducible exact Below.refl _ _ | with_reducible assumption | with_reducible apply Below.drew | with_reducible apply below_drewN | (with_reducible refine Below.setCell ?_ ?_ _) | (with_reducible refine Below.alloc ?_ ?_ _) | with_reducible exact Nat.le_refl _ | with_reducible exact Below.size (by assumption) | (simp; done) | (simp; done) | omega | (simp; omega))))
  have B8 : Below w.heap.size w w8 := Below.trans B7 (s8.mono (by omega))
  have hz8 : w.heap.size ≤ w8.heap.size := B8.size
  have sz8 : w7.heap.size ≤ w8.heap.size := s8.size
  have q4_8 := q4_7.kept s8 (by omega)
  clear q4_7
  have q7_8 := q7.kept s8 (by omega)
  clear q7
  clear b8 s8
  clear q7_8
  go_wp2_with fail
  refine (KM.out _ _ _ _ _ _ q4_8).mono ?_
  rintro e w9 ⟨rfl, q9, o9⟩
  have O9 := Lib.hid o9; have s9 := o9.1; clear o9
  have B9 : Below w.heap.size w w9 := Below.trans B8 (s9.mono (by omega))
  have hz9 : w.heap.size ≤ w9.heap.size := B9.size
  have sz9 : w8.heap.size ≤ w9.heap.size := s9.size
  clear q4_8
  clear s9
  clear q9
  go_wp2_with fail
  refine (eqIntS_n _ _ [] 0 _ _ rfl _ (Row.nil _ _ _) (Row.nil _ _ _) (by omega)).mono ?_
  rintro e w10 ⟨rfl, b10⟩
  have s10 : Below w9.heap.size w9 w10 := Below.trans (by repeat' (first | with_reducible exact Below.refl _ _ | with_reducible assumption | with_reducible apply Below.drew | with_reducible apply below_drewN | (with_reducible refine Below.setCell ?_ ?_ _) | (with_reducible refine Below.alloc ?_ ?_ _) | with_reducible exact Nat.le_refl _ | with_reducible exact Below.size (by assumption) | (simp; done) | (simp; done) | omega | (simp; omega))) (b10.mono (by repeat' (first | with_reducible exact Below.refl _ _ | with_reducible assumption | with_reducible apply Below.drew | with_reducible apply below_drewN | (with_reducible refine Below.setCell ?_ ?_ _) | (with_reducible refine Below.alloc ?_ ?_ _) | with_reducible exact Nat.le_refl _ | with_reducible exact Below.size (by assumption) | (simp; done) | (simp; done) | omega | (simp; omega))))
  have B10 : Below w.heap.size w w10 := Below.trans B9 (s10.mono (by omega))
  have hz10 : w.heap.size ≤ w10.heap.size := B10.size
  have sz10 : w9.heap.size ≤ w10.heap.size := s10.size
  clear b10 s10
  go_wp2_with fail
  refine (markIntS_none _ _ _ _).mono ?_
  rintro e wq ⟨rfl, rfl⟩
  go_wp2_with fail
  refine (heldIntS_none _ _ _ _).mono ?_
  rintro e wq ⟨rfl, rfl⟩
  go_wp2_with fail
  refine (toResultS_any A L c _ (hr.below (by repeat' (first | with_reducible exact Below.refl _ _ | with_reducible assumption | with_reducible apply Below.drew | with_reducible apply below_drewN | (with_reducible refine Below.setCell ?_ ?_ _) | (with_reducible refine Below.alloc ?_ ?_ _) | with_reducible exact Nat.le_refl _ | with_reducible exact Below.size (by assumption) | (simp; done) | (simp; done) | omega | (simp; omega)))) hs).mono ?_
  rintro e w11 ⟨rfl, q11, b11⟩
  have s11 : Below w10.heap.size w10 w11 := Below.trans (by repeat' (first | with_reducible exact Below.refl _ _ | with_reducible assumption | with_reducible apply Below.drew | with_reducible apply below_drewN | (with_reducible refine Below.setCell ?_ ?_ _) | (with_reducible refine Below.alloc ?_ ?_ _) | with_reducible exact Nat.le_refl _ | with_reducible exact Below.size (by assumption) | (simp; done) | (simp; done) | omega | (simp; omega))) (b11.mono (by repeat' (first | with_reducible exact Below.refl _ _ | with_reducible assumption | with_reducible apply Below.drew | with_reducible apply below_drewN | (with_reducible refine Below.setCell ?_ ?_ _) | (with_reducible refine Below.alloc ?_ ?_ _) | with_reducible exact Nat.le_refl _ | with_reducible exact Below.size (by assumption) | (simp; done) | (simp; done) | omega | (simp; omega))))
  have B11 : Below w.heap.size w w11 := Below.trans B10 (s11.mono (by omega))
  have hz11 : w.heap.size ≤ w11.heap.size := B11.size
  have sz11 : w10.heap.size ≤ w11.heap.size := s11.size
  clear b11 s11
  have l11 := q11.lt
  go_wp2_with fail
  refine (KI.out _ _ _ q11.row).mono ?_
  rintro e w12 ⟨rfl, b12⟩
  have s12 : Below w11.heap.size w11 w12 := Below.trans (by repeat' (first | with_reducible exact Below.refl _ _ | with_reducible assumption | with_reducible apply Below.drew | with_reducible apply below_drewN | (with_reducible refine Below.setCell ?_ ?_ _) | (with_reducible refine Below.alloc ?_ ?_ _) | with_reducible exact Nat.le_refl _ | with_reducible exact Below.size (by assumption) | (simp; done) | (simp; done) | omega | (simp; omega))) (b12.mono (by repeat' (first | with_reducible exact Below.refl _ _ | with_reducible assumption | with_reducible apply Below.drew | with_reducible apply below_drewN | (with_reducible refine Below.setCell ?_ ?_ _) | (with_reducible refine Below.alloc ?_ ?_ _) | with_reducible exact Nat.le_refl _ | with_reducible exact Below.size (by assumption) | (simp; done) | (simp; done) | omega | (simp; omega))))
  have B12 : Below w.heap.size w w12 := Below.trans B11 (s12.mono (by omega))
  have hz12 : w.heap.size ≤ w12.heap.size := B12.size
  have sz12 : w11.heap.size ≤ w12.heap.size := s12.size
  have q11_12 := q11.kept s12 (by omega)
  clear q11
  clear b12 s12
  clear q11_12
  go_wp2_with fail
  refine (eqIntS_n _ _ [] 0 _ _ rfl _ (Row.nil _ _ _) (Row.nil _ _ _) (by omega)).mono ?_
  rintro e w13 ⟨rfl, b13⟩
  have s13 : Below w12.heap.size w12 w13 := Below.trans (by repeat' (first | with_reducible exact Below.refl _ _ | with_reducible assumption | with_reducible apply Below.drew | with_reducible apply below_drewN | (with_reducible refine Below.setCell ?_ ?_ _) | (with_reducible refine Below.alloc ?_ ?_ _) | with_reducible exact Nat.le_refl _ | with_reducible exact Below.size (by assumption) | (simp; done) | (simp; done) | omega | (simp; omega))) (b13.mono (by repeat' (first | with_reducible exact Below.refl _ _ | with_reducible assumption | with_reducible apply Below.drew | with_reducible apply below_drewN | (with_reducible refine Below.setCell ?_ ?_ _) | (with_reducible refine Below.alloc ?_ ?_ _) | with_reducible exact Nat.le_refl _ | with_reducible exact Below.size (by assumption) | (simp; done) | (simp; done) | omega | (simp; omega))))
  have B13 : Below w.heap.size w w13 := Below.trans B12 (s13.mono (by omega))
  have hz13 : w.heap.size ≤ w13.heap.size := B13.size
  have sz13 : w12.heap.size ≤ w13.heap.size := s13.size
  clear b13 s13
  go_wp2_with fail
  refine (heldIntS_none _ _ _ _).mono ?_
  rintro e wq ⟨rfl, rfl⟩
  go_wp2
  go_ret
  exact ⟨rfl, (by repeat' (first | with_reducible exact Below.refl _ _ | with_reducible assumption | with_reducible apply Below.drew | with_reducible apply below_drewN | (with_reducible refine Below.setCell ?_ ?_ _) | (with_reducible refine Below.alloc ?_ ?_ _) | with_reducible exact Nat.le_refl _ | with_reducible exact Below.size (by assumption) | (simp; done) | (simp; done) | omega | (simp; omega)))⟩

set_option maxHeartbeats 3200000 in
theorem walkSome_FnExactSoldBy (n : Int) (A : Option Addr) (L : List Rs) (c : Nat) (w : World) (hr : QRow w A L) (_hl : L.length ≤ c) (_hc : c ≤ maxLen) (ho : ∀ i, i < L.length → (rs L i).out.length ≤ maxLen) (xs : List Int) (N : Nat) (hx : xs.length = N) (hN : N ≤ 3)
    (S : ∀ A c W, QRow W A L → Calls Try.prog 7 #[.int .i64 n, .slice A L.length c] W  fun e w' => ∃ g, e = .returned (.slice (some ⟨g, 0, none⟩) N N) ∧ Blk w' g 3 (cellsOf xs) ∧ Below W.heap.size W w') (I : ∀ A c W, QRow W A L → Calls Try.prog 9 #[.int .i64 n, .slice A L.length c] W  fun e w' => ∃ g, e = .returned (.slice (some ⟨g, 0, none⟩) N N) ∧ Blk w' g 3 (cellsOf xs) ∧ W.heap.size ≤ g ∧ Below W.heap.size W w') :
    Calls Try.prog 3 #[.int .i64 n, .slice A L.length c] w fun e w' => e = .returned (.bool true) ∧ Below w.heap.size w w' := by
  have KS := Lib.hid S; clear S
  have KI := Lib.hid I; clear I
  by_cases hs : ¬ SmallQ L 1048576
  · have KN := Lib.hid (fun W h => szResultS_no A L c 1048576 W h (by unfold SmallQ at hs; omega) (by omega) (by omega) (by omega) ho)
    clear hs _hl _hc ho KS KI hN hx
    go_enter Try.func3, Try.ntmps3
    go_wp2_with fail
    refine (KN.out _ (hr.below (by repeat' (first | with_reducible exact Below.refl _ _ | with_reducible assumption | with_reducible apply Below.drew | with_reducible apply below_drewN | (with_reducible refine Below.setCell ?_ ?_ _) | (with_reducible refine Below.alloc ?_ ?_ _) | with_reducible exact Nat.le_refl _ | with_reducible exact Below.size (by assumption) | (simp; done) | (simp; done) | omega | (simp; omega))))).mono ?_
    rintro e w1 ⟨rfl, hb⟩
    have B1 : Below w.heap.size w w1 := Below.trans (by repeat' (first | with_reducible exact Below.refl _ _ | with_reducible assumption | with_reducible apply Below.drew | with_reducible apply below_drewN | (with_reducible refine Below.setCell ?_ ?_ _) | (with_reducible refine Below.alloc ?_ ?_ _) | with_reducible exact Nat.le_refl _ | with_reducible exact Below.size (by assumption) | (simp; done) | (simp; done) | omega | (simp; omega))) (hb.mono (by repeat' (first | with_reducible exact Below.refl _ _ | with_reducible assumption | with_reducible apply Below.drew | with_reducible apply below_drewN | (with_reducible refine Below.setCell ?_ ?_ _) | (with_reducible refine Below.alloc ?_ ?_ _) | with_reducible exact Nat.le_refl _ | with_reducible exact Below.size (by assumption) | (simp; done) | (simp; done) | omega | (simp; omega))))
    clear hb
    go_wp2
    go_ret
    exact ⟨rfl, (by repeat' (first | with_reducible exact Below.refl _ _ | with_reducible assumption | with_reducible apply Below.drew | with_reducible apply below_drewN | (with_reducible refine Below.setCell ?_ ?_ _) | (with_reducible refine Below.alloc ?_ ?_ _) | with_reducible exact Nat.le_refl _ | with_reducible exact Below.size (by assumption) | (simp; done) | (simp; done) | omega | (simp; omega)))⟩
  replace hs : SmallQ L 1048576 := Classical.not_not.1 hs
  have hlen := hs.len
  have KZ := Lib.hid (fun W h => szResultS_yes A L c 1048576 W h (by unfold SmallQ at hs; omega) (by omega))
  have hk : 0 ≤ 1048576 - ((L.length + outTo L L.length : Nat) : Int) := by unfold SmallQ at hs; omega
  generalize 1048576 - ((L.length + outTo L L.length : Nat) : Int) = lft at *
  have KEQ := Lib.hid (fun A B c d W h1 h2 => eqResultS_same A B L L.length c d rfl W h1 h2 hs)
  clear _hl _hc ho
  have KM := Lib.hid (fun g c lo hi T W h => markResultS_any g c lo hi T L 1 W h hs (by omega) (by omega))
  have hpre : (preQ L L.length : Int) ≤ 2097152 := by unfold preQ; unfold SmallQ at hs; omega
  have hpre0 : 0 ≤ 1 + (preQ L L.length : Int) := by omega
  generalize (preQ L L.length : Int) = tot at *
  have HX := Lib.hid hx
  have HXC : Hid ((cellsOf xs).size = N) := Lib.hid (by rw [cellsOf_size, hx])
  clear hx
  have hN0 : N ≤ 1048576 := by omega
  go_enter Try.func3, Try.ntmps3
  go_wp2_with fail
  refine (KZ.out _ (hr.below (by repeat' (first | with_reducible exact Below.refl _ _ | with_reducible assumption | with_reducible apply Below.drew | with_reducible apply below_drewN | (with_reducible refine Below.setCell ?_ ?_ _) | (with_reducible refine Below.alloc ?_ ?_ _) | with_reducible exact Nat.le_refl _ | with_reducible exact Below.size (by assumption) | (simp; done) | (simp; done) | omega | (simp; omega))))).mono ?_
  rintro e w1 ⟨rfl, b1⟩
  have s1 : Below w.heap.size w w1 := Below.trans (by repeat' (first | with_reducible exact Below.refl _ _ | with_reducible assumption | with_reducible apply Below.drew | with_reducible apply below_drewN | (with_reducible refine Below.setCell ?_ ?_ _) | (with_reducible refine Below.alloc ?_ ?_ _) | with_reducible exact Nat.le_refl _ | with_reducible exact Below.size (by assumption) | (simp; done) | (simp; done) | omega | (simp; omega))) (b1.mono (by repeat' (first | with_reducible exact Below.refl _ _ | with_reducible assumption | with_reducible apply Below.drew | with_reducible apply below_drewN | (with_reducible refine Below.setCell ?_ ?_ _) | (with_reducible refine Below.alloc ?_ ?_ _) | with_reducible exact Nat.le_refl _ | with_reducible exact Below.size (by assumption) | (simp; done) | (simp; done) | omega | (simp; omega))))
  have B1 : Below w.heap.size w w1 := Below.trans (Below.refl w.heap.size w) (s1.mono (by omega))
  have hz1 : w.heap.size ≤ w1.heap.size := B1.size
  have sz1 : w.heap.size ≤ w1.heap.size := s1.size
  clear b1 s1
  go_wp2_with fail
  refine (toResultS_any A L c _ (hr.below (by repeat' (first | with_reducible exact Below.refl _ _ | with_reducible assumption | with_reducible apply Below.drew | with_reducible apply below_drewN | (with_reducible refine Below.setCell ?_ ?_ _) | (with_reducible refine Below.alloc ?_ ?_ _) | with_reducible exact Nat.le_refl _ | with_reducible exact Below.size (by assumption) | (simp; done) | (simp; done) | omega | (simp; omega)))) hs).mono ?_
  rintro e w2 ⟨rfl, q2, b2⟩
  have s2 : Below w1.heap.size w1 w2 := Below.trans (by repeat' (first | with_reducible exact Below.refl _ _ | with_reducible assumption | with_reducible apply Below.drew | with_reducible apply below_drewN | (with_reducible refine Below.setCell ?_ ?_ _) | (with_reducible refine Below.alloc ?_ ?_ _) | with_reducible exact Nat.le_refl _ | with_reducible exact Below.size (by assumption) | (simp; done) | (simp; done) | omega | (simp; omega))) (b2.mono (by repeat' (first | with_reducible exact Below.refl _ _ | with_reducible assumption | with_reducible apply Below.drew | with_reducible apply below_drewN | (with_reducible refine Below.setCell ?_ ?_ _) | (with_reducible refine Below.alloc ?_ ?_ _) | with_reducible exact Nat.le_refl _ | with_reducible exact Below.size (by assumption) | (simp; done) | (simp; done) | omega | (simp; omega))))
  have B2 : Below w.heap.size w w2 := Below.trans B1 (s2.mono (by omega))
  have hz2 : w.heap.size ≤ w2.heap.size := B2.size
  have sz2 : w1.heap.size ≤ w2.heap.size := s2.size
  clear b2 s2
  have l2 := q2.lt
  go_wp2_with fail
  refine (KS.out _ _ _ q2.row).mono ?_
  rintro e w3 ⟨g3, rfl, p3, b3⟩
  have s3 : Below w2.heap.size w2 w3 := Below.trans (by repeat' (first | with_reducible exact Below.refl _ _ | with_reducible assumption | with_reducible apply Below.drew | with_reducible apply below_drewN | (with_reducible refine Below.setCell ?_ ?_ _) | (with_reducible refine Below.alloc ?_ ?_ _) | with_reducible exact Nat.le_refl _ | with_reducible exact Below.size (by assumption) | (simp; done) | (simp; done) | omega | (simp; omega))) (b3.mono (by repeat' (first | with_reducible exact Below.refl _ _ | with_reducible assumption | with_reducible apply Below.drew | with_reducible apply below_drewN | (with_reducible refine Below.setCell ?_ ?_ _) | (with_reducible refine Below.alloc ?_ ?_ _) | with_reducible exact Nat.le_refl _ | with_reducible exact Below.size (by assumption) | (simp; done) | (simp; done) | omega | (simp; omega))))
  have B3 : Below w.heap.size w w3 := Below.trans B2 (s3.mono (by omega))
  have hz3 : w.heap.size ≤ w3.heap.size := B3.size
  have sz3 : w2.heap.size ≤ w3.heap.size := s3.size
  have q2_3 := q2.kept s3 (by omega)
  clear q2
  clear b3 s3
  clear q2_3
  have l3 := p3.lt
  go_wp2_with fail
  refine (toResultS_any A L c _ (hr.below (by repeat' (first | with_reducible exact Below.refl _ _ | with_reducible assumption | with_reducible apply Below.drew | with_reducible apply below_drewN | (with_reducible refine Below.setCell ?_ ?_ _) | (with_reducible refine Below.alloc ?_ ?_ _) | with_reducible exact Nat.le_refl _ | with_reducible exact Below.size (by assumption) | (simp; done) | (simp; done) | omega | (simp; omega)))) hs).mono ?_
  rintro e w4 ⟨rfl, q4, b4⟩
  have s4 : Below w3.heap.size w3 w4 := Below.trans (by repeat' (first | with_reducible exact Below.refl _ _ | with_reducible assumption | with_reducible apply Below.drew | with_reducible apply below_drewN | (with_reducible refine Below.setCell ?_ ?_ _) | (with_reducible refine Below.alloc ?_ ?_ _) | with_reducible exact Nat.le_refl _ | with_reducible exact Below.size (by assumption) | (simp; done) | (simp; done) | omega | (simp; omega))) (b4.mono (by repeat' (first | with_reducible exact Below.refl _ _ | with_reducible assumption | with_reducible apply Below.drew | with_reducible apply below_drewN | (with_reducible refine Below.setCell ?_ ?_ _) | (with_reducible refine Below.alloc ?_ ?_ _) | with_reducible exact Nat.le_refl _ | with_reducible exact Below.size (by assumption) | (simp; done) | (simp; done) | omega | (simp; omega))))
  have B4 : Below w.heap.size w w4 := Below.trans B3 (s4.mono (by omega))
  have hz4 : w.heap.size ≤ w4.heap.size := B4.size
  have sz4 : w3.heap.size ≤ w4.heap.size := s4.size
  have p3_4 := p3.kept s4
  clear p3
  clear b4 s4
  have l4 := q4.lt
  go_wp2_with fail
  refine (KI.out _ _ _ q4.row).mono ?_
  rintro e w5 ⟨g5, rfl, p5, hg5, b5⟩
  have s5 : Below w4.heap.size w4 w5 := Below.trans (by repeat' (first | with_reducible exact Below.refl _ _ | with_reducible assumption | with_reducible apply Below.drew | with_reducible apply below_drewN | (with_reducible refine Below.setCell ?_ ?_ _) | (with_reducible refine Below.alloc ?_ ?_ _) | with_reducible exact Nat.le_refl _ | with_reducible exact Below.size (by assumption) | (simp; done) | (simp; done) | omega | (simp; omega))) (b5.mono (by repeat' (first | with_reducible exact Below.refl _ _ | with_reducible assumption | with_reducible apply Below.drew | with_reducible apply below_drewN | (with_reducible refine Below.setCell ?_ ?_ _) | (with_reducible refine Below.alloc ?_ ?_ _) | with_reducible exact Nat.le_refl _ | with_reducible exact Below.size (by assumption) | (simp; done) | (simp; done) | omega | (simp; omega))))
  have B5 : Below w.heap.size w w5 := Below.trans B4 (s5.mono (by omega))
  have hz5 : w.heap.size ≤ w5.heap.size := B5.size
  have sz5 : w4.heap.size ≤ w5.heap.size := s5.size
  have p3_5 := p3_4.kept s5
  clear p3_4
  have q4_5 := q4.kept s5 (by omega)
  clear q4
  clear b5 s5
  have l5 := p5.lt
  go_wp2_with fail
  refine (eqIntS_n _ _ xs N _ _ HX.out _ p5.row p3_5.row hN0).mono ?_
  rintro e w6 ⟨rfl, b6⟩
  have s6 : Below w5.heap.size w5 w6 := Below.trans (by repeat' (first | with_reducible exact Below.refl _ _ | with_reducible assumption | with_reducible apply Below.drew | with_reducible apply below_drewN | (with_reducible refine Below.setCell ?_ ?_ _) | (with_reducible refine Below.alloc ?_ ?_ _) | with_reducible exact Nat.le_refl _ | with_reducible exact Below.size (by assumption) | (simp; done) | (simp; done) | omega | (simp; omega))) (b6.mono (by repeat' (first | with_reducible exact Below.refl _ _ | with_reducible assumption | with_reducible apply Below.drew | with_reducible apply below_drewN | (with_reducible refine Below.setCell ?_ ?_ _) | (with_reducible refine Below.alloc ?_ ?_ _) | with_reducible exact Nat.le_refl _ | with_reducible exact Below.size (by assumption) | (simp; done) | (simp; done) | omega | (simp; omega))))
  have B6 : Below w.heap.size w w6 := Below.trans B5 (s6.mono (by omega))
  have hz6 : w.heap.size ≤ w6.heap.size := B6.size
  have sz6 : w5.heap.size ≤ w6.heap.size := s6.size
  have p3_6 := p3_5.kept s6
  clear p3_5
  have q4_6 := q4_5.kept s6 (by omega)
  clear q4_5
  have p5_6 := p5.kept s6
  clear p5
  clear b6 s6
  go_wp2_with fail
  refine (toResultS_any A L c _ (hr.below (by repeat' (first | with_reducible exact Below.refl _ _ | with_reducible assumption | with_reducible apply Below.drew | with_reducible apply below_drewN | (with_reducible refine Below.setCell ?_ ?_ _) | (with_reducible refine Below.alloc ?_ ?_ _) | with_reducible exact Nat.le_refl _ | with_reducible exact Below.size (by assumption) | (simp; done) | (simp; done) | omega | (simp; omega)))) hs).mono ?_
  rintro e w7 ⟨rfl, q7, b7⟩
  have s7 : Below w6.heap.size w6 w7 := Below.trans (by repeat' (first | with_reducible exact Below.refl _ _ | with_reducible assumption | with_reducible apply Below.drew | with_reducible apply below_drewN | (with_reducible refine Below.setCell ?_ ?_ _) | (with_reducible refine Below.alloc ?_ ?_ _) | with_reducible exact Nat.le_refl _ | with_reducible exact Below.size (by assumption) | (simp; done) | (simp; done) | omega | (simp; omega))) (b7.mono (by repeat' (first | with_reducible exact Below.refl _ _ | with_reducible assumption | with_reducible apply Below.drew | with_reducible apply below_drewN | (with_reducible refine Below.setCell ?_ ?_ _) | (with_reducible refine Below.alloc ?_ ?_ _) | with_reducible exact Nat.le_refl _ | with_reducible exact Below.size (by assumption) | (simp; done) | (simp; done) | omega | (simp; omega))))
  have B7 : Below w.heap.size w w7 := Below.trans B6 (s7.mono (by omega))
  have hz7 : w.heap.size ≤ w7.heap.size := B7.size
  have sz7 : w6.heap.size ≤ w7.heap.size := s7.size
  have p3_7 := p3_6.kept s7
  clear p3_6
  have q4_7 := q4_6.kept s7 (by omega)
  clear q4_6
  have p5_7 := p5_6.kept s7
  clear p5_6
  clear b7 s7
  have l7 := q7.lt
  go_wp2_with fail
  refine (KEQ.out _ _ _ _ _ q4_7.row q7.row).mono ?_
  rintro e w8 ⟨rfl, b8⟩
  have s8 : Below w7.heap.size w7 w8 := Below.trans (by repeat' (first | with_reducible exact Below.refl _ _ | with_reducible assumption | with_reducible apply Below.drew | with_reducible apply below_drewN | (with_reducible refine Below.setCell ?_ ?_ _) | (with_reducible refine Below.alloc ?_ ?_ _) | with_reducible exact Nat.le_refl _ | with_reducible exact Below.size (by assumption) | (simp; done) | (simp; done) | omega | (simp; omega))) (b8.mono (by repeat' (first | with_reducible exact Below.refl _ _ | with_reducible assumption | with_reducible apply Below.drew | with_reducible apply below_drewN | (with_reducible refine Below.setCell ?_ ?_ _) | (with_reducible refine Below.alloc ?_ ?_ _) | with_reducible exact Nat.le_refl _ | with_reducible exact Below.size (by assumption) | (simp; done) | (simp; done) | omega | (simp; omega))))
  have B8 : Below w.heap.size w w8 := Below.trans B7 (s8.mono (by omega))
  have hz8 : w.heap.size ≤ w8.heap.size := B8.size
  have sz8 : w7.heap.size ≤ w8.heap.size := s8.size
  have p3_8 := p3_7.kept s8
  clear p3_7
  have q4_8 := q4_7.kept s8 (by omega)
  clear q4_7
  have p5_8 := p5_7.kept s8
  clear p5_7
  have q7_8 := q7.kept s8 (by omega)
  clear q7
  clear b8 s8
  clear q7_8
  go_wp2_with fail
  refine (KM.out _ _ _ _ _ _ q4_8).mono ?_
  rintro e w9 ⟨rfl, q9, o9⟩
  have O9 := Lib.hid o9; have s9 := o9.1; clear o9
  have B9 : Below w.heap.size w w9 := Below.trans B8 (s9.mono (by omega))
  have hz9 : w.heap.size ≤ w9.heap.size := B9.size
  have sz9 : w8.heap.size ≤ w9.heap.size := s9.size
  have p3_9 := p3_8.outsq O9.out (by omega)
  clear p3_8
  clear q4_8
  have p5_9 := p5_8.outsq O9.out (by omega)
  clear p5_8
  clear s9
  clear q9
  go_wp2_with fail
  refine (eqIntS_n _ _ xs N _ _ HX.out _ p5_9.row p3_9.row hN0).mono ?_
  rintro e w10 ⟨rfl, b10⟩
  have s10 : Below w9.heap.size w9 w10 := Below.trans (by repeat' (first | with_reducible exact Below.refl _ _ | with_reducible assumption | with_reducible apply Below.drew | with_reducible apply below_drewN | (with_reducible refine Below.setCell ?_ ?_ _) | (with_reducible refine Below.alloc ?_ ?_ _) | with_reducible exact Nat.le_refl _ | with_reducible exact Below.size (by assumption) | (simp; done) | (simp; done) | omega | (simp; omega))) (b10.mono (by repeat' (first | with_reducible exact Below.refl _ _ | with_reducible assumption | with_reducible apply Below.drew | with_reducible apply below_drewN | (with_reducible refine Below.setCell ?_ ?_ _) | (with_reducible refine Below.alloc ?_ ?_ _) | with_reducible exact Nat.le_refl _ | with_reducible exact Below.size (by assumption) | (simp; done) | (simp; done) | omega | (simp; omega))))
  have B10 : Below w.heap.size w w10 := Below.trans B9 (s10.mono (by omega))
  have hz10 : w.heap.size ≤ w10.heap.size := B10.size
  have sz10 : w9.heap.size ≤ w10.heap.size := s10.size
  have p3_10 := p3_9.kept s10
  clear p3_9
  have p5_10 := p5_9.kept s10
  clear p5_9
  clear b10 s10
  go_wp2_with fail
  refine (markIntS_any _ N _ 1 _ _ _ p5_10 HXC.out hN0 (by omega) (by omega)).mono ?_
  rintro e w11 ⟨rfl, ⟨cs11, q11, m11⟩, s11, o11⟩
  have O11 := Lib.hid o11; clear o11
  have B11 : Below w.heap.size w w11 := Below.trans B10 (s11.mono (by omega))
  have hz11 : w.heap.size ≤ w11.heap.size := B11.size
  have sz11 : w10.heap.size ≤ w11.heap.size := s11.size
  have p3_11 := p3_10.other O11.out (by omega)
  clear p3_10
  clear p5_10
  clear s11
  go_wp2_with fail
  refine (heldIntS_n _ (marks N) N _ (marks_length _) _ (m11.row q11) hN0 (fun i hi => marks_get hi)).mono ?_
  rintro e wq ⟨rfl, rfl⟩
  go_wp2_with fail
  refine (toResultS_any A L c _ (hr.below (by repeat' (first | with_reducible exact Below.refl _ _ | with_reducible assumption | with_reducible apply Below.drew | with_reducible apply below_drewN | (with_reducible refine Below.setCell ?_ ?_ _) | (with_reducible refine Below.alloc ?_ ?_ _) | with_reducible exact Nat.le_refl _ | with_reducible exact Below.size (by assumption) | (simp; done) | (simp; done) | omega | (simp; omega)))) hs).mono ?_
  rintro e w12 ⟨rfl, q12, b12⟩
  have s12 : Below w11.heap.size w11 w12 := Below.trans (by repeat' (first | with_reducible exact Below.refl _ _ | with_reducible assumption | with_reducible apply Below.drew | with_reducible apply below_drewN | (with_reducible refine Below.setCell ?_ ?_ _) | (with_reducible refine Below.alloc ?_ ?_ _) | with_reducible exact Nat.le_refl _ | with_reducible exact Below.size (by assumption) | (simp; done) | (simp; done) | omega | (simp; omega))) (b12.mono (by repeat' (first | with_reducible exact Below.refl _ _ | with_reducible assumption | with_reducible apply Below.drew | with_reducible apply below_drewN | (with_reducible refine Below.setCell ?_ ?_ _) | (with_reducible refine Below.alloc ?_ ?_ _) | with_reducible exact Nat.le_refl _ | with_reducible exact Below.size (by assumption) | (simp; done) | (simp; done) | omega | (simp; omega))))
  have B12 : Below w.heap.size w w12 := Below.trans B11 (s12.mono (by omega))
  have hz12 : w.heap.size ≤ w12.heap.size := B12.size
  have sz12 : w11.heap.size ≤ w12.heap.size := s12.size
  have p3_12 := p3_11.kept s12
  clear p3_11
  have q11_12 := q11.kept s12
  clear q11
  clear b12 s12
  have l12 := q12.lt
  go_wp2_with fail
  refine (KI.out _ _ _ q12.row).mono ?_
  rintro e w13 ⟨g13, rfl, p13, hg13, b13⟩
  have s13 : Below w12.heap.size w12 w13 := Below.trans (by repeat' (first | with_reducible exact Below.refl _ _ | with_reducible assumption | with_reducible apply Below.drew | with_reducible apply below_drewN | (with_reducible refine Below.setCell ?_ ?_ _) | (with_reducible refine Below.alloc ?_ ?_ _) | with_reducible exact Nat.le_refl _ | with_reducible exact Below.size (by assumption) | (simp; done) | (simp; done) | omega | (simp; omega))) (b13.mono (by repeat' (first | with_reducible exact Below.refl _ _ | with_reducible assumption | with_reducible apply Below.drew | with_reducible apply below_drewN | (with_reducible refine Below.setCell ?_ ?_ _) | (with_reducible refine Below.alloc ?_ ?_ _) | with_reducible exact Nat.le_refl _ | with_reducible exact Below.size (by assumption) | (simp; done) | (simp; done) | omega | (simp; omega))))
  have B13 : Below w.heap.size w w13 := Below.trans B12 (s13.mono (by omega))
  have hz13 : w.heap.size ≤ w13.heap.size := B13.size
  have sz13 : w12.heap.size ≤ w13.heap.size := s13.size
  have p3_13 := p3_12.kept s13
  clear p3_12
  have q11_13 := q11_12.kept s13
  clear q11_12
  have q12_13 := q12.kept s13 (by omega)
  clear q12
  clear b13 s13
  clear q12_13
  have l13 := p13.lt
  go_wp2_with fail
  refine (eqIntS_n _ _ xs N _ _ HX.out _ p13.row p3_13.row hN0).mono ?_
  rintro e w14 ⟨rfl, b14⟩
  have s14 : Below w13.heap.size w13 w14 := Below.trans (by repeat' (first | with_reducible exact Below.refl _ _ | with_reducible assumption | with_reducible apply Below.drew | with_reducible apply below_drewN | (with_reducible refine Below.setCell ?_ ?_ _) | (with_reducible refine Below.alloc ?_ ?_ _) | with_reducible exact Nat.le_refl _ | with_reducible exact Below.size (by assumption) | (simp; done) | (simp; done) | omega | (simp; omega))) (b14.mono (by repeat' (first | with_reducible exact Below.refl _ _ | with_reducible assumption | with_reducible apply Below.drew | with_reducible apply below_drewN | (with_reducible refine Below.setCell ?_ ?_ _) | (with_reducible refine Below.alloc ?_ ?_ _) | with_reducible exact Nat.le_refl _ | with_reducible exact Below.size (by assumption) | (simp; done) | (simp; done) | omega | (simp; omega))))
  have B14 : Below w.heap.size w w14 := Below.trans B13 (s14.mono (by omega))
  have hz14 : w.heap.size ≤ w14.heap.size := B14.size
  have sz14 : w13.heap.size ≤ w14.heap.size := s14.size
  have p3_14 := p3_13.kept s14
  clear p3_13
  have q11_14 := q11_13.kept s14
  clear q11_13
  have p13_14 := p13.kept s14
  clear p13
  clear b14 s14
  go_wp2_with fail
  refine (heldIntS_n _ (marks N) N _ (marks_length _) _ (m11.row q11_14) hN0 (fun i hi => marks_get hi)).mono ?_
  rintro e wq ⟨rfl, rfl⟩
  go_wp2
  go_ret
  exact ⟨rfl, (by repeat' (first | with_reducible exact Below.refl _ _ | with_reducible assumption | with_reducible apply Below.drew | with_reducible apply below_drewN | (with_reducible refine Below.setCell ?_ ?_ _) | (with_reducible refine Below.alloc ?_ ?_ _) | with_reducible exact Nat.le_refl _ | with_reducible exact Below.size (by assumption) | (simp; done) | (simp; done) | omega | (simp; omega)))⟩

theorem walk_FnExactSoldBy (n : Int) (A : Option Addr) (L : List Rs) (c : Nat) (w : World) (hn : (Lit.int .i64 n).wf = true) (hr : QRow w A L) (_hl : L.length ≤ c) (_hc : c ≤ maxLen) (ho : ∀ i, i < L.length → (rs L i).out.length ≤ maxLen) :
    Calls Try.prog 3 #[.int .i64 n, .slice A L.length c] w fun e w' => e = .returned (.bool true) ∧ Below w.heap.size w w' := by
  by_cases hb : SmallQ L 1048576
  · by_cases hn3 : 0 ≤ n ∧ n ≤ 3
    · obtain ⟨N, rfl⟩ := Int.eq_ofNat_of_zero_le hn3.1
      by_cases ho2 : soldOk N L
      · exact walkSome_FnExactSoldBy (N : Int) A L c w hr _hl _hc ho (soldTo N L L.length) N (soldTo_length _ _ _) (by omega)
          (fun A c W h => (specSoldBy_in A L c N W h hb.len (by omega)).mono fun e w' p => by
            rcases p with ⟨⟨_, g, h1, h2⟩ | ⟨h1, _⟩, h3⟩
            · exact ⟨g, h1, h2, h3⟩
            · exact absurd ho2 h1)
          (fun A c W h => (implSoldBy_in A L c N W h hb.len (by omega)).mono fun e w' p => by
            rcases p with ⟨⟨_, h1, h2⟩ | ⟨h1, _⟩, h3⟩
            · exact ⟨_, h1, h2, Nat.le_refl _, h3⟩
            · exact absurd ho2 h1)
      · exact walkNone_FnExactSoldBy (N : Int) A L c w hr _hl _hc ho
          (fun A c W h => (specSoldBy_in A L c N W h hb.len (by omega)).mono fun e w' p => by
            rcases p with ⟨⟨h1, _⟩ | ⟨_, h2⟩, h3⟩
            · exact absurd h1 ho2
            · exact ⟨h2, h3⟩)
          (fun A c W h => (implSoldBy_in A L c N W h hb.len (by omega)).mono fun e w' p => by
            rcases p with ⟨⟨h1, _⟩ | ⟨_, h2⟩, h3⟩
            · exact absurd h1 ho2
            · exact ⟨h2, h3⟩)
    · exact walkNone_FnExactSoldBy n A L c w hr _hl _hc ho (fun A c W h => specSoldBy_out A L c n W (by omega)) (fun A c W h => implSoldBy_out A L c n W (by omega))
  · have KN := Lib.hid (fun W h => szResultS_no A L c 1048576 W h (by unfold SmallQ at hb; omega) (by omega) (by omega) (by omega) ho)
    clear hb _hl _hc ho hn
    go_enter Try.func3, Try.ntmps3
    go_wp2_with fail
    refine (KN.out _ (hr.below (by repeat' (first | with_reducible exact Below.refl _ _ | with_reducible assumption | with_reducible apply Below.drew | with_reducible apply below_drewN | (with_reducible refine Below.setCell ?_ ?_ _) | (with_reducible refine Below.alloc ?_ ?_ _) | with_reducible exact Nat.le_refl _ | with_reducible exact Below.size (by assumption) | (simp; done) | (simp; done) | omega | (simp; omega))))).mono ?_
    rintro e w1 ⟨rfl, hb⟩
    have B1 : Below w.heap.size w w1 := Below.trans (by repeat' (first | with_reducible exact Below.refl _ _ | with_reducible assumption | with_reducible apply Below.drew | with_reducible apply below_drewN | (with_reducible refine Below.setCell ?_ ?_ _) | (with_reducible refine Below.alloc ?_ ?_ _) | with_reducible exact Nat.le_refl _ | with_reducible exact Below.size (by assumption) | (simp; done) | (simp; done) | omega | (simp; omega))) (hb.mono (by repeat' (first | with_reducible exact Below.refl _ _ | with_reducible assumption | with_reducible apply Below.drew | with_reducible apply below_drewN | (with_reducible refine Below.setCell ?_ ?_ _) | (with_reducible refine Below.alloc ?_ ?_ _) | with_reducible exact Nat.le_refl _ | with_reducible exact Below.size (by assumption) | (simp; done) | (simp; done) | omega | (simp; omega))))
    clear hb
    go_wp2
    go_ret
    exact ⟨rfl, (by repeat' (first | with_reducible exact Below.refl _ _ | with_reducible assumption | with_reducible apply Below.drew | with_reducible apply below_drewN | (with_reducible refine Below.setCell ?_ ?_ _) | (with_reducible refine Below.alloc ?_ ?_ _) | with_reducible exact Nat.le_refl _ | with_reducible exact Below.size (by assumption) | (simp; done) | (simp; done) | omega | (simp; omega)))⟩

end Go.Proofs.Ytenjpfjbdjgobab

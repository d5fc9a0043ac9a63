/- The walk of the law FnExactHoldsOf: it returns true for all its arguments and writes into nothing that was there. -/
import Derived.Test.YtdlfdpdocpcnkaaHelpQ
import Derived.Test.YtdlfdpdocpcnkaaAsh
import Derived.Test.YtdlfdpdocpcnkaaWFnExactClaimOk
namespace Go.Proofs.Ytdlfdpdocpcnkaa
open Go.RowKit

set_option maxHeartbeats 3200000 in
theorem walkR_FnExactHoldsOf (S : ByteArray) (A' : Option Addr) (M : List Ac) (c' : Nat) (A : Option Addr) (L : List Rs) (c : Nat) (w : World) (hq : ARow w A' M) (hr : QRow w A L) (h20 : ¬ (1048576 : Int) < (S.size : Int)) (hm : M.length ≤ 1048576) (hs : SmallQ L 1048576) (hml : M.length + (L.length + outTo L L.length) ≤ 1048576) (r : Bool)
    (SS : ∀ A B c d W, ARow W A M → QRow W B L → Calls Try.prog 20 #[.string S, .slice A M.length c, .slice B L.length d] W fun e w' => e = .returned (.bool r) ∧ Below W.heap.size W w') (I : ∀ A B c d W, ARow W A M → QRow W B L → Calls Try.prog 21 #[.string S, .slice A M.length c, .slice B L.length d] W fun e w' => e = .returned (.bool r) ∧ Below W.heap.size W w') :
    Calls Try.prog 6 #[.string S, .slice A' M.length c', .slice A L.length c] w fun e w' => e = .returned (.bool true) ∧ Below w.heap.size w w' := by
  have KS := Lib.hid SS; clear SS
  have KI := Lib.hid I; clear I
  have KA := Lib.hid (fun W => szActS_yes A' M.length c' 1048576 W (by omega) (by omega))
  obtain ⟨l1, hl1⟩ : ∃ x : Int, x = 1048576 - (M.length : Int) := ⟨_, rfl⟩
  have KZ := Lib.hid (fun W h => szResultS_yes A L c l1 W h (by omega) (by omega))
  rw [← hl1] at KA
  have hk1 : 0 ≤ l1 := by omega
  have hk : 0 ≤ l1 - ((L.length + outTo L L.length : Nat) : Int) := by omega
  generalize l1 - ((L.length + outTo L L.length : Nat) : Int) = l2 at *
  have KEQ := Lib.hid (fun A B c d W h1 h2 => eqResultS_same A B L L.length c d rfl W h1 h2 hs)
  have KEA := Lib.hid (fun A B c d W h1 h2 => eqActS_same A B M M.length c d rfl W h1 h2 hm)
  clear hml hl1
  go_enter Try.func6, Try.ntmps6
  go_wp2_with fail
  refine (KA.out _).mono ?_
  rintro e w1 ⟨rfl, b1⟩
  have s1 : Below w.heap.size w w1 := Below.trans (by repeat' (first | with_reducible exact Below.refl _ _ | with_reducible assumption | with_reducible apply Below.drew | with_reducible apply below_drewN | (with_reducible refine Below.setCell ?_ ?_ _) | (with_reducible refine Below.alloc ?_ ?_ _) | with_reducible exact Nat.le_refl _ | with_reducible exact Below.size (by assumption) | (simp; done) | (simp; done) | omega | (simp; omega))) (b1.mono (by repeat' (first | with_reducible exact Below.refl _ _ | with_reducible assumption | with_reducible apply Below.drew | with_reducible apply below_drewN | (with_reducible refine Below.setCell ?_ ?_ _) | (with_reducible refine Below.alloc ?_ ?_ _) | with_reducible exact Nat.le_refl _ | with_reducible exact Below.size (by assumption) | (simp; done) | (simp; done) | omega | (simp; omega))))
  have B1 : Below w.heap.size w w1 := Below.trans (Below.refl w.heap.size w) (s1.mono (by omega))
  have hz1 : w.heap.size ≤ w1.heap.size := B1.size
  have sz1 : w.heap.size ≤ w1.heap.size := s1.size
  clear b1 s1
  go_wp2_with fail
  refine (KZ.out _ (hr.below (by repeat' (first | with_reducible exact Below.refl _ _ | with_reducible assumption | with_reducible apply Below.drew | with_reducible apply below_drewN | (with_reducible refine Below.setCell ?_ ?_ _) | (with_reducible refine Below.alloc ?_ ?_ _) | with_reducible exact Nat.le_refl _ | with_reducible exact Below.size (by assumption) | (simp; done) | (simp; done) | omega | (simp; omega))))).mono ?_
  rintro e w2 ⟨rfl, b2⟩
  have s2 : Below w1.heap.size w1 w2 := Below.trans (by repeat' (first | with_reducible exact Below.refl _ _ | with_reducible assumption | with_reducible apply Below.drew | with_reducible apply below_drewN | (with_reducible refine Below.setCell ?_ ?_ _) | (with_reducible refine Below.alloc ?_ ?_ _) | with_reducible exact Nat.le_refl _ | with_reducible exact Below.size (by assumption) | (simp; done) | (simp; done) | omega | (simp; omega))) (b2.mono (by repeat' (first | with_reducible exact Below.refl _ _ | with_reducible assumption | with_reducible apply Below.drew | with_reducible apply below_drewN | (with_reducible refine Below.setCell ?_ ?_ _) | (with_reducible refine Below.alloc ?_ ?_ _) | with_reducible exact Nat.le_refl _ | with_reducible exact Below.size (by assumption) | (simp; done) | (simp; done) | omega | (simp; omega))))
  have B2 : Below w.heap.size w w2 := Below.trans B1 (s2.mono (by omega))
  have hz2 : w.heap.size ≤ w2.heap.size := B2.size
  have sz2 : w1.heap.size ≤ w2.heap.size := s2.size
  clear b2 s2
  go_wp2_with fail
  refine (toActS_any A' M c' _ (hq.below (by repeat' (first | with_reducible exact Below.refl _ _ | with_reducible assumption | with_reducible apply Below.drew | with_reducible apply below_drewN | (with_reducible refine Below.setCell ?_ ?_ _) | (with_reducible refine Below.alloc ?_ ?_ _) | with_reducible exact Nat.le_refl _ | with_reducible exact Below.size (by assumption) | (simp; done) | (simp; done) | omega | (simp; omega)))) hm).mono ?_
  rintro e w3 ⟨rfl, q3, b3⟩
  have s3 : Below w2.heap.size w2 w3 := Below.trans (by repeat' (first | with_reducible exact Below.refl _ _ | with_reducible assumption | with_reducible apply Below.drew | with_reducible apply below_drewN | (with_reducible refine Below.setCell ?_ ?_ _) | (with_reducible refine Below.alloc ?_ ?_ _) | with_reducible exact Nat.le_refl _ | with_reducible exact Below.size (by assumption) | (simp; done) | (simp; done) | omega | (simp; omega))) (b3.mono (by repeat' (first | with_reducible exact Below.refl _ _ | with_reducible assumption | with_reducible apply Below.drew | with_reducible apply below_drewN | (with_reducible refine Below.setCell ?_ ?_ _) | (with_reducible refine Below.alloc ?_ ?_ _) | with_reducible exact Nat.le_refl _ | with_reducible exact Below.size (by assumption) | (simp; done) | (simp; done) | omega | (simp; omega))))
  have B3 : Below w.heap.size w w3 := Below.trans B2 (s3.mono (by omega))
  have hz3 : w.heap.size ≤ w3.heap.size := B3.size
  have sz3 : w2.heap.size ≤ w3.heap.size := s3.size
  clear b3 s3
  have l3 := q3.lt
  go_wp2_with fail
  refine (toResultS_any A L c _ (hr.below (by repeat' (first | with_reducible exact Below.refl _ _ | with_reducible assumption | with_reducible apply Below.drew | with_reducible apply below_drewN | (with_reducible refine Below.setCell ?_ ?_ _) | (with_reducible refine Below.alloc ?_ ?_ _) | with_reducible exact Nat.le_refl _ | with_reducible exact Below.size (by assumption) | (simp; done) | (simp; done) | omega | (simp; omega)))) hs).mono ?_
  rintro e w4 ⟨rfl, q4, b4⟩
  have s4 : Below w3.heap.size w3 w4 := Below.trans (by repeat' (first | with_reducible exact Below.refl _ _ | with_reducible assumption | with_reducible apply Below.drew | with_reducible apply below_drewN | (with_reducible refine Below.setCell ?_ ?_ _) | (with_reducible refine Below.alloc ?_ ?_ _) | with_reducible exact Nat.le_refl _ | with_reducible exact Below.size (by assumption) | (simp; done) | (simp; done) | omega | (simp; omega))) (b4.mono (by repeat' (first | with_reducible exact Below.refl _ _ | with_reducible assumption | with_reducible apply Below.drew | with_reducible apply below_drewN | (with_reducible refine Below.setCell ?_ ?_ _) | (with_reducible refine Below.alloc ?_ ?_ _) | with_reducible exact Nat.le_refl _ | with_reducible exact Below.size (by assumption) | (simp; done) | (simp; done) | omega | (simp; omega))))
  have B4 : Below w.heap.size w w4 := Below.trans B3 (s4.mono (by omega))
  have hz4 : w.heap.size ≤ w4.heap.size := B4.size
  have sz4 : w3.heap.size ≤ w4.heap.size := s4.size
  have q3_4 := q3.kept s4
  clear q3
  clear b4 s4
  have l4 := q4.lt
  go_wp2_with fail
  refine (KS.out _ _ _ _ _ q3_4.row q4.row).mono ?_
  rintro e w5 ⟨rfl, b5⟩
  have s5 : Below w4.heap.size w4 w5 := Below.trans (by repeat' (first | with_reducible exact Below.refl _ _ | with_reducible assumption | with_reducible apply Below.drew | with_reducible apply below_drewN | (with_reducible refine Below.setCell ?_ ?_ _) | (with_reducible refine Below.alloc ?_ ?_ _) | with_reducible exact Nat.le_refl _ | with_reducible exact Below.size (by assumption) | (simp; done) | (simp; done) | omega | (simp; omega))) (b5.mono (by repeat' (first | with_reducible exact Below.refl _ _ | with_reducible assumption | with_reducible apply Below.drew | with_reducible apply below_drewN | (with_reducible refine Below.setCell ?_ ?_ _) | (with_reducible refine Below.alloc ?_ ?_ _) | with_reducible exact Nat.le_refl _ | with_reducible exact Below.size (by assumption) | (simp; done) | (simp; done) | omega | (simp; omega))))
  have B5 : Below w.heap.size w w5 := Below.trans B4 (s5.mono (by omega))
  have hz5 : w.heap.size ≤ w5.heap.size := B5.size
  have sz5 : w4.heap.size ≤ w5.heap.size := s5.size
  have q3_5 := q3_4.kept s5
  clear q3_4
  have q4_5 := q4.kept s5 (by omega)
  clear q4
  clear b5 s5
  clear q3_5
  clear q4_5
  go_wp2_with fail
  refine (toActS_any A' M c' _ (hq.below (by repeat' (first | with_reducible exact Below.refl _ _ | with_reducible assumption | with_reducible apply Below.drew | with_reducible apply below_drewN | (with_reducible refine Below.setCell ?_ ?_ _) | (with_reducible refine Below.alloc ?_ ?_ _) | with_reducible exact Nat.le_refl _ | with_reducible exact Below.size (by assumption) | (simp; done) | (simp; done) | omega | (simp; omega)))) hm).mono ?_
  rintro e w6 ⟨rfl, q6, b6⟩
  have s6 : Below w5.heap.size w5 w6 := Below.trans (by repeat' (first | with_reducible exact Below.refl _ _ | with_reducible assumption | with_reducible apply Below.drew | with_reducible apply below_drewN | (with_reducible refine Below.setCell ?_ ?_ _) | (with_reducible refine Below.alloc ?_ ?_ _) | with_reducible exact Nat.le_refl _ | with_reducible exact Below.size (by assumption) | (simp; done) | (simp; done) | omega | (simp; omega))) (b6.mono (by repeat' (first | with_reducible exact Below.refl _ _ | with_reducible assumption | with_reducible apply Below.drew | with_reducible apply below_drewN | (with_reducible refine Below.setCell ?_ ?_ _) | (with_reducible refine Below.alloc ?_ ?_ _) | with_reducible exact Nat.le_refl _ | with_reducible exact Below.size (by assumption) | (simp; done) | (simp; done) | omega | (simp; omega))))
  have B6 : Below w.heap.size w w6 := Below.trans B5 (s6.mono (by omega))
  have hz6 : w.heap.size ≤ w6.heap.size := B6.size
  have sz6 : w5.heap.size ≤ w6.heap.size := s6.size
  clear b6 s6
  have l6 := q6.lt
  go_wp2_with fail
  refine (toResultS_any A L c _ (hr.below (by repeat' (first | with_reducible exact Below.refl _ _ | with_reducible assumption | with_reducible apply Below.drew | with_reducible apply below_drewN | (with_reducible refine Below.setCell ?_ ?_ _) | (with_reducible refine Below.alloc ?_ ?_ _) | with_reducible exact Nat.le_refl _ | with_reducible exact Below.size (by assumption) | (simp; done) | (simp; done) | omega | (simp; omega)))) hs).mono ?_
  rintro e w7 ⟨rfl, q7, b7⟩
  have s7 : Below w6.heap.size w6 w7 := Below.trans (by repeat' (first | with_reducible exact Below.refl _ _ | with_reducible assumption | with_reducible apply Below.drew | with_reducible apply below_drewN | (with_reducible refine Below.setCell ?_ ?_ _) | (with_reducible refine Below.alloc ?_ ?_ _) | with_reducible exact Nat.le_refl _ | with_reducible exact Below.size (by assumption) | (simp; done) | (simp; done) | omega | (simp; omega))) (b7.mono (by repeat' (first | with_reducible exact Below.refl _ _ | with_reducible assumption | with_reducible apply Below.drew | with_reducible apply below_drewN | (with_reducible refine Below.setCell ?_ ?_ _) | (with_reducible refine Below.alloc ?_ ?_ _) | with_reducible exact Nat.le_refl _ | with_reducible exact Below.size (by assumption) | (simp; done) | (simp; done) | omega | (simp; omega))))
  have B7 : Below w.heap.size w w7 := Below.trans B6 (s7.mono (by omega))
  have hz7 : w.heap.size ≤ w7.heap.size := B7.size
  have sz7 : w6.heap.size ≤ w7.heap.size := s7.size
  have q6_7 := q6.kept s7
  clear q6
  clear b7 s7
  have l7 := q7.lt
  go_wp2_with fail
  refine (KI.out _ _ _ _ _ q6_7.row q7.row).mono ?_
  rintro e w8 ⟨rfl, b8⟩
  have s8 : Below w7.heap.size w7 w8 := Below.trans (by repeat' (first | with_reducible exact Below.refl _ _ | with_reducible assumption | with_reducible apply Below.drew | with_reducible apply below_drewN | (with_reducible refine Below.setCell ?_ ?_ _) | (with_reducible refine Below.alloc ?_ ?_ _) | with_reducible exact Nat.le_refl _ | with_reducible exact Below.size (by assumption) | (simp; done) | (simp; done) | omega | (simp; omega))) (b8.mono (by repeat' (first | with_reducible exact Below.refl _ _ | with_reducible assumption | with_reducible apply Below.drew | with_reducible apply below_drewN | (with_reducible refine Below.setCell ?_ ?_ _) | (with_reducible refine Below.alloc ?_ ?_ _) | with_reducible exact Nat.le_refl _ | with_reducible exact Below.size (by assumption) | (simp; done) | (simp; done) | omega | (simp; omega))))
  have B8 : Below w.heap.size w w8 := Below.trans B7 (s8.mono (by omega))
  have hz8 : w.heap.size ≤ w8.heap.size := B8.size
  have sz8 : w7.heap.size ≤ w8.heap.size := s8.size
  have q6_8 := q6_7.kept s8
  clear q6_7
  have q7_8 := q7.kept s8 (by omega)
  clear q7
  clear b8 s8
  go_wp2_with fail
  refine (toActS_any A' M c' _ (hq.below (by repeat' (first | with_reducible exact Below.refl _ _ | with_reducible assumption | with_reducible apply Below.drew | with_reducible apply below_drewN | (with_reducible refine Below.setCell ?_ ?_ _) | (with_reducible refine Below.alloc ?_ ?_ _) | with_reducible exact Nat.le_refl _ | with_reducible exact Below.size (by assumption) | (simp; done) | (simp; done) | omega | (simp; omega)))) hm).mono ?_
  rintro e w9 ⟨rfl, q9, b9⟩
  have s9 : Below w8.heap.size w8 w9 := Below.trans (by repeat' (first | with_reducible exact Below.refl _ _ | with_reducible assumption | with_reducible apply Below.drew | with_reducible apply below_drewN | (with_reducible refine Below.setCell ?_ ?_ _) | (with_reducible refine Below.alloc ?_ ?_ _) | with_reducible exact Nat.le_refl _ | with_reducible exact Below.size (by assumption) | (simp; done) | (simp; done) | omega | (simp; omega))) (b9.mono (by repeat' (first | with_reducible exact Below.refl _ _ | with_reducible assumption | with_reducible apply Below.drew | with_reducible apply below_drewN | (with_reducible refine Below.setCell ?_ ?_ _) | (with_reducible refine Below.alloc ?_ ?_ _) | with_reducible exact Nat.le_refl _ | with_reducible exact Below.size (by assumption) | (simp; done) | (simp; done) | omega | (simp; omega))))
  have B9 : Below w.heap.size w w9 := Below.trans B8 (s9.mono (by omega))
  have hz9 : w.heap.size ≤ w9.heap.size := B9.size
  have sz9 : w8.heap.size ≤ w9.heap.size := s9.size
  have q6_9 := q6_8.kept s9
  clear q6_8
  have q7_9 := q7_8.kept s9 (by omega)
  clear q7_8
  clear b9 s9
  have l9 := q9.lt
  go_wp2_with fail
  refine (KEA.out _ _ _ _ _ q6_9.row q9.row).mono ?_
  rintro e w10 ⟨rfl, b10⟩
  have s10 : Below w9.heap.size w9 w10 := Below.trans (by repeat' (first | with_reducible exact Below.refl _ _ | with_reducible assumption | with_reducible apply Below.drew | with_reducible apply below_drewN | (with_reducible refine Below.setCell ?_ ?_ _) | (with_reducible refine Below.alloc ?_ ?_ _) | with_reducible exact Nat.le_refl _ | with_reducible exact Below.size (by assumption) | (simp; done) | (simp; done) | omega | (simp; omega))) (b10.mono (by repeat' (first | with_reducible exact Below.refl _ _ | with_reducible assumption | with_reducible apply Below.drew | with_reducible apply below_drewN | (with_reducible refine Below.setCell ?_ ?_ _) | (with_reducible refine Below.alloc ?_ ?_ _) | with_reducible exact Nat.le_refl _ | with_reducible exact Below.size (by assumption) | (simp; done) | (simp; done) | omega | (simp; omega))))
  have B10 : Below w.heap.size w w10 := Below.trans B9 (s10.mono (by omega))
  have hz10 : w.heap.size ≤ w10.heap.size := B10.size
  have sz10 : w9.heap.size ≤ w10.heap.size := s10.size
  have q6_10 := q6_9.kept s10
  clear q6_9
  have q7_10 := q7_9.kept s10 (by omega)
  clear q7_9
  have q9_10 := q9.kept s10
  clear q9
  clear b10 s10
  clear q9_10
  go_wp2_with fail
  refine (toResultS_any A L c _ (hr.below (by repeat' (first | with_reducible exact Below.refl _ _ | with_reducible assumption | with_reducible apply Below.drew | with_reducible apply below_drewN | (with_reducible refine Below.setCell ?_ ?_ _) | (with_reducible refine Below.alloc ?_ ?_ _) | with_reducible exact Nat.le_refl _ | with_reducible exact Below.size (by assumption) | (simp; done) | (simp; done) | omega | (simp; omega)))) hs).mono ?_
  rintro e w11 ⟨rfl, q11, b11⟩
  have s11 : Below w10.heap.size w10 w11 := Below.trans (by repeat' (first | with_reducible exact Below.refl _ _ | with_reducible assumption | with_reducible apply Below.drew | with_reducible apply below_drewN | (with_reducible refine Below.setCell ?_ ?_ _) | (with_reducible refine Below.alloc ?_ ?_ _) | with_reducible exact Nat.le_refl _ | with_reducible exact Below.size (by assumption) | (simp; done) | (simp; done) | omega | (simp; omega))) (b11.mono (by repeat' (first | with_reducible exact Below.refl _ _ | with_reducible assumption | with_reducible apply Below.drew | with_reducible apply below_drewN | (with_reducible refine Below.setCell ?_ ?_ _) | (with_reducible refine Below.alloc ?_ ?_ _) | with_reducible exact Nat.le_refl _ | with_reducible exact Below.size (by assumption) | (simp; done) | (simp; done) | omega | (simp; omega))))
  have B11 : Below w.heap.size w w11 := Below.trans B10 (s11.mono (by omega))
  have hz11 : w.heap.size ≤ w11.heap.size := B11.size
  have sz11 : w10.heap.size ≤ w11.heap.size := s11.size
  have q6_11 := q6_10.kept s11
  clear q6_10
  have q7_11 := q7_10.kept s11 (by omega)
  clear q7_10
  clear b11 s11
  have l11 := q11.lt
  go_wp2_with fail
  refine (KEQ.out _ _ _ _ _ q7_11.row q11.row).mono ?_
  rintro e w12 ⟨rfl, b12⟩
  have s12 : Below w11.heap.size w11 w12 := Below.trans (by repeat' (first | with_reducible exact Below.refl _ _ | with_reducible assumption | with_reducible apply Below.drew | with_reducible apply below_drewN | (with_reducible refine Below.setCell ?_ ?_ _) | (with_reducible refine Below.alloc ?_ ?_ _) | with_reducible exact Nat.le_refl _ | with_reducible exact Below.size (by assumption) | (simp; done) | (simp; done) | omega | (simp; omega))) (b12.mono (by repeat' (first | with_reducible exact Below.refl _ _ | with_reducible assumption | with_reducible apply Below.drew | with_reducible apply below_drewN | (with_reducible refine Below.setCell ?_ ?_ _) | (with_reducible refine Below.alloc ?_ ?_ _) | with_reducible exact Nat.le_refl _ | with_reducible exact Below.size (by assumption) | (simp; done) | (simp; done) | omega | (simp; omega))))
  have B12 : Below w.heap.size w w12 := Below.trans B11 (s12.mono (by omega))
  have hz12 : w.heap.size ≤ w12.heap.size := B12.size
  have sz12 : w11.heap.size ≤ w12.heap.size := s12.size
  have q6_12 := q6_11.kept s12
  clear q6_11
  have q7_12 := q7_11.kept s12 (by omega)
  clear q7_11
  have q11_12 := q11.kept s12 (by omega)
  clear q11
  clear b12 s12
  go_wp2
  go_ret
  exact ⟨rfl, (by repeat' (first | with_reducible exact Below.refl _ _ | with_reducible assumption | with_reducible apply Below.drew | with_reducible apply below_drewN | (with_reducible refine Below.setCell ?_ ?_ _) | (with_reducible refine Below.alloc ?_ ?_ _) | with_reducible exact Nat.le_refl _ | with_reducible exact Below.size (by assumption) | (simp; done) | (simp; done) | omega | (simp; omega)))⟩

theorem walk_FnExactHoldsOf (S : ByteArray) (A' : Option Addr) (M : List Ac) (c' : Nat) (A : Option Addr) (L : List Rs) (c : Nat) (w : World) (_hs : S.size ≤ maxLen) (hq : ARow w A' M) (_hl2 : M.length ≤ c') (_hc2 : c' ≤ maxLen) (hr : QRow w A L) (_hl : L.length ≤ c) (_hc : c ≤ maxLen) (ho : ∀ i, i < L.length → (rs L i).out.length ≤ maxLen) :
    Calls Try.prog 6 #[.string S, .slice A' M.length c', .slice A L.length c] w fun e w' => e = .returned (.bool true) ∧ Below w.heap.size w w' := by
  by_cases h20 : (1048576 : Int) < (S.size : Int)
  · go_enter Try.func6, Try.ntmps6
    go_wp2_with fail
    go_ret
    exact ⟨rfl, (by repeat' (first | with_reducible exact Below.refl _ _ | with_reducible assumption | with_reducible apply Below.drew | with_reducible apply below_drewN | (with_reducible refine Below.setCell ?_ ?_ _) | (with_reducible refine Below.alloc ?_ ?_ _) | with_reducible exact Nat.le_refl _ | with_reducible exact Below.size (by assumption) | (simp; done) | (simp; done) | omega | (simp; omega)))⟩
  by_cases hm : 1048576 < M.length
  · have KN := Lib.hid (fun W => szActS_no A' M.length c' 1048576 W (by omega) (by omega) (by omega) (by omega))
    clear hm _hl _hc ho _hl2 _hc2
    go_enter Try.func6, Try.ntmps6
    go_wp2_with fail
    refine (KN.out _).mono ?_
    rintro e w1 ⟨rfl, hb⟩
    go_wp2
    go_ret
    exact ⟨rfl, (by repeat' (first | with_reducible exact Below.refl _ _ | with_reducible assumption | with_reducible apply Below.drew | with_reducible apply below_drewN | (with_reducible refine Below.setCell ?_ ?_ _) | (with_reducible refine Below.alloc ?_ ?_ _) | with_reducible exact Nat.le_refl _ | with_reducible exact Below.size (by assumption) | (simp; done) | (simp; done) | omega | (simp; omega)))⟩
  by_cases hs : 1048576 < M.length + (L.length + outTo L L.length)
  · have KA := Lib.hid (fun W => szActS_yes A' M.length c' 1048576 W (by omega) (by omega))
    obtain ⟨l1, hl1⟩ : ∃ x : Int, x = 1048576 - (M.length : Int) := ⟨_, rfl⟩
    have KN := Lib.hid (fun W h => szResultS_no A L c l1 W h (by omega) (by omega) (by omega) (by omega) ho)
    rw [← hl1] at KA
    have hk1 : 0 ≤ l1 := by omega
    clear hm hs _hl _hc ho _hl2 _hc2 hl1
    go_enter Try.func6, Try.ntmps6
    go_wp2_with fail
    refine (KA.out _).mono ?_
    rintro e w1 ⟨rfl, hb⟩
    have B1 : Below w.heap.size w w1 := hb
    clear hb
    go_wp2_with fail
    refine (KN.out _ (hr.below (by repeat' (first | with_reducible exact Below.refl _ _ | with_reducible assumption | with_reducible apply Below.drew | with_reducible apply below_drewN | (with_reducible refine Below.setCell ?_ ?_ _) | (with_reducible refine Below.alloc ?_ ?_ _) | with_reducible exact Nat.le_refl _ | with_reducible exact Below.size (by assumption) | (simp; done) | (simp; done) | omega | (simp; omega))))).mono ?_
    rintro e w2 ⟨rfl, hb⟩
    have B2 : Below w.heap.size w w2 := Below.trans B1 (hb.mono B1.size)
    clear hb
    go_wp2
    go_ret
    exact ⟨rfl, (by repeat' (first | with_reducible exact Below.refl _ _ | with_reducible assumption | with_reducible apply Below.drew | with_reducible apply below_drewN | (with_reducible refine Below.setCell ?_ ?_ _) | (with_reducible refine Below.alloc ?_ ?_ _) | with_reducible exact Nat.le_refl _ | with_reducible exact Below.size (by assumption) | (simp; done) | (simp; done) | omega | (simp; omega)))⟩
  have hsm : SmallQ L 1048576 := by unfold SmallQ; omega
  have hl20 : S.data.toList.length ≤ 1048576 := by
    have : S.size = S.data.toList.length := Lib.size_eq S
    omega
  refine walkR_FnExactHoldsOf S A' M c' A L c w hq hr h20 (by omega) hsm (by omega) (holdsOf S.data.toList M L) ?_ ?_
  · intro A B c d W h1 h2
    have h := specHoldsOf_any A B M L c d W S.data.toList hl20 h1 h2 (by omega) hsm
    rw [← text_list] at h
    exact h.mono fun _ _ ⟨x, y⟩ => ⟨x, by subst y; exact Below.refl _ _⟩
  · intro A B c d W h1 h2
    have h := implHoldsOf_any A B M L c d W S.data.toList hl20 h1 h2 hsm
    rw [← text_list] at h
    exact h

end Go.Proofs.Ytdlfdpdocpcnkaa

/- The walk of the law FnExactMachineNew: it returns true for all its arguments and writes into nothing that was there. -/
import Derived.Test.YtfoohenmlagfjaaMarkM
import Derived.Test.YtfoohenmlagfjaaSMb
namespace Go.Proofs.Ytfoohenmlagfjaa
open Go.RowKit

theorem newM_small (xs : List Int) (gs : List Gd) : SmallM ((newM xs gs).getD noM) := by
  cases h : newM xs gs with
  | none => show (0 + 0 + 0 : Nat) ≤ 1048576; omega
  | some m =>
    obtain ⟨h1, h2, rfl⟩ := newM_some h
    have h4 := okP_len h1
    have h3 := (okS_iff.1 h2).1
    show xs.length + 4 + gs.length ≤ 1048576
    omega

set_option maxHeartbeats 6400000 in
theorem walkR_FnExactMachineNew (A : Option Addr) (xs : List Int) (c : Nat) (B : Option Addr) (gs : List Gd) (d : Nat) (w : World) (hr : Row .i64 w A xs) (hq : GRow w B gs) (hl : xs.length ≤ 1048576) (hl2 : gs.length ≤ 1048576) (r : Mc) (b : Bool) (hs : SmallM r)
    (S : ∀ A B c d W, Row .i64 W A xs → GRow W B gs → Calls Try.prog 12 #[.slice A xs.length c, .slice B gs.length d] W fun e w' => ∃ v, e = .returned (.tuple #[v, .bool b]) ∧ MRow w' v r ∧ Below W.heap.size W w') (I : ∀ A B c d W, Row .i64 W A xs → GRow W B gs → Calls Try.prog 15 #[.slice A xs.length c, .slice B gs.length d] W fun e w' => ∃ v, e = .returned (.tuple #[v, .bool b]) ∧ MAt w' W.heap.size w'.heap.size v r ∧ Below W.heap.size W w') :
    Calls Try.prog 4 #[.slice A xs.length c, .slice B gs.length d] w fun e w' => e = .returned (.bool true) ∧ Below w.heap.size w w' := by
  have KS := Lib.hid S; clear S
  have KI := Lib.hid I; clear I
  have KE := Lib.hid (fun v u W h1 h2 => eqMachine_same v u r W h1 h2 hs)
  have KM := Lib.hid (fun v lo hi W h h1 => markMachine_any v r lo hi 1 W h hs h1 (by omega) (by omega))
  have KH := Lib.hid (fun v W h => heldMachine_marked v r 1 W h hs (by omega) (by omega))
  have ht := totM_bnd hs
  generalize totM r = tot at *
  obtain ⟨ht0, ht1⟩ := ht
  clear hs
  cases b
  all_goals
    go_enter Try.func4, Try.ntmps4
    go_wp2_with fail
    refine (szGoodS_yes B gs.length d _ hl2).mono ?_
    rintro e w0 ⟨rfl, rfl⟩
    go_wp2_with fail
    refine (toIntS_any A xs c _ (hr.below (by repeat' (first | with_reducible exact Below.refl _ _ | with_reducible assumption | with_reducible apply Below.drew | with_reducible apply below_drewN | (with_reducible refine Below.setCell ?_ ?_ _) | (with_reducible refine Below.alloc ?_ ?_ _) | with_reducible exact Nat.le_refl _ | with_reducible exact Below.size (by assumption) | (simp; done) | (simp; done) | omega | (simp; omega)))) hl).mono ?_
    rintro e w1 ⟨rfl, q1, b1⟩
    have s1 : Below w.heap.size w w1 := Below.trans (by repeat' (first | with_reducible exact Below.refl _ _ | with_reducible assumption | with_reducible apply Below.drew | with_reducible apply below_drewN | (with_reducible refine Below.setCell ?_ ?_ _) | (with_reducible refine Below.alloc ?_ ?_ _) | with_reducible exact Nat.le_refl _ | with_reducible exact Below.size (by assumption) | (simp; done) | (simp; done) | omega | (simp; omega))) (b1.mono (by repeat' (first | with_reducible exact Below.refl _ _ | with_reducible assumption | with_reducible apply Below.drew | with_reducible apply below_drewN | (with_reducible refine Below.setCell ?_ ?_ _) | (with_reducible refine Below.alloc ?_ ?_ _) | with_reducible exact Nat.le_refl _ | with_reducible exact Below.size (by assumption) | (simp; done) | (simp; done) | omega | (simp; omega))))
    have B1 : Below w.heap.size w w1 := Below.trans (Below.refl w.heap.size w) (s1.mono (by omega))
    have hz1 : w.heap.size ≤ w1.heap.size := B1.size
    have sz1 : w.heap.size ≤ w1.heap.size := s1.size
    clear b1 s1
    have l1 := q1.lt
    go_wp2_with fail
    refine (toGoodS_any B gs d _ (hq.below (by repeat' (first | with_reducible exact Below.refl _ _ | with_reducible assumption | with_reducible apply Below.drew | with_reducible apply below_drewN | (with_reducible refine Below.setCell ?_ ?_ _) | (with_reducible refine Below.alloc ?_ ?_ _) | with_reducible exact Nat.le_refl _ | with_reducible exact Below.size (by assumption) | (simp; done) | (simp; done) | omega | (simp; omega)))) hl2).mono ?_
    rintro e w2 ⟨rfl, q2, b2⟩
    have s2 : Below w1.heap.size w1 w2 := Below.trans (by repeat' (first | with_reducible exact Below.refl _ _ | with_reducible assumption | with_reducible apply Below.drew | with_reducible apply below_drewN | (with_reducible refine Below.setCell ?_ ?_ _) | (with_reducible refine Below.alloc ?_ ?_ _) | with_reducible exact Nat.le_refl _ | with_reducible exact Below.size (by assumption) | (simp; done) | (simp; done) | omega | (simp; omega))) (b2.mono (by repeat' (first | with_reducible exact Below.refl _ _ | with_reducible assumption | with_reducible apply Below.drew | with_reducible apply below_drewN | (with_reducible refine Below.setCell ?_ ?_ _) | (with_reducible refine Below.alloc ?_ ?_ _) | with_reducible exact Nat.le_refl _ | with_reducible exact Below.size (by assumption) | (simp; done) | (simp; done) | omega | (simp; omega))))
    have B2 : Below w.heap.size w w2 := Below.trans B1 (s2.mono (by omega))
    have hz2 : w.heap.size ≤ w2.heap.size := B2.size
    have sz2 : w1.heap.size ≤ w2.heap.size := s2.size
    have q1_2 := q1.kept s2
    clear q1
    clear b2 s2
    have l2 := q2.lt
    go_wp2_with fail
    refine (KS.out _ _ _ _ _ q1_2.row q2.row).mono ?_
    rintro e w3 ⟨v3, rfl, r3, b3⟩
    have s3 : Below w2.heap.size w2 w3 := Below.trans (by repeat' (first | with_reducible exact Below.refl _ _ | with_reducible assumption | with_reducible apply Below.drew | with_reducible apply below_drewN | (with_reducible refine Below.setCell ?_ ?_ _) | (with_reducible refine Below.alloc ?_ ?_ _) | with_reducible exact Nat.le_refl _ | with_reducible exact Below.size (by assumption) | (simp; done) | (simp; done) | omega | (simp; omega))) (b3.mono (by repeat' (first | with_reducible exact Below.refl _ _ | with_reducible assumption | with_reducible apply Below.drew | with_reducible apply below_drewN | (with_reducible refine Below.setCell ?_ ?_ _) | (with_reducible refine Below.alloc ?_ ?_ _) | with_reducible exact Nat.le_refl _ | with_reducible exact Below.size (by assumption) | (simp; done) | (simp; done) | omega | (simp; omega))))
    have B3 : Below w.heap.size w w3 := Below.trans B2 (s3.mono (by omega))
    have hz3 : w.heap.size ≤ w3.heap.size := B3.size
    have sz3 : w2.heap.size ≤ w3.heap.size := s3.size
    have q1_3 := q1_2.kept s3
    clear q1_2
    have q2_3 := q2.kept s3
    clear q2
    clear b3 s3
    clear q1_3
    clear q2_3
    have hR := r3
    obtain ⟨X3, x3, Y3, y3, Z3, z3, hv, _⟩ := r3; subst hv
    have RW := Lib.hid hR; clear hR
    go_wp2_with fail
    refine (toIntS_any A xs c _ (hr.below (by repeat' (first | with_reducible exact Below.refl _ _ | with_reducible assumption | with_reducible apply Below.drew | with_reducible apply below_drewN | (with_reducible refine Below.setCell ?_ ?_ _) | (with_reducible refine Below.alloc ?_ ?_ _) | with_reducible exact Nat.le_refl _ | with_reducible exact Below.size (by assumption) | (simp; done) | (simp; done) | omega | (simp; omega)))) hl).mono ?_
    rintro e w4 ⟨rfl, q4, b4⟩
    have W0_4 := (Blk.new' (w := w3) (cs := #[.slice X3 r.own.length x3, .slice Y3 r.inn.length y3, .slice Z3 r.gs.length z3]) (t := 30) (g := w3.heap.size) (by simp)).kept b4
    have s4 : Below w3.heap.size w3 w4 := Below.trans (by repeat' (first | with_reducible exact Below.refl _ _ | with_reducible assumption | with_reducible apply Below.drew | with_reducible apply below_drewN | (with_reducible refine Below.setCell ?_ ?_ _) | (with_reducible refine Below.alloc ?_ ?_ _) | with_reducible exact Nat.le_refl _ | with_reducible exact Below.size (by assumption) | (simp; done) | (simp; done) | omega | (simp; omega))) (b4.mono (by repeat' (first | with_reducible exact Below.refl _ _ | with_reducible assumption | with_reducible apply Below.drew | with_reducible apply below_drewN | (with_reducible refine Below.setCell ?_ ?_ _) | (with_reducible refine Below.alloc ?_ ?_ _) | with_reducible exact Nat.le_refl _ | with_reducible exact Below.size (by assumption) | (simp; done) | (simp; done) | omega | (simp; omega))))
    have B4 : Below w.heap.size w w4 := Below.trans B3 (s4.mono (by omega))
    have hz4 : w.heap.size ≤ w4.heap.size := B4.size
    have sz4 : w3.heap.size ≤ w4.heap.size := s4.size
    have D4 : Below w3.heap.size w3 w4 := Below.trans (Below.refl w3.heap.size w3) (s4.mono (by omega))
    clear b4 s4
    simp only [World.size_alloc] at q4
    have l4 := q4.lt
    go_wp2_with fail
    refine (toGoodS_any B gs d _ (hq.below (by repeat' (first | with_reducible exact Below.refl _ _ | with_reducible assumption | with_reducible apply Below.drew | with_reducible apply below_drewN | (with_reducible refine Below.setCell ?_ ?_ _) | (with_reducible refine Below.alloc ?_ ?_ _) | with_reducible exact Nat.le_refl _ | with_reducible exact Below.size (by assumption) | (simp; done) | (simp; done) | omega | (simp; omega)))) hl2).mono ?_
    rintro e w5 ⟨rfl, q5, b5⟩
    have s5 : Below w4.heap.size w4 w5 := Below.trans (by repeat' (first | with_reducible exact Below.refl _ _ | with_reducible assumption | with_reducible apply Below.drew | with_reducible apply below_drewN | (with_reducible refine Below.setCell ?_ ?_ _) | (with_reducible refine Below.alloc ?_ ?_ _) | with_reducible exact Nat.le_refl _ | with_reducible exact Below.size (by assumption) | (simp; done) | (simp; done) | omega | (simp; omega))) (b5.mono (by repeat' (first | with_reducible exact Below.refl _ _ | with_reducible assumption | with_reducible apply Below.drew | with_reducible apply below_drewN | (with_reducible refine Below.setCell ?_ ?_ _) | (with_reducible refine Below.alloc ?_ ?_ _) | with_reducible exact Nat.le_refl _ | with_reducible exact Below.size (by assumption) | (simp; done) | (simp; done) | omega | (simp; omega))))
    have B5 : Below w.heap.size w w5 := Below.trans B4 (s5.mono (by omega))
    have hz5 : w.heap.size ≤ w5.heap.size := B5.size
    have sz5 : w4.heap.size ≤ w5.heap.size := s5.size
    have D5 : Below w3.heap.size w3 w5 := Below.trans D4 (s5.mono (by omega))
    clear D4
    have W0_5 := W0_4.kept s5
    clear W0_4
    have q4_5 := q4.kept s5
    clear q4
    clear b5 s5
    have l5 := q5.lt
    go_wp2_with fail
    refine (KI.out _ _ _ _ _ q4_5.row q5.row).mono ?_
    rintro e w6 ⟨v6, rfl, p6, b6⟩
    have s6 : Below w5.heap.size w5 w6 := Below.trans (by repeat' (first | with_reducible exact Below.refl _ _ | with_reducible assumption | with_reducible apply Below.drew | with_reducible apply below_drewN | (with_reducible refine Below.setCell ?_ ?_ _) | (with_reducible refine Below.alloc ?_ ?_ _) | with_reducible exact Nat.le_refl _ | with_reducible exact Below.size (by assumption) | (simp; done) | (simp; done) | omega | (simp; omega))) (b6.mono (by repeat' (first | with_reducible exact Below.refl _ _ | with_reducible assumption | with_reducible apply Below.drew | with_reducible apply below_drewN | (with_reducible refine Below.setCell ?_ ?_ _) | (with_reducible refine Below.alloc ?_ ?_ _) | with_reducible exact Nat.le_refl _ | with_reducible exact Below.size (by assumption) | (simp; done) | (simp; done) | omega | (simp; omega))))
    have B6 : Below w.heap.size w w6 := Below.trans B5 (s6.mono (by omega))
    have hz6 : w.heap.size ≤ w6.heap.size := B6.size
    have sz6 : w5.heap.size ≤ w6.heap.size := s6.size
    have D6 : Below w3.heap.size w3 w6 := Below.trans D5 (s6.mono (by omega))
    clear D5
    have W0_6 := W0_5.kept s6
    clear W0_5
    have q4_6 := q4_5.kept s6
    clear q4_5
    have q5_6 := q5.kept s6
    clear q5
    clear b6 s6
    obtain ⟨X6, x6, Y6, y6, Z6, z6, hv, _⟩ := p6.row; subst hv
    have c_W0 := fun i => (W0_6).cell i
    have n_W0 := (W0_6).lt
    go_wp2_with fail
    refine (KE.out _ _ _ (p6.row.below (w' := _) (by repeat' (first | with_reducible exact Below.refl _ _ | with_reducible assumption | with_reducible apply Below.drew | with_reducible apply below_drewN | (with_reducible refine Below.setCell ?_ ?_ _) | (with_reducible refine Below.alloc ?_ ?_ _) | with_reducible exact Nat.le_refl _ | with_reducible exact Below.size (by assumption) | (simp; done) | (simp; done) | omega | (simp; omega)))) (RW.out.below (w' := _) (by repeat' (first | with_reducible exact Below.refl _ _ | with_reducible assumption | with_reducible apply Below.drew | with_reducible apply below_drewN | (with_reducible refine Below.setCell ?_ ?_ _) | (with_reducible refine Below.alloc ?_ ?_ _) | with_reducible exact Nat.le_refl _ | with_reducible exact Below.size (by assumption) | (simp; done) | (simp; done) | omega | (simp; omega))))).mono ?_
    rintro e w7 ⟨rfl, b7⟩
    have G0_7 := (Blk.new' (w := w6) (cs := #[.slice X6 r.own.length x6, .slice Y6 r.inn.length y6, .slice Z6 r.gs.length z6]) (t := 30) (g := w6.heap.size) (by simp)).kept b7
    have s7 : Below w6.heap.size w6 w7 := Below.trans (by repeat' (first | with_reducible exact Below.refl _ _ | with_reducible assumption | with_reducible apply Below.drew | with_reducible apply below_drewN | (with_reducible refine Below.setCell ?_ ?_ _) | (with_reducible refine Below.alloc ?_ ?_ _) | with_reducible exact Nat.le_refl _ | with_reducible exact Below.size (by assumption) | (simp; done) | (simp; done) | omega | (simp; omega))) (b7.mono (by repeat' (first | with_reducible exact Below.refl _ _ | with_reducible assumption | with_reducible apply Below.drew | with_reducible apply below_drewN | (with_reducible refine Below.setCell ?_ ?_ _) | (with_reducible refine Below.alloc ?_ ?_ _) | with_reducible exact Nat.le_refl _ | with_reducible exact Below.size (by assumption) | (simp; done) | (simp; done) | omega | (simp; omega))))
    have B7 : Below w.heap.size w w7 := Below.trans B6 (s7.mono (by omega))
    have hz7 : w.heap.size ≤ w7.heap.size := B7.size
    have sz7 : w6.heap.size ≤ w7.heap.size := s7.size
    have D7 : Below w3.heap.size w3 w7 := Below.trans D6 (s7.mono (by omega))
    clear D6
    clear c_W0 n_W0
    have W0_7 := W0_6.kept s7
    clear W0_6
    have q4_7 := q4_6.kept s7
    clear q4_6
    have q5_7 := q5_6.kept s7
    clear q5_6
    have p6_7 := p6.kept s7
    clear p6
    clear b7 s7
    go_wp2_with fail
    refine (toIntS_any A xs c _ (hr.below (by repeat' (first | with_reducible exact Below.refl _ _ | with_reducible assumption | with_reducible apply Below.drew | with_reducible apply below_drewN | (with_reducible refine Below.setCell ?_ ?_ _) | (with_reducible refine Below.alloc ?_ ?_ _) | with_reducible exact Nat.le_refl _ | with_reducible exact Below.size (by assumption) | (simp; done) | (simp; done) | omega | (simp; omega)))) hl).mono ?_
    rintro e w8 ⟨rfl, q8, b8⟩
    have s8 : Below w7.heap.size w7 w8 := Below.trans (by repeat' (first | with_reducible exact Below.refl _ _ | with_reducible assumption | with_reducible apply Below.drew | with_reducible apply below_drewN | (with_reducible refine Below.setCell ?_ ?_ _) | (with_reducible refine Below.alloc ?_ ?_ _) | with_reducible exact Nat.le_refl _ | with_reducible exact Below.size (by assumption) | (simp; done) | (simp; done) | omega | (simp; omega))) (b8.mono (by repeat' (first | with_reducible exact Below.refl _ _ | with_reducible assumption | with_reducible apply Below.drew | with_reducible apply below_drewN | (with_reducible refine Below.setCell ?_ ?_ _) | (with_reducible refine Below.alloc ?_ ?_ _) | with_reducible exact Nat.le_refl _ | with_reducible exact Below.size (by assumption) | (simp; done) | (simp; done) | omega | (simp; omega))))
    have B8 : Below w.heap.size w w8 := Below.trans B7 (s8.mono (by omega))
    have hz8 : w.heap.size ≤ w8.heap.size := B8.size
    have sz8 : w7.heap.size ≤ w8.heap.size := s8.size
    have D8 : Below w3.heap.size w3 w8 := Below.trans D7 (s8.mono (by omega))
    clear D7
    have W0_8 := W0_7.kept s8
    clear W0_7
    have q4_8 := q4_7.kept s8
    clear q4_7
    have q5_8 := q5_7.kept s8
    clear q5_7
    have p6_8 := p6_7.kept s8
    clear p6_7
    have G0_8 := G0_7.kept s8
    clear G0_7
    clear b8 s8
    have l8 := q8.lt
    go_wp2_with fail
    refine (eqIntS_same _ _ xs _ _ _ q4_8.row q8.row hl).mono ?_
    rintro e w9 ⟨rfl, b9⟩
    have s9 : Below w8.heap.size w8 w9 := Below.trans (by repeat' (first | with_reducible exact Below.refl _ _ | with_reducible assumption | with_reducible apply Below.drew | with_reducible apply below_drewN | (with_reducible refine Below.setCell ?_ ?_ _) | (with_reducible refine Below.alloc ?_ ?_ _) | with_reducible exact Nat.le_refl _ | with_reducible exact Below.size (by assumption) | (simp; done) | (simp; done) | omega | (simp; omega))) (b9.mono (by repeat' (first | with_reducible exact Below.refl _ _ | with_reducible assumption | with_reducible apply Below.drew | with_reducible apply below_drewN | (with_reducible refine Below.setCell ?_ ?_ _) | (with_reducible refine Below.alloc ?_ ?_ _) | with_reducible exact Nat.le_refl _ | with_reducible exact Below.size (by assumption) | (simp; done) | (simp; done) | omega | (simp; omega))))
    have B9 : Below w.heap.size w w9 := Below.trans B8 (s9.mono (by omega))
    have hz9 : w.heap.size ≤ w9.heap.size := B9.size
    have sz9 : w8.heap.size ≤ w9.heap.size := s9.size
    have D9 : Below w3.heap.size w3 w9 := Below.trans D8 (s9.mono (by omega))
    clear D8
    have W0_9 := W0_8.kept s9
    clear W0_8
    have q4_9 := q4_8.kept s9
    clear q4_8
    have q5_9 := q5_8.kept s9
    clear q5_8
    have p6_9 := p6_8.kept s9
    clear p6_8
    have G0_9 := G0_8.kept s9
    clear G0_8
    have q8_9 := q8.kept s9
    clear q8
    clear b9 s9
    clear q8_9
    go_wp2_with fail
    refine (toGoodS_any B gs d _ (hq.below (by repeat' (first | with_reducible exact Below.refl _ _ | with_reducible assumption | with_reducible apply Below.drew | with_reducible apply below_drewN | (with_reducible refine Below.setCell ?_ ?_ _) | (with_reducible refine Below.alloc ?_ ?_ _) | with_reducible exact Nat.le_refl _ | with_reducible exact Below.size (by assumption) | (simp; done) | (simp; done) | omega | (simp; omega)))) hl2).mono ?_
    rintro e w10 ⟨rfl, q10, b10⟩
    have s10 : Below w9.heap.size w9 w10 := Below.trans (by repeat' (first | with_reducible exact Below.refl _ _ | with_reducible assumption | with_reducible apply Below.drew | with_reducible apply below_drewN | (with_reducible refine Below.setCell ?_ ?_ _) | (with_reducible refine Below.alloc ?_ ?_ _) | with_reducible exact Nat.le_refl _ | with_reducible exact Below.size (by assumption) | (simp; done) | (simp; done) | omega | (simp; omega))) (b10.mono (by repeat' (first | with_reducible exact Below.refl _ _ | with_reducible assumption | with_reducible apply Below.drew | with_reducible apply below_drewN | (with_reducible refine Below.setCell ?_ ?_ _) | (with_reducible refine Below.alloc ?_ ?_ _) | with_reducible exact Nat.le_refl _ | with_reducible exact Below.size (by assumption) | (simp; done) | (simp; done) | omega | (simp; omega))))
    have B10 : Below w.heap.size w w10 := Below.trans B9 (s10.mono (by omega))
    have hz10 : w.heap.size ≤ w10.heap.size := B10.size
    have sz10 : w9.heap.size ≤ w10.heap.size := s10.size
    have D10 : Below w3.heap.size w3 w10 := Below.trans D9 (s10.mono (by omega))
    clear D9
    have W0_10 := W0_9.kept s10
    clear W0_9
    have q4_10 := q4_9.kept s10
    clear q4_9
    have q5_10 := q5_9.kept s10
    clear q5_9
    have p6_10 := p6_9.kept s10
    clear p6_9
    have G0_10 := G0_9.kept s10
    clear G0_9
    clear b10 s10
    have l10 := q10.lt
    go_wp2_with fail
    refine (eqGoodS_same _ _ gs gs.length _ _ rfl _ q5_10.row q10.row hl2).mono ?_
    rintro e w11 ⟨rfl, b11⟩
    have s11 : Below w10.heap.size w10 w11 := Below.trans (by repeat' (first | with_reducible exact Below.refl _ _ | with_reducible assumption | with_reducible apply Below.drew | with_reducible apply below_drewN | (with_reducible refine Below.setCell ?_ ?_ _) | (with_reducible refine Below.alloc ?_ ?_ _) | with_reducible exact Nat.le_refl _ | with_reducible exact Below.size (by assumption) | (simp; done) | (simp; done) | omega | (simp; omega))) (b11.mono (by repeat' (first | with_reducible exact Below.refl _ _ | with_reducible assumption | with_reducible apply Below.drew | with_reducible apply below_drewN | (with_reducible refine Below.setCell ?_ ?_ _) | (with_reducible refine Below.alloc ?_ ?_ _) | with_reducible exact Nat.le_refl _ | with_reducible exact Below.size (by assumption) | (simp; done) | (simp; done) | omega | (simp; omega))))
    have B11 : Below w.heap.size w w11 := Below.trans B10 (s11.mono (by omega))
    have hz11 : w.heap.size ≤ w11.heap.size := B11.size
    have sz11 : w10.heap.size ≤ w11.heap.size := s11.size
    have D11 : Below w3.heap.size w3 w11 := Below.trans D10 (s11.mono (by omega))
    clear D10
    have W0_11 := W0_10.kept s11
    clear W0_10
    have q4_11 := q4_10.kept s11
    clear q4_10
    have q5_11 := q5_10.kept s11
    clear q5_10
    have p6_11 := p6_10.kept s11
    clear p6_10
    have G0_11 := G0_10.kept s11
    clear G0_10
    have q10_11 := q10.kept s11
    clear q10
    clear b11 s11
    clear q10_11
    go_wp2_with fail
    refine (markIntS_any _ xs.length _ 1 _ _ _ q4_11 (cellsOf_size xs) hl (by omega) (by omega)).mono ?_
    rintro e w12 ⟨rfl, ⟨cs12, q12, m12⟩, s12, o12⟩
    have O12 := Lib.hid o12; clear o12
    have B12 : Below w.heap.size w w12 := Below.trans B11 (s12.mono (by omega))
    have hz12 : w.heap.size ≤ w12.heap.size := B12.size
    have sz12 : w11.heap.size ≤ w12.heap.size := s12.size
    have D12 : Below w3.heap.size w3 w12 := Below.trans D11 (s12.mono (by omega))
    clear D11
    have W0_12 := W0_11.other O12.out (by omega)
    clear W0_11
    clear q4_11
    have q5_12 := q5_11.other O12.out (by omega)
    clear q5_11
    have p6_12 := p6_11.other O12.out (by omega)
    clear p6_11
    have G0_12 := G0_11.other O12.out (by omega)
    clear G0_11
    clear s12 m12 q12
    obtain ⟨csA, hA, hAs, _⟩ := q5_12
    go_wp2_with fail
    refine (markGoodS_any _ gs.length _ (1 + (xs.length : Int)) _ _ _ hA (by omega) hl2 (by omega) (by omega)).mono ?_
    rintro e w13 ⟨rfl, ⟨cs13, q13, m13⟩, s13, o13⟩
    have O13 := Lib.hid o13; clear o13
    have B13 : Below w.heap.size w w13 := Below.trans B12 (s13.mono (by omega))
    have hz13 : w.heap.size ≤ w13.heap.size := B13.size
    have sz13 : w12.heap.size ≤ w13.heap.size := s13.size
    have D13 : Below w3.heap.size w3 w13 := Below.trans D12 (s13.mono (by omega))
    clear D12
    have W0_13 := W0_12.other O13.out (by omega)
    clear W0_12
    have p6_13 := p6_12.other O13.out (by omega)
    clear p6_12
    have G0_13 := G0_12.other O13.out (by omega)
    clear G0_12
    clear hA
    clear s13 m13 q13
    have c_W0 := fun i => (W0_13).cell i
    have n_W0 := (W0_13).lt
    have c_G0 := fun i => (G0_13).cell i
    have n_G0 := (G0_13).lt
    go_wp2_with fail
    refine (KE.out _ _ _ (p6_13.row.below (w' := _) (by repeat' (first | with_reducible exact Below.refl _ _ | with_reducible assumption | with_reducible apply Below.drew | with_reducible apply below_drewN | (with_reducible refine Below.setCell ?_ ?_ _) | (with_reducible refine Below.alloc ?_ ?_ _) | with_reducible exact Nat.le_refl _ | with_reducible exact Below.size (by assumption) | (simp; done) | (simp; done) | omega | (simp; omega)))) (RW.out.below (w' := _) (by repeat' (first | with_reducible exact Below.refl _ _ | with_reducible assumption | with_reducible apply Below.drew | with_reducible apply below_drewN | (with_reducible refine Below.setCell ?_ ?_ _) | (with_reducible refine Below.alloc ?_ ?_ _) | with_reducible exact Nat.le_refl _ | with_reducible exact Below.size (by assumption) | (simp; done) | (simp; done) | omega | (simp; omega))))).mono ?_
    rintro e w14 ⟨rfl, b14⟩
    have s14 : Below w13.heap.size w13 w14 := Below.trans (by repeat' (first | with_reducible exact Below.refl _ _ | with_reducible assumption | with_reducible apply Below.drew | with_reducible apply below_drewN | (with_reducible refine Below.setCell ?_ ?_ _) | (with_reducible refine Below.alloc ?_ ?_ _) | with_reducible exact Nat.le_refl _ | with_reducible exact Below.size (by assumption) | (simp; done) | (simp; done) | omega | (simp; omega))) (b14.mono (by repeat' (first | with_reducible exact Below.refl _ _ | with_reducible assumption | with_reducible apply Below.drew | with_reducible apply below_drewN | (with_reducible refine Below.setCell ?_ ?_ _) | (with_reducible refine Below.alloc ?_ ?_ _) | with_reducible exact Nat.le_refl _ | with_reducible exact Below.size (by assumption) | (simp; done) | (simp; done) | omega | (simp; omega))))
    have B14 : Below w.heap.size w w14 := Below.trans B13 (s14.mono (by omega))
    have hz14 : w.heap.size ≤ w14.heap.size := B14.size
    have sz14 : w13.heap.size ≤ w14.heap.size := s14.size
    have D14 : Below w3.heap.size w3 w14 := Below.trans D13 (s14.mono (by omega))
    clear D13
    clear c_W0 n_W0
    clear c_G0 n_G0
    have W0_14 := W0_13.kept s14
    clear W0_13
    have p6_14 := p6_13.kept s14
    clear p6_13
    have G0_14 := G0_13.kept s14
    clear G0_13
    clear b14 s14
    have c_G0 := fun i => (G0_14).cell i
    have n_G0 := (G0_14).lt
    go_wp2_with fail
    refine (KM.out _ _ _ _ p6_14 (by omega)).mono ?_
    rintro e w15 ⟨rfl, q15, o15⟩
    have O15 := Lib.hid o15; have s15 := o15.1; clear o15
    have B15 : Below w.heap.size w w15 := Below.trans B14 (s15.mono (by omega))
    have hz15 : w.heap.size ≤ w15.heap.size := B15.size
    have sz15 : w14.heap.size ≤ w15.heap.size := s15.size
    have D15 : Below w3.heap.size w3 w15 := Below.trans D14 (s15.mono (by omega))
    clear D14
    clear c_G0 n_G0
    have W0_15 := W0_14.outs O15.out (by omega)
    clear W0_14
    clear p6_14
    have G0_15 := G0_14.outs O15.out (by omega)
    clear G0_14
    clear s15
    have c_G0 := fun i => (G0_15).cell i
    have n_G0 := (G0_15).lt
    go_wp2_with fail
    refine (KH.out _ _ (q15.row.below (w' := _) (by repeat' (first | with_reducible exact Below.refl _ _ | with_reducible assumption | with_reducible apply Below.drew | with_reducible apply below_drewN | (with_reducible refine Below.setCell ?_ ?_ _) | (with_reducible refine Below.alloc ?_ ?_ _) | with_reducible exact Nat.le_refl _ | with_reducible exact Below.size (by assumption) | (simp; done) | (simp; done) | omega | (simp; omega))))).mono ?_
    rintro e w16 ⟨rfl, b16⟩
    have s16 : Below w15.heap.size w15 w16 := Below.trans (by repeat' (first | with_reducible exact Below.refl _ _ | with_reducible assumption | with_reducible apply Below.drew | with_reducible apply below_drewN | (with_reducible refine Below.setCell ?_ ?_ _) | (with_reducible refine Below.alloc ?_ ?_ _) | with_reducible exact Nat.le_refl _ | with_reducible exact Below.size (by assumption) | (simp; done) | (simp; done) | omega | (simp; omega))) (b16.mono (by repeat' (first | with_reducible exact Below.refl _ _ | with_reducible assumption | with_reducible apply Below.drew | with_reducible apply below_drewN | (with_reducible refine Below.setCell ?_ ?_ _) | (with_reducible refine Below.alloc ?_ ?_ _) | with_reducible exact Nat.le_refl _ | with_reducible exact Below.size (by assumption) | (simp; done) | (simp; done) | omega | (simp; omega))))
    have B16 : Below w.heap.size w w16 := Below.trans B15 (s16.mono (by omega))
    have hz16 : w.heap.size ≤ w16.heap.size := B16.size
    have sz16 : w15.heap.size ≤ w16.heap.size := s16.size
    have D16 : Below w3.heap.size w3 w16 := Below.trans D15 (s16.mono (by omega))
    clear D15
    clear c_G0 n_G0
    have W0_16 := W0_15.kept s16
    clear W0_15
    have G0_16 := G0_15.kept s16
    clear G0_15
    have t15_16 := q15.kept s16
    clear q15
    clear b16 s16
    go_wp2_with fail
    refine (toIntS_any A xs c _ (hr.below (by repeat' (first | with_reducible exact Below.refl _ _ | with_reducible assumption | with_reducible apply Below.drew | with_reducible apply below_drewN | (with_reducible refine Below.setCell ?_ ?_ _) | (with_reducible refine Below.alloc ?_ ?_ _) | with_reducible exact Nat.le_refl _ | with_reducible exact Below.size (by assumption) | (simp; done) | (simp; done) | omega | (simp; omega)))) hl).mono ?_
    rintro e w17 ⟨rfl, q17, b17⟩
    have s17 : Below w16.heap.size w16 w17 := Below.trans (by repeat' (first | with_reducible exact Below.refl _ _ | with_reducible assumption | with_reducible apply Below.drew | with_reducible apply below_drewN | (with_reducible refine Below.setCell ?_ ?_ _) | (with_reducible refine Below.alloc ?_ ?_ _) | with_reducible exact Nat.le_refl _ | with_reducible exact Below.size (by assumption) | (simp; done) | (simp; done) | omega | (simp; omega))) (b17.mono (by repeat' (first | with_reducible exact Below.refl _ _ | with_reducible assumption | with_reducible apply Below.drew | with_reducible apply below_drewN | (with_reducible refine Below.setCell ?_ ?_ _) | (with_reducible refine Below.alloc ?_ ?_ _) | with_reducible exact Nat.le_refl _ | with_reducible exact Below.size (by assumption) | (simp; done) | (simp; done) | omega | (simp; omega))))
    have B17 : Below w.heap.size w w17 := Below.trans B16 (s17.mono (by omega))
    have hz17 : w.heap.size ≤ w17.heap.size := B17.size
    have sz17 : w16.heap.size ≤ w17.heap.size := s17.size
    have D17 : Below w3.heap.size w3 w17 := Below.trans D16 (s17.mono (by omega))
    clear D16
    have W0_17 := W0_16.kept s17
    clear W0_16
    have G0_17 := G0_16.kept s17
    clear G0_16
    have t15_17 := t15_16.kept s17
    clear t15_16
    clear b17 s17
    have l17 := q17.lt
    go_wp2_with fail
    refine (toGoodS_any B gs d _ (hq.below (by repeat' (first | with_reducible exact Below.refl _ _ | with_reducible assumption | with_reducible apply Below.drew | with_reducible apply below_drewN | (with_reducible refine Below.setCell ?_ ?_ _) | (with_reducible refine Below.alloc ?_ ?_ _) | with_reducible exact Nat.le_refl _ | with_reducible exact Below.size (by assumption) | (simp; done) | (simp; done) | omega | (simp; omega)))) hl2).mono ?_
    rintro e w18 ⟨rfl, q18, b18⟩
    have s18 : Below w17.heap.size w17 w18 := Below.trans (by repeat' (first | with_reducible exact Below.refl _ _ | with_reducible assumption | with_reducible apply Below.drew | with_reducible apply below_drewN | (with_reducible refine Below.setCell ?_ ?_ _) | (with_reducible refine Below.alloc ?_ ?_ _) | with_reducible exact Nat.le_refl _ | with_reducible exact Below.size (by assumption) | (simp; done) | (simp; done) | omega | (simp; omega))) (b18.mono (by repeat' (first | with_reducible exact Below.refl _ _ | with_reducible assumption | with_reducible apply Below.drew | with_reducible apply below_drewN | (with_reducible refine Below.setCell ?_ ?_ _) | (with_reducible refine Below.alloc ?_ ?_ _) | with_reducible exact Nat.le_refl _ | with_reducible exact Below.size (by assumption) | (simp; done) | (simp; done) | omega | (simp; omega))))
    have B18 : Below w.heap.size w w18 := Below.trans B17 (s18.mono (by omega))
    have hz18 : w.heap.size ≤ w18.heap.size := B18.size
    have sz18 : w17.heap.size ≤ w18.heap.size := s18.size
    have D18 : Below w3.heap.size w3 w18 := Below.trans D17 (s18.mono (by omega))
    clear D17
    have W0_18 := W0_17.kept s18
    clear W0_17
    have G0_18 := G0_17.kept s18
    clear G0_17
    have t15_18 := t15_17.kept s18
    clear t15_17
    have q17_18 := q17.kept s18
    clear q17
    clear b18 s18
    have l18 := q18.lt
    go_wp2_with fail
    refine (KI.out _ _ _ _ _ q17_18.row q18.row).mono ?_
    rintro e w19 ⟨v19, rfl, p19, b19⟩
    have s19 : Below w18.heap.size w18 w19 := Below.trans (by repeat' (first | with_reducible exact Below.refl _ _ | with_reducible assumption | with_reducible apply Below.drew | with_reducible apply below_drewN | (with_reducible refine Below.setCell ?_ ?_ _) | (with_reducible refine Below.alloc ?_ ?_ _) | with_reducible exact Nat.le_refl _ | with_reducible exact Below.size (by assumption) | (simp; done) | (simp; done) | omega | (simp; omega))) (b19.mono (by repeat' (first | with_reducible exact Below.refl _ _ | with_reducible assumption | with_reducible apply Below.drew | with_reducible apply below_drewN | (with_reducible refine Below.setCell ?_ ?_ _) | (with_reducible refine Below.alloc ?_ ?_ _) | with_reducible exact Nat.le_refl _ | with_reducible exact Below.size (by assumption) | (simp; done) | (simp; done) | omega | (simp; omega))))
    have B19 : Below w.heap.size w w19 := Below.trans B18 (s19.mono (by omega))
    have hz19 : w.heap.size ≤ w19.heap.size := B19.size
    have sz19 : w18.heap.size ≤ w19.heap.size := s19.size
    have D19 : Below w3.heap.size w3 w19 := Below.trans D18 (s19.mono (by omega))
    clear D18
    have W0_19 := W0_18.kept s19
    clear W0_18
    have G0_19 := G0_18.kept s19
    clear G0_18
    have t15_19 := t15_18.kept s19
    clear t15_18
    have q17_19 := q17_18.kept s19
    clear q17_18
    have q18_19 := q18.kept s19
    clear q18
    clear b19 s19
    obtain ⟨X19, x19, Y19, y19, Z19, z19, hv, _⟩ := p19.row; subst hv
    clear q17_19
    clear q18_19
    have c_W0 := fun i => (W0_19).cell i
    have n_W0 := (W0_19).lt
    go_wp2_with fail
    refine (KE.out _ _ _ (p19.row.below (w' := _) (by repeat' (first | with_reducible exact Below.refl _ _ | with_reducible assumption | with_reducible apply Below.drew | with_reducible apply below_drewN | (with_reducible refine Below.setCell ?_ ?_ _) | (with_reducible refine Below.alloc ?_ ?_ _) | with_reducible exact Nat.le_refl _ | with_reducible exact Below.size (by assumption) | (simp; done) | (simp; done) | omega | (simp; omega)))) (RW.out.below (w' := _) (by repeat' (first | with_reducible exact Below.refl _ _ | with_reducible assumption | with_reducible apply Below.drew | with_reducible apply below_drewN | (with_reducible refine Below.setCell ?_ ?_ _) | (with_reducible refine Below.alloc ?_ ?_ _) | with_reducible exact Nat.le_refl _ | with_reducible exact Below.size (by assumption) | (simp; done) | (simp; done) | omega | (simp; omega))))).mono ?_
    rintro e w20 ⟨rfl, b20⟩
    have H0_20 := (Blk.new' (w := w19) (cs := #[.slice X19 r.own.length x19, .slice Y19 r.inn.length y19, .slice Z19 r.gs.length z19]) (t := 30) (g := w19.heap.size) (by simp)).kept b20
    have s20 : Below w19.heap.size w19 w20 := Below.trans (by repeat' (first | with_reducible exact Below.refl _ _ | with_reducible assumption | with_reducible apply Below.drew | with_reducible apply below_drewN | (with_reducible refine Below.setCell ?_ ?_ _) | (with_reducible refine Below.alloc ?_ ?_ _) | with_reducible exact Nat.le_refl _ | with_reducible exact Below.size (by assumption) | (simp; done) | (simp; done) | omega | (simp; omega))) (b20.mono (by repeat' (first | with_reducible exact Below.refl _ _ | with_reducible assumption | with_reducible apply Below.drew | with_reducible apply below_drewN | (with_reducible refine Below.setCell ?_ ?_ _) | (with_reducible refine Below.alloc ?_ ?_ _) | with_reducible exact Nat.le_refl _ | with_reducible exact Below.size (by assumption) | (simp; done) | (simp; done) | omega | (simp; omega))))
    have B20 : Below w.heap.size w w20 := Below.trans B19 (s20.mono (by omega))
    have hz20 : w.heap.size ≤ w20.heap.size := B20.size
    have sz20 : w19.heap.size ≤ w20.heap.size := s20.size
    have D20 : Below w3.heap.size w3 w20 := Below.trans D19 (s20.mono (by omega))
    clear D19
    clear c_W0 n_W0
    have W0_20 := W0_19.kept s20
    clear W0_19
    have G0_20 := G0_19.kept s20
    clear G0_19
    have t15_20 := t15_19.kept s20
    clear t15_19
    have p19_20 := p19.kept s20
    clear p19
    clear b20 s20
    have c_G0 := fun i => (G0_20).cell i
    have n_G0 := (G0_20).lt
    go_wp2_with fail
    refine (KH.out _ _ (t15_20.row.below (w' := _) (by repeat' (first | with_reducible exact Below.refl _ _ | with_reducible assumption | with_reducible apply Below.drew | with_reducible apply below_drewN | (with_reducible refine Below.setCell ?_ ?_ _) | (with_reducible refine Below.alloc ?_ ?_ _) | with_reducible exact Nat.le_refl _ | with_reducible exact Below.size (by assumption) | (simp; done) | (simp; done) | omega | (simp; omega))))).mono ?_
    rintro e w21 ⟨rfl, b21⟩
    have s21 : Below w20.heap.size w20 w21 := Below.trans (by repeat' (first | with_reducible exact Below.refl _ _ | with_reducible assumption | with_reducible apply Below.drew | with_reducible apply below_drewN | (with_reducible refine Below.setCell ?_ ?_ _) | (with_reducible refine Below.alloc ?_ ?_ _) | with_reducible exact Nat.le_refl _ | with_reducible exact Below.size (by assumption) | (simp; done) | (simp; done) | omega | (simp; omega))) (b21.mono (by repeat' (first | with_reducible exact Below.refl _ _ | with_reducible assumption | with_reducible apply Below.drew | with_reducible apply below_drewN | (with_reducible refine Below.setCell ?_ ?_ _) | (with_reducible refine Below.alloc ?_ ?_ _) | with_reducible exact Nat.le_refl _ | with_reducible exact Below.size (by assumption) | (simp; done) | (simp; done) | omega | (simp; omega))))
    have B21 : Below w.heap.size w w21 := Below.trans B20 (s21.mono (by omega))
    have hz21 : w.heap.size ≤ w21.heap.size := B21.size
    have sz21 : w20.heap.size ≤ w21.heap.size := s21.size
    have D21 : Below w3.heap.size w3 w21 := Below.trans D20 (s21.mono (by omega))
    clear D20
    clear c_G0 n_G0
    have W0_21 := W0_20.kept s21
    clear W0_20
    have G0_21 := G0_20.kept s21
    clear G0_20
    have t15_21 := t15_20.kept s21
    clear t15_20
    have p19_21 := p19_20.kept s21
    clear p19_20
    have H0_21 := H0_20.kept s21
    clear H0_20
    clear b21 s21
    go_wp2
    go_ret
    exact ⟨rfl, (by repeat' (first | with_reducible exact Below.refl _ _ | with_reducible assumption | with_reducible apply Below.drew | with_reducible apply below_drewN | (with_reducible refine Below.setCell ?_ ?_ _) | (with_reducible refine Below.alloc ?_ ?_ _) | with_reducible exact Nat.le_refl _ | with_reducible exact Below.size (by assumption) | (simp; done) | (simp; done) | omega | (simp; omega)))⟩

theorem walk_FnExactMachineNew (A : Option Addr) (xs : List Int) (c : Nat) (B : Option Addr) (gs : List Gd) (d : Nat) (w : World) (hr : Row .i64 w A xs) (_hl : xs.length ≤ c) (_hc : c ≤ maxLen) (_hwf : ∀ n ∈ xs, (Lit.int .i64 n).wf = true) (hq : GRow w B gs) (_hl2 : gs.length ≤ d) (_hd : d ≤ maxLen) :
    Calls Try.prog 4 #[.slice A xs.length c, .slice B gs.length d] w fun e w' => e = .returned (.bool true) ∧ Below w.heap.size w w' := by
  by_cases hbig2 : 1048576 < xs.length
  · clear _hl _hc _hl2 _hd _hwf
    go_enter Try.func4, Try.ntmps4
    go_wp2
    go_ret
    exact ⟨rfl, Below.refl _ _⟩
  have hl : xs.length ≤ 1048576 := by omega
  by_cases hbig : 1048576 < gs.length
  · have hc' : gs.length ≤ maxLen := by omega
    clear _hl _hc _hl2 _hd _hwf
    go_enter Try.func4, Try.ntmps4
    go_wp2_with fail
    refine (szGoodS_no B gs.length d _ hbig hc').mono ?_
    rintro e w0 ⟨rfl, rfl⟩
    go_wp2
    go_ret
    exact ⟨rfl, Below.refl _ _⟩
  have hl2 : gs.length ≤ 1048576 := by omega
  have hsm : SmallM ((newM xs gs).getD noM) := newM_small xs gs
  exact walkR_FnExactMachineNew A xs c B gs d w hr hq hl hl2 ((newM xs gs).getD noM) (newM xs gs).isSome hsm (fun A B c d W h1 h3 => specMachineNew_any A B xs gs c d W h1 h3 (by omega) (by omega)) (fun A B c d W h1 h3 => implMachineNew_any A B xs gs c d W h1 h3)

end Go.Proofs.Ytfoohenmlagfjaa

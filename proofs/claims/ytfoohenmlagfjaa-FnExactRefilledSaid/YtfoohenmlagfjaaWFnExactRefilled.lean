/- The walk of the law FnExactRefilled: it returns true for all its arguments and writes into nothing that was there. -/
import Derived.Test.YtfoohenmlagfjaaMarkM
import Derived.Test.YtfoohenmlagfjaaSMr
import Derived.Test.YtfoohenmlagfjaaWFnExactMachineNew
namespace Go.Proofs.Ytfoohenmlagfjaa
open Go.RowKit

theorem szGoodS_left (A : Option Addr) (n c : Nat) (l : Int) (w : World) (h1 : 0 ≤ l - (n : Int)) (h2 : l ≤ 1048576) (h3 : n ≤ 1048576) :
    Calls Try.prog 11 #[.slice A n c, .int .i64 l] w fun e w' => e = .returned (.int .i64 (l - (n : Int))) ∧ Below w.heap.size w w' := by
  go_enter Try.func11, Try.ntmps11
  go_wp2
  go_ret
  exact ⟨rfl, (by repeat' (first | with_reducible exact Below.refl _ _ | with_reducible assumption | with_reducible apply Below.drew | with_reducible apply below_drewN | (with_reducible refine Below.setCell ?_ ?_ _) | (with_reducible refine Below.alloc ?_ ?_ _) | with_reducible exact Nat.le_refl _ | with_reducible exact Below.size (by assumption) | (simp; done) | (simp; done) | omega | (simp; omega)))⟩
theorem szGoodS_over (A : Option Addr) (n c : Nat) (l : Int) (w : World) (h1 : l - (n : Int) < 0) (h2 : 0 ≤ l) (h3 : l ≤ 1048576) (h4 : n ≤ maxLen) :
    Calls Try.prog 11 #[.slice A n c, .int .i64 l] w fun e w' => e = .returned (.int .i64 (-1)) ∧ Below w.heap.size w w' := by
  unfold maxLen at h4
  go_enter Try.func11, Try.ntmps11
  go_wp2
  go_ret
  exact ⟨rfl, (by repeat' (first | with_reducible exact Below.refl _ _ | with_reducible assumption | with_reducible apply Below.drew | with_reducible apply below_drewN | (with_reducible refine Below.setCell ?_ ?_ _) | (with_reducible refine Below.alloc ?_ ?_ _) | with_reducible exact Nat.le_refl _ | with_reducible exact Below.size (by assumption) | (simp; done) | (simp; done) | omega | (simp; omega)))⟩

set_option maxHeartbeats 12800000 in
theorem walkR_FnExactRefilled (v : Value) (m : Mc) (A : Option Addr) (xs : List Int) (c : Nat) (B : Option Addr) (gs : List Gd) (d : Nat) (w : World) (hrm : MRow w v m) (hr : Row .i64 w A xs) (hq : GRow w B gs) (hm : SmallM m) (hl : xs.length ≤ 1048576) (hl2 : gs.length ≤ 1048576) (hsz : m.own.length + m.inn.length + m.gs.length + gs.length ≤ 1048576) (r : Mc) (b : Bool) (hs : SmallM r)
    (S : ∀ v A B c d W, MRow W v m → Row .i64 W A xs → GRow W B gs → Calls Try.prog 22 #[v, .slice A xs.length c, .slice B gs.length d] W fun e w' => ∃ v, e = .returned (.tuple #[v, .bool b]) ∧ MRow w' v r ∧ Below W.heap.size W w') (I : ∀ v A B c d W, MRow W v m → Row .i64 W A xs → GRow W B gs → Calls Try.prog 23 #[v, .slice A xs.length c, .slice B gs.length d] W fun e w' => ∃ v, e = .returned (.tuple #[v, .bool b]) ∧ MAt w' W.heap.size w'.heap.size v r ∧ Below W.heap.size W w') :
    Calls Try.prog 5 #[v, .slice A xs.length c, .slice B gs.length d] w fun e w' => e = .returned (.bool true) ∧ Below w.heap.size w w' := by
  have KS := Lib.hid S; clear S
  have KI := Lib.hid I; clear I
  have KE := Lib.hid (fun v u W h1 h2 => eqMachine_same v u r W h1 h2 hs)
  have KEm := Lib.hid (fun v u W h1 h2 => eqMachine_same v u m W h1 h2 hm)
  have KT := Lib.hid (fun W h => toMachine_any v m W h hm)
  have KM := Lib.hid (fun v lo hi W h h1 => markMachine_any v r lo hi 1 W h hs h1 (by omega) (by omega))
  have KMm := Lib.hid (fun v lo hi W h h1 => markMachine_any v m lo hi 1 W h hm h1 (by omega) (by omega))
  have KH := Lib.hid (fun v W h => heldMachine_marked v r 1 W h hs (by omega) (by omega))
  have ht := totM_bnd hs
  have hu := totM_bnd hm
  generalize totM r = tot at *
  generalize totM m = tom at *
  obtain ⟨ht0, ht1⟩ := ht
  obtain ⟨hu0, hu1⟩ := hu
  have KZ : Hid (∀ W, MRow W v m → Calls Try.prog 6 #[v, .int .i64 1048576] W fun e w' => e = .returned (.int .i64 (1048576 - (m.own.length : Int) - (m.inn.length : Int) - (m.gs.length : Int))) ∧ Below W.heap.size W w') := Lib.hid (fun W h => szMachine_yes v m W h hm)
  obtain ⟨lft, hlft⟩ : ∃ x : Int, x = 1048576 - (m.own.length : Int) - (m.inn.length : Int) - (m.gs.length : Int) := ⟨_, rfl⟩
  rw [← hlft] at KZ
  have hk : 0 ≤ lft := by omega
  have hk1 : lft ≤ 1048576 := by omega
  have hk2 : 0 ≤ lft - (gs.length : Int) := by omega
  have KG := Lib.hid (fun W => szGoodS_left B gs.length d lft W hk2 hk1 hl2)
  generalize lft - (gs.length : Int) = lf2 at *
  have HR := Lib.hid hrm
  obtain ⟨P1, p1, P2, p2, P3, p3, rfl, _, _, _⟩ := hrm
  clear hs hm hlft hsz
  cases b
  all_goals
    go_enter Try.func5, Try.ntmps5
    go_wp2_with fail
    refine (KZ.out _ (HR.out.below (by repeat' (first | with_reducible exact Below.refl _ _ | with_reducible assumption | with_reducible apply Below.drew | with_reducible apply below_drewN | (with_reducible refine Below.setCell ?_ ?_ _) | (with_reducible refine Below.alloc ?_ ?_ _) | with_reducible exact Nat.le_refl _ | with_reducible exact Below.size (by assumption) | (simp; done) | (simp; done) | omega | (simp; omega))))).mono ?_
    rintro e w1 ⟨rfl, b1⟩
    have RA_1 := (Blk.new' (w := w) (cs := #[.slice P1 m.own.length p1, .slice P2 m.inn.length p2, .slice P3 m.gs.length p3]) (t := 25) (g := w.heap.size) (by simp)).kept b1
    have s1 : Below w.heap.size w w1 := Below.trans (by repeat' (first | with_reducible exact Below.refl _ _ | with_reducible assumption | with_reducible apply Below.drew | with_reducible apply below_drewN | (with_reducible refine Below.setCell ?_ ?_ _) | (with_reducible refine Below.alloc ?_ ?_ _) | with_reducible exact Nat.le_refl _ | with_reducible exact Below.size (by assumption) | (simp; done) | (simp; done) | omega | (simp; omega))) (b1.mono (by repeat' (first | with_reducible exact Below.refl _ _ | with_reducible assumption | with_reducible apply Below.drew | with_reducible apply below_drewN | (with_reducible refine Below.setCell ?_ ?_ _) | (with_reducible refine Below.alloc ?_ ?_ _) | with_reducible exact Nat.le_refl _ | with_reducible exact Below.size (by assumption) | (simp; done) | (simp; done) | omega | (simp; omega))))
    have B1 : Below w.heap.size w w1 := Below.trans (Below.refl w.heap.size w) (s1.mono (by omega))
    have hz1 : w.heap.size ≤ w1.heap.size := B1.size
    have sz1 : w.heap.size ≤ w1.heap.size := s1.size
    clear b1 s1
    go_wp2_with fail
    refine (KG.out _).mono ?_
    rintro e w2 ⟨rfl, b2⟩
    have s2 : Below w1.heap.size w1 w2 := Below.trans (by repeat' (first | with_reducible exact Below.refl _ _ | with_reducible assumption | with_reducible apply Below.drew | with_reducible apply below_drewN | (with_reducible refine Below.setCell ?_ ?_ _) | (with_reducible refine Below.alloc ?_ ?_ _) | with_reducible exact Nat.le_refl _ | with_reducible exact Below.size (by assumption) | (simp; done) | (simp; done) | omega | (simp; omega))) (b2.mono (by repeat' (first | with_reducible exact Below.refl _ _ | with_reducible assumption | with_reducible apply Below.drew | with_reducible apply below_drewN | (with_reducible refine Below.setCell ?_ ?_ _) | (with_reducible refine Below.alloc ?_ ?_ _) | with_reducible exact Nat.le_refl _ | with_reducible exact Below.size (by assumption) | (simp; done) | (simp; done) | omega | (simp; omega))))
    have B2 : Below w.heap.size w w2 := Below.trans B1 (s2.mono (by omega))
    have hz2 : w.heap.size ≤ w2.heap.size := B2.size
    have sz2 : w1.heap.size ≤ w2.heap.size := s2.size
    have RA_2 := RA_1.kept s2
    clear RA_1
    clear b2 s2
    have c_RA := fun i => (RA_2).cell i
    have n_RA := (RA_2).lt
    go_wp2_with fail
    refine (KT.out _ (HR.out.below (by repeat' (first | with_reducible exact Below.refl _ _ | with_reducible assumption | with_reducible apply Below.drew | with_reducible apply below_drewN | (with_reducible refine Below.setCell ?_ ?_ _) | (with_reducible refine Below.alloc ?_ ?_ _) | with_reducible exact Nat.le_refl _ | with_reducible exact Below.size (by assumption) | (simp; done) | (simp; done) | omega | (simp; omega))))).mono ?_
    rintro e w3 ⟨v3, rfl, q3, b3⟩
    have s3 : Below w2.heap.size w2 w3 := Below.trans (by repeat' (first | with_reducible exact Below.refl _ _ | with_reducible assumption | with_reducible apply Below.drew | with_reducible apply below_drewN | (with_reducible refine Below.setCell ?_ ?_ _) | (with_reducible refine Below.alloc ?_ ?_ _) | with_reducible exact Nat.le_refl _ | with_reducible exact Below.size (by assumption) | (simp; done) | (simp; done) | omega | (simp; omega))) (b3.mono (by repeat' (first | with_reducible exact Below.refl _ _ | with_reducible assumption | with_reducible apply Below.drew | with_reducible apply below_drewN | (with_reducible refine Below.setCell ?_ ?_ _) | (with_reducible refine Below.alloc ?_ ?_ _) | with_reducible exact Nat.le_refl _ | with_reducible exact Below.size (by assumption) | (simp; done) | (simp; done) | omega | (simp; omega))))
    have B3 : Below w.heap.size w w3 := Below.trans B2 (s3.mono (by omega))
    have hz3 : w.heap.size ≤ w3.heap.size := B3.size
    have sz3 : w2.heap.size ≤ w3.heap.size := s3.size
    clear c_RA n_RA
    have RA_3 := RA_2.kept s3
    clear RA_2
    clear b3 s3
    obtain ⟨X3, x3, Y3, y3, Z3, z3, hv, _⟩ := q3.row; subst hv
    go_wp2_with fail
    refine (toIntS_any A xs c _ (hr.below (by repeat' (first | with_reducible exact Below.refl _ _ | with_reducible assumption | with_reducible apply Below.drew | with_reducible apply below_drewN | (with_reducible refine Below.setCell ?_ ?_ _) | (with_reducible refine Below.alloc ?_ ?_ _) | with_reducible exact Nat.le_refl _ | with_reducible exact Below.size (by assumption) | (simp; done) | (simp; done) | omega | (simp; omega)))) hl).mono ?_
    rintro e w4 ⟨rfl, q4, b4⟩
    have s4 : Below w3.heap.size w3 w4 := Below.trans (by repeat' (first | with_reducible exact Below.refl _ _ | with_reducible assumption | with_reducible apply Below.drew | with_reducible apply below_drewN | (with_reducible refine Below.setCell ?_ ?_ _) | (with_reducible refine Below.alloc ?_ ?_ _) | with_reducible exact Nat.le_refl _ | with_reducible exact Below.size (by assumption) | (simp; done) | (simp; done) | omega | (simp; omega))) (b4.mono (by repeat' (first | with_reducible exact Below.refl _ _ | with_reducible assumption | with_reducible apply Below.drew | with_reducible apply below_drewN | (with_reducible refine Below.setCell ?_ ?_ _) | (with_reducible refine Below.alloc ?_ ?_ _) | with_reducible exact Nat.le_refl _ | with_reducible exact Below.size (by assumption) | (simp; done) | (simp; done) | omega | (simp; omega))))
    have B4 : Below w.heap.size w w4 := Below.trans B3 (s4.mono (by omega))
    have hz4 : w.heap.size ≤ w4.heap.size := B4.size
    have sz4 : w3.heap.size ≤ w4.heap.size := s4.size
    have RA_4 := RA_3.kept s4
    clear RA_3
    have q3_4 := q3.kept s4
    clear q3
    clear b4 s4
    have l4 := q4.lt
    go_wp2_with fail
    refine (toGoodS_any B gs d _ (hq.below (by repeat' (first | with_reducible exact Below.refl _ _ | with_reducible assumption | with_reducible apply Below.drew | with_reducible apply below_drewN | (with_reducible refine Below.setCell ?_ ?_ _) | (with_reducible refine Below.alloc ?_ ?_ _) | with_reducible exact Nat.le_refl _ | with_reducible exact Below.size (by assumption) | (simp; done) | (simp; done) | omega | (simp; omega)))) hl2).mono ?_
    rintro e w5 ⟨rfl, q5, b5⟩
    have s5 : Below w4.heap.size w4 w5 := Below.trans (by repeat' (first | with_reducible exact Below.refl _ _ | with_reducible assumption | with_reducible apply Below.drew | with_reducible apply below_drewN | (with_reducible refine Below.setCell ?_ ?_ _) | (with_reducible refine Below.alloc ?_ ?_ _) | with_reducible exact Nat.le_refl _ | with_reducible exact Below.size (by assumption) | (simp; done) | (simp; done) | omega | (simp; omega))) (b5.mono (by repeat' (first | with_reducible exact Below.refl _ _ | with_reducible assumption | with_reducible apply Below.drew | with_reducible apply below_drewN | (with_reducible refine Below.setCell ?_ ?_ _) | (with_reducible refine Below.alloc ?_ ?_ _) | with_reducible exact Nat.le_refl _ | with_reducible exact Below.size (by assumption) | (simp; done) | (simp; done) | omega | (simp; omega))))
    have B5 : Below w.heap.size w w5 := Below.trans B4 (s5.mono (by omega))
    have hz5 : w.heap.size ≤ w5.heap.size := B5.size
    have sz5 : w4.heap.size ≤ w5.heap.size := s5.size
    have RA_5 := RA_4.kept s5
    clear RA_4
    have q3_5 := q3_4.kept s5
    clear q3_4
    have q4_5 := q4.kept s5
    clear q4
    clear b5 s5
    have l5 := q5.lt
    go_wp2_with fail
    refine (KS.out _ _ _ _ _ _ q3_5.row q4_5.row q5.row).mono ?_
    rintro e w6 ⟨v6, rfl, r6, b6⟩
    have s6 : Below w5.heap.size w5 w6 := Below.trans (by repeat' (first | with_reducible exact Below.refl _ _ | with_reducible assumption | with_reducible apply Below.drew | with_reducible apply below_drewN | (with_reducible refine Below.setCell ?_ ?_ _) | (with_reducible refine Below.alloc ?_ ?_ _) | with_reducible exact Nat.le_refl _ | with_reducible exact Below.size (by assumption) | (simp; done) | (simp; done) | omega | (simp; omega))) (b6.mono (by repeat' (first | with_reducible exact Below.refl _ _ | with_reducible assumption | with_reducible apply Below.drew | with_reducible apply below_drewN | (with_reducible refine Below.setCell ?_ ?_ _) | (with_reducible refine Below.alloc ?_ ?_ _) | with_reducible exact Nat.le_refl _ | with_reducible exact Below.size (by assumption) | (simp; done) | (simp; done) | omega | (simp; omega))))
    have B6 : Below w.heap.size w w6 := Below.trans B5 (s6.mono (by omega))
    have hz6 : w.heap.size ≤ w6.heap.size := B6.size
    have sz6 : w5.heap.size ≤ w6.heap.size := s6.size
    have RA_6 := RA_5.kept s6
    clear RA_5
    have q3_6 := q3_5.kept s6
    clear q3_5
    have q4_6 := q4_5.kept s6
    clear q4_5
    have q5_6 := q5.kept s6
    clear q5
    clear b6 s6
    clear q3_6
    clear q4_6
    clear q5_6
    have hR := r6
    obtain ⟨X6, x6, Y6, y6, Z6, z6, hv, _⟩ := r6; subst hv
    have RW := Lib.hid hR; clear hR
    have c_RA := fun i => (RA_6).cell i
    have n_RA := (RA_6).lt
    go_wp2_with fail
    refine (KT.out _ (HR.out.below (by repeat' (first | with_reducible exact Below.refl _ _ | with_reducible assumption | with_reducible apply Below.drew | with_reducible apply below_drewN | (with_reducible refine Below.setCell ?_ ?_ _) | (with_reducible refine Below.alloc ?_ ?_ _) | with_reducible exact Nat.le_refl _ | with_reducible exact Below.size (by assumption) | (simp; done) | (simp; done) | omega | (simp; omega))))).mono ?_
    rintro e w7 ⟨v7, rfl, q7, b7⟩
    have W0_7 := (Blk.new' (w := w6) (cs := #[.slice X6 r.own.length x6, .slice Y6 r.inn.length y6, .slice Z6 r.gs.length z6]) (t := 30) (g := w6.heap.size) (by simp)).kept b7
    have s7 : Below w6.heap.size w6 w7 := Below.trans (by repeat' (first | with_reducible exact Below.refl _ _ | with_reducible assumption | with_reducible apply Below.drew | with_reducible apply below_drewN | (with_reducible refine Below.setCell ?_ ?_ _) | (with_reducible refine Below.alloc ?_ ?_ _) | with_reducible exact Nat.le_refl _ | with_reducible exact Below.size (by assumption) | (simp; done) | (simp; done) | omega | (simp; omega))) (b7.mono (by repeat' (first | with_reducible exact Below.refl _ _ | with_reducible assumption | with_reducible apply Below.drew | with_reducible apply below_drewN | (with_reducible refine Below.setCell ?_ ?_ _) | (with_reducible refine Below.alloc ?_ ?_ _) | with_reducible exact Nat.le_refl _ | with_reducible exact Below.size (by assumption) | (simp; done) | (simp; done) | omega | (simp; omega))))
    have B7 : Below w.heap.size w w7 := Below.trans B6 (s7.mono (by omega))
    have hz7 : w.heap.size ≤ w7.heap.size := B7.size
    have sz7 : w6.heap.size ≤ w7.heap.size := s7.size
    have D7 : Below w6.heap.size w6 w7 := Below.trans (Below.refl w6.heap.size w6) (s7.mono (by omega))
    clear c_RA n_RA
    have RA_7 := RA_6.kept s7
    clear RA_6
    clear b7 s7
    simp only [World.size_alloc] at q7
    obtain ⟨X7, x7, Y7, y7, Z7, z7, hv, _⟩ := q7.row; subst hv
    go_wp2_with fail
    refine (toIntS_any A xs c _ (hr.below (by repeat' (first | with_reducible exact Below.refl _ _ | with_reducible assumption | with_reducible apply Below.drew | with_reducible apply below_drewN | (with_reducible refine Below.setCell ?_ ?_ _) | (with_reducible refine Below.alloc ?_ ?_ _) | with_reducible exact Nat.le_refl _ | with_reducible exact Below.size (by assumption) | (simp; done) | (simp; done) | omega | (simp; omega)))) hl).mono ?_
    rintro e w8 ⟨rfl, q8, b8⟩
    have V0_8 := (Blk.new' (w := w7) (cs := #[.slice X7 m.own.length x7, .slice Y7 m.inn.length y7, .slice Z7 m.gs.length z7]) (t := 30) (g := w7.heap.size) (by simp)).kept b8
    have s8 : Below w7.heap.size w7 w8 := Below.trans (by repeat' (first | with_reducible exact Below.refl _ _ | with_reducible assumption | with_reducible apply Below.drew | with_reducible apply below_drewN | (with_reducible refine Below.setCell ?_ ?_ _) | (with_reducible refine Below.alloc ?_ ?_ _) | with_reducible exact Nat.le_refl _ | with_reducible exact Below.size (by assumption) | (simp; done) | (simp; done) | omega | (simp; omega))) (b8.mono (by repeat' (first | with_reducible exact Below.refl _ _ | with_reducible assumption | with_reducible apply Below.drew | with_reducible apply below_drewN | (with_reducible refine Below.setCell ?_ ?_ _) | (with_reducible refine Below.alloc ?_ ?_ _) | with_reducible exact Nat.le_refl _ | with_reducible exact Below.size (by assumption) | (simp; done) | (simp; done) | omega | (simp; omega))))
    have B8 : Below w.heap.size w w8 := Below.trans B7 (s8.mono (by omega))
    have hz8 : w.heap.size ≤ w8.heap.size := B8.size
    have sz8 : w7.heap.size ≤ w8.heap.size := s8.size
    have D8 : Below w6.heap.size w6 w8 := Below.trans D7 (s8.mono (by omega))
    clear D7
    have RA_8 := RA_7.kept s8
    clear RA_7
    have W0_8 := W0_7.kept s8
    clear W0_7
    have q7_8 := q7.kept s8
    clear q7
    clear b8 s8
    simp only [World.size_alloc] at q8
    have l8 := q8.lt
    go_wp2_with fail
    refine (toGoodS_any B gs d _ (hq.below (by repeat' (first | with_reducible exact Below.refl _ _ | with_reducible assumption | with_reducible apply Below.drew | with_reducible apply below_drewN | (with_reducible refine Below.setCell ?_ ?_ _) | (with_reducible refine Below.alloc ?_ ?_ _) | with_reducible exact Nat.le_refl _ | with_reducible exact Below.size (by assumption) | (simp; done) | (simp; done) | omega | (simp; omega)))) hl2).mono ?_
    rintro e w9 ⟨rfl, q9, b9⟩
    have s9 : Below w8.heap.size w8 w9 := Below.trans (by repeat' (first | with_reducible exact Below.refl _ _ | with_reducible assumption | with_reducible apply Below.drew | with_reducible apply below_drewN | (with_reducible refine Below.setCell ?_ ?_ _) | (with_reducible refine Below.alloc ?_ ?_ _) | with_reducible exact Nat.le_refl _ | with_reducible exact Below.size (by assumption) | (simp; done) | (simp; done) | omega | (simp; omega))) (b9.mono (by repeat' (first | with_reducible exact Below.refl _ _ | with_reducible assumption | with_reducible apply Below.drew | with_reducible apply below_drewN | (with_reducible refine Below.setCell ?_ ?_ _) | (with_reducible refine Below.alloc ?_ ?_ _) | with_reducible exact Nat.le_refl _ | with_reducible exact Below.size (by assumption) | (simp; done) | (simp; done) | omega | (simp; omega))))
    have B9 : Below w.heap.size w w9 := Below.trans B8 (s9.mono (by omega))
    have hz9 : w.heap.size ≤ w9.heap.size := B9.size
    have sz9 : w8.heap.size ≤ w9.heap.size := s9.size
    have D9 : Below w6.heap.size w6 w9 := Below.trans D8 (s9.mono (by omega))
    clear D8
    have RA_9 := RA_8.kept s9
    clear RA_8
    have W0_9 := W0_8.kept s9
    clear W0_8
    have q7_9 := q7_8.kept s9
    clear q7_8
    have V0_9 := V0_8.kept s9
    clear V0_8
    have q8_9 := q8.kept s9
    clear q8
    clear b9 s9
    have l9 := q9.lt
    have c_V0 := fun i => (V0_9).cell i
    have n_V0 := (V0_9).lt
    go_wp2_with fail
    refine (KI.out _ _ _ _ _ _ q7_9.row q8_9.row q9.row).mono ?_
    rintro e w10 ⟨v10, rfl, p10, b10⟩
    have s10 : Below w9.heap.size w9 w10 := Below.trans (by repeat' (first | with_reducible exact Below.refl _ _ | with_reducible assumption | with_reducible apply Below.drew | with_reducible apply below_drewN | (with_reducible refine Below.setCell ?_ ?_ _) | (with_reducible refine Below.alloc ?_ ?_ _) | with_reducible exact Nat.le_refl _ | with_reducible exact Below.size (by assumption) | (simp; done) | (simp; done) | omega | (simp; omega))) (b10.mono (by repeat' (first | with_reducible exact Below.refl _ _ | with_reducible assumption | with_reducible apply Below.drew | with_reducible apply below_drewN | (with_reducible refine Below.setCell ?_ ?_ _) | (with_reducible refine Below.alloc ?_ ?_ _) | with_reducible exact Nat.le_refl _ | with_reducible exact Below.size (by assumption) | (simp; done) | (simp; done) | omega | (simp; omega))))
    have B10 : Below w.heap.size w w10 := Below.trans B9 (s10.mono (by omega))
    have hz10 : w.heap.size ≤ w10.heap.size := B10.size
    have sz10 : w9.heap.size ≤ w10.heap.size := s10.size
    have D10 : Below w6.heap.size w6 w10 := Below.trans D9 (s10.mono (by omega))
    clear D9
    clear c_V0 n_V0
    have RA_10 := RA_9.kept s10
    clear RA_9
    have W0_10 := W0_9.kept s10
    clear W0_9
    have q7_10 := q7_9.kept s10
    clear q7_9
    have V0_10 := V0_9.kept s10
    clear V0_9
    have q8_10 := q8_9.kept s10
    clear q8_9
    have q9_10 := q9.kept s10
    clear q9
    clear b10 s10
    obtain ⟨X10, x10, Y10, y10, Z10, z10, hv, _⟩ := p10.row; subst hv
    have c_W0 := fun i => (W0_10).cell i
    have n_W0 := (W0_10).lt
    go_wp2_with fail
    refine (KE.out _ _ _ (p10.row.below (w' := _) (by repeat' (first | with_reducible exact Below.refl _ _ | with_reducible assumption | with_reducible apply Below.drew | with_reducible apply below_drewN | (with_reducible refine Below.setCell ?_ ?_ _) | (with_reducible refine Below.alloc ?_ ?_ _) | with_reducible exact Nat.le_refl _ | with_reducible exact Below.size (by assumption) | (simp; done) | (simp; done) | omega | (simp; omega)))) (RW.out.below (w' := _) (by repeat' (first | with_reducible exact Below.refl _ _ | with_reducible assumption | with_reducible apply Below.drew | with_reducible apply below_drewN | (with_reducible refine Below.setCell ?_ ?_ _) | (with_reducible refine Below.alloc ?_ ?_ _) | with_reducible exact Nat.le_refl _ | with_reducible exact Below.size (by assumption) | (simp; done) | (simp; done) | omega | (simp; omega))))).mono ?_
    rintro e w11 ⟨rfl, b11⟩
    have G0_11 := (Blk.new' (w := w10) (cs := #[.slice X10 r.own.length x10, .slice Y10 r.inn.length y10, .slice Z10 r.gs.length z10]) (t := 30) (g := w10.heap.size) (by simp)).kept b11
    have s11 : Below w10.heap.size w10 w11 := Below.trans (by repeat' (first | with_reducible exact Below.refl _ _ | with_reducible assumption | with_reducible apply Below.drew | with_reducible apply below_drewN | (with_reducible refine Below.setCell ?_ ?_ _) | (with_reducible refine Below.alloc ?_ ?_ _) | with_reducible exact Nat.le_refl _ | with_reducible exact Below.size (by assumption) | (simp; done) | (simp; done) | omega | (simp; omega))) (b11.mono (by repeat' (first | with_reducible exact Below.refl _ _ | with_reducible assumption | with_reducible apply Below.drew | with_reducible apply below_drewN | (with_reducible refine Below.setCell ?_ ?_ _) | (with_reducible refine Below.alloc ?_ ?_ _) | with_reducible exact Nat.le_refl _ | with_reducible exact Below.size (by assumption) | (simp; done) | (simp; done) | omega | (simp; omega))))
    have B11 : Below w.heap.size w w11 := Below.trans B10 (s11.mono (by omega))
    have hz11 : w.heap.size ≤ w11.heap.size := B11.size
    have sz11 : w10.heap.size ≤ w11.heap.size := s11.size
    have D11 : Below w6.heap.size w6 w11 := Below.trans D10 (s11.mono (by omega))
    clear D10
    clear c_W0 n_W0
    have RA_11 := RA_10.kept s11
    clear RA_10
    have W0_11 := W0_10.kept s11
    clear W0_10
    have q7_11 := q7_10.kept s11
    clear q7_10
    have V0_11 := V0_10.kept s11
    clear V0_10
    have q8_11 := q8_10.kept s11
    clear q8_10
    have q9_11 := q9_10.kept s11
    clear q9_10
    have p10_11 := p10.kept s11
    clear p10
    clear b11 s11
    have e1 := fun i => (V0_11).cell i
    have e2 := fun i => (RA_11).cell i
    have m1 := (V0_11).lt
    have m2 := (RA_11).lt
    have hqq := Lib.hid q7_11
    go_wp2_with fail
    go_region_held3 (fun w' => w'.cell? ⟨w7.heap.size, 0, none⟩ = some (.slice X7 m.own.length x7) ∧ w'.cell? ⟨w7.heap.size, 1, none⟩ = some (.slice Y7 m.inn.length y7) ∧ w'.cell? ⟨w7.heap.size, 2, none⟩ = some (.slice Z7 m.gs.length z7) ∧ w'.cell? ⟨w.heap.size, 0, none⟩ = some (.slice P1 m.own.length p1) ∧ w'.cell? ⟨w.heap.size, 1, none⟩ = some (.slice P2 m.inn.length p2) ∧ w'.cell? ⟨w.heap.size, 2, none⟩ = some (.slice P3 m.gs.length p3)) (go_keep)
      (first
        | (go_at_call 8; refine (KT.out _ (HR.out.below (by repeat' (first | with_reducible exact Below.refl _ _ | with_reducible assumption | with_reducible apply Below.drew | with_reducible apply below_drewN | (with_reducible refine Below.setCell ?_ ?_ _) | (with_reducible refine Below.alloc ?_ ?_ _) | with_reducible exact Nat.le_refl _ | with_reducible exact Below.size (by assumption) | (simp; done) | (simp; done) | omega | (simp; omega))))).mono ?_; rintro e w12 ⟨v12, rfl, q12, b12⟩; have s12 : Below w11.heap.size w11 w12 := Below.trans (by repeat' (first | with_reducible exact Below.refl _ _ | with_reducible assumption | with_reducible apply Below.drew | with_reducible apply below_drewN | (with_reducible refine Below.setCell ?_ ?_ _) | (with_reducible refine Below.alloc ?_ ?_ _) | with_reducible exact Nat.le_refl _ | with_reducible exact Below.size (by assumption) | (simp; done) | (simp; done) | omega | (simp; omega))) (b12.mono (by repeat' (first | with_reducible exact Below.refl _ _ | with_reducible assumption | with_reducible apply Below.drew | with_reducible apply below_drewN | (with_reducible refine Below.setCell ?_ ?_ _) | (with_reducible refine Below.alloc ?_ ?_ _) | with_reducible exact Nat.le_refl _ | with_reducible exact Below.size (by assumption) | (simp; done) | (simp; done) | omega | (simp; omega)))); have B12 : Below w.heap.size w w12 := Below.trans B11 (s12.mono hz11); have sz12 := s12.size; have hz12 := B12.size; have m1 : w7.heap.size < w12.heap.size := (by omega); have m2 : w.heap.size < w12.heap.size := (by omega); obtain ⟨o12, f12⟩ := olds s12; have hq2 := Lib.hid q12; have hq3 := Lib.hid (hqq.out.kept s12); obtain ⟨X12, x12, Y12, y12, Z12, z12, hv, _⟩ := q12.row; subst hv; clear q12)
        | (go_at_call 10; refine (KEm.out _ _ _ hq3.out.row hq2.out.row).mono ?_; rintro e w13 ⟨rfl, b13⟩; have B13 : Below w.heap.size w w13 := Below.trans B12 (b13.mono hz12); have sz13 := b13.size; have hz13 := B13.size; have m1 : w7.heap.size < w13.heap.size := (by omega); have m2 : w.heap.size < w13.heap.size := (by omega); obtain ⟨o13, f13⟩ := olds b13))
    clear o12 f12 o13 f13
    have s13 : Below w11.heap.size w11 w13 := Below.trans s12 (b13.mono sz12)
    have D13 : Below w6.heap.size w6 w13 := Below.trans D11 (s13.mono (by omega))
    clear D11
    have sy13 := s13.size
    have RA_13 := RA_11.kept s13
    clear RA_11
    have W0_13 := W0_11.kept s13
    clear W0_11
    have q7_13 := q7_11.kept s13
    clear q7_11
    have V0_13 := V0_11.kept s13
    clear V0_11
    have q8_13 := q8_11.kept s13
    clear q8_11
    have q9_13 := q9_11.kept s13
    clear q9_11
    have p10_13 := p10_11.kept s13
    clear p10_11
    have G0_13 := G0_11.kept s13
    clear G0_11
    clear e1 e2 m1 m2 hqq hq2 hq3 s12 s13
    go_wp2_with fail
    refine (toIntS_any A xs c _ (hr.below (by repeat' (first | with_reducible exact Below.refl _ _ | with_reducible assumption | with_reducible apply Below.drew | with_reducible apply below_drewN | (with_reducible refine Below.setCell ?_ ?_ _) | (with_reducible refine Below.alloc ?_ ?_ _) | with_reducible exact Nat.le_refl _ | with_reducible exact Below.size (by assumption) | (simp; done) | (simp; done) | omega | (simp; omega)))) hl).mono ?_
    rintro e w14 ⟨rfl, q14, b14⟩
    have s14 : Below w13.heap.size w13 w14 := Below.trans (by repeat' (first | with_reducible exact Below.refl _ _ | with_reducible assumption | with_reducible apply Below.drew | with_reducible apply below_drewN | (with_reducible refine Below.setCell ?_ ?_ _) | (with_reducible refine Below.alloc ?_ ?_ _) | with_reducible exact Nat.le_refl _ | with_reducible exact Below.size (by assumption) | (simp; done) | (simp; done) | omega | (simp; omega))) (b14.mono (by repeat' (first | with_reducible exact Below.refl _ _ | with_reducible assumption | with_reducible apply Below.drew | with_reducible apply below_drewN | (with_reducible refine Below.setCell ?_ ?_ _) | (with_reducible refine Below.alloc ?_ ?_ _) | with_reducible exact Nat.le_refl _ | with_reducible exact Below.size (by assumption) | (simp; done) | (simp; done) | omega | (simp; omega))))
    have B14 : Below w.heap.size w w14 := Below.trans B13 (s14.mono (by omega))
    have hz14 : w.heap.size ≤ w14.heap.size := B14.size
    have sz14 : w13.heap.size ≤ w14.heap.size := s14.size
    have D14 : Below w6.heap.size w6 w14 := Below.trans D13 (s14.mono (by omega))
    clear D13
    have RA_14 := RA_13.kept s14
    clear RA_13
    have W0_14 := W0_13.kept s14
    clear W0_13
    have q7_14 := q7_13.kept s14
    clear q7_13
    have V0_14 := V0_13.kept s14
    clear V0_13
    have q8_14 := q8_13.kept s14
    clear q8_13
    have q9_14 := q9_13.kept s14
    clear q9_13
    have p10_14 := p10_13.kept s14
    clear p10_13
    have G0_14 := G0_13.kept s14
    clear G0_13
    clear b14 s14
    have l14 := q14.lt
    go_wp2_with fail
    refine (eqIntS_same _ _ xs _ _ _ q8_14.row q14.row hl).mono ?_
    rintro e w15 ⟨rfl, b15⟩
    have s15 : Below w14.heap.size w14 w15 := Below.trans (by repeat' (first | with_reducible exact Below.refl _ _ | with_reducible assumption | with_reducible apply Below.drew | with_reducible apply below_drewN | (with_reducible refine Below.setCell ?_ ?_ _) | (with_reducible refine Below.alloc ?_ ?_ _) | with_reducible exact Nat.le_refl _ | with_reducible exact Below.size (by assumption) | (simp; done) | (simp; done) | omega | (simp; omega))) (b15.mono (by repeat' (first | with_reducible exact Below.refl _ _ | with_reducible assumption | with_reducible apply Below.drew | with_reducible apply below_drewN | (with_reducible refine Below.setCell ?_ ?_ _) | (with_reducible refine Below.alloc ?_ ?_ _) | with_reducible exact Nat.le_refl _ | with_reducible exact Below.size (by assumption) | (simp; done) | (simp; done) | omega | (simp; omega))))
    have B15 : Below w.heap.size w w15 := Below.trans B14 (s15.mono (by omega))
    have hz15 : w.heap.size ≤ w15.heap.size := B15.size
    have sz15 : w14.heap.size ≤ w15.heap.size := s15.size
    have D15 : Below w6.heap.size w6 w15 := Below.trans D14 (s15.mono (by omega))
    clear D14
    have RA_15 := RA_14.kept s15
    clear RA_14
    have W0_15 := W0_14.kept s15
    clear W0_14
    have q7_15 := q7_14.kept s15
    clear q7_14
    have V0_15 := V0_14.kept s15
    clear V0_14
    have q8_15 := q8_14.kept s15
    clear q8_14
    have q9_15 := q9_14.kept s15
    clear q9_14
    have p10_15 := p10_14.kept s15
    clear p10_14
    have G0_15 := G0_14.kept s15
    clear G0_14
    have q14_15 := q14.kept s15
    clear q14
    clear b15 s15
    clear q14_15
    go_wp2_with fail
    refine (toGoodS_any B gs d _ (hq.below (by repeat' (first | with_reducible exact Below.refl _ _ | with_reducible assumption | with_reducible apply Below.drew | with_reducible apply below_drewN | (with_reducible refine Below.setCell ?_ ?_ _) | (with_reducible refine Below.alloc ?_ ?_ _) | with_reducible exact Nat.le_refl _ | with_reducible exact Below.size (by assumption) | (simp; done) | (simp; done) | omega | (simp; omega)))) hl2).mono ?_
    rintro e w16 ⟨rfl, q16, b16⟩
    have s16 : Below w15.heap.size w15 w16 := Below.trans (by repeat' (first | with_reducible exact Below.refl _ _ | with_reducible assumption | with_reducible apply Below.drew | with_reducible apply below_drewN | (with_reducible refine Below.setCell ?_ ?_ _) | (with_reducible refine Below.alloc ?_ ?_ _) | with_reducible exact Nat.le_refl _ | with_reducible exact Below.size (by assumption) | (simp; done) | (simp; done) | omega | (simp; omega))) (b16.mono (by repeat' (first | with_reducible exact Below.refl _ _ | with_reducible assumption | with_reducible apply Below.drew | with_reducible apply below_drewN | (with_reducible refine Below.setCell ?_ ?_ _) | (with_reducible refine Below.alloc ?_ ?_ _) | with_reducible exact Nat.le_refl _ | with_reducible exact Below.size (by assumption) | (simp; done) | (simp; done) | omega | (simp; omega))))
    have B16 : Below w.heap.size w w16 := Below.trans B15 (s16.mono (by omega))
    have hz16 : w.heap.size ≤ w16.heap.size := B16.size
    have sz16 : w15.heap.size ≤ w16.heap.size := s16.size
    have D16 : Below w6.heap.size w6 w16 := Below.trans D15 (s16.mono (by omega))
    clear D15
    have RA_16 := RA_15.kept s16
    clear RA_15
    have W0_16 := W0_15.kept s16
    clear W0_15
    have q7_16 := q7_15.kept s16
    clear q7_15
    have V0_16 := V0_15.kept s16
    clear V0_15
    have q8_16 := q8_15.kept s16
    clear q8_15
    have q9_16 := q9_15.kept s16
    clear q9_15
    have p10_16 := p10_15.kept s16
    clear p10_15
    have G0_16 := G0_15.kept s16
    clear G0_15
    clear b16 s16
    have l16 := q16.lt
    go_wp2_with fail
    refine (eqGoodS_same _ _ gs gs.length _ _ rfl _ q9_16.row q16.row hl2).mono ?_
    rintro e w17 ⟨rfl, b17⟩
    have s17 : Below w16.heap.size w16 w17 := Below.trans (by repeat' (first | with_reducible exact Below.refl _ _ | with_reducible assumption | with_reducible apply Below.drew | with_reducible apply below_drewN | (with_reducible refine Below.setCell ?_ ?_ _) | (with_reducible refine Below.alloc ?_ ?_ _) | with_reducible exact Nat.le_refl _ | with_reducible exact Below.size (by assumption) | (simp; done) | (simp; done) | omega | (simp; omega))) (b17.mono (by repeat' (first | with_reducible exact Below.refl _ _ | with_reducible assumption | with_reducible apply Below.drew | with_reducible apply below_drewN | (with_reducible refine Below.setCell ?_ ?_ _) | (with_reducible refine Below.alloc ?_ ?_ _) | with_reducible exact Nat.le_refl _ | with_reducible exact Below.size (by assumption) | (simp; done) | (simp; done) | omega | (simp; omega))))
    have B17 : Below w.heap.size w w17 := Below.trans B16 (s17.mono (by omega))
    have hz17 : w.heap.size ≤ w17.heap.size := B17.size
    have sz17 : w16.heap.size ≤ w17.heap.size := s17.size
    have D17 : Below w6.heap.size w6 w17 := Below.trans D16 (s17.mono (by omega))
    clear D16
    have RA_17 := RA_16.kept s17
    clear RA_16
    have W0_17 := W0_16.kept s17
    clear W0_16
    have q7_17 := q7_16.kept s17
    clear q7_16
    have V0_17 := V0_16.kept s17
    clear V0_16
    have q8_17 := q8_16.kept s17
    clear q8_16
    have q9_17 := q9_16.kept s17
    clear q9_16
    have p10_17 := p10_16.kept s17
    clear p10_16
    have G0_17 := G0_16.kept s17
    clear G0_16
    have q16_17 := q16.kept s17
    clear q16
    clear b17 s17
    clear q16_17
    have c_V0 := fun i => (V0_17).cell i
    have n_V0 := (V0_17).lt
    go_wp2_with fail
    refine (KMm.out _ _ _ _ q7_17 (by omega)).mono ?_
    rintro e w18 ⟨rfl, q18, o18⟩
    have O18 := Lib.hid o18; have s18 := o18.1; clear o18
    have B18 : Below w.heap.size w w18 := Below.trans B17 (s18.mono (by omega))
    have hz18 : w.heap.size ≤ w18.heap.size := B18.size
    have sz18 : w17.heap.size ≤ w18.heap.size := s18.size
    have D18 : Below w6.heap.size w6 w18 := Below.trans D17 (s18.mono (by omega))
    clear D17
    clear c_V0 n_V0
    have RA_18 := RA_17.outs O18.out (by omega)
    clear RA_17
    have W0_18 := W0_17.outs O18.out (by omega)
    clear W0_17
    clear q7_17
    have V0_18 := V0_17.outs O18.out (by omega)
    clear V0_17
    have q8_18 := q8_17.outs O18.out (by omega)
    clear q8_17
    have q9_18 := q9_17.outs O18.out (by omega)
    clear q9_17
    have p10_18 := p10_17.outs O18.out (by omega) (by omega)
    clear p10_17
    have G0_18 := G0_17.outs O18.out (by omega)
    clear G0_17
    clear q18
    clear s18
    clear V0_18
    go_wp2_with fail
    refine (markIntS_any _ xs.length _ (1 + tom) _ _ _ q8_18 (cellsOf_size xs) hl (by omega) (by omega)).mono ?_
    rintro e w19 ⟨rfl, ⟨cs19, q19, m19⟩, s19, o19⟩
    have O19 := Lib.hid o19; clear o19
    have B19 : Below w.heap.size w w19 := Below.trans B18 (s19.mono (by omega))
    have hz19 : w.heap.size ≤ w19.heap.size := B19.size
    have sz19 : w18.heap.size ≤ w19.heap.size := s19.size
    have D19 : Below w6.heap.size w6 w19 := Below.trans D18 (s19.mono (by omega))
    clear D18
    have RA_19 := RA_18.other O19.out (by omega)
    clear RA_18
    have W0_19 := W0_18.other O19.out (by omega)
    clear W0_18
    clear q8_18
    have q9_19 := q9_18.other O19.out (by omega)
    clear q9_18
    have p10_19 := p10_18.other O19.out (by omega)
    clear p10_18
    have G0_19 := G0_18.other O19.out (by omega)
    clear G0_18
    clear s19 m19 q19
    obtain ⟨csA, hA, hAs, _⟩ := q9_19
    go_wp2_with fail
    refine (markGoodS_any _ gs.length _ (1 + tom + (xs.length : Int)) _ _ _ hA (by omega) hl2 (by omega) (by omega)).mono ?_
    rintro e w20 ⟨rfl, ⟨cs20, q20, m20⟩, s20, o20⟩
    have O20 := Lib.hid o20; clear o20
    have B20 : Below w.heap.size w w20 := Below.trans B19 (s20.mono (by omega))
    have hz20 : w.heap.size ≤ w20.heap.size := B20.size
    have sz20 : w19.heap.size ≤ w20.heap.size := s20.size
    have D20 : Below w6.heap.size w6 w20 := Below.trans D19 (s20.mono (by omega))
    clear D19
    have RA_20 := RA_19.other O20.out (by omega)
    clear RA_19
    have W0_20 := W0_19.other O20.out (by omega)
    clear W0_19
    have p10_20 := p10_19.other O20.out (by omega)
    clear p10_19
    have G0_20 := G0_19.other O20.out (by omega)
    clear G0_19
    clear hA
    clear s20 m20 q20
    have c_W0 := fun i => (W0_20).cell i
    have n_W0 := (W0_20).lt
    have c_G0 := fun i => (G0_20).cell i
    have n_G0 := (G0_20).lt
    go_wp2_with fail
    refine (KE.out _ _ _ (p10_20.row.below (w' := _) (by repeat' (first | with_reducible exact Below.refl _ _ | with_reducible assumption | with_reducible apply Below.drew | with_reducible apply below_drewN | (with_reducible refine Below.setCell ?_ ?_ _) | (with_reducible refine Below.alloc ?_ ?_ _) | with_reducible exact Nat.le_refl _ | with_reducible exact Below.size (by assumption) | (simp; done) | (simp; done) | omega | (simp; omega)))) (RW.out.below (w' := _) (by repeat' (first | with_reducible exact Below.refl _ _ | with_reducible assumption | with_reducible apply Below.drew | with_reducible apply below_drewN | (with_reducible refine Below.setCell ?_ ?_ _) | (with_reducible refine Below.alloc ?_ ?_ _) | with_reducible exact Nat.le_refl _ | with_reducible exact Below.size (by assumption) | (simp; done) | (simp; done) | omega | (simp; omega))))).mono ?_
    rintro e w21 ⟨rfl, b21⟩
    have s21 : Below w20.heap.size w20 w21 := Below.trans (by repeat' (first | with_reducible exact Below.refl _ _ | with_reducible assumption | with_reducible apply Below.drew | with_reducible apply below_drewN | (with_reducible refine Below.setCell ?_ ?_ _) | (with_reducible refine Below.alloc ?_ ?_ _) | with_reducible exact Nat.le_refl _ | with_reducible exact Below.size (by assumption) | (simp; done) | (simp; done) | omega | (simp; omega))) (b21.mono (by repeat' (first | with_reducible exact Below.refl _ _ | with_reducible assumption | with_reducible apply Below.drew | with_reducible apply below_drewN | (with_reducible refine Below.setCell ?_ ?_ _) | (with_reducible refine Below.alloc ?_ ?_ _) | with_reducible exact Nat.le_refl _ | with_reducible exact Below.size (by assumption) | (simp; done) | (simp; done) | omega | (simp; omega))))
    have B21 : Below w.heap.size w w21 := Below.trans B20 (s21.mono (by omega))
    have hz21 : w.heap.size ≤ w21.heap.size := B21.size
    have sz21 : w20.heap.size ≤ w21.heap.size := s21.size
    have D21 : Below w6.heap.size w6 w21 := Below.trans D20 (s21.mono (by omega))
    clear D20
    clear c_W0 n_W0
    clear c_G0 n_G0
    have RA_21 := RA_20.kept s21
    clear RA_20
    have W0_21 := W0_20.kept s21
    clear W0_20
    have p10_21 := p10_20.kept s21
    clear p10_20
    have G0_21 := G0_20.kept s21
    clear G0_20
    clear b21 s21
    have c_G0 := fun i => (G0_21).cell i
    have n_G0 := (G0_21).lt
    go_wp2_with fail
    refine (KM.out _ _ _ _ p10_21 (by omega)).mono ?_
    rintro e w22 ⟨rfl, q22, o22⟩
    have O22 := Lib.hid o22; have s22 := o22.1; clear o22
    have B22 : Below w.heap.size w w22 := Below.trans B21 (s22.mono (by omega))
    have hz22 : w.heap.size ≤ w22.heap.size := B22.size
    have sz22 : w21.heap.size ≤ w22.heap.size := s22.size
    have D22 : Below w6.heap.size w6 w22 := Below.trans D21 (s22.mono (by omega))
    clear D21
    clear c_G0 n_G0
    have RA_22 := RA_21.outs O22.out (by omega)
    clear RA_21
    have W0_22 := W0_21.outs O22.out (by omega)
    clear W0_21
    clear p10_21
    have G0_22 := G0_21.outs O22.out (by omega)
    clear G0_21
    clear s22
    have c_G0 := fun i => (G0_22).cell i
    have n_G0 := (G0_22).lt
    go_wp2_with fail
    refine (KH.out _ _ (q22.row.below (w' := _) (by repeat' (first | with_reducible exact Below.refl _ _ | with_reducible assumption | with_reducible apply Below.drew | with_reducible apply below_drewN | (with_reducible refine Below.setCell ?_ ?_ _) | (with_reducible refine Below.alloc ?_ ?_ _) | with_reducible exact Nat.le_refl _ | with_reducible exact Below.size (by assumption) | (simp; done) | (simp; done) | omega | (simp; omega))))).mono ?_
    rintro e w23 ⟨rfl, b23⟩
    have s23 : Below w22.heap.size w22 w23 := Below.trans (by repeat' (first | with_reducible exact Below.refl _ _ | with_reducible assumption | with_reducible apply Below.drew | with_reducible apply below_drewN | (with_reducible refine Below.setCell ?_ ?_ _) | (with_reducible refine Below.alloc ?_ ?_ _) | with_reducible exact Nat.le_refl _ | with_reducible exact Below.size (by assumption) | (simp; done) | (simp; done) | omega | (simp; omega))) (b23.mono (by repeat' (first | with_reducible exact Below.refl _ _ | with_reducible assumption | with_reducible apply Below.drew | with_reducible apply below_drewN | (with_reducible refine Below.setCell ?_ ?_ _) | (with_reducible refine Below.alloc ?_ ?_ _) | with_reducible exact Nat.le_refl _ | with_reducible exact Below.size (by assumption) | (simp; done) | (simp; done) | omega | (simp; omega))))
    have B23 : Below w.heap.size w w23 := Below.trans B22 (s23.mono (by omega))
    have hz23 : w.heap.size ≤ w23.heap.size := B23.size
    have sz23 : w22.heap.size ≤ w23.heap.size := s23.size
    have D23 : Below w6.heap.size w6 w23 := Below.trans D22 (s23.mono (by omega))
    clear D22
    clear c_G0 n_G0
    have RA_23 := RA_22.kept s23
    clear RA_22
    have W0_23 := W0_22.kept s23
    clear W0_22
    have G0_23 := G0_22.kept s23
    clear G0_22
    have t22_23 := q22.kept s23
    clear q22
    clear b23 s23
    have c_RA := fun i => (RA_23).cell i
    have n_RA := (RA_23).lt
    go_wp2_with fail
    refine (KT.out _ (HR.out.below (by repeat' (first | with_reducible exact Below.refl _ _ | with_reducible assumption | with_reducible apply Below.drew | with_reducible apply below_drewN | (with_reducible refine Below.setCell ?_ ?_ _) | (with_reducible refine Below.alloc ?_ ?_ _) | with_reducible exact Nat.le_refl _ | with_reducible exact Below.size (by assumption) | (simp; done) | (simp; done) | omega | (simp; omega))))).mono ?_
    rintro e w24 ⟨v24, rfl, q24, b24⟩
    have s24 : Below w23.heap.size w23 w24 := Below.trans (by repeat' (first | with_reducible exact Below.refl _ _ | with_reducible assumption | with_reducible apply Below.drew | with_reducible apply below_drewN | (with_reducible refine Below.setCell ?_ ?_ _) | (with_reducible refine Below.alloc ?_ ?_ _) | with_reducible exact Nat.le_refl _ | with_reducible exact Below.size (by assumption) | (simp; done) | (simp; done) | omega | (simp; omega))) (b24.mono (by repeat' (first | with_reducible exact Below.refl _ _ | with_reducible assumption | with_reducible apply Below.drew | with_reducible apply below_drewN | (with_reducible refine Below.setCell ?_ ?_ _) | (with_reducible refine Below.alloc ?_ ?_ _) | with_reducible exact Nat.le_refl _ | with_reducible exact Below.size (by assumption) | (simp; done) | (simp; done) | omega | (simp; omega))))
    have B24 : Below w.heap.size w w24 := Below.trans B23 (s24.mono (by omega))
    have hz24 : w.heap.size ≤ w24.heap.size := B24.size
    have sz24 : w23.heap.size ≤ w24.heap.size := s24.size
    have D24 : Below w6.heap.size w6 w24 := Below.trans D23 (s24.mono (by omega))
    clear D23
    clear c_RA n_RA
    have RA_24 := RA_23.kept s24
    clear RA_23
    have W0_24 := W0_23.kept s24
    clear W0_23
    have G0_24 := G0_23.kept s24
    clear G0_23
    have t22_24 := t22_23.kept s24
    clear t22_23
    clear b24 s24
    obtain ⟨X24, x24, Y24, y24, Z24, z24, hv, _⟩ := q24.row; subst hv
    go_wp2_with fail
    refine (toIntS_any A xs c _ (hr.below (by repeat' (first | with_reducible exact Below.refl _ _ | with_reducible assumption | with_reducible apply Below.drew | with_reducible apply below_drewN | (with_reducible refine Below.setCell ?_ ?_ _) | (with_reducible refine Below.alloc ?_ ?_ _) | with_reducible exact Nat.le_refl _ | with_reducible exact Below.size (by assumption) | (simp; done) | (simp; done) | omega | (simp; omega)))) hl).mono ?_
    rintro e w25 ⟨rfl, q25, b25⟩
    have s25 : Below w24.heap.size w24 w25 := Below.trans (by repeat' (first | with_reducible exact Below.refl _ _ | with_reducible assumption | with_reducible apply Below.drew | with_reducible apply below_drewN | (with_reducible refine Below.setCell ?_ ?_ _) | (with_reducible refine Below.alloc ?_ ?_ _) | with_reducible exact Nat.le_refl _ | with_reducible exact Below.size (by assumption) | (simp; done) | (simp; done) | omega | (simp; omega))) (b25.mono (by repeat' (first | with_reducible exact Below.refl _ _ | with_reducible assumption | with_reducible apply Below.drew | with_reducible apply below_drewN | (with_reducible refine Below.setCell ?_ ?_ _) | (with_reducible refine Below.alloc ?_ ?_ _) | with_reducible exact Nat.le_refl _ | with_reducible exact Below.size (by assumption) | (simp; done) | (simp; done) | omega | (simp; omega))))
    have B25 : Below w.heap.size w w25 := Below.trans B24 (s25.mono (by omega))
    have hz25 : w.heap.size ≤ w25.heap.size := B25.size
    have sz25 : w24.heap.size ≤ w25.heap.size := s25.size
    have D25 : Below w6.heap.size w6 w25 := Below.trans D24 (s25.mono (by omega))
    clear D24
    have RA_25 := RA_24.kept s25
    clear RA_24
    have W0_25 := W0_24.kept s25
    clear W0_24
    have G0_25 := G0_24.kept s25
    clear G0_24
    have t22_25 := t22_24.kept s25
    clear t22_24
    have q24_25 := q24.kept s25
    clear q24
    clear b25 s25
    have l25 := q25.lt
    go_wp2_with fail
    refine (toGoodS_any B gs d _ (hq.below (by repeat' (first | with_reducible exact Below.refl _ _ | with_reducible assumption | with_reducible apply Below.drew | with_reducible apply below_drewN | (with_reducible refine Below.setCell ?_ ?_ _) | (with_reducible refine Below.alloc ?_ ?_ _) | with_reducible exact Nat.le_refl _ | with_reducible exact Below.size (by assumption) | (simp; done) | (simp; done) | omega | (simp; omega)))) hl2).mono ?_
    rintro e w26 ⟨rfl, q26, b26⟩
    have s26 : Below w25.heap.size w25 w26 := Below.trans (by repeat' (first | with_reducible exact Below.refl _ _ | with_reducible assumption | with_reducible apply Below.drew | with_reducible apply below_drewN | (with_reducible refine Below.setCell ?_ ?_ _) | (with_reducible refine Below.alloc ?_ ?_ _) | with_reducible exact Nat.le_refl _ | with_reducible exact Below.size (by assumption) | (simp; done) | (simp; done) | omega | (simp; omega))) (b26.mono (by repeat' (first | with_reducible exact Below.refl _ _ | with_reducible assumption | with_reducible apply Below.drew | with_reducible apply below_drewN | (with_reducible refine Below.setCell ?_ ?_ _) | (with_reducible refine Below.alloc ?_ ?_ _) | with_reducible exact Nat.le_refl _ | with_reducible exact Below.size (by assumption) | (simp; done) | (simp; done) | omega | (simp; omega))))
    have B26 : Below w.heap.size w w26 := Below.trans B25 (s26.mono (by omega))
    have hz26 : w.heap.size ≤ w26.heap.size := B26.size
    have sz26 : w25.heap.size ≤ w26.heap.size := s26.size
    have D26 : Below w6.heap.size w6 w26 := Below.trans D25 (s26.mono (by omega))
    clear D25
    have RA_26 := RA_25.kept s26
    clear RA_25
    have W0_26 := W0_25.kept s26
    clear W0_25
    have G0_26 := G0_25.kept s26
    clear G0_25
    have t22_26 := t22_25.kept s26
    clear t22_25
    have q24_26 := q24_25.kept s26
    clear q24_25
    have q25_26 := q25.kept s26
    clear q25
    clear b26 s26
    have l26 := q26.lt
    go_wp2_with fail
    refine (KI.out _ _ _ _ _ _ q24_26.row q25_26.row q26.row).mono ?_
    rintro e w27 ⟨v27, rfl, p27, b27⟩
    have s27 : Below w26.heap.size w26 w27 := Below.trans (by repeat' (first | with_reducible exact Below.refl _ _ | with_reducible assumption | with_reducible apply Below.drew | with_reducible apply below_drewN | (with_reducible refine Below.setCell ?_ ?_ _) | (with_reducible refine Below.alloc ?_ ?_ _) | with_reducible exact Nat.le_refl _ | with_reducible exact Below.size (by assumption) | (simp; done) | (simp; done) | omega | (simp; omega))) (b27.mono (by repeat' (first | with_reducible exact Below.refl _ _ | with_reducible assumption | with_reducible apply Below.drew | with_reducible apply below_drewN | (with_reducible refine Below.setCell ?_ ?_ _) | (with_reducible refine Below.alloc ?_ ?_ _) | with_reducible exact Nat.le_refl _ | with_reducible exact Below.size (by assumption) | (simp; done) | (simp; done) | omega | (simp; omega))))
    have B27 : Below w.heap.size w w27 := Below.trans B26 (s27.mono (by omega))
    have hz27 : w.heap.size ≤ w27.heap.size := B27.size
    have sz27 : w26.heap.size ≤ w27.heap.size := s27.size
    have D27 : Below w6.heap.size w6 w27 := Below.trans D26 (s27.mono (by omega))
    clear D26
    have RA_27 := RA_26.kept s27
    clear RA_26
    have W0_27 := W0_26.kept s27
    clear W0_26
    have G0_27 := G0_26.kept s27
    clear G0_26
    have t22_27 := t22_26.kept s27
    clear t22_26
    have q24_27 := q24_26.kept s27
    clear q24_26
    have q25_27 := q25_26.kept s27
    clear q25_26
    have q26_27 := q26.kept s27
    clear q26
    clear b27 s27
    obtain ⟨X27, x27, Y27, y27, Z27, z27, hv, _⟩ := p27.row; subst hv
    clear q24_27
    clear q25_27
    clear q26_27
    clear RA_27
    have c_W0 := fun i => (W0_27).cell i
    have n_W0 := (W0_27).lt
    go_wp2_with fail
    refine (KE.out _ _ _ (p27.row.below (w' := _) (by repeat' (first | with_reducible exact Below.refl _ _ | with_reducible assumption | with_reducible apply Below.drew | with_reducible apply below_drewN | (with_reducible refine Below.setCell ?_ ?_ _) | (with_reducible refine Below.alloc ?_ ?_ _) | with_reducible exact Nat.le_refl _ | with_reducible exact Below.size (by assumption) | (simp; done) | (simp; done) | omega | (simp; omega)))) (RW.out.below (w' := _) (by repeat' (first | with_reducible exact Below.refl _ _ | with_reducible assumption | with_reducible apply Below.drew | with_reducible apply below_drewN | (with_reducible refine Below.setCell ?_ ?_ _) | (with_reducible refine Below.alloc ?_ ?_ _) | with_reducible exact Nat.le_refl _ | with_reducible exact Below.size (by assumption) | (simp; done) | (simp; done) | omega | (simp; omega))))).mono ?_
    rintro e w28 ⟨rfl, b28⟩
    have H0_28 := (Blk.new' (w := w27) (cs := #[.slice X27 r.own.length x27, .slice Y27 r.inn.length y27, .slice Z27 r.gs.length z27]) (t := 30) (g := w27.heap.size) (by simp)).kept b28
    have s28 : Below w27.heap.size w27 w28 := Below.trans (by repeat' (first | with_reducible exact Below.refl _ _ | with_reducible assumption | with_reducible apply Below.drew | with_reducible apply below_drewN | (with_reducible refine Below.setCell ?_ ?_ _) | (with_reducible refine Below.alloc ?_ ?_ _) | with_reducible exact Nat.le_refl _ | with_reducible exact Below.size (by assumption) | (simp; done) | (simp; done) | omega | (simp; omega))) (b28.mono (by repeat' (first | with_reducible exact Below.refl _ _ | with_reducible assumption | with_reducible apply Below.drew | with_reducible apply below_drewN | (with_reducible refine Below.setCell ?_ ?_ _) | (with_reducible refine Below.alloc ?_ ?_ _) | with_reducible exact Nat.le_refl _ | with_reducible exact Below.size (by assumption) | (simp; done) | (simp; done) | omega | (simp; omega))))
    have B28 : Below w.heap.size w w28 := Below.trans B27 (s28.mono (by omega))
    have hz28 : w.heap.size ≤ w28.heap.size := B28.size
    have sz28 : w27.heap.size ≤ w28.heap.size := s28.size
    have D28 : Below w6.heap.size w6 w28 := Below.trans D27 (s28.mono (by omega))
    clear D27
    clear c_W0 n_W0
    have W0_28 := W0_27.kept s28
    clear W0_27
    have G0_28 := G0_27.kept s28
    clear G0_27
    have t22_28 := t22_27.kept s28
    clear t22_27
    have p27_28 := p27.kept s28
    clear p27
    clear b28 s28
    have c_G0 := fun i => (G0_28).cell i
    have n_G0 := (G0_28).lt
    go_wp2_with fail
    refine (KH.out _ _ (t22_28.row.below (w' := _) (by repeat' (first | with_reducible exact Below.refl _ _ | with_reducible assumption | with_reducible apply Below.drew | with_reducible apply below_drewN | (with_reducible refine Below.setCell ?_ ?_ _) | (with_reducible refine Below.alloc ?_ ?_ _) | with_reducible exact Nat.le_refl _ | with_reducible exact Below.size (by assumption) | (simp; done) | (simp; done) | omega | (simp; omega))))).mono ?_
    rintro e w29 ⟨rfl, b29⟩
    have s29 : Below w28.heap.size w28 w29 := Below.trans (by repeat' (first | with_reducible exact Below.refl _ _ | with_reducible assumption | with_reducible apply Below.drew | with_reducible apply below_drewN | (with_reducible refine Below.setCell ?_ ?_ _) | (with_reducible refine Below.alloc ?_ ?_ _) | with_reducible exact Nat.le_refl _ | with_reducible exact Below.size (by assumption) | (simp; done) | (simp; done) | omega | (simp; omega))) (b29.mono (by repeat' (first | with_reducible exact Below.refl _ _ | with_reducible assumption | with_reducible apply Below.drew | with_reducible apply below_drewN | (with_reducible refine Below.setCell ?_ ?_ _) | (with_reducible refine Below.alloc ?_ ?_ _) | with_reducible exact Nat.le_refl _ | with_reducible exact Below.size (by assumption) | (simp; done) | (simp; done) | omega | (simp; omega))))
    have B29 : Below w.heap.size w w29 := Below.trans B28 (s29.mono (by omega))
    have hz29 : w.heap.size ≤ w29.heap.size := B29.size
    have sz29 : w28.heap.size ≤ w29.heap.size := s29.size
    have D29 : Below w6.heap.size w6 w29 := Below.trans D28 (s29.mono (by omega))
    clear D28
    clear c_G0 n_G0
    have W0_29 := W0_28.kept s29
    clear W0_28
    have G0_29 := G0_28.kept s29
    clear G0_28
    have t22_29 := t22_28.kept s29
    clear t22_28
    have p27_29 := p27_28.kept s29
    clear p27_28
    have H0_29 := H0_28.kept s29
    clear H0_28
    clear b29 s29
    go_wp2
    go_ret
    exact ⟨rfl, (by repeat' (first | with_reducible exact Below.refl _ _ | with_reducible assumption | with_reducible apply Below.drew | with_reducible apply below_drewN | (with_reducible refine Below.setCell ?_ ?_ _) | (with_reducible refine Below.alloc ?_ ?_ _) | with_reducible exact Nat.le_refl _ | with_reducible exact Below.size (by assumption) | (simp; done) | (simp; done) | omega | (simp; omega)))⟩

theorem walk_FnExactRefilled (v : Value) (m : Mc) (A : Option Addr) (xs : List Int) (c : Nat) (B : Option Addr) (gs : List Gd) (d : Nat) (w : World) (hrm : MRow w v m) (l1 : m.own.length ≤ maxLen) (l2 : m.inn.length ≤ maxLen) (l3 : m.gs.length ≤ maxLen) (hr : Row .i64 w A xs) (_hl : xs.length ≤ c) (_hc : c ≤ maxLen) (_hwf : ∀ n ∈ xs, (Lit.int .i64 n).wf = true) (hq : GRow w B gs) (_hl2 : gs.length ≤ d) (_hd : d ≤ maxLen) :
    Calls Try.prog 5 #[v, .slice A xs.length c, .slice B gs.length d] w fun e w' => e = .returned (.bool true) ∧ Below w.heap.size w w' := by
  by_cases hbig2 : 1048576 < xs.length
  · clear _hl _hc _hl2 _hd _hwf l1 l2 l3
    obtain ⟨P1, p1, P2, p2, P3, p3, rfl, _, _, _⟩ := hrm
    go_enter Try.func5, Try.ntmps5
    go_wp2
    go_ret
    exact ⟨rfl, (by repeat' (first | with_reducible exact Below.refl _ _ | with_reducible assumption | with_reducible apply Below.drew | with_reducible apply below_drewN | (with_reducible refine Below.setCell ?_ ?_ _) | (with_reducible refine Below.alloc ?_ ?_ _) | with_reducible exact Nat.le_refl _ | with_reducible exact Below.size (by assumption) | (simp; done) | (simp; done) | omega | (simp; omega)))⟩
  have hl : xs.length ≤ 1048576 := by omega
  by_cases hm : ¬ SmallM m
  · have KN := Lib.hid (fun W h => szMachine_no v m W h l1 l2 l3 hm)
    have HR := Lib.hid hrm
    obtain ⟨P1, p1, P2, p2, P3, p3, rfl, _, _, _⟩ := hrm
    clear hm l1 l2 l3 _hl _hc _hl2 _hd _hwf
    go_enter Try.func5, Try.ntmps5
    go_wp2_with fail
    refine (KN.out _ (HR.out.below (by repeat' (first | with_reducible exact Below.refl _ _ | with_reducible assumption | with_reducible apply Below.drew | with_reducible apply below_drewN | (with_reducible refine Below.setCell ?_ ?_ _) | (with_reducible refine Below.alloc ?_ ?_ _) | with_reducible exact Nat.le_refl _ | with_reducible exact Below.size (by assumption) | (simp; done) | (simp; done) | omega | (simp; omega))))).mono ?_
    rintro e w1 ⟨rfl, hb⟩
    have B1 : Below w.heap.size w w1 := Below.trans (by repeat' (first | with_reducible exact Below.refl _ _ | with_reducible assumption | with_reducible apply Below.drew | with_reducible apply below_drewN | (with_reducible refine Below.setCell ?_ ?_ _) | (with_reducible refine Below.alloc ?_ ?_ _) | with_reducible exact Nat.le_refl _ | with_reducible exact Below.size (by assumption) | (simp; done) | (simp; done) | omega | (simp; omega))) (hb.mono (by repeat' (first | with_reducible exact Below.refl _ _ | with_reducible assumption | with_reducible apply Below.drew | with_reducible apply below_drewN | (with_reducible refine Below.setCell ?_ ?_ _) | (with_reducible refine Below.alloc ?_ ?_ _) | with_reducible exact Nat.le_refl _ | with_reducible exact Below.size (by assumption) | (simp; done) | (simp; done) | omega | (simp; omega))))
    clear hb
    go_wp2
    go_ret
    exact ⟨rfl, (by repeat' (first | with_reducible exact Below.refl _ _ | with_reducible assumption | with_reducible apply Below.drew | with_reducible apply below_drewN | (with_reducible refine Below.setCell ?_ ?_ _) | (with_reducible refine Below.alloc ?_ ?_ _) | with_reducible exact Nat.le_refl _ | with_reducible exact Below.size (by assumption) | (simp; done) | (simp; done) | omega | (simp; omega)))⟩
  replace hm : SmallM m := Classical.not_not.1 hm
  by_cases hbig : 1048576 < m.own.length + m.inn.length + m.gs.length + gs.length
  · have hc' : gs.length ≤ maxLen := by omega
    have KZ : Hid (∀ W, MRow W v m → Calls Try.prog 6 #[v, .int .i64 1048576] W fun e w' => e = .returned (.int .i64 (1048576 - (m.own.length : Int) - (m.inn.length : Int) - (m.gs.length : Int))) ∧ Below W.heap.size W w') := Lib.hid (fun W h => szMachine_yes v m W h hm)
    unfold SmallM at hm
    obtain ⟨lft, hlft⟩ : ∃ x : Int, x = 1048576 - (m.own.length : Int) - (m.inn.length : Int) - (m.gs.length : Int) := ⟨_, rfl⟩
    rw [← hlft] at KZ
    have hk : 0 ≤ lft := by omega
    have hk1 : lft ≤ 1048576 := by omega
    have hk2 : lft - (gs.length : Int) < 0 := by omega
    have KG := Lib.hid (fun W => szGoodS_over B gs.length d lft W hk2 hk hk1 hc')
    have HR := Lib.hid hrm
    obtain ⟨P1, p1, P2, p2, P3, p3, rfl, _, _, _⟩ := hrm
    clear hm l1 l2 l3 _hl _hc _hl2 _hd _hwf hbig hlft hk2
    go_enter Try.func5, Try.ntmps5
    go_wp2_with fail
    refine (KZ.out _ (HR.out.below (by repeat' (first | with_reducible exact Below.refl _ _ | with_reducible assumption | with_reducible apply Below.drew | with_reducible apply below_drewN | (with_reducible refine Below.setCell ?_ ?_ _) | (with_reducible refine Below.alloc ?_ ?_ _) | with_reducible exact Nat.le_refl _ | with_reducible exact Below.size (by assumption) | (simp; done) | (simp; done) | omega | (simp; omega))))).mono ?_
    rintro e w1 ⟨rfl, hb⟩
    have B1 : Below w.heap.size w w1 := Below.trans (by repeat' (first | with_reducible exact Below.refl _ _ | with_reducible assumption | with_reducible apply Below.drew | with_reducible apply below_drewN | (with_reducible refine Below.setCell ?_ ?_ _) | (with_reducible refine Below.alloc ?_ ?_ _) | with_reducible exact Nat.le_refl _ | with_reducible exact Below.size (by assumption) | (simp; done) | (simp; done) | omega | (simp; omega))) (hb.mono (by repeat' (first | with_reducible exact Below.refl _ _ | with_reducible assumption | with_reducible apply Below.drew | with_reducible apply below_drewN | (with_reducible refine Below.setCell ?_ ?_ _) | (with_reducible refine Below.alloc ?_ ?_ _) | with_reducible exact Nat.le_refl _ | with_reducible exact Below.size (by assumption) | (simp; done) | (simp; done) | omega | (simp; omega))))
    clear hb
    go_wp2_with fail
    refine (KG.out _).mono ?_
    rintro e w2 ⟨rfl, hb⟩
    have B2 : Below w.heap.size w w2 := Below.trans B1 (hb.mono B1.size)
    clear hb
    go_wp2
    go_ret
    exact ⟨rfl, (by repeat' (first | with_reducible exact Below.refl _ _ | with_reducible assumption | with_reducible apply Below.drew | with_reducible apply below_drewN | (with_reducible refine Below.setCell ?_ ?_ _) | (with_reducible refine Below.alloc ?_ ?_ _) | with_reducible exact Nat.le_refl _ | with_reducible exact Below.size (by assumption) | (simp; done) | (simp; done) | omega | (simp; omega)))⟩
  have hl2 : gs.length ≤ 1048576 := by omega
  have hsm : SmM m := by unfold SmallM at hm; unfold SmM; omega
  have hs : SmallM ((refillM m xs gs).getD noM) := by
    unfold refillM
    split
    · exact newM_small xs gs
    · show (0 + 0 + 0 : Nat) ≤ 1048576; omega
  exact walkR_FnExactRefilled v m A xs c B gs d w hrm hr hq hm hl hl2 (by omega) ((refillM m xs gs).getD noM) (refillM m xs gs).isSome hs (fun v A B c d W h h1 h3 => specRefilled_any v m A B xs gs c d W h h1 h3 hsm (by omega) (by omega)) (fun v A B c d W h h1 h3 => implRefilled_any v m A B xs gs c d W h h1 h3)

end Go.Proofs.Ytfoohenmlagfjaa

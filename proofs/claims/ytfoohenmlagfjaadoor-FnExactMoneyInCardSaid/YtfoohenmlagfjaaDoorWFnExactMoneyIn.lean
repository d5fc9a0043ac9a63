/- The walk of the law FnExactMoneyIn: it returns true for all its arguments and writes into nothing that was there. -/
import Derived.Test.YtfoohenmlagfjaaDoorHelpM
import Derived.Test.YtfoohenmlagfjaaDoorSMc
import Derived.Test.YtfoohenmlagfjaaDoorPMm
namespace Go.Proofs.YtfoohenmlagfjaaDoor
open Go.RowKit

set_option maxHeartbeats 3200000 in
theorem walk_FnExactMoneyIn (v : Value) (m : Mc) (w : World) (hr : MRow w v m) (l1 : m.own.length ≤ maxLen) (l2 : m.inn.length ≤ maxLen) (l3 : m.gs.length ≤ maxLen) (hT : Worths w) :
    Calls Tryd.prog 10 #[v] w fun e w' => e = .returned (.bool true) ∧ Below w.heap.size w w' := by
  by_cases hs : ¬ SmallM m
  · have KN := Lib.hid (fun W h => szMachine_no v m W h l1 l2 l3 hs)
    have HR := Lib.hid hr
    obtain ⟨A, a, B, b, C, c, rfl, _, _, _⟩ := hr
    clear hs l1 l2 l3 hT
    go_enter Tryd.func10, Tryd.ntmps10
    go_wp2_with fail
    refine (KN.out _ (HR.out.below (by repeat' (first | with_reducible exact Below.refl _ _ | with_reducible assumption | with_reducible apply Below.drew | with_reducible apply below_drewN | (with_reducible refine Below.setCell ?_ ?_ _) | (with_reducible refine Below.alloc ?_ ?_ _) | with_reducible exact Nat.le_refl _ | with_reducible exact Below.size (by assumption) | (simp; done) | (simp; done) | omega | (simp; omega))))).mono ?_
    rintro e w1 ⟨rfl, hb⟩
    have B1 : Below w.heap.size w w1 := Below.trans (by repeat' (first | with_reducible exact Below.refl _ _ | with_reducible assumption | with_reducible apply Below.drew | with_reducible apply below_drewN | (with_reducible refine Below.setCell ?_ ?_ _) | (with_reducible refine Below.alloc ?_ ?_ _) | with_reducible exact Nat.le_refl _ | with_reducible exact Below.size (by assumption) | (simp; done) | (simp; done) | omega | (simp; omega))) (hb.mono (by repeat' (first | with_reducible exact Below.refl _ _ | with_reducible assumption | with_reducible apply Below.drew | with_reducible apply below_drewN | (with_reducible refine Below.setCell ?_ ?_ _) | (with_reducible refine Below.alloc ?_ ?_ _) | with_reducible exact Nat.le_refl _ | with_reducible exact Below.size (by assumption) | (simp; done) | (simp; done) | omega | (simp; omega))))
    clear hb
    go_wp2
    go_ret
    exact ⟨rfl, (by repeat' (first | with_reducible exact Below.refl _ _ | with_reducible assumption | with_reducible apply Below.drew | with_reducible apply below_drewN | (with_reducible refine Below.setCell ?_ ?_ _) | (with_reducible refine Below.alloc ?_ ?_ _) | with_reducible exact Nat.le_refl _ | with_reducible exact Below.size (by assumption) | (simp; done) | (simp; done) | omega | (simp; omega)))⟩
  replace hs : SmallM m := Classical.not_not.1 hs
  have hsm : SmM m := by unfold SmallM at hs; unfold SmM; omega
  have h0 : 0 < w.heap.size := World.block_lt_of_cell? w _ hT.1
  have HT := Lib.hid hT
  have KS := Lib.hid (fun v W h => specMoneyIn_any v m W h hsm)
  have KI := Lib.hid (fun v W h hT => implMoneyIn_any v m W h hT)
  generalize moneyM m = r at *
  have KZ : Hid (∀ W, MRow W v m → Calls Tryd.prog 42 #[v, .int .i64 1048576] W fun e w' => e = .returned (.int .i64 (1048576 - (m.own.length : Int) - (m.inn.length : Int) - (m.gs.length : Int))) ∧ Below W.heap.size W w') := Lib.hid (fun W h => szMachine_yes v m W h hs)
  have KT := Lib.hid (fun W h => toMachine_any v m W h hs)
  have KE := Lib.hid (fun v u W h1 h2 => eqMachine_same v u m W h1 h2 hs)
  have hk : 0 ≤ 1048576 - (m.own.length : Int) - (m.inn.length : Int) - (m.gs.length : Int) := by unfold SmallM at hs; omega
  generalize 1048576 - (m.own.length : Int) - (m.inn.length : Int) - (m.gs.length : Int) = lft at *
  have HR := Lib.hid hr
  obtain ⟨A, a, B, b, C, c, rfl, _, _, _⟩ := hr
  clear hs hsm l1 l2 l3 hT
  go_enter Tryd.func10, Tryd.ntmps10
  go_wp2_with fail
  refine (KZ.out _ (HR.out.below (by repeat' (first | with_reducible exact Below.refl _ _ | with_reducible assumption | with_reducible apply Below.drew | with_reducible apply below_drewN | (with_reducible refine Below.setCell ?_ ?_ _) | (with_reducible refine Below.alloc ?_ ?_ _) | with_reducible exact Nat.le_refl _ | with_reducible exact Below.size (by assumption) | (simp; done) | (simp; done) | omega | (simp; omega))))).mono ?_
  rintro e w1 ⟨rfl, b1⟩
  have RA_1 := (Blk.new' (w := w) (cs := #[.slice A m.own.length a, .slice B m.inn.length b, .slice C m.gs.length c]) (t := 62) (g := w.heap.size) (by simp)).kept b1
  have s1 : Below w.heap.size w w1 := Below.trans (by repeat' (first | with_reducible exact Below.refl _ _ | with_reducible assumption | with_reducible apply Below.drew | with_reducible apply below_drewN | (with_reducible refine Below.setCell ?_ ?_ _) | (with_reducible refine Below.alloc ?_ ?_ _) | with_reducible exact Nat.le_refl _ | with_reducible exact Below.size (by assumption) | (simp; done) | (simp; done) | omega | (simp; omega))) (b1.mono (by repeat' (first | with_reducible exact Below.refl _ _ | with_reducible assumption | with_reducible apply Below.drew | with_reducible apply below_drewN | (with_reducible refine Below.setCell ?_ ?_ _) | (with_reducible refine Below.alloc ?_ ?_ _) | with_reducible exact Nat.le_refl _ | with_reducible exact Below.size (by assumption) | (simp; done) | (simp; done) | omega | (simp; omega))))
  have B1 : Below w.heap.size w w1 := Below.trans (Below.refl w.heap.size w) (s1.mono (Nat.le_refl w.heap.size))
  have hz1 : w.heap.size ≤ w1.heap.size := B1.size
  have sz1 : w.heap.size ≤ w1.heap.size := s1.size
  clear b1 s1
  have c_RA := fun i => (RA_1).cell i
  have n_RA := (RA_1).lt
  go_wp2_with fail
  refine (KT.out _ (HR.out.below (by repeat' (first | with_reducible exact Below.refl _ _ | with_reducible assumption | with_reducible apply Below.drew | with_reducible apply below_drewN | (with_reducible refine Below.setCell ?_ ?_ _) | (with_reducible refine Below.alloc ?_ ?_ _) | with_reducible exact Nat.le_refl _ | with_reducible exact Below.size (by assumption) | (simp; done) | (simp; done) | omega | (simp; omega))))).mono ?_
  rintro e w2 ⟨v2, rfl, q2, b2⟩
  have s2 : Below w1.heap.size w1 w2 := Below.trans (by repeat' (first | with_reducible exact Below.refl _ _ | with_reducible assumption | with_reducible apply Below.drew | with_reducible apply below_drewN | (with_reducible refine Below.setCell ?_ ?_ _) | (with_reducible refine Below.alloc ?_ ?_ _) | with_reducible exact Nat.le_refl _ | with_reducible exact Below.size (by assumption) | (simp; done) | (simp; done) | omega | (simp; omega))) (b2.mono (by repeat' (first | with_reducible exact Below.refl _ _ | with_reducible assumption | with_reducible apply Below.drew | with_reducible apply below_drewN | (with_reducible refine Below.setCell ?_ ?_ _) | (with_reducible refine Below.alloc ?_ ?_ _) | with_reducible exact Nat.le_refl _ | with_reducible exact Below.size (by assumption) | (simp; done) | (simp; done) | omega | (simp; omega))))
  have B2 : Below w.heap.size w w2 := Below.trans B1 (s2.mono hz1)
  have hz2 : w.heap.size ≤ w2.heap.size := B2.size
  have sz2 : w1.heap.size ≤ w2.heap.size := s2.size
  clear c_RA n_RA
  have RA_2 := RA_1.kept s2
  clear RA_1
  clear b2 s2
  obtain ⟨X2, x2, Y2, y2, Z2, z2, hv, _⟩ := q2.row; subst hv
  go_wp2_with fail
  refine (KS.out _ _ q2.row).mono ?_
  rintro e w3 ⟨rfl, b3⟩
  have s3 : Below w2.heap.size w2 w3 := Below.trans (by repeat' (first | with_reducible exact Below.refl _ _ | with_reducible assumption | with_reducible apply Below.drew | with_reducible apply below_drewN | (with_reducible refine Below.setCell ?_ ?_ _) | (with_reducible refine Below.alloc ?_ ?_ _) | with_reducible exact Nat.le_refl _ | with_reducible exact Below.size (by assumption) | (simp; done) | (simp; done) | omega | (simp; omega))) (b3.mono (by repeat' (first | with_reducible exact Below.refl _ _ | with_reducible assumption | with_reducible apply Below.drew | with_reducible apply below_drewN | (with_reducible refine Below.setCell ?_ ?_ _) | (with_reducible refine Below.alloc ?_ ?_ _) | with_reducible exact Nat.le_refl _ | with_reducible exact Below.size (by assumption) | (simp; done) | (simp; done) | omega | (simp; omega))))
  have B3 : Below w.heap.size w w3 := Below.trans B2 (s3.mono hz2)
  have hz3 : w.heap.size ≤ w3.heap.size := B3.size
  have sz3 : w2.heap.size ≤ w3.heap.size := s3.size
  have RA_3 := RA_2.kept s3
  clear RA_2
  have q2_3 := q2.kept s3
  clear q2
  clear b3 s3
  clear q2_3
  have c_RA := fun i => (RA_3).cell i
  have n_RA := (RA_3).lt
  go_wp2_with fail
  refine (KT.out _ (HR.out.below (by repeat' (first | with_reducible exact Below.refl _ _ | with_reducible assumption | with_reducible apply Below.drew | with_reducible apply below_drewN | (with_reducible refine Below.setCell ?_ ?_ _) | (with_reducible refine Below.alloc ?_ ?_ _) | with_reducible exact Nat.le_refl _ | with_reducible exact Below.size (by assumption) | (simp; done) | (simp; done) | omega | (simp; omega))))).mono ?_
  rintro e w4 ⟨v4, rfl, q4, b4⟩
  have s4 : Below w3.heap.size w3 w4 := Below.trans (by repeat' (first | with_reducible exact Below.refl _ _ | with_reducible assumption | with_reducible apply Below.drew | with_reducible apply below_drewN | (with_reducible refine Below.setCell ?_ ?_ _) | (with_reducible refine Below.alloc ?_ ?_ _) | with_reducible exact Nat.le_refl _ | with_reducible exact Below.size (by assumption) | (simp; done) | (simp; done) | omega | (simp; omega))) (b4.mono (by repeat' (first | with_reducible exact Below.refl _ _ | with_reducible assumption | with_reducible apply Below.drew | with_reducible apply below_drewN | (with_reducible refine Below.setCell ?_ ?_ _) | (with_reducible refine Below.alloc ?_ ?_ _) | with_reducible exact Nat.le_refl _ | with_reducible exact Below.size (by assumption) | (simp; done) | (simp; done) | omega | (simp; omega))))
  have B4 : Below w.heap.size w w4 := Below.trans B3 (s4.mono hz3)
  have hz4 : w.heap.size ≤ w4.heap.size := B4.size
  have sz4 : w3.heap.size ≤ w4.heap.size := s4.size
  clear c_RA n_RA
  have RA_4 := RA_3.kept s4
  clear RA_3
  clear b4 s4
  obtain ⟨X4, x4, Y4, y4, Z4, z4, hv, _⟩ := q4.row; subst hv
  go_wp2_with fail
  refine (KI.out _ _ (q4.row.below (by repeat' (first | with_reducible exact Below.refl _ _ | with_reducible assumption | with_reducible apply Below.drew | with_reducible apply below_drewN | (with_reducible refine Below.setCell ?_ ?_ _) | (with_reducible refine Below.alloc ?_ ?_ _) | with_reducible exact Nat.le_refl _ | with_reducible exact Below.size (by assumption) | (simp; done) | (simp; done) | omega | (simp; omega)))) (HT.out.below (B := w.heap.size) (by repeat' (first | with_reducible exact Below.refl _ _ | with_reducible assumption | with_reducible apply Below.drew | with_reducible apply below_drewN | (with_reducible refine Below.setCell ?_ ?_ _) | (with_reducible refine Below.alloc ?_ ?_ _) | with_reducible exact Nat.le_refl _ | with_reducible exact Below.size (by assumption) | (simp; done) | (simp; done) | omega | (simp; omega))) h0)).mono ?_
  rintro e w5 ⟨rfl, b5⟩
  have V0_5 := (Blk.new' (w := w4) (cs := #[.slice X4 m.own.length x4, .slice Y4 m.inn.length y4, .slice Z4 m.gs.length z4]) (t := 26) (g := w4.heap.size) (by simp)).kept b5
  have s5 : Below w4.heap.size w4 w5 := Below.trans (by repeat' (first | with_reducible exact Below.refl _ _ | with_reducible assumption | with_reducible apply Below.drew | with_reducible apply below_drewN | (with_reducible refine Below.setCell ?_ ?_ _) | (with_reducible refine Below.alloc ?_ ?_ _) | with_reducible exact Nat.le_refl _ | with_reducible exact Below.size (by assumption) | (simp; done) | (simp; done) | omega | (simp; omega))) (b5.mono (by repeat' (first | with_reducible exact Below.refl _ _ | with_reducible assumption | with_reducible apply Below.drew | with_reducible apply below_drewN | (with_reducible refine Below.setCell ?_ ?_ _) | (with_reducible refine Below.alloc ?_ ?_ _) | with_reducible exact Nat.le_refl _ | with_reducible exact Below.size (by assumption) | (simp; done) | (simp; done) | omega | (simp; omega))))
  have B5 : Below w.heap.size w w5 := Below.trans B4 (s5.mono hz4)
  have hz5 : w.heap.size ≤ w5.heap.size := B5.size
  have sz5 : w4.heap.size ≤ w5.heap.size := s5.size
  have RA_5 := RA_4.kept s5
  clear RA_4
  have q4_5 := q4.kept s5
  clear q4
  clear b5 s5
  have e1 := fun i => (V0_5).cell i
  have e2 := fun i => (RA_5).cell i
  have m1 := (V0_5).lt
  have m2 := (RA_5).lt
  have hq := Lib.hid q4_5
  go_wp2_with fail
  go_region_held3 (fun w' => w'.cell? ⟨w4.heap.size, 0, none⟩ = some (.slice X4 m.own.length x4) ∧ w'.cell? ⟨w4.heap.size, 1, none⟩ = some (.slice Y4 m.inn.length y4) ∧ w'.cell? ⟨w4.heap.size, 2, none⟩ = some (.slice Z4 m.gs.length z4) ∧ w'.cell? ⟨w.heap.size, 0, none⟩ = some (.slice A m.own.length a) ∧ w'.cell? ⟨w.heap.size, 1, none⟩ = some (.slice B m.inn.length b) ∧ w'.cell? ⟨w.heap.size, 2, none⟩ = some (.slice C m.gs.length c)) (go_keep)
    (first
      | (go_at_call 43; refine (KT.out _ (HR.out.below (by repeat' (first | with_reducible exact Below.refl _ _ | with_reducible assumption | with_reducible apply Below.drew | with_reducible apply below_drewN | (with_reducible refine Below.setCell ?_ ?_ _) | (with_reducible refine Below.alloc ?_ ?_ _) | with_reducible exact Nat.le_refl _ | with_reducible exact Below.size (by assumption) | (simp; done) | (simp; done) | omega | (simp; omega))))).mono ?_; rintro e w6 ⟨v6, rfl, q6, b6⟩; have s6 : Below w5.heap.size w5 w6 := Below.trans (by repeat' (first | with_reducible exact Below.refl _ _ | with_reducible assumption | with_reducible apply Below.drew | with_reducible apply below_drewN | (with_reducible refine Below.setCell ?_ ?_ _) | (with_reducible refine Below.alloc ?_ ?_ _) | with_reducible exact Nat.le_refl _ | with_reducible exact Below.size (by assumption) | (simp; done) | (simp; done) | omega | (simp; omega))) (b6.mono (by repeat' (first | with_reducible exact Below.refl _ _ | with_reducible assumption | with_reducible apply Below.drew | with_reducible apply below_drewN | (with_reducible refine Below.setCell ?_ ?_ _) | (with_reducible refine Below.alloc ?_ ?_ _) | with_reducible exact Nat.le_refl _ | with_reducible exact Below.size (by assumption) | (simp; done) | (simp; done) | omega | (simp; omega)))); have B6 : Below w.heap.size w w6 := Below.trans B5 (s6.mono hz5); have sz6 := s6.size; have hz6 := B6.size; have m1 : w4.heap.size < w6.heap.size := (by omega); have m2 : w.heap.size < w6.heap.size := (by omega); obtain ⟨o6, f6⟩ := olds s6; have hq2 := Lib.hid q6; have hq3 := Lib.hid (hq.out.kept s6); obtain ⟨X6, x6, Y6, y6, Z6, z6, hv, _⟩ := q6.row; subst hv; clear q6)
      | (go_at_call 45; refine (KE.out _ _ _ hq3.out.row hq2.out.row).mono ?_; rintro e w7 ⟨rfl, b7⟩; have B7 : Below w.heap.size w w7 := Below.trans B6 (b7.mono hz6); have sz7 := b7.size; have hz7 := B7.size; have m1 : w4.heap.size < w7.heap.size := (by omega); have m2 : w.heap.size < w7.heap.size := (by omega); obtain ⟨o7, f7⟩ := olds b7))
  clear o6 f6 o7 f7
  have s7 : Below w5.heap.size w5 w7 := Below.trans s6 (b7.mono sz6)
  have RA_7 := RA_5.kept s7
  clear RA_5
  have q4_7 := q4_5.kept s7
  clear q4_5
  have V0_7 := V0_5.kept s7
  clear V0_5
  clear e1 e2 m1 m2 hq hq2 hq3 s6 s7
  go_wp2
  go_ret
  exact ⟨rfl, (by repeat' (first | with_reducible exact Below.refl _ _ | with_reducible assumption | with_reducible apply Below.drew | with_reducible apply below_drewN | (with_reducible refine Below.setCell ?_ ?_ _) | (with_reducible refine Below.alloc ?_ ?_ _) | with_reducible exact Nat.le_refl _ | with_reducible exact Below.size (by assumption) | (simp; done) | (simp; done) | omega | (simp; omega)))⟩

end Go.Proofs.YtfoohenmlagfjaaDoor

/- The walk of the law FnMachineOk: for every bytes the law returns true. -/
import Derived.Test.YtehcmkbepembfaaDoorDrMo
import Derived.Test.YtehcmkbepembfaaDoorSa
import Derived.Test.YtehcmkbepembfaaDoorSA
import Derived.Test.YtehcmkbepembfaaDoorPA
namespace Go.Proofs.YtehcmkbepembfaaDoor
open Go.RowKit

set_option maxRecDepth 100000 in
set_option maxHeartbeats 3200000 in
theorem walk_FnMachineOk (A : Option Addr) (bs : List Int) (c : Nat) (w : World) (hr : Row .u8 w A bs) (hl : bs.length ≤ c) (hm : c ≤ maxLen) (hwf : ∀ n ∈ bs, (Lit.int .u8 n).wf = true) (hT : Worths w) :
    Calls Tryd.prog 4 #[.slice A bs.length c] w fun e w' => e = .returned (.bool true) ∧ Below w.heap.size w w' := by
  have hb := bytes_of_wfM hwf
  clear hwf
  have h0 : 0 < w.heap.size := World.block_lt_of_cell? w _ hT.1
  have HT := Lib.hid hT; clear hT
  by_cases hbig : 1048576 < bs.length
  · clear hb hl hm
    go_enter Tryd.func4, Tryd.ntmps4
    go_wp2
    go_ret
    exact ⟨rfl, Below.refl _ _⟩
  have hs : bs.length ≤ 1048576 := by omega
  clear hbig
  have K := Lib.hid (DrawMachineOk_any A bs c w hr hb hl hm)
  clear hb hl hm hr
  go_enter Tryd.func4, Tryd.ntmps4
  go_wp2_with fail
  refine (K.out).mono ?_
  rintro e w1 ⟨v, m, rfl, hm, hsz, B1⟩
  have hz1 : w.heap.size ≤ w1.heap.size := B1.size
  have HMr := Lib.hid hm
  have hmf := hm
  obtain ⟨X, x, Y, y, Z, z, rfl, _⟩ := hmf
  have HM : Hid (∀ W, Below w1.heap.size w1 W → MRow W (mcv X m.own.length x Y m.inn.length y Z m.gs.length z) m) := Lib.hid (fun W hb => HMr.out.below hb)
  have hsm : SmM m := by unfold SzM at hsz; unfold SmM; omega
  have hsl : SmallM m := by unfold SzM at hsz; unfold SmallM; omega
  have KI := Lib.hid (fun v W h => implMachineOk_any v m W h)
  have KS := Lib.hid (fun v W h => specMachineOk_any v m W h hsm)
  have KZ : Hid (∀ g W, Blk W g 3 (madeCells #[.int .i64 0] 4) → Calls Tryd.prog 34 #[mcv (some ⟨g, 0, none⟩) 4 4 (some ⟨g, 0, none⟩) 4 4 none 0 0] W fun e w' => e = .returned (.bool true) ∧ Below W.heap.size W w') := Lib.hid (fun g W h => implMachineOk_any _ ⟨zero4, zero4, []⟩ W ⟨_, _, _, _, _, _, rfl, (made_zero4 h).row, (made_zero4 h).row, GRow.nil _ _⟩)
  have KN : Hid (∀ W, Calls Tryd.prog 34 #[nov] W fun e w' => e = .returned (.bool false) ∧ Below W.heap.size W w') := Lib.hid (fun W => implMachineOk_any nov noM W ⟨_, _, _, _, _, _, rfl, Row.nil _ _ _, Row.nil _ _ _, GRow.nil _ _⟩)
  have KW : Hid (∀ W, Below w1.heap.size w1 W → Calls Tryd.prog 34 #[mcv Y m.inn.length y X m.own.length x Z m.gs.length z] W fun e w' => e = .returned (.bool (okM m)) ∧ Below W.heap.size W w') := Lib.hid (fun W hb => by
    obtain ⟨A', a', B', b', C', c', e, h1, h2, h3⟩ := HM.out W hb
    injection e with e
    simp only [Array.mk.injEq, List.cons.injEq, Value.slice.injEq, and_true, true_and] at e
    obtain ⟨⟨rfl, rfl⟩, ⟨rfl, rfl⟩, rfl, rfl⟩ := e
    have ho : okM ⟨m.inn, m.own, m.gs⟩ = okM m := by unfold okM; cases okP m.own <;> cases okP m.inn <;> rfl
    have := implMachineOk_any _ ⟨m.inn, m.own, m.gs⟩ W ⟨Y, y, X, x, Z, z, rfl, h2, h1, h3⟩
    rw [ho] at this
    exact this)
  have hmk := run_make_ints4
  clear hm hsz hsm hsl
  generalize okM m = ok at *
  cases ok
  · skip
    go_wp2_with fail
    refine (KI.out _ _ (HM.out _ (by repeat' (first | with_reducible exact Below.refl _ _ | with_reducible assumption | with_reducible apply Below.drew | with_reducible apply below_drewN | (with_reducible refine Below.setCell ?_ ?_ _) | (with_reducible refine Below.alloc ?_ ?_ _) | with_reducible exact Nat.le_refl _ | with_reducible exact Below.size (by assumption) | (simp; done) | (simp; done) | omega | (simp; omega))))).mono ?_
    rintro e w2 ⟨rfl, b2⟩
    have M0_2 := (Blk.new' (w := w1) (cs := #[.slice X m.own.length x, .slice Y m.inn.length y, .slice Z m.gs.length z]) (t := 31) (g := w1.heap.size) (by simp)).kept b2
    have s2 : Below w1.heap.size w1 w2 := Below.trans (by repeat' (first | with_reducible exact Below.refl _ _ | with_reducible assumption | with_reducible apply Below.drew | with_reducible apply below_drewN | (with_reducible refine Below.setCell ?_ ?_ _) | (with_reducible refine Below.alloc ?_ ?_ _) | with_reducible exact Nat.le_refl _ | with_reducible exact Below.size (by assumption) | (simp; done) | (simp; done) | omega | (simp; omega))) (b2.mono (by repeat' (first | with_reducible exact Below.refl _ _ | with_reducible assumption | with_reducible apply Below.drew | with_reducible apply below_drewN | (with_reducible refine Below.setCell ?_ ?_ _) | (with_reducible refine Below.alloc ?_ ?_ _) | with_reducible exact Nat.le_refl _ | with_reducible exact Below.size (by assumption) | (simp; done) | (simp; done) | omega | (simp; omega))))
    have B2 : Below w.heap.size w w2 := Below.trans B1 (s2.mono (by omega))
    have hz2 : w.heap.size ≤ w2.heap.size := B2.size
    have sz2 : w1.heap.size ≤ w2.heap.size := s2.size
    have D2 : Below w1.heap.size w1 w2 := Below.trans (Below.refl w1.heap.size w1) (s2.mono (by omega))
    clear b2 s2
    have c_M0 := fun i => (M0_2).cell i
    have n_M0 := (M0_2).lt
    go_wp2_with fail
    refine (KS.out _ _ (HM.out _ (by repeat' (first | with_reducible exact Below.refl _ _ | with_reducible assumption | with_reducible apply Below.drew | with_reducible apply below_drewN | (with_reducible refine Below.setCell ?_ ?_ _) | (with_reducible refine Below.alloc ?_ ?_ _) | with_reducible exact Nat.le_refl _ | with_reducible exact Below.size (by assumption) | (simp; done) | (simp; done) | omega | (simp; omega))))).mono ?_
    rintro e w3 ⟨rfl, b3⟩
    have s3 : Below w2.heap.size w2 w3 := Below.trans (by repeat' (first | with_reducible exact Below.refl _ _ | with_reducible assumption | with_reducible apply Below.drew | with_reducible apply below_drewN | (with_reducible refine Below.setCell ?_ ?_ _) | (with_reducible refine Below.alloc ?_ ?_ _) | with_reducible exact Nat.le_refl _ | with_reducible exact Below.size (by assumption) | (simp; done) | (simp; done) | omega | (simp; omega))) (b3.mono (by repeat' (first | with_reducible exact Below.refl _ _ | with_reducible assumption | with_reducible apply Below.drew | with_reducible apply below_drewN | (with_reducible refine Below.setCell ?_ ?_ _) | (with_reducible refine Below.alloc ?_ ?_ _) | with_reducible exact Nat.le_refl _ | with_reducible exact Below.size (by assumption) | (simp; done) | (simp; done) | omega | (simp; omega))))
    have B3 : Below w.heap.size w w3 := Below.trans B2 (s3.mono (by omega))
    have hz3 : w.heap.size ≤ w3.heap.size := B3.size
    have sz3 : w2.heap.size ≤ w3.heap.size := s3.size
    have D3 : Below w1.heap.size w1 w3 := Below.trans D2 (s3.mono (by omega))
    clear D2
    clear c_M0 n_M0
    have M0_3 := M0_2.kept s3
    clear M0_2
    clear b3 s3
    go_wp2_with fail
    refine (KZ.out _ _ (Blk.new' rfl)).mono ?_
    rintro e w4 ⟨rfl, b4⟩
    have Z0_4 := (Blk.new' (w := w3) (cs := (madeCells #[.int .i64 0] 4)) (t := 3) (g := w3.heap.size) (by simp)).kept b4
    have s4 : Below w3.heap.size w3 w4 := Below.trans (by repeat' (first | with_reducible exact Below.refl _ _ | with_reducible assumption | with_reducible apply Below.drew | with_reducible apply below_drewN | (with_reducible refine Below.setCell ?_ ?_ _) | (with_reducible refine Below.alloc ?_ ?_ _) | with_reducible exact Nat.le_refl _ | with_reducible exact Below.size (by assumption) | (simp; done) | (simp; done) | omega | (simp; omega))) (b4.mono (by repeat' (first | with_reducible exact Below.refl _ _ | with_reducible assumption | with_reducible apply Below.drew | with_reducible apply below_drewN | (with_reducible refine Below.setCell ?_ ?_ _) | (with_reducible refine Below.alloc ?_ ?_ _) | with_reducible exact Nat.le_refl _ | with_reducible exact Below.size (by assumption) | (simp; done) | (simp; done) | omega | (simp; omega))))
    have B4 : Below w.heap.size w w4 := Below.trans B3 (s4.mono (by omega))
    have hz4 : w.heap.size ≤ w4.heap.size := B4.size
    have sz4 : w3.heap.size ≤ w4.heap.size := s4.size
    have D4 : Below w1.heap.size w1 w4 := Below.trans D3 (s4.mono (by omega))
    clear D3
    have M0_4 := M0_3.kept s4
    clear M0_3
    clear b4 s4
    go_wp2_with fail
    refine (KN.out _).mono ?_
    rintro e w5 ⟨rfl, b5⟩
    have s5 : Below w4.heap.size w4 w5 := Below.trans (by repeat' (first | with_reducible exact Below.refl _ _ | with_reducible assumption | with_reducible apply Below.drew | with_reducible apply below_drewN | (with_reducible refine Below.setCell ?_ ?_ _) | (with_reducible refine Below.alloc ?_ ?_ _) | with_reducible exact Nat.le_refl _ | with_reducible exact Below.size (by assumption) | (simp; done) | (simp; done) | omega | (simp; omega))) (b5.mono (by repeat' (first | with_reducible exact Below.refl _ _ | with_reducible assumption | with_reducible apply Below.drew | with_reducible apply below_drewN | (with_reducible refine Below.setCell ?_ ?_ _) | (with_reducible refine Below.alloc ?_ ?_ _) | with_reducible exact Nat.le_refl _ | with_reducible exact Below.size (by assumption) | (simp; done) | (simp; done) | omega | (simp; omega))))
    have B5 : Below w.heap.size w w5 := Below.trans B4 (s5.mono (by omega))
    have hz5 : w.heap.size ≤ w5.heap.size := B5.size
    have sz5 : w4.heap.size ≤ w5.heap.size := s5.size
    have D5 : Below w1.heap.size w1 w5 := Below.trans D4 (s5.mono (by omega))
    clear D4
    have M0_5 := M0_4.kept s5
    clear M0_4
    have Z0_5 := Z0_4.kept s5
    clear Z0_4
    clear b5 s5
    go_wp2_with fail
    refine (alive_trueG _ (HT.out.below (B := w.heap.size) (by repeat' (first | with_reducible exact Below.refl _ _ | with_reducible assumption | with_reducible apply Below.drew | with_reducible apply below_drewN | (with_reducible refine Below.setCell ?_ ?_ _) | (with_reducible refine Below.alloc ?_ ?_ _) | with_reducible exact Nat.le_refl _ | with_reducible exact Below.size (by assumption) | (simp; done) | (simp; done) | omega | (simp; omega))) h0)).mono ?_
    rintro e w6 ⟨rfl, b6⟩
    have s6 : Below w5.heap.size w5 w6 := Below.trans (by repeat' (first | with_reducible exact Below.refl _ _ | with_reducible assumption | with_reducible apply Below.drew | with_reducible apply below_drewN | (with_reducible refine Below.setCell ?_ ?_ _) | (with_reducible refine Below.alloc ?_ ?_ _) | with_reducible exact Nat.le_refl _ | with_reducible exact Below.size (by assumption) | (simp; done) | (simp; done) | omega | (simp; omega))) (b6.mono (by repeat' (first | with_reducible exact Below.refl _ _ | with_reducible assumption | with_reducible apply Below.drew | with_reducible apply below_drewN | (with_reducible refine Below.setCell ?_ ?_ _) | (with_reducible refine Below.alloc ?_ ?_ _) | with_reducible exact Nat.le_refl _ | with_reducible exact Below.size (by assumption) | (simp; done) | (simp; done) | omega | (simp; omega))))
    have B6 : Below w.heap.size w w6 := Below.trans B5 (s6.mono (by omega))
    have hz6 : w.heap.size ≤ w6.heap.size := B6.size
    have sz6 : w5.heap.size ≤ w6.heap.size := s6.size
    have D6 : Below w1.heap.size w1 w6 := Below.trans D5 (s6.mono (by omega))
    clear D5
    have M0_6 := M0_5.kept s6
    clear M0_5
    have Z0_6 := Z0_5.kept s6
    clear Z0_5
    clear b6 s6
    go_wp2
    go_ret
    exact ⟨rfl, (by repeat' (first | with_reducible exact Below.refl _ _ | with_reducible assumption | with_reducible apply Below.drew | with_reducible apply below_drewN | (with_reducible refine Below.setCell ?_ ?_ _) | (with_reducible refine Below.alloc ?_ ?_ _) | with_reducible exact Nat.le_refl _ | with_reducible exact Below.size (by assumption) | (simp; done) | (simp; done) | omega | (simp; omega)))⟩
  · skip
    go_wp2_with fail
    refine (KI.out _ _ (HM.out _ (by repeat' (first | with_reducible exact Below.refl _ _ | with_reducible assumption | with_reducible apply Below.drew | with_reducible apply below_drewN | (with_reducible refine Below.setCell ?_ ?_ _) | (with_reducible refine Below.alloc ?_ ?_ _) | with_reducible exact Nat.le_refl _ | with_reducible exact Below.size (by assumption) | (simp; done) | (simp; done) | omega | (simp; omega))))).mono ?_
    rintro e w2 ⟨rfl, b2⟩
    have M0_2 := (Blk.new' (w := w1) (cs := #[.slice X m.own.length x, .slice Y m.inn.length y, .slice Z m.gs.length z]) (t := 31) (g := w1.heap.size) (by simp)).kept b2
    have s2 : Below w1.heap.size w1 w2 := Below.trans (by repeat' (first | with_reducible exact Below.refl _ _ | with_reducible assumption | with_reducible apply Below.drew | with_reducible apply below_drewN | (with_reducible refine Below.setCell ?_ ?_ _) | (with_reducible refine Below.alloc ?_ ?_ _) | with_reducible exact Nat.le_refl _ | with_reducible exact Below.size (by assumption) | (simp; done) | (simp; done) | omega | (simp; omega))) (b2.mono (by repeat' (first | with_reducible exact Below.refl _ _ | with_reducible assumption | with_reducible apply Below.drew | with_reducible apply below_drewN | (with_reducible refine Below.setCell ?_ ?_ _) | (with_reducible refine Below.alloc ?_ ?_ _) | with_reducible exact Nat.le_refl _ | with_reducible exact Below.size (by assumption) | (simp; done) | (simp; done) | omega | (simp; omega))))
    have B2 : Below w.heap.size w w2 := Below.trans B1 (s2.mono (by omega))
    have hz2 : w.heap.size ≤ w2.heap.size := B2.size
    have sz2 : w1.heap.size ≤ w2.heap.size := s2.size
    have D2 : Below w1.heap.size w1 w2 := Below.trans (Below.refl w1.heap.size w1) (s2.mono (by omega))
    clear b2 s2
    have c_M0 := fun i => (M0_2).cell i
    have n_M0 := (M0_2).lt
    go_wp2_with fail
    refine (KS.out _ _ (HM.out _ (by repeat' (first | with_reducible exact Below.refl _ _ | with_reducible assumption | with_reducible apply Below.drew | with_reducible apply below_drewN | (with_reducible refine Below.setCell ?_ ?_ _) | (with_reducible refine Below.alloc ?_ ?_ _) | with_reducible exact Nat.le_refl _ | with_reducible exact Below.size (by assumption) | (simp; done) | (simp; done) | omega | (simp; omega))))).mono ?_
    rintro e w3 ⟨rfl, b3⟩
    have s3 : Below w2.heap.size w2 w3 := Below.trans (by repeat' (first | with_reducible exact Below.refl _ _ | with_reducible assumption | with_reducible apply Below.drew | with_reducible apply below_drewN | (with_reducible refine Below.setCell ?_ ?_ _) | (with_reducible refine Below.alloc ?_ ?_ _) | with_reducible exact Nat.le_refl _ | with_reducible exact Below.size (by assumption) | (simp; done) | (simp; done) | omega | (simp; omega))) (b3.mono (by repeat' (first | with_reducible exact Below.refl _ _ | with_reducible assumption | with_reducible apply Below.drew | with_reducible apply below_drewN | (with_reducible refine Below.setCell ?_ ?_ _) | (with_reducible refine Below.alloc ?_ ?_ _) | with_reducible exact Nat.le_refl _ | with_reducible exact Below.size (by assumption) | (simp; done) | (simp; done) | omega | (simp; omega))))
    have B3 : Below w.heap.size w w3 := Below.trans B2 (s3.mono (by omega))
    have hz3 : w.heap.size ≤ w3.heap.size := B3.size
    have sz3 : w2.heap.size ≤ w3.heap.size := s3.size
    have D3 : Below w1.heap.size w1 w3 := Below.trans D2 (s3.mono (by omega))
    clear D2
    clear c_M0 n_M0
    have M0_3 := M0_2.kept s3
    clear M0_2
    clear b3 s3
    go_wp2_with fail
    refine (KZ.out _ _ (Blk.new' rfl)).mono ?_
    rintro e w4 ⟨rfl, b4⟩
    have Z0_4 := (Blk.new' (w := w3) (cs := (madeCells #[.int .i64 0] 4)) (t := 3) (g := w3.heap.size) (by simp)).kept b4
    have s4 : Below w3.heap.size w3 w4 := Below.trans (by repeat' (first | with_reducible exact Below.refl _ _ | with_reducible assumption | with_reducible apply Below.drew | with_reducible apply below_drewN | (with_reducible refine Below.setCell ?_ ?_ _) | (with_reducible refine Below.alloc ?_ ?_ _) | with_reducible exact Nat.le_refl _ | with_reducible exact Below.size (by assumption) | (simp; done) | (simp; done) | omega | (simp; omega))) (b4.mono (by repeat' (first | with_reducible exact Below.refl _ _ | with_reducible assumption | with_reducible apply Below.drew | with_reducible apply below_drewN | (with_reducible refine Below.setCell ?_ ?_ _) | (with_reducible refine Below.alloc ?_ ?_ _) | with_reducible exact Nat.le_refl _ | with_reducible exact Below.size (by assumption) | (simp; done) | (simp; done) | omega | (simp; omega))))
    have B4 : Below w.heap.size w w4 := Below.trans B3 (s4.mono (by omega))
    have hz4 : w.heap.size ≤ w4.heap.size := B4.size
    have sz4 : w3.heap.size ≤ w4.heap.size := s4.size
    have D4 : Below w1.heap.size w1 w4 := Below.trans D3 (s4.mono (by omega))
    clear D3
    have M0_4 := M0_3.kept s4
    clear M0_3
    clear b4 s4
    go_wp2_with fail
    refine (KN.out _).mono ?_
    rintro e w5 ⟨rfl, b5⟩
    have s5 : Below w4.heap.size w4 w5 := Below.trans (by repeat' (first | with_reducible exact Below.refl _ _ | with_reducible assumption | with_reducible apply Below.drew | with_reducible apply below_drewN | (with_reducible refine Below.setCell ?_ ?_ _) | (with_reducible refine Below.alloc ?_ ?_ _) | with_reducible exact Nat.le_refl _ | with_reducible exact Below.size (by assumption) | (simp; done) | (simp; done) | omega | (simp; omega))) (b5.mono (by repeat' (first | with_reducible exact Below.refl _ _ | with_reducible assumption | with_reducible apply Below.drew | with_reducible apply below_drewN | (with_reducible refine Below.setCell ?_ ?_ _) | (with_reducible refine Below.alloc ?_ ?_ _) | with_reducible exact Nat.le_refl _ | with_reducible exact Below.size (by assumption) | (simp; done) | (simp; done) | omega | (simp; omega))))
    have B5 : Below w.heap.size w w5 := Below.trans B4 (s5.mono (by omega))
    have hz5 : w.heap.size ≤ w5.heap.size := B5.size
    have sz5 : w4.heap.size ≤ w5.heap.size := s5.size
    have D5 : Below w1.heap.size w1 w5 := Below.trans D4 (s5.mono (by omega))
    clear D4
    have M0_5 := M0_4.kept s5
    clear M0_4
    have Z0_5 := Z0_4.kept s5
    clear Z0_4
    clear b5 s5
    have c_M0 := fun i => (M0_5).cell i
    have n_M0 := (M0_5).lt
    go_wp2_with fail
    refine (KW.out _ (by repeat' (first | with_reducible exact Below.refl _ _ | with_reducible assumption | with_reducible apply Below.drew | with_reducible apply below_drewN | (with_reducible refine Below.setCell ?_ ?_ _) | (with_reducible refine Below.alloc ?_ ?_ _) | with_reducible exact Nat.le_refl _ | with_reducible exact Below.size (by assumption) | (simp; done) | (simp; done) | omega | (simp; omega)))).mono ?_
    rintro e w6 ⟨rfl, b6⟩
    have s6 : Below w5.heap.size w5 w6 := Below.trans (by repeat' (first | with_reducible exact Below.refl _ _ | with_reducible assumption | with_reducible apply Below.drew | with_reducible apply below_drewN | (with_reducible refine Below.setCell ?_ ?_ _) | (with_reducible refine Below.alloc ?_ ?_ _) | with_reducible exact Nat.le_refl _ | with_reducible exact Below.size (by assumption) | (simp; done) | (simp; done) | omega | (simp; omega))) (b6.mono (by repeat' (first | with_reducible exact Below.refl _ _ | with_reducible assumption | with_reducible apply Below.drew | with_reducible apply below_drewN | (with_reducible refine Below.setCell ?_ ?_ _) | (with_reducible refine Below.alloc ?_ ?_ _) | with_reducible exact Nat.le_refl _ | with_reducible exact Below.size (by assumption) | (simp; done) | (simp; done) | omega | (simp; omega))))
    have B6 : Below w.heap.size w w6 := Below.trans B5 (s6.mono (by omega))
    have hz6 : w.heap.size ≤ w6.heap.size := B6.size
    have sz6 : w5.heap.size ≤ w6.heap.size := s6.size
    have D6 : Below w1.heap.size w1 w6 := Below.trans D5 (s6.mono (by omega))
    clear D5
    clear c_M0 n_M0
    have M0_6 := M0_5.kept s6
    clear M0_5
    have Z0_6 := Z0_5.kept s6
    clear Z0_5
    clear b6 s6
    go_wp2_with fail
    refine (alive_trueG _ (HT.out.below (B := w.heap.size) (by repeat' (first | with_reducible exact Below.refl _ _ | with_reducible assumption | with_reducible apply Below.drew | with_reducible apply below_drewN | (with_reducible refine Below.setCell ?_ ?_ _) | (with_reducible refine Below.alloc ?_ ?_ _) | with_reducible exact Nat.le_refl _ | with_reducible exact Below.size (by assumption) | (simp; done) | (simp; done) | omega | (simp; omega))) h0)).mono ?_
    rintro e w7 ⟨rfl, b7⟩
    have s7 : Below w6.heap.size w6 w7 := Below.trans (by repeat' (first | with_reducible exact Below.refl _ _ | with_reducible assumption | with_reducible apply Below.drew | with_reducible apply below_drewN | (with_reducible refine Below.setCell ?_ ?_ _) | (with_reducible refine Below.alloc ?_ ?_ _) | with_reducible exact Nat.le_refl _ | with_reducible exact Below.size (by assumption) | (simp; done) | (simp; done) | omega | (simp; omega))) (b7.mono (by repeat' (first | with_reducible exact Below.refl _ _ | with_reducible assumption | with_reducible apply Below.drew | with_reducible apply below_drewN | (with_reducible refine Below.setCell ?_ ?_ _) | (with_reducible refine Below.alloc ?_ ?_ _) | with_reducible exact Nat.le_refl _ | with_reducible exact Below.size (by assumption) | (simp; done) | (simp; done) | omega | (simp; omega))))
    have B7 : Below w.heap.size w w7 := Below.trans B6 (s7.mono (by omega))
    have hz7 : w.heap.size ≤ w7.heap.size := B7.size
    have sz7 : w6.heap.size ≤ w7.heap.size := s7.size
    have D7 : Below w1.heap.size w1 w7 := Below.trans D6 (s7.mono (by omega))
    clear D6
    have M0_7 := M0_6.kept s7
    clear M0_6
    have Z0_7 := Z0_6.kept s7
    clear Z0_6
    clear b7 s7
    go_wp2
    go_ret
    exact ⟨rfl, (by repeat' (first | with_reducible exact Below.refl _ _ | with_reducible assumption | with_reducible apply Below.drew | with_reducible apply below_drewN | (with_reducible refine Below.setCell ?_ ?_ _) | (with_reducible refine Below.alloc ?_ ?_ _) | with_reducible exact Nat.le_refl _ | with_reducible exact Below.size (by assumption) | (simp; done) | (simp; done) | omega | (simp; omega)))⟩

end Go.Proofs.YtehcmkbepembfaaDoor

/- The model's MostFor and DearestFor, at every slice of goods and every amount. -/
import Derived.Test.YtemhikgdbmmnjaaDoorSbk
import Derived.Test.YtemhikgdbmmnjaaDoorSum
namespace Go.Proofs.YtemhikgdbmmnjaaDoor
open Go.RowKit

/-- A row that the model hands back beside true. -/
def GotBest (w : World) (n : Nat) (xs : List Int) (e : Ending) (w' : World) : Prop :=
  ∃ b cap, e = .returned (.tuple #[.slice (some ⟨b, 0, none⟩) n cap, .bool true]) ∧ RowAt w' b 3 xs ∧ w.heap.size ≤ b ∧ Below w.heap.size w w'

theorem bestF_head (rk : Q3 → Int) (t : List Q3) : bestF rk ((Q3.zero :: t).take 1) Q3.zero = Q3.zero := by
  simp [bestF]
theorem bestF_take (rk : Q3 → Int) {L : List Q3} {j : Nat} (h : j < L.length) (b : Q3) : bestF rk (L.take (j + 1)) b = if rk (bestF rk (L.take j) b) < rk L[j] then L[j] else bestF rk (L.take j) b := by
  rw [List.take_succ_eq_append_getElem h, bestF_snoc]

theorem specMostFor_no (A : Option Addr) (gs : List Gd) (c : Nat) (n : Int) (w : World) (hr : GRow w A gs) (hl : gs.length ≤ 2097152) (h : okSN gs n = false) :
    Calls Tryd.prog 24 #[.slice A gs.length c, .int .i64 n] w fun e w' => (∃ A' cap, e = .returned (.tuple #[.slice A' 0 cap, .bool false])) ∧ Below w.heap.size w w' := by
  have K := Lib.hid (fun W (hW : GRow W A gs) => specBasketsFor_no A gs c n W hW hl h)
  clear h
  go_enter Tryd.func24, Tryd.ntmps24
  go_wp2_with fail
  refine (K.out _ (hr.below (by repeat' (first | with_reducible exact Below.refl _ _ | with_reducible assumption | with_reducible apply Below.drew | with_reducible apply below_drewN | (with_reducible refine Below.setCell ?_ ?_ _) | (with_reducible refine Below.alloc ?_ ?_ _) | with_reducible exact Nat.le_refl _ | with_reducible exact Below.size (by assumption) | (simp; done) | (simp; done) | omega | (simp; omega))))).mono ?_
  rintro e w1 ⟨A1, cap1, m1, rfl, _, _, hb1⟩
  have z1 := hb1.size
  go_wp2
  refine wp_loop_rounds 1 ?_
  rw [rounds_succ]
  go_wp2
  go_ret2
  exact ⟨⟨_, _, rfl⟩, (by repeat' (first | with_reducible exact Below.refl _ _ | with_reducible assumption | with_reducible apply Below.drew | with_reducible apply below_drewN | (with_reducible refine Below.setCell ?_ ?_ _) | (with_reducible refine Below.alloc ?_ ?_ _) | with_reducible exact Nat.le_refl _ | with_reducible exact Below.size (by assumption) | (simp; done) | (simp; done) | omega | (simp; omega)))⟩

set_option maxRecDepth 100000 in
set_option maxHeartbeats 3200000 in
theorem specMostFor_yes (A : Option Addr) (gs : List Gd) (c : Nat) (n : Int) (w : World) (hr : GRow w A gs) (h : okSN gs n = true) :
    Calls Tryd.prog 24 #[.slice A gs.length c, .int .i64 n] w (GotBest w gs.length (rowOf (shOf gs).m (best Q3.cnt (bsk (shOf gs) n)))) := by
  obtain ⟨hg, h0, h1⟩ := okSN_iff.1 h
  have h3 := (okS_iff.1 hg).1
  have hin := shOf_in hg
  have K := Lib.hid (fun W (hW : GRow W A gs) => specBasketsFor_yes A gs c n W hW h)
  obtain ⟨t, ht⟩ := bsk_head hin h0
  have hmem : Hid (∀ q ∈ bsk (shOf gs) n, (shOf gs).Has q) := Lib.hid (fun q hq => (mem_bsk.1 hq).1)
  have hlen := bsk_length hin n
  obtain ⟨BS, hBS⟩ : ∃ BS, BS = bsk (shOf gs) n := ⟨_, rfl⟩
  have HB := Lib.hid hBS
  rw [← hBS] at K hmem hlen ht
  have HT := Lib.hid ht
  have HG := Lib.hid hg
  have HR := Lib.hid hr
  have HI := Lib.hid hin
  have HM : Hid (∀ q, (rowOf (shOf gs).m q).length = gs.length) := Lib.hid (fun q => by
    have h := rowOf_length hin.m0 hin.m1 q
    have e : (shOf gs).m = (gs.length : Int) := rfl
    rw [e] at h ⊢
    omega)
  have KL := Lib.hid (fun B q d W (hq : (shOf gs).Has q) (hX : Row .i64 W B (rowOf (shOf gs).m q)) => (show Calls Tryd.prog 50 #[.slice B gs.length d] W fun e w' => e = .returned (.int .i64 (Q3.cnt q)) ∧ Below W.heap.size W w' by
    have h1 := l3Sum_any B (rowOf (shOf gs).m q) gs.length d (HM.out q) W hX (rowOf_small hin hq _) (by omega)
    have e : sumTo (rowOf (shOf gs).m q) gs.length = Q3.cnt q := by rw [← HM.out q]; exact sumTo_row HG.out hq
    rw [e] at h1
    exact h1.mono fun e w' ⟨h2, h3⟩ => ⟨h2, by rw [← h3]; exact Below.refl _ _⟩))
  clear h hg hr hin hBS ht
  go_enter Tryd.func24, Tryd.ntmps24
  go_wp2_with fail
  refine (K.out _ (HR.out.below (by repeat' (first | with_reducible exact Below.refl _ _ | with_reducible assumption | with_reducible apply Below.drew | with_reducible apply below_drewN | (with_reducible refine Below.setCell ?_ ?_ _) | (with_reducible refine Below.alloc ?_ ?_ _) | with_reducible exact Nat.le_refl _ | with_reducible exact Below.size (by assumption) | (simp; done) | (simp; done) | omega | (simp; omega))))).mono ?_
  rintro e w1 ⟨A1, cap1, m1, rfl, rows1, hm1, hb1⟩
  have z1 := hb1.size
  have hle : (BS.map (rowOf (shOf gs).m)).length = BS.length := by simp
  have HO := Lib.hid rows1
  have HOK := Lib.hid (fun k hk => (rows1.own k hk).2)
  clear rows1
  rw [hle] at *
  have h0N : 0 < BS.length := by rw [HT.out]; simp
  have hi0 : (0 : Int) < (BS.length : Int) := by omega
  have HMAP := Lib.hid hle
  clear hle
  go_wp2_with fail
  go_loopg [7, 8] BS.length (fun gk s7 s8 wx => ∃ j : Nat, s8 = .int .i64 j ∧ gk + j = BS.length ∧ (j = 0 ∨ ∃ b cap, s7 = .slice (some ⟨b, 0, none⟩) gs.length cap ∧ RowAt wx b 3 (rowOf (shOf gs).m (bestF Q3.cnt (BS.take j) Q3.zero)) ∧ w.heap.size ≤ b) ∧ Below w1.heap.size w1 wx)
  case atStart => exact ⟨0, rfl, rfl, .inl rfl, (by repeat' (first | with_reducible exact Below.refl _ _ | with_reducible assumption | with_reducible apply Below.drew | with_reducible apply below_drewN | (with_reducible refine Below.setCell ?_ ?_ _) | (with_reducible refine Below.alloc ?_ ?_ _) | with_reducible exact Nat.le_refl _ | with_reducible exact Below.size (by assumption) | (simp; done) | (simp; done) | omega | (simp; omega)))⟩
  case round =>
    obtain ⟨j, rfl, hgj, hbest, hbx⟩ := hrel
    have hzx := hbx.size
    have hbw : Below w.heap.size w wr := Below.trans hb1 (hbx.mono z1)
    cases gk with
    | zero =>
      have hj : j = BS.length := by omega
      subst hj
      rcases hbest with h0 | ⟨b, cap, rfl, hrow, hbb⟩
      · omega
      rw [List.take_length] at hrow
      have HQ : Hid (RowAt wr b 3 (rowOf (shOf gs).m (best Q3.cnt (bsk (shOf gs) n)))) := Lib.hid (by rw [← HB.out]; exact hrow)
      clear hrow
      go_wp2
      go_ret2
      exact ⟨b, cap, rfl, HQ.out, hbb, hbw⟩
    | succ gj =>
      have hjl : j < BS.length := by omega
      obtain ⟨go, bo, co, rfl, e1, r1, l1, o1, o2, o3⟩ := (HO.out.kept hbx).at (i := j) (by simp; omega)
      rw [List.getElem_map] at r1
      have hgo : go < w1.heap.size := HOK.out go rfl
      have lgo : go < wr.heap.size := by omega
      have hq := hmem.out _ (List.getElem_mem hjl)
      have HTK := Lib.hid (bestF_take Q3.cnt hjl Q3.zero)
      have hj0 : (0 : Int) ≤ (j : Int) := by omega
      have hj1 : (j : Int) < (BS.length : Int) := by omega
      by_cases hz : j = 0
      · subst hz
        have HQ : Hid (RowAt wr bo 3 (rowOf (shOf gs).m (bestF Q3.cnt (BS.take (0 + 1)) Q3.zero))) := Lib.hid (by
          have e0 : bestF Q3.cnt (BS.take (0 + 1)) Q3.zero = Q3.zero := by rw [HT.out]; exact bestF_head _ _
          have e2 : BS[0] = Q3.zero := by simp [HT.out]
          rw [e0, ← e2]
          exact r1)
        clear r1 hbest HTK
        go_wp2
        go_roundg gj
        case measure => omega
        case rel => exact ⟨0 + 1, rfl, by omega, .inr ⟨bo, co, rfl, HQ.out, o1⟩, hbx⟩
      · rcases hbest with h0 | ⟨b, cap, rfl, hrow, hbb⟩
        · omega
        have hqb : (shOf gs).Has (bestF Q3.cnt (BS.take j) Q3.zero) := bestF_has HI.out Q3.cnt (fun q hq => hmem.out q (List.mem_of_mem_take hq))
        have hj2 : ((j : Int) == 0) = false := by simp; omega
        generalize bestF Q3.cnt (BS.take j) Q3.zero = qb at *
        generalize BS[j] = q at *
        have R1 := Lib.hid r1
        have RB := Lib.hid hrow
        clear r1 hrow hz
        go_wp2_with fail
        refine (KL.out (some ⟨bo, 0, none⟩) q co _ hq R1.out.row).mono ?_
        rintro e w3 ⟨rfl, hb3⟩
        have z3 := hb3.size
        have RB3 := Lib.hid (RB.out.kept hb3)
        have R3 := Lib.hid (R1.out.kept hb3)
        have B3 : Below w1.heap.size w1 w3 := Below.trans hbx (hb3.mono hzx)
        have BW3 : Below w.heap.size w w3 := Below.trans hb1 (B3.mono z1)
        have e3 := (hb3.cell (p := ⟨go, j, none⟩) lgo).trans e1
        have lgo3 : go < w3.heap.size := by omega
        clear hb3 e1
        go_wp2_with fail
        refine (KL.out (some ⟨b, 0, none⟩) qb cap _ hqb RB3.out.row).mono ?_
        rintro e w4 ⟨rfl, hb4⟩
        have z4 := hb4.size
        have RB4 := Lib.hid (RB3.out.kept hb4)
        have R4 := Lib.hid (R3.out.kept hb4)
        have hz3 := B3.size
        have B4 : Below w1.heap.size w1 w4 := Below.trans B3 (hb4.mono hz3)
        have e4 := (hb4.cell (p := ⟨go, j, none⟩) lgo3).trans e3
        clear hb4 e3
        have HLT : Hid (bestF Q3.cnt (BS.take (j + 1)) Q3.zero = if Q3.cnt qb < Q3.cnt q then q else qb) := HTK
        clear HTK
        generalize Q3.cnt q = x at *
        generalize Q3.cnt qb = y at *
        by_cases hxy : y < x
        · rw [if_pos hxy] at HLT
          go_wp2
          go_roundg gj
          case measure => omega
          case rel => exact ⟨j + 1, by go_num, by omega, .inr ⟨bo, co, rfl, by rw [HLT.out]; exact R4.out, o1⟩, B4⟩
        · rw [if_neg hxy] at HLT
          have hyx : x ≤ y := by omega
          clear hxy
          go_wp2
          go_roundg gj
          case measure => omega
          case rel => exact ⟨j + 1, by go_num, by omega, .inr ⟨b, cap, rfl, by rw [HLT.out]; exact RB4.out, hbb⟩, B4⟩

theorem specDearestFor_no (A : Option Addr) (gs : List Gd) (c : Nat) (n : Int) (w : World) (hr : GRow w A gs) (hl : gs.length ≤ 2097152) (h : okSN gs n = false) :
    Calls Tryd.prog 28 #[.slice A gs.length c, .int .i64 n] w fun e w' => (∃ A' cap, e = .returned (.tuple #[.slice A' 0 cap, .bool false])) ∧ Below w.heap.size w w' := by
  have K := Lib.hid (fun W (hW : GRow W A gs) => specBasketsFor_no A gs c n W hW hl h)
  clear h
  go_enter Tryd.func28, Tryd.ntmps28
  go_wp2_with fail
  refine (K.out _ (hr.below (by repeat' (first | with_reducible exact Below.refl _ _ | with_reducible assumption | with_reducible apply Below.drew | with_reducible apply below_drewN | (with_reducible refine Below.setCell ?_ ?_ _) | (with_reducible refine Below.alloc ?_ ?_ _) | with_reducible exact Nat.le_refl _ | with_reducible exact Below.size (by assumption) | (simp; done) | (simp; done) | omega | (simp; omega))))).mono ?_
  rintro e w1 ⟨A1, cap1, m1, rfl, _, _, hb1⟩
  have z1 := hb1.size
  go_wp2
  refine wp_loop_rounds 1 ?_
  rw [rounds_succ]
  go_wp2
  go_ret2
  exact ⟨⟨_, _, rfl⟩, (by repeat' (first | with_reducible exact Below.refl _ _ | with_reducible assumption | with_reducible apply Below.drew | with_reducible apply below_drewN | (with_reducible refine Below.setCell ?_ ?_ _) | (with_reducible refine Below.alloc ?_ ?_ _) | with_reducible exact Nat.le_refl _ | with_reducible exact Below.size (by assumption) | (simp; done) | (simp; done) | omega | (simp; omega)))⟩

set_option maxRecDepth 100000 in
set_option maxHeartbeats 3200000 in
theorem specDearestFor_yes (A : Option Addr) (gs : List Gd) (c : Nat) (n : Int) (w : World) (hr : GRow w A gs) (h : okSN gs n = true) :
    Calls Tryd.prog 28 #[.slice A gs.length c, .int .i64 n] w (GotBest w gs.length (rowOf (shOf gs).m (best (cost (shOf gs)) (bsk (shOf gs) n)))) := by
  obtain ⟨hg, h0, h1⟩ := okSN_iff.1 h
  have h3 := (okS_iff.1 hg).1
  have hin := shOf_in hg
  have K := Lib.hid (fun W (hW : GRow W A gs) => specBasketsFor_yes A gs c n W hW h)
  obtain ⟨t, ht⟩ := bsk_head hin h0
  have hmem : Hid (∀ q ∈ bsk (shOf gs) n, (shOf gs).Has q) := Lib.hid (fun q hq => (mem_bsk.1 hq).1)
  have hlen := bsk_length hin n
  obtain ⟨BS, hBS⟩ : ∃ BS, BS = bsk (shOf gs) n := ⟨_, rfl⟩
  have HB := Lib.hid hBS
  rw [← hBS] at K hmem hlen ht
  have HT := Lib.hid ht
  have HG := Lib.hid hg
  have HR := Lib.hid hr
  have HI := Lib.hid hin
  have HM : Hid (∀ q, (rowOf (shOf gs).m q).length = gs.length) := Lib.hid (fun q => by
    have h := rowOf_length hin.m0 hin.m1 q
    have e : (shOf gs).m = (gs.length : Int) := rfl
    rw [e] at h ⊢
    omega)
  have KL := Lib.hid (fun B q d W (hq : (shOf gs).Has q) (hW : GRow W A gs) (hX : Row .i64 W B (rowOf (shOf gs).m q)) => (show Calls Tryd.prog 16 #[.slice A gs.length c, .slice B gs.length d] W fun e w' => e = .returned (.int .i64 (cost (shOf gs) q)) ∧ Below W.heap.size W w' by
    have h1 := specCostOf_any A B gs (rowOf (shOf gs).m q) c d W hW hX (by omega)
    rw [costV_row HG.out hq, HM.out q] at h1
    exact h1))
  clear h hg hr hin hBS ht
  go_enter Tryd.func28, Tryd.ntmps28
  go_wp2_with fail
  refine (K.out _ (HR.out.below (by repeat' (first | with_reducible exact Below.refl _ _ | with_reducible assumption | with_reducible apply Below.drew | with_reducible apply below_drewN | (with_reducible refine Below.setCell ?_ ?_ _) | (with_reducible refine Below.alloc ?_ ?_ _) | with_reducible exact Nat.le_refl _ | with_reducible exact Below.size (by assumption) | (simp; done) | (simp; done) | omega | (simp; omega))))).mono ?_
  rintro e w1 ⟨A1, cap1, m1, rfl, rows1, hm1, hb1⟩
  have z1 := hb1.size
  have hle : (BS.map (rowOf (shOf gs).m)).length = BS.length := by simp
  have HO := Lib.hid rows1
  have HOK := Lib.hid (fun k hk => (rows1.own k hk).2)
  clear rows1
  rw [hle] at *
  have h0N : 0 < BS.length := by rw [HT.out]; simp
  have hi0 : (0 : Int) < (BS.length : Int) := by omega
  have HMAP := Lib.hid hle
  clear hle
  go_wp2_with fail
  go_loopg [7, 8] BS.length (fun gk s7 s8 wx => ∃ j : Nat, s8 = .int .i64 j ∧ gk + j = BS.length ∧ (j = 0 ∨ ∃ b cap, s7 = .slice (some ⟨b, 0, none⟩) gs.length cap ∧ RowAt wx b 3 (rowOf (shOf gs).m (bestF (cost (shOf gs)) (BS.take j) Q3.zero)) ∧ w.heap.size ≤ b) ∧ Below w1.heap.size w1 wx)
  case atStart => exact ⟨0, rfl, rfl, .inl rfl, (by repeat' (first | with_reducible exact Below.refl _ _ | with_reducible assumption | with_reducible apply Below.drew | with_reducible apply below_drewN | (with_reducible refine Below.setCell ?_ ?_ _) | (with_reducible refine Below.alloc ?_ ?_ _) | with_reducible exact Nat.le_refl _ | with_reducible exact Below.size (by assumption) | (simp; done) | (simp; done) | omega | (simp; omega)))⟩
  case round =>
    obtain ⟨j, rfl, hgj, hbest, hbx⟩ := hrel
    have hzx := hbx.size
    have hbw : Below w.heap.size w wr := Below.trans hb1 (hbx.mono z1)
    cases gk with
    | zero =>
      have hj : j = BS.length := by omega
      subst hj
      rcases hbest with h0 | ⟨b, cap, rfl, hrow, hbb⟩
      · omega
      rw [List.take_length] at hrow
      have HQ : Hid (RowAt wr b 3 (rowOf (shOf gs).m (best (cost (shOf gs)) (bsk (shOf gs) n)))) := Lib.hid (by rw [← HB.out]; exact hrow)
      clear hrow
      go_wp2
      go_ret2
      exact ⟨b, cap, rfl, HQ.out, hbb, hbw⟩
    | succ gj =>
      have hjl : j < BS.length := by omega
      obtain ⟨go, bo, co, rfl, e1, r1, l1, o1, o2, o3⟩ := (HO.out.kept hbx).at (i := j) (by simp; omega)
      rw [List.getElem_map] at r1
      have hgo : go < w1.heap.size := HOK.out go rfl
      have lgo : go < wr.heap.size := by omega
      have hq := hmem.out _ (List.getElem_mem hjl)
      have HTK := Lib.hid (bestF_take (cost (shOf gs)) hjl Q3.zero)
      have hj0 : (0 : Int) ≤ (j : Int) := by omega
      have hj1 : (j : Int) < (BS.length : Int) := by omega
      by_cases hz : j = 0
      · subst hz
        have HQ : Hid (RowAt wr bo 3 (rowOf (shOf gs).m (bestF (cost (shOf gs)) (BS.take (0 + 1)) Q3.zero))) := Lib.hid (by
          have e0 : bestF (cost (shOf gs)) (BS.take (0 + 1)) Q3.zero = Q3.zero := by rw [HT.out]; exact bestF_head _ _
          have e2 : BS[0] = Q3.zero := by simp [HT.out]
          rw [e0, ← e2]
          exact r1)
        clear r1 hbest HTK
        go_wp2
        go_roundg gj
        case measure => omega
        case rel => exact ⟨0 + 1, rfl, by omega, .inr ⟨bo, co, rfl, HQ.out, o1⟩, hbx⟩
      · rcases hbest with h0 | ⟨b, cap, rfl, hrow, hbb⟩
        · omega
        have hqb : (shOf gs).Has (bestF (cost (shOf gs)) (BS.take j) Q3.zero) := bestF_has HI.out (cost (shOf gs)) (fun q hq => hmem.out q (List.mem_of_mem_take hq))
        have hj2 : ((j : Int) == 0) = false := by simp; omega
        generalize bestF (cost (shOf gs)) (BS.take j) Q3.zero = qb at *
        generalize BS[j] = q at *
        have R1 := Lib.hid r1
        have RB := Lib.hid hrow
        clear r1 hrow hz
        go_wp2_with fail
        refine (KL.out (some ⟨bo, 0, none⟩) q co _ hq (HR.out.below (by repeat' (first | with_reducible exact Below.refl _ _ | with_reducible assumption | with_reducible apply Below.drew | with_reducible apply below_drewN | (with_reducible refine Below.setCell ?_ ?_ _) | (with_reducible refine Below.alloc ?_ ?_ _) | with_reducible exact Nat.le_refl _ | with_reducible exact Below.size (by assumption) | (simp; done) | (simp; done) | omega | (simp; omega)))) R1.out.row).mono ?_
        rintro e w3 ⟨rfl, hb3⟩
        have z3 := hb3.size
        have RB3 := Lib.hid (RB.out.kept hb3)
        have R3 := Lib.hid (R1.out.kept hb3)
        have B3 : Below w1.heap.size w1 w3 := Below.trans hbx (hb3.mono hzx)
        have BW3 : Below w.heap.size w w3 := Below.trans hb1 (B3.mono z1)
        have e3 := (hb3.cell (p := ⟨go, j, none⟩) lgo).trans e1
        have lgo3 : go < w3.heap.size := by omega
        clear hb3 e1
        go_wp2_with fail
        refine (KL.out (some ⟨b, 0, none⟩) qb cap _ hqb (HR.out.below (by repeat' (first | with_reducible exact Below.refl _ _ | with_reducible assumption | with_reducible apply Below.drew | with_reducible apply below_drewN | (with_reducible refine Below.setCell ?_ ?_ _) | (with_reducible refine Below.alloc ?_ ?_ _) | with_reducible exact Nat.le_refl _ | with_reducible exact Below.size (by assumption) | (simp; done) | (simp; done) | omega | (simp; omega)))) RB3.out.row).mono ?_
        rintro e w4 ⟨rfl, hb4⟩
        have z4 := hb4.size
        have RB4 := Lib.hid (RB3.out.kept hb4)
        have R4 := Lib.hid (R3.out.kept hb4)
        have hz3 := B3.size
        have B4 : Below w1.heap.size w1 w4 := Below.trans B3 (hb4.mono hz3)
        have e4 := (hb4.cell (p := ⟨go, j, none⟩) lgo3).trans e3
        clear hb4 e3
        have HLT : Hid (bestF (cost (shOf gs)) (BS.take (j + 1)) Q3.zero = if cost (shOf gs) qb < cost (shOf gs) q then q else qb) := HTK
        clear HTK
        generalize cost (shOf gs) q = x at *
        generalize cost (shOf gs) qb = y at *
        by_cases hxy : y < x
        · rw [if_pos hxy] at HLT
          go_wp2
          go_roundg gj
          case measure => omega
          case rel => exact ⟨j + 1, by go_num, by omega, .inr ⟨bo, co, rfl, by rw [HLT.out]; exact R4.out, o1⟩, B4⟩
        · rw [if_neg hxy] at HLT
          have hyx : x ≤ y := by omega
          clear hxy
          go_wp2
          go_roundg gj
          case measure => omega
          case rel => exact ⟨j + 1, by go_num, by omega, .inr ⟨b, cap, rfl, by rw [HLT.out]; exact RB4.out, hbb⟩, B4⟩

end Go.Proofs.YtemhikgdbmmnjaaDoor

/- The walk of the law FnBasketsFor: for every bytes the law returns true. -/
import Derived.Test.YtemhikgdbmmnjaaDoorDrawH
import Derived.Test.YtemhikgdbmmnjaaDoorAlive
import Derived.Test.YtemhikgdbmmnjaaDoorLawM
import Derived.Test.YtemhikgdbmmnjaaDoorSame
import Derived.Test.YtemhikgdbmmnjaaDoorSbk
import Derived.Test.YtemhikgdbmmnjaaDoorBask
import Derived.Test.YtemhikgdbmmnjaaDoorSum
namespace Go.Proofs.YtemhikgdbmmnjaaDoor
open Go.RowKit

/-- Rows handed out in memory of their own, one for each basket. -/
def GotRowsQ (w : World) (T : TypeId) (r N : Nat) (L : List (List Int)) (e : Ending) (w' : World) : Prop :=
  ∃ A cap m, e = .returned (.slice A N cap) ∧ RowsC w' w.heap.size w.heap.size (.slice A N cap) T r L m ∧ m ≤ w'.heap.size ∧ Below w.heap.size w w'

set_option maxRecDepth 100000 in
set_option maxHeartbeats 3200000 in
theorem walk_FnBasketsFor (A : Option Addr) (bs : List Int) (c : Nat) (w : World) (hr : Row .u8 w A bs) (hl : bs.length ≤ c) (hm : c ≤ maxLen) (hwf : ∀ n ∈ bs, (Lit.int .u8 n).wf = true) (hT : Worths w) :
    Calls Tryd.prog 5 #[.slice A bs.length c] w fun e w' => e = .returned (.bool true) ∧ Below w.heap.size w w' := by
  have hb := bytes_of_wfG hwf
  clear hwf
  have h0 : 0 < w.heap.size := World.block_lt_of_cell? w _ hT.1
  have HT := Lib.hid hT; clear hT
  by_cases hbig : 1048576 < bs.length
  · clear hb hl hm
    go_enter Tryd.func5, Tryd.ntmps5
    go_wp2
    go_ret
    exact ⟨rfl, Below.refl _ _⟩
  have hs : bs.length ≤ 1048576 := by omega
  clear hbig
  have K := Lib.hid (DrawBasketsFor_any A bs c w hr hb hl hm)
  clear hb hl hm hr
  go_enter Tryd.func5, Tryd.ntmps5
  go_wp2_with fail
  refine (K.out).mono ?_
  rintro e w1 ⟨A1, cap, gs, n, rfl, hg1, hlen, hsm, hn0, hn1, B1⟩
  have hz1 := B1.size
  cases hok : okSN gs n
  · have KI := Lib.hid (fun W (h : GRow W A1 gs) => implBasketsFor_no A1 gs cap n W h hok)
    have KS := Lib.hid (fun W (h : GRow W A1 gs) => specBasketsFor_no A1 gs cap n W h (by omega) hok)
    clear hok hsm
    go_wp2_with fail
    refine (KI.out _ hg1).mono ?_
    rintro e w2 ⟨rfl, b2⟩
    have B2 : Below w.heap.size w w2 := Below.trans B1 (b2.mono hz1)
    have hz2 := B2.size
    have hg2 := hg1.below b2
    clear b2 hg1
    go_wp2_with fail
    refine (KS.out _ hg2).mono ?_
    rintro e w3 ⟨A3, cap3, m3, rfl, _, _, b3⟩
    have B3 : Below w.heap.size w w3 := Below.trans B2 (b3.mono hz2)
    have hz3 := B3.size
    have hg3 := hg2.below b3
    clear b3 hg2
    go_wp2_with fail
    refine (sameRows_none _ _ _ _ _).mono ?_
    rintro e w4 ⟨rfl, b4⟩
    have B4 : Below w.heap.size w w4 := Below.trans B3 (b4.mono hz3)
    have hz4 := B4.size
    have hg4 := hg3.below b4
    clear b4 hg3
    go_wp2_with fail
    refine (alive_true _ (HT.out.below B4 h0)).mono ?_
    rintro e w5 ⟨rfl, b5⟩
    have B5 : Below w.heap.size w w5 := Below.trans B4 (b5.mono hz4)
    have hz5 := B5.size
    clear b5 
    go_wp2
    go_ret
    exact ⟨rfl, B5⟩
  · obtain ⟨hg, hA0, hA1⟩ := okSN_iff.1 hok
    have hg3 := (okS_iff.1 hg).1
    have hin := shOf_in hg
    have em : (shOf gs).m.toNat = gs.length := rfl
    obtain ⟨t, ht⟩ := bsk_head hin hA0
    have hmem : Hid (∀ q ∈ bsk (shOf gs) n, (shOf gs).Has q ∧ 0 ≤ cost (shOf gs) q ∧ cost (shOf gs) q ≤ n) := Lib.hid (fun q hq => by
      obtain ⟨h1, h2⟩ := mem_bsk.1 hq
      have h3 := cost_bnd hin h1
      refine ⟨h1, ?_, h2⟩
      unfold cost
      omega)
    have hbl := bsk_length hin n
    have KI := Lib.hid (fun W (h : GRow W A1 gs) => (show Calls Tryd.prog 18 #[.slice A1 gs.length cap, .int .i64 n] W (GotRowsQ W 58 gs.length (bsk (shOf gs) n).length ((bsk (shOf gs) n).map (rowOf (shOf gs).m))) by
      have h := implBasketsFor_yes A1 gs cap n W h hok _ rfl
      rw [em] at h
      exact h.mono fun e W' ⟨A', cap', m, h1, h2, h3, h4⟩ => ⟨A', cap', m, by rw [h1, List.length_map], by rw [List.length_map] at h2; exact h2, h3, h4⟩))
    have KS := Lib.hid (fun W (h : GRow W A1 gs) => (show Calls Tryd.prog 20 #[.slice A1 gs.length cap, .int .i64 n] W (GotRowsQ W 3 gs.length (bsk (shOf gs) n).length ((bsk (shOf gs) n).map (rowOf (shOf gs).m))) from
      (specBasketsFor_yes A1 gs cap n W h hok).mono fun e W' ⟨A', cap', m, h1, h2, h3, h4⟩ => ⟨A', cap', m, by rw [h1, List.length_map], by rw [List.length_map] at h2; exact h2, h3, h4⟩))
    have KM : Hid (∀ W, GRow W A1 gs → Calls Tryd.prog 18 #[.slice A1 gs.length cap, .int .i64 (n + 1)] W fun e w' => ∃ A' k cap', e = .returned (.slice A' k cap') ∧ (n = 99 ∨ (bsk (shOf gs) n).length ≤ k) ∧ Below W.heap.size W w') := Lib.hid (fun W h => by
      cases hok2 : okSN gs (n + 1)
      · refine (implBasketsFor_no A1 gs cap (n + 1) W h hok2).mono fun e w' ⟨h1, h2⟩ => ⟨none, 0, 0, h1, .inl ?_, h2⟩
        have : ¬ okSN gs (n + 1) = true := by simp [hok2]
        rw [okSN_iff] at this
        have h4 : ¬ (0 ≤ n + 1 ∧ n + 1 ≤ 99) := fun h5 => this ⟨hg, h5⟩
        omega
      · refine (implBasketsFor_yes A1 gs cap (n + 1) W h hok2 _ rfl).mono fun e w' ⟨A', cap', m, h1, _, _, h2⟩ => ⟨A', _, cap', h1, .inr ?_, h2⟩
        rw [List.length_map]
        exact bsk_more n)
    have KC := Lib.hid (fun B q d W (hq : (shOf gs).Has q) (h1 : GRow W A1 gs) (h2 : Row .i64 W B (rowOf (shOf gs).m q)) => (show Calls Tryd.prog 15 #[.slice A1 gs.length cap, .slice B gs.length d] W (fun e w' => e = .returned (.int .i64 (cost (shOf gs) q)) ∧ Below W.heap.size W w') by
      have h := implCostOf_any A1 B gs (rowOf (shOf gs).m q) cap d W h1 h2
      rw [costV_row hg hq, rowOf_len hin.m0 hin.m1, em] at h
      exact h))
    have KZ := Lib.hid (fun B d W (h2 : Row .i64 W B (rowOf (shOf gs).m Q3.zero)) => (show Calls Tryd.prog 21 #[.slice B gs.length d] W (fun e w' => e = .returned (.int .i64 0) ∧ Below W.heap.size W w') by
      have hl := rowOf_len hin.m0 hin.m1 Q3.zero
      rw [em] at hl
      have h := sumOf_any B (rowOf (shOf gs).m Q3.zero) gs.length d hl W h2 (rowOf_small hin (has_zero hin) _) (by omega)
      have e : sumTo (rowOf (shOf gs).m Q3.zero) gs.length = 0 := by
        have := sumTo_row hg (has_zero hin)
        rw [hl] at this
        rw [this]
        rfl
      rw [e] at h
      exact h.mono fun e w' ⟨h1, h3⟩ => ⟨h1, by rw [← h3]; exact Below.refl _ _⟩))
    obtain ⟨BS, hBS⟩ : ∃ BS, BS = bsk (shOf gs) n := ⟨_, rfl⟩
    rw [← hBS] at KI KS KM hbl hmem ht
    have HT := Lib.hid ht
    have hpos : 0 < BS.length := by rw [ht]; simp
    clear ht hBS hok hsm hg hin em
    go_wp2_with fail
    refine (KI.out _ hg1).mono ?_
    rintro e w2 ⟨A2, cap2, m2, rfl, ro2, hm2, b2⟩
    have B2 : Below w.heap.size w w2 := Below.trans B1 (b2.mono hz1)
    have hz2 := B2.size
    have hg2 := hg1.below b2
    clear b2 hg1
    go_wp2_with fail
    refine (KS.out _ hg2).mono ?_
    rintro e w3 ⟨A3, cap3, m3, rfl, ro3, hm3, b3⟩
    have B3 : Below w.heap.size w w3 := Below.trans B2 (b3.mono hz2)
    have hz3 := B3.size
    have hg3 := hg2.below b3
    have ro2_3 := ro2.kept b3
    clear ro2 b3 hg2
    go_wp2_with fail
    refine (sameRows_rows _ _ BS.length _ _ (BS.map (rowOf (shOf gs).m)) (List.length_map _) _ ro2_3 ro3 (by omega) (by omega)).mono ?_
    rintro e w4 ⟨rfl, b4⟩
    have B4 : Below w.heap.size w w4 := Below.trans B3 (b4.mono hz3)
    have hz4 := B4.size
    have hg4 := hg3.below b4
    have ro2_4 := ro2_3.kept b4
    clear ro2_3 ro3 b4 hg3
    have hne : ((BS.length : Int) == 0) = false := by rw [beq_eq_false_iff_ne]; omega
    have hpos2 : (0 : Int) < (BS.length : Int) := by omega
    go_wp2_with fail
    refine (KM.out _ hg4).mono ?_
    rintro e w5 ⟨A5, k5, cap5, rfl, hk5, b5⟩
    have B5 : Below w.heap.size w w5 := Below.trans B4 (b5.mono hz4)
    have hz5 := B5.size
    have hg5 := hg4.below b5
    have ro2_5 := ro2_4.kept b5
    clear ro2_4 b5 hg4
    have HG5 := Lib.hid hg5
    have HR5 := Lib.hid ro2_5
    have HOW := Lib.hid (fun k hk => (ro2_5.own k hk).2)
    clear hg5 ro2_5
    go_wp2_with fail
    go_loopg [7] BS.length (fun gk s7 wx => ∃ (k : Nat), s7 = .int .i64 (k : Int) ∧ gk + k = BS.length ∧ Below w5.heap.size w5 wx)
    case atStart => exact ⟨0, rfl, rfl, (by repeat' (first | with_reducible exact Below.refl _ _ | with_reducible assumption | with_reducible apply Below.drew | with_reducible apply below_drewN | (with_reducible refine Below.setCell ?_ ?_ _) | (with_reducible refine Below.alloc ?_ ?_ _) | with_reducible exact Nat.le_refl _ | with_reducible exact Below.size (by assumption) | (simp; done) | (simp; done) | omega | (simp; omega)))⟩
    case round =>
      obtain ⟨k, rfl, hgk, hbx⟩ := hrel
      have hzx := hbx.size
      have BX : Below w.heap.size w wr := Below.trans B5 (hbx.mono hz5)
      have hzX := BX.size
      cases gk with
      | succ gk =>
        have hkl : k < BS.length := by omega
        obtain ⟨go, bo, co, rfl, e1, r1, l1, _, _, _⟩ := (HR5.out.kept hbx).at (i := k) (by simp; omega)
        rw [List.getElem_map] at r1
        obtain ⟨hq, hq0, hq1⟩ := hmem.out _ (List.getElem_mem hkl)
        generalize BS[k] = q at *
        have KQ := Lib.hid (fun W h1 h2 => KC.out (some ⟨bo, 0, none⟩) q co W hq h1 h2)
        generalize cost (shOf gs) q = v at *
        have lgo : go < wr.heap.size := World.block_lt_of_cell? wr _ e1
        have hi0 : (0 : Int) ≤ (k : Int) := by omega
        have hi1 : (k : Int) < (BS.length : Int) := by omega
        have R1 := Lib.hid r1
        have hgx := HG5.out.below hbx
        clear r1 hq l1
        go_wp2_with fail
        refine (KQ.out _ hgx R1.out.row).mono ?_
        rintro e w6 ⟨rfl, b6⟩
        have BN : Below w5.heap.size w5 w6 := Below.trans hbx (b6.mono hzx)
        clear b6 hgx
        go_wp2
        go_roundg gk
        case measure => omega
        case rel => exact ⟨k + 1, by go_num, by omega, BN⟩
      | zero =>
        have hk : BS.length ≤ k := by omega
        obtain ⟨go, bo, co, rfl, e1, r1, l1, _, _, _⟩ := (HR5.out.kept hbx).at (i := 0) (by simp; omega)
        rw [List.getElem_map] at r1
        have e0 : BS[0] = Q3.zero := by simp [HT.out]
        rw [e0] at r1
        have lgo : go < wr.heap.size := World.block_lt_of_cell? wr _ e1
        have R6 := r1.row
        clear r1 l1 e0
        by_cases h99 : n = 99
        · have hn9 : (n == 99) = true := by simp [h99]
          clear hk5
          go_wp2_with fail
          refine (KZ.out _ _ _ R6).mono ?_
          rintro e w6 ⟨rfl, b6⟩
          have B6 : Below w.heap.size w w6 := Below.trans BX (b6.mono hzX)
          clear b6
          go_wp2
          go_ret
          exact ⟨rfl, B6⟩
        · have hn9 : (n == 99) = false := by rw [beq_eq_false_iff_ne]; exact h99
          have hk6 : BS.length ≤ k5 := by omega
          have hk7 : (BS.length : Int) ≤ (k5 : Int) := by omega
          clear hk5
          go_wp2_with fail
          refine (KZ.out _ _ _ R6).mono ?_
          rintro e w6 ⟨rfl, b6⟩
          have B6 : Below w.heap.size w w6 := Below.trans BX (b6.mono hzX)
          clear b6
          go_wp2
          go_ret
          exact ⟨rfl, B6⟩

end Go.Proofs.YtemhikgdbmmnjaaDoor

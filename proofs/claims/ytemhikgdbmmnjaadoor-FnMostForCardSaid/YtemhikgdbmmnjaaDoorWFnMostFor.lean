/- The walk of the law FnMostFor: for every bytes the law returns true. -/
import Derived.Test.YtemhikgdbmmnjaaDoorDrawH
import Derived.Test.YtemhikgdbmmnjaaDoorAlive
import Derived.Test.YtemhikgdbmmnjaaDoorLawM
import Derived.Test.YtemhikgdbmmnjaaDoorSame
import Derived.Test.YtemhikgdbmmnjaaDoorSmd
import Derived.Test.YtemhikgdbmmnjaaDoorBask
import Derived.Test.YtemhikgdbmmnjaaDoorSum
namespace Go.Proofs.YtemhikgdbmmnjaaDoor
open Go.RowKit

/-- A row of the program's handed back beside true; rows handed out in memory of their own. -/
def GotRowZMostFor (w : World) (n : Nat) (xs : List Int) (e : Ending) (w' : World) : Prop :=
  ∃ g, e = .returned (.tuple #[.slice (some ⟨g, 0, none⟩) n n, .bool true]) ∧ RowAt w' g 58 xs ∧ Below w.heap.size w w'
def GotRowsZMostFor (w : World) (T : TypeId) (r N : Nat) (L : List (List Int)) (e : Ending) (w' : World) : Prop :=
  ∃ A cap m, e = .returned (.slice A N cap) ∧ RowsC w' w.heap.size w.heap.size (.slice A N cap) T r L m ∧ m ≤ w'.heap.size ∧ Below w.heap.size w w'

set_option maxRecDepth 100000 in
set_option maxHeartbeats 3200000 in
theorem walk_FnMostFor (A : Option Addr) (bs : List Int) (c : Nat) (w : World) (hr : Row .u8 w A bs) (hl : bs.length ≤ c) (hm : c ≤ maxLen) (hwf : ∀ n ∈ bs, (Lit.int .u8 n).wf = true) (hT : Worths w) :
    Calls Tryd.prog 6 #[.slice A bs.length c] w fun e w' => e = .returned (.bool true) ∧ Below w.heap.size w w' := by
  have hb := bytes_of_wfG hwf
  clear hwf
  have h0 : 0 < w.heap.size := World.block_lt_of_cell? w _ hT.1
  have HT := Lib.hid hT; clear hT
  by_cases hbig : 1048576 < bs.length
  · clear hb hl hm
    go_enter Tryd.func6, Tryd.ntmps6
    go_wp2
    go_ret
    exact ⟨rfl, Below.refl _ _⟩
  have hs : bs.length ≤ 1048576 := by omega
  clear hbig
  have K := Lib.hid (DrawMostFor_any A bs c w hr hb hl hm)
  clear hb hl hm hr
  go_enter Tryd.func6, Tryd.ntmps6
  go_wp2_with fail
  refine (K.out).mono ?_
  rintro e w1 ⟨A1, cap, gs, n, rfl, hg1, hlen, hsm, hn0, hn1, B1⟩
  have hz1 := B1.size
  cases hok : okSN gs n
  · have KI := Lib.hid (fun W (h : GRow W A1 gs) => implMostFor_no A1 gs cap n W h hok)
    have KS := Lib.hid (fun W (h : GRow W A1 gs) => specMostFor_no A1 gs cap n W h (by omega) hok)
    clear hok hsm
    go_wp2_with fail
    refine (KI.out _ hg1).mono ?_
    rintro e w2 ⟨rfl, b2⟩
    have B2 : Below w.heap.size w w2 := Below.trans B1 (b2.mono hz1)
    have hz2 := B2.size
    have hg2 := hg1.below b2
    clear b2 hg1
    go_wp2_with fail
    refine (KS.out _ hg2).mono ?_
    rintro e w3 ⟨⟨A3, cap3, rfl⟩, b3⟩
    have B3 : Below w.heap.size w w3 := Below.trans B2 (b3.mono hz2)
    have hz3 := B3.size
    have hg3 := hg2.below b3
    clear b3 hg2
    go_wp2_with fail
    refine (sameInts_n _ _ [] 0 0 _ _ rfl rfl _ (Row.nil _ _ _) (Row.nil _ _ _) (by omega)).mono ?_
    rintro e w4 ⟨rfl, b4⟩
    have B4 : Below w.heap.size w w4 := Below.trans B3 (b4.mono hz3)
    have hz4 := B4.size
    have hg4 := hg3.below b4
    clear b4 hg3
    go_wp2_with fail
    refine (alive_true _ (HT.out.below B4 h0)).mono ?_
    rintro e w5 ⟨rfl, b5⟩
    have B5 : Below w.heap.size w w5 := Below.trans B4 (b5.mono hz4)
    have hz5 := B5.size
    clear b5 
    go_wp2
    go_ret
    exact ⟨rfl, B5⟩
  · obtain ⟨hg, hA0, hA1⟩ := okSN_iff.1 hok
    have hg3 := (okS_iff.1 hg).1
    have hin := shOf_in hg
    have em : (shOf gs).m.toNat = gs.length := rfl
    have hrl : Hid (∀ q, (rowOf (shOf gs).m q).length = gs.length) := Lib.hid (fun q => (rowOf_len hin.m0 hin.m1 q).trans em)
    have hb0 : best Q3.cnt (bsk (shOf gs) n) ∈ bsk (shOf gs) n := best_has hin Q3.cnt hA0
    have hc : ∀ q ∈ bsk (shOf gs) n, (shOf gs).Has q ∧ 0 ≤ cost (shOf gs) q ∧ cost (shOf gs) q ≤ n := fun q hq => by
      obtain ⟨h1, h2⟩ := mem_bsk.1 hq
      have h3 := cost_bnd hin h1
      refine ⟨h1, ?_, h2⟩
      unfold cost
      omega
    have hge : Hid (∀ q ∈ bsk (shOf gs) n, Q3.cnt q ≤ Q3.cnt (best Q3.cnt (bsk (shOf gs) n))) := Lib.hid (fun q hq => best_ge Q3.cnt hq)
    have hmem : Hid (∀ q ∈ bsk (shOf gs) n, (shOf gs).Has q) := Lib.hid (fun q hq => (hc q hq).1)
    have hbl := bsk_length hin n
    obtain ⟨hq0, hc0, hc1⟩ := hc _ hb0
    have KI := Lib.hid (fun W (h : GRow W A1 gs) => (show Calls Tryd.prog 23 #[.slice A1 gs.length cap, .int .i64 n] W (GotRowZMostFor W gs.length (rowOf (shOf gs).m (best Q3.cnt (bsk (shOf gs) n)))) from
      (implMostFor_yes A1 gs cap n W h hok _ rfl).mono fun e W' ⟨g, h1, h2, h3, h4⟩ => ⟨g, h1, rowAt_bc h2, h4⟩))
    have KS := Lib.hid (fun W (h : GRow W A1 gs) => specMostFor_yes A1 gs cap n W h hok)
    have KB := Lib.hid (fun W (h : GRow W A1 gs) => (show Calls Tryd.prog 18 #[.slice A1 gs.length cap, .int .i64 n] W (GotRowsZMostFor W 58 gs.length (bsk (shOf gs) n).length ((bsk (shOf gs) n).map (rowOf (shOf gs).m))) by
      have h := implBasketsFor_yes A1 gs cap n W h hok _ rfl
      rw [em] at h
      exact h.mono fun e W' ⟨A', cap', m, h1, h2, h3, h4⟩ => ⟨A', cap', m, by rw [h1, List.length_map], by rw [List.length_map] at h2; exact h2, h3, h4⟩))
    have KC := Lib.hid (fun B q d W (hq : (shOf gs).Has q) (h1 : GRow W A1 gs) (h2 : Row .i64 W B (rowOf (shOf gs).m q)) => (show Calls Tryd.prog 15 #[.slice A1 gs.length cap, .slice B gs.length d] W (fun e w' => e = .returned (.int .i64 (cost (shOf gs) q)) ∧ Below W.heap.size W w') by
      have h := implCostOf_any A1 B gs (rowOf (shOf gs).m q) cap d W h1 h2
      rw [costV_row hg hq, rowOf_len hin.m0 hin.m1, em] at h
      exact h))
    have KZ := Lib.hid (fun B q d W (hq : (shOf gs).Has q) (h2 : Row .i64 W B (rowOf (shOf gs).m q)) => (show Calls Tryd.prog 21 #[.slice B gs.length d] W (fun e w' => e = .returned (.int .i64 (Q3.cnt q)) ∧ Below W.heap.size W w') by
      have hl := rowOf_len hin.m0 hin.m1 q
      rw [em] at hl
      have h := sumOf_any B (rowOf (shOf gs).m q) gs.length d hl W h2 (rowOf_small hin hq _) (by omega)
      have e : sumTo (rowOf (shOf gs).m q) gs.length = Q3.cnt q := by
        have := sumTo_row hg hq
        rwa [hl] at this
      rw [e] at h
      exact h.mono fun e w' ⟨h1, h3⟩ => ⟨h1, by rw [← h3]; exact Below.refl _ _⟩))
    obtain ⟨BS, hBS⟩ : ∃ BS, BS = bsk (shOf gs) n := ⟨_, rfl⟩
    rw [← hBS] at KI KS KB hbl hmem hge hq0 hc0 hc1
    generalize best Q3.cnt BS = qb at *
    clear hBS hok hsm hg hin em hc hb0
    go_wp2_with fail
    refine (KI.out _ hg1).mono ?_
    rintro e w2 ⟨g2, rfl, rx2, b2⟩
    have B2 : Below w.heap.size w w2 := Below.trans B1 (b2.mono hz1)
    have hz2 := B2.size
    have hg2 := hg1.below b2
    clear b2 hg1
    go_wp2_with fail
    refine (KS.out _ hg2).mono ?_
    rintro e w3 ⟨g3, cap3, rfl, ry3, _, b3⟩
    have B3 : Below w.heap.size w w3 := Below.trans B2 (b3.mono hz2)
    have hz3 := B3.size
    have hg3 := hg2.below b3
    have rx3 := rx2.kept b3
    clear rx2 b3 hg2
    go_wp2_with fail
    refine (sameInts_n _ _ (rowOf (shOf gs).m qb) gs.length gs.length _ _ (hrl.out _) (hrl.out _) _ rx3.row ry3.row (by omega)).mono ?_
    rintro e w4 ⟨rfl, b4⟩
    have B4 : Below w.heap.size w w4 := Below.trans B3 (b4.mono hz3)
    have hz4 := B4.size
    have hg4 := hg3.below b4
    have rx4 := rx3.kept b4
    clear rx3 ry3 b4 hg3
    go_wp2_with fail
    refine (KB.out _ hg4).mono ?_
    rintro e w5 ⟨A5, cap5, m5, rfl, ro5, hm5, b5⟩
    have B5 : Below w.heap.size w w5 := Below.trans B4 (b5.mono hz4)
    have hz5 := B5.size
    have hg5 := hg4.below b5
    have rx5 := rx4.kept b5
    clear rx4 b5 hg4
    have HGN := Lib.hid hg5
    have HRN := Lib.hid ro5
    have HXN := Lib.hid rx5
    clear hg5 ro5 rx5
    go_wp2_with fail
    go_loopg [10] BS.length (fun gk s7 wx => ∃ (k : Nat), s7 = .int .i64 (k : Int) ∧ gk + k = BS.length ∧ Below w5.heap.size w5 wx)
    case atStart => exact ⟨0, rfl, rfl, Below.refl _ _⟩
    case round =>
      obtain ⟨k, rfl, hgk, hbx⟩ := hrel
      have hzx := hbx.size
      have BX : Below w.heap.size w wr := Below.trans B5 (hbx.mono hz5)
      have hzX := BX.size
      have hgx := HGN.out.below hbx
      have RX := Lib.hid (HXN.out.kept hbx)
      cases gk with
      | succ gk =>
        have hkl : k < BS.length := by omega
        obtain ⟨go, bo, co, rfl, e1, r1, l1, _, _, _⟩ := (HRN.out.kept hbx).at (i := k) (by simp; omega)
        rw [List.getElem_map] at r1
        have hq := hmem.out _ (List.getElem_mem hkl)
        have hle := hge.out _ (List.getElem_mem hkl)
        generalize BS[k] = q at *
        have lgo : go < wr.heap.size := World.block_lt_of_cell? wr _ e1
        have hi0 : (0 : Int) ≤ (k : Int) := by omega
        have hi1 : (k : Int) < (BS.length : Int) := by omega
        have R1 := Lib.hid r1
        clear r1 l1
        have KA := Lib.hid (fun W h => KZ.out (some ⟨bo, 0, none⟩) q co W hq h)
        have KD := Lib.hid (fun W h => KZ.out (some ⟨g2, 0, none⟩) qb gs.length W hq0 h)
        generalize Q3.cnt q = x at *
        generalize Q3.cnt qb = y at *
        clear hgx
        go_wp2_with fail
        refine (KA.out _ R1.out.row).mono ?_
        rintro e w6 ⟨rfl, b6⟩
        have BN : Below w5.heap.size w5 w6 := Below.trans hbx (b6.mono hzx)
        have hzN := BN.size
        have RX6 := Lib.hid (RX.out.kept b6)
        clear b6
        go_wp2_with fail
        refine (KD.out _ RX6.out.row).mono ?_
        rintro e w7 ⟨rfl, b7⟩
        have BM : Below w5.heap.size w5 w7 := Below.trans BN (b7.mono hzN)
        clear b7
        go_wp2
        go_roundg gk
        case measure => omega
        case rel => exact ⟨k + 1, by go_num, by omega, BM⟩
      | zero =>
        have hk : BS.length ≤ k := by omega
        have KQ := Lib.hid (fun W h1 h2 => KC.out (some ⟨g2, 0, none⟩) qb gs.length W hq0 h1 h2)
        generalize cost (shOf gs) qb = v at *
        go_wp2_with fail
        refine (KQ.out _ hgx RX.out.row).mono ?_
        rintro e w6 ⟨rfl, b6⟩
        have B6 : Below w.heap.size w w6 := Below.trans BX (b6.mono hzX)
        clear b6
        go_wp2
        go_ret
        exact ⟨rfl, B6⟩

end Go.Proofs.YtemhikgdbmmnjaaDoor

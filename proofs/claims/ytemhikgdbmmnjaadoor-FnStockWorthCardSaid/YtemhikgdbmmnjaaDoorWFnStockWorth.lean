/- The walk of the law FnStockWorth: for every bytes the law returns true. -/
import Derived.Test.YtemhikgdbmmnjaaDoorDrawH
import Derived.Test.YtemhikgdbmmnjaaDoorAlive
import Derived.Test.YtemhikgdbmmnjaaDoorLawM
import Derived.Test.YtemhikgdbmmnjaaDoorSbk
namespace Go.Proofs.YtemhikgdbmmnjaaDoor
open Go.RowKit

set_option maxRecDepth 100000 in
set_option maxHeartbeats 3200000 in
theorem walk_FnStockWorth (A : Option Addr) (bs : List Int) (c : Nat) (w : World) (hr : Row .u8 w A bs) (hl : bs.length ≤ c) (hm : c ≤ maxLen) (hwf : ∀ n ∈ bs, (Lit.int .u8 n).wf = true) (hT : Worths w) :
    Calls Tryd.prog 9 #[.slice A bs.length c] w fun e w' => e = .returned (.bool true) ∧ Below w.heap.size w w' := by
  have hb := bytes_of_wfG hwf
  clear hwf
  have h0 : 0 < w.heap.size := World.block_lt_of_cell? w _ hT.1
  have HT := Lib.hid hT; clear hT
  by_cases hbig : 1048576 < bs.length
  · clear hb hl hm
    go_enter Tryd.func9, Tryd.ntmps9
    go_wp2
    go_ret
    exact ⟨rfl, Below.refl _ _⟩
  have hs : bs.length ≤ 1048576 := by omega
  clear hbig
  have K := Lib.hid (DrawStockWorth_any A bs c w hr hb hl hm)
  clear hb hl hm hr
  go_enter Tryd.func9, Tryd.ntmps9
  go_wp2_with fail
  refine (K.out).mono ?_
  rintro e w1 ⟨A1, cap, gs, rfl, hg1, hlen, hsm, hcap, hcm, B1⟩
  have hz1 := B1.size
  have KI := Lib.hid (fun W (h : GRow W A1 gs) => implStockWorth_any A1 gs cap W h)
  have KS := Lib.hid (fun W (h : GRow W A1 gs) => specStockWorth_any A1 gs cap W h (by omega))
  rcases worthV_split gs with ⟨_, hv⟩ | ⟨hg, _, hv0, hv1⟩
  · rw [hv] at KI KS
    clear hv hsm
    go_wp2_with fail
    refine (KI.out _ hg1).mono ?_
    rintro e w2 ⟨rfl, b2⟩
    have B2 : Below w.heap.size w w2 := Below.trans B1 (b2.mono hz1)
    have hz2 := B2.size
    have hg2 := hg1.below b2
    clear b2 hg1
    go_wp2_with fail
    refine (KS.out _ hg2).mono ?_
    rintro e w3 ⟨rfl, b3⟩
    have B3 : Below w.heap.size w w3 := Below.trans B2 (b3.mono hz2)
    have hz3 := B3.size
    have hg3 := hg2.below b3
    clear b3 hg2
    go_wp2_with fail
    refine (alive_true _ (HT.out.below B3 h0)).mono ?_
    rintro e w4 ⟨rfl, b4⟩
    have B4 : Below w.heap.size w w4 := Below.trans B3 (b4.mono hz3)
    have hz4 := B4.size
    clear b4 
    go_wp2
    go_ret
    exact ⟨rfl, B4⟩
  · have KC := Lib.hid (fun B d W (h1 : GRow W A1 gs) (h2 : Row .i64 W B (stocks gs gs.length)) => (show Calls Tryd.prog 15 #[.slice A1 gs.length cap, .slice B gs.length d] W (fun e w' => e = .returned (.int .i64 (worthV gs)) ∧ Below W.heap.size W w') by
      have h := implCostOf_any A1 B gs (stocks gs gs.length) cap d W h1 h2
      rw [stocks_length, costV_stocks hg] at h
      exact h))
    generalize worthV gs = v at *
    clear hg hsm
    go_wp2_with fail
    refine (KI.out _ hg1).mono ?_
    rintro e w2 ⟨rfl, b2⟩
    have B2 : Below w.heap.size w w2 := Below.trans B1 (b2.mono hz1)
    have hz2 := B2.size
    have hg2 := hg1.below b2
    clear b2 hg1
    go_wp2_with fail
    refine (KS.out _ hg2).mono ?_
    rintro e w3 ⟨rfl, b3⟩
    have B3 : Below w.heap.size w w3 := Below.trans B2 (b3.mono hz2)
    have hz3 := B3.size
    have hg3 := hg2.below b3
    clear b3 hg2
    have HG3 := Lib.hid hg3
    have hown0 : OwnN (w3.alloc (.cells #[] 3)) w3.heap.size (.slice (some ⟨w3.heap.size, 0, none⟩) 0 0) (stocks gs 0) := World.ownsRow_made w3 #[] 0 (Nat.le_refl _) (Nat.zero_le _) rfl
    go_wp2_with fail
    go_loopg [5, 6] gs.length (fun gk s5 s6 wx => ∃ (k : Nat), s6 = .int .i64 (k : Int) ∧ gk + k = gs.length ∧ OwnN wx w3.heap.size s5 (stocks gs k) ∧ Below w3.heap.size w3 wx)
    case atStart => exact ⟨0, rfl, rfl, hown0, (by repeat' (first | with_reducible exact Below.refl _ _ | with_reducible assumption | with_reducible apply Below.drew | with_reducible apply below_drewN | (with_reducible refine Below.setCell ?_ ?_ _) | (with_reducible refine Below.alloc ?_ ?_ _) | with_reducible exact Nat.le_refl _ | with_reducible exact Below.size (by assumption) | (simp; done) | (simp; done) | omega | (simp; omega)))⟩
    case round =>
      obtain ⟨k, rfl, hgk, hown, hbx⟩ := hrel
      clear hown0
      have hzx := hbx.size
      have hgx := HG3.out.below hbx
      cases gk with
      | succ gk =>
        have hkl : k < gs.length := by omega
        obtain ⟨bA, offA, rfl⟩ := hgx.addr (by omega)
        have c2 := (hgx.one (by omega) k hkl).2
        have HS := Lib.hid (stocks_succ gs k)
        generalize (gd gs k).s = s at *
        have HOW := Lib.hid hown
        have lA : bA < wr.heap.size := World.block_lt_of_cell? wr _ c2
        have hi0 : (0 : Int) ≤ (k : Int) := by omega
        have hi1 : (k : Int) < (gs.length : Int) := by omega
        have hll := stocks_length gs k
        have hown1 : OwnN (wr.alloc (.cells #[.int .i64 s] 3)) w3.heap.size u5 (stocks gs k) := hown.kept (by repeat' (first | with_reducible exact Below.refl _ _ | with_reducible assumption | with_reducible apply Below.drew | with_reducible apply below_drewN | (with_reducible refine Below.setCell ?_ ?_ _) | (with_reducible refine Below.alloc ?_ ?_ _) | with_reducible exact Nat.le_refl _ | with_reducible exact Below.size (by assumption) | (simp; done) | (simp; done) | omega | (simp; omega)))
        have row1 : Row .i64 (wr.alloc (.cells #[.int .i64 s] 3)) (some ⟨wr.heap.size, 0, none⟩) [s] := Blk.row (xs := [s]) (Blk.new wr _ _)
        have BA : Below w3.heap.size w3 (wr.alloc (.cells #[.int .i64 s] 3)) := hbx.alloc (by omega) _
        clear hown hgx
        go_wp2_with (at_builtin; go_must (refine wpList_append_ints _ rfl _ _ rfl w3.heap.size _ (stocks gs k) rfl hown1 wr.heap.size 0 1 1 [s] rfl rfl row1 (by simp; omega) (by omega) ?_))
        intro v' w5 hown5 hb5
        have BN : Below w3.heap.size w3 w5 := Below.trans BA hb5
        have HF : Hid (OwnN w5 w3.heap.size v' (stocks gs (k + 1))) := Lib.hid (by rw [HS.out]; exact hown5)
        clear hown5 hb5 hown1 row1 BA
        go_wp2
        go_roundg gk
        case measure => omega
        case rel => exact ⟨k + 1, by go_num, by omega, HF.out, BN⟩
      | zero =>
        have hk : k = gs.length := by omega
        subst hk
        obtain ⟨B, d, hv⟩ := hown.form
        rw [stocks_length] at hv
        subst hv
        have HF := Lib.hid hown.row
        have BX : Below w.heap.size w wr := Below.trans B3 (hbx.mono hz3)
        have hzX := BX.size
        clear hown
        go_wp2_with fail
        refine (KC.out _ _ _ hgx HF.out).mono ?_
        rintro e w5 ⟨rfl, b5⟩
        have B5 : Below w.heap.size w w5 := Below.trans BX (b5.mono hzX)
        have hz5 := B5.size
        clear b5
        go_wp2_with fail
        refine (alive_true _ (HT.out.below B5 h0)).mono ?_
        rintro e w6 ⟨rfl, b6⟩
        have B6 : Below w.heap.size w w6 := Below.trans B5 (b6.mono hz5)
        have hz6 := B6.size
        clear b6 
        go_wp2
        go_ret
        exact ⟨rfl, B6⟩

end Go.Proofs.YtemhikgdbmmnjaaDoor

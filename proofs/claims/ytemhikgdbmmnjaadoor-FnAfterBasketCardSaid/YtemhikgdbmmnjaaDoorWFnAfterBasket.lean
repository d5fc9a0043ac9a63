/- The walk of the law FnAfterBasket: for every bytes the law returns true. -/
import Derived.Test.YtemhikgdbmmnjaaDoorDrawH
import Derived.Test.YtemhikgdbmmnjaaDoorAlive
import Derived.Test.YtemhikgdbmmnjaaDoorLawM
import Derived.Test.YtemhikgdbmmnjaaDoorSame
import Derived.Test.YtemhikgdbmmnjaaDoorAft
namespace Go.Proofs.YtemhikgdbmmnjaaDoor
open Go.RowKit

/-- What is left, as the program hands it back. -/
theorem left_row {gs : List Gd} (h : gs.length ≤ 3) {xs : List Int} {w : World} {g : Nat} {T : TypeId} (hb : Blk w g T (sc ((shOf gs).minus (q3 xs)))) : GRow w (some ⟨g, 0, none⟩) (leftTo gs xs gs.length) := by
  refine .inr ⟨g, 0, rfl, fun i hi => ?_⟩
  rw [leftTo_length] at hi
  have e : gd (leftTo gs xs gs.length) i = leftG gs xs i := gd_left hi
  rw [e, Nat.zero_add]
  have h3 : i < 3 := by omega
  match i, h3 with
  | 0, _ => exact ⟨hb.cell 0, hb.cell 1⟩
  | 1, _ => exact ⟨hb.cell 2, hb.cell 3⟩
  | 2, _ => exact ⟨hb.cell 4, hb.cell 5⟩

set_option maxRecDepth 100000 in
set_option maxHeartbeats 3200000 in
theorem walk_FnAfterBasket (A : Option Addr) (bs : List Int) (c : Nat) (w : World) (hr : Row .u8 w A bs) (hl : bs.length ≤ c) (hm : c ≤ maxLen) (hwf : ∀ n ∈ bs, (Lit.int .u8 n).wf = true) (hT : Worths w) :
    Calls Tryd.prog 8 #[.slice A bs.length c] w fun e w' => e = .returned (.bool true) ∧ Below w.heap.size w w' := by
  have hb := bytes_of_wfG hwf
  clear hwf
  have h0 : 0 < w.heap.size := World.block_lt_of_cell? w _ hT.1
  have HT := Lib.hid hT; clear hT
  by_cases hbig : 1048576 < bs.length
  · clear hb hl hm
    go_enter Tryd.func8, Tryd.ntmps8
    go_wp2
    go_ret
    exact ⟨rfl, Below.refl _ _⟩
  have hs : bs.length ≤ 1048576 := by omega
  clear hbig
  have K := Lib.hid (DrawAfterBasket_any A bs c w hr hb hl hm)
  clear hb hl hm hr
  go_enter Tryd.func8, Tryd.ntmps8
  go_wp2_with fail
  refine (K.out).mono ?_
  rintro e w1 ⟨A1, cap, gs, B0, cap0, xs, rfl, hg1, hlen, hsm, hx1, hlen2, hsm2, B1⟩
  have hz1 := B1.size
  cases hok : (okS gs && bOk (shOf gs) xs)
  · have KI := Lib.hid (fun W (h : GRow W A1 gs) (h2 : Row .i64 W B0 xs) => implAfterBasket_no A1 B0 gs xs cap cap0 W h h2 hok)
    have KS := Lib.hid (fun W (h : GRow W A1 gs) (h2 : Row .i64 W B0 xs) => specAfterBasket_no A1 B0 gs xs cap cap0 W h h2 (by omega) hok)
    clear hok hsm hsm2
    go_wp2_with fail
    refine (KI.out _ hg1 hx1).mono ?_
    rintro e w2 ⟨rfl, b2⟩
    have B2 : Below w.heap.size w w2 := Below.trans B1 (b2.mono hz1)
    have hz2 := B2.size
    have hg2 := hg1.below b2
    have hx2 := hx1.below b2
    clear b2 hg1 hx1
    go_wp2_with fail
    refine (KS.out _ hg2 hx2).mono ?_
    rintro e w3 ⟨⟨A3, rfl⟩, b3⟩
    have B3 : Below w.heap.size w w3 := Below.trans B2 (b3.mono hz2)
    have hz3 := B3.size
    have hg3 := hg2.below b3
    have hx3 := hx2.below b3
    clear b3 hg2 hx2
    go_wp2_with fail
    refine (sameGoods_same _ _ [] 0 0 _ _ rfl rfl _ (GRow.nil _ _) (GRow.nil _ _) (by omega)).mono ?_
    rintro e w4 ⟨rfl, b4⟩
    have B4 : Below w.heap.size w w4 := Below.trans B3 (b4.mono hz3)
    have hz4 := B4.size
    have hg4 := hg3.below b4
    have hx4 := hx3.below b4
    clear b4 hg3 hx3
    go_wp2_with fail
    refine (alive_true _ (HT.out.below B4 h0)).mono ?_
    rintro e w5 ⟨rfl, b5⟩
    have B5 : Below w.heap.size w w5 := Below.trans B4 (b5.mono hz4)
    have hz5 := B5.size
    clear b5 
    go_wp2
    go_ret
    exact ⟨rfl, B5⟩
  · have hgb : okS gs = true ∧ bOk (shOf gs) xs = true := by simpa using hok
    obtain ⟨hg, hb⟩ := hgb
    have hxl : xs.length = gs.length := by
      have := (bOk_iff.1 hb).1
      have e : (shOf gs).m = (gs.length : Int) := rfl
      rw [e] at this
      omega
    have hin := (bOk_in hg hxl).1 hb
    have hg3 := (okS_iff.1 hg).1
    have hv := costV_split gs xs
    have hv0 : 0 ≤ costV gs xs ∧ costV gs xs ≤ 600 := by
      rcases hv with hv | hv
      · rw [costV_yes hg hxl hin] at hv
        have := (costTo_bnd hg gs.length hg3 hin).1
        omega
      · exact ⟨hv.2.2.2.2.1, hv.2.2.2.2.2⟩
    have hw0 : 0 ≤ worthV gs ∧ worthV gs ≤ 600 := by
      rcases worthV_split gs with ⟨h1, _⟩ | ⟨_, _, h1, h2⟩
      · rw [h1] at hg; cases hg
      · exact ⟨h1, h2⟩
    clear hv
    have em : (shOf gs).m.toNat = gs.length := rfl
    have KI := Lib.hid (fun W (h : GRow W A1 gs) (h2 : Row .i64 W B0 xs) => (implAfterBasket_yes A1 B0 gs xs cap cap0 W h h2 hg hb).mono (R' := fun e W' => ∃ g, e = .returned (.tuple #[.slice (some ⟨g, 0, none⟩) gs.length gs.length, .bool true]) ∧ GRow W' (some ⟨g, 0, none⟩) (leftTo gs xs gs.length) ∧ Below W.heap.size W W') (fun e W' ⟨g, h3, h4, h5, h6⟩ => ⟨g, h3, left_row hg3 h4, h6⟩))
    have KS := Lib.hid (fun W (h : GRow W A1 gs) (h2 : Row .i64 W B0 xs) => specAfterBasket_yes A1 B0 gs xs cap cap0 W h h2 hg hb)
    have KO := Lib.hid (fun g W (h : GRow W (some ⟨g, 0, none⟩) (leftTo gs xs gs.length)) => (show Calls Tryd.prog 11 #[.slice (some ⟨g, 0, none⟩) gs.length gs.length] W (fun e w' => e = .returned (.bool true) ∧ Below W.heap.size W w') by
      have h := implShelvesOk_any (some ⟨g, 0, none⟩) (leftTo gs xs gs.length) gs.length W h
      rw [leftTo_length, okS_left hg hin] at h
      exact h))
    have KW := Lib.hid (fun g W (h : GRow W (some ⟨g, 0, none⟩) (leftTo gs xs gs.length)) => (show Calls Tryd.prog 29 #[.slice (some ⟨g, 0, none⟩) gs.length gs.length] W (fun e w' => e = .returned (.int .i64 (worthV gs - costV gs xs)) ∧ Below W.heap.size W w') by
      have h := implStockWorth_any (some ⟨g, 0, none⟩) (leftTo gs xs gs.length) gs.length W h
      rw [leftTo_length, worthV_left hg hxl hin] at h
      exact h))
    have KV := Lib.hid (fun W (h : GRow W A1 gs) => implStockWorth_any A1 gs cap W h)
    have KC := Lib.hid (fun W (h : GRow W A1 gs) (h2 : Row .i64 W B0 xs) => implCostOf_any A1 B0 gs xs cap cap0 W h h2)
    have HLL := Lib.hid (leftTo_length gs xs gs.length)
    generalize leftTo gs xs gs.length = ls at *
    generalize worthV gs = u at *
    generalize costV gs xs = v at *
    obtain ⟨v0, v1⟩ := hv0
    obtain ⟨u0, u1⟩ := hw0
    have hd : IntKind.i64.wrap (u - v) = u - v := IntWalk.i64_in _ (by omega)
    clear hg hb hin hok hsm hsm2 hxl em
    go_wp2_with fail
    refine (KI.out _ hg1 hx1).mono ?_
    rintro e w2 ⟨g, rfl, hl2, b2⟩
    have B2 : Below w.heap.size w w2 := Below.trans B1 (b2.mono hz1)
    have hz2 := B2.size
    have hg2 := hg1.below b2
    have hx2 := hx1.below b2
    clear b2 hg1 hx1
    go_wp2_with fail
    refine (KS.out _ hg2 hx2).mono ?_
    rintro e w3 ⟨A3, cap3, rfl, hm3, b3⟩
    have B3 : Below w.heap.size w w3 := Below.trans B2 (b3.mono hz2)
    have hz3 := B3.size
    have hg3 := hg2.below b3
    have hx3 := hx2.below b3
    have hl3 := hl2.below b3
    clear b3 hg2 hx2 hl2
    have hm3' := Lib.hid hm3.grow
    clear hm3
    go_wp2_with fail
    refine (sameGoods_same _ _ ls gs.length ls.length _ _ HLL.out rfl _ hl3 hm3'.out (by omega)).mono ?_
    rintro e w4 ⟨rfl, b4⟩
    have B4 : Below w.heap.size w w4 := Below.trans B3 (b4.mono hz3)
    have hz4 := B4.size
    have hg4 := hg3.below b4
    have hx4 := hx3.below b4
    have hl4 := hl3.below b4
    clear b4 hg3 hx3 hl3
    go_wp2_with fail
    refine (KO.out _ _ hl4).mono ?_
    rintro e w5 ⟨rfl, b5⟩
    have B5 : Below w.heap.size w w5 := Below.trans B4 (b5.mono hz4)
    have hz5 := B5.size
    have hg5 := hg4.below b5
    have hx5 := hx4.below b5
    have hl5 := hl4.below b5
    clear b5 hg4 hx4 hl4
    go_wp2_with fail
    refine (KW.out _ _ hl5).mono ?_
    rintro e w6 ⟨rfl, b6⟩
    have B6 : Below w.heap.size w w6 := Below.trans B5 (b6.mono hz5)
    have hz6 := B6.size
    have hg6 := hg5.below b6
    have hx6 := hx5.below b6
    clear b6 hg5 hx5
    go_wp2_with fail
    refine (KV.out _ hg6).mono ?_
    rintro e w7 ⟨rfl, b7⟩
    have B7 : Below w.heap.size w w7 := Below.trans B6 (b7.mono hz6)
    have hz7 := B7.size
    have hg7 := hg6.below b7
    have hx7 := hx6.below b7
    clear b7 hg6 hx6
    go_wp2_with fail
    refine (KC.out _ hg7 hx7).mono ?_
    rintro e w8 ⟨rfl, b8⟩
    have B8 : Below w.heap.size w w8 := Below.trans B7 (b8.mono hz7)
    have hz8 := B8.size
    have hg8 := hg7.below b8
    have hx8 := hx7.below b8
    clear b8 hg7 hx7
    go_wp2_with fail
    refine (alive_true _ (HT.out.below B8 h0)).mono ?_
    rintro e w9 ⟨rfl, b9⟩
    have B9 : Below w.heap.size w w9 := Below.trans B8 (b9.mono hz8)
    have hz9 := B9.size
    clear b9 
    go_wp2
    go_ret
    exact ⟨rfl, B9⟩

end Go.Proofs.YtemhikgdbmmnjaaDoor

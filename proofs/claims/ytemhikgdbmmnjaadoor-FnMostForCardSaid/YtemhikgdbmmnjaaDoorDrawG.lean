/- The drawing of shelves: whichever bytes come, a slice of at most four small goods comes out of it. -/
import Derived.Test.YtemhikgdbmmnjaaDoorDraw2
import Derived.Test.YtemhikgdbmmnjaaDoorAft
import Derived.Sort.LoopGhostIn
namespace Go.Proofs.YtemhikgdbmmnjaaDoor
open Go.RowKit

/-- Small goods. -/
def SmallG (gs : List Gd) : Prop := ∀ i, i < gs.length → 0 ≤ (gd gs i).p ∧ (gd gs i).p ≤ 12 ∧ 0 ≤ (gd gs i).s ∧ (gd gs i).s ≤ 6
theorem SmallG.snoc {gs : List Gd} (h : SmallG gs) {a : Gd} (ha : 0 ≤ a.p ∧ a.p ≤ 12 ∧ 0 ≤ a.s ∧ a.s ≤ 6) : SmallG (gs ++ [a]) := by
  intro i hi
  by_cases hlt : i < gs.length
  · have e : gd (gs ++ [a]) i = gd gs i := by simp [gd, List.getD, List.getElem?_append_left hlt]
    rw [e]; exact h i hlt
  · have hi' : i = gs.length := by simp at hi; omega
    subst hi'
    have e : gd (gs ++ [a]) gs.length = a := by simp [gd, List.getD]
    rw [e]; exact ha

theorem small_zero : SmallG [Gd.none2, Gd.none2, Gd.none2, Gd.none2] := by
  intro i hi
  have h4 : i = 0 ∨ i = 1 ∨ i = 2 ∨ i = 3 := by simp at hi; omega
  rcases h4 with rfl | rfl | rfl | rfl
  · exact ⟨by decide, by decide, by decide, by decide⟩
  · exact ⟨by decide, by decide, by decide, by decide⟩
  · exact ⟨by decide, by decide, by decide, by decide⟩
  · exact ⟨by decide, by decide, by decide, by decide⟩

/-- What shelves drawn leave. -/
def DrawnG (w : World) (g : Nat) (A : Option Addr) (bs : List Int) (c : Nat) (p : Int) (e : Ending) (w' : World) : Prop :=
  ∃ A2 cap gs q, e = .returned (.slice A2 gs.length cap) ∧ GRow w' A2 gs ∧ gs.length ≤ 4 ∧ SmallG gs ∧ gs.length ≤ cap ∧ cap ≤ maxLen ∧ (∀ a, A2 = some a → w.heap.size ≤ a.block) ∧ p ≤ q ∧ q ≤ p + 20 ∧ Rd w' g A bs c q ∧ Only g w w'

theorem own_onlyG {g : Nat} {w w' : World} {base : Nat} {v : Value} {gs : List Gd} (h : Only g w w') (ho : OwnG w base v gs) (hg : g < base) : OwnG w' base v gs := by
  refine World.ownsRow.kept ho (row := some g) ⟨h.1.os, h.1.tape, h.1.output, h.2.1, fun k hk hne => h.2.2 k (fun e => hne (by rw [e])) hk⟩ ?_
  rcases hv : v.ownBlock with _ | k
  · exact .inl rfl
  · right
    have := (World.ownsRow.lt ho k hv).1
    simp
    omega
theorem OwnG.addr {w : World} {base : Nat} {A : Option Addr} {n cap : Nat} {gs : List Gd} (h : OwnG w base (.slice A n cap) gs) : ∀ a, A = some a → base ≤ a.block := by
  intro a e
  subst e
  obtain ⟨b, off, spot⟩ := a
  rcases h.2 with ⟨hv, _⟩ | ⟨g, cap', cur, hv, hb, _⟩
  · cases hv
  · injection hv with hv _ _
    injection hv with hv
    rw [hv]
    exact hb

theorem OwnG.capLe {w : World} {base : Nat} {A : Option Addr} {n cap : Nat} {gs : List Gd} (h : OwnG w base (.slice A n cap) gs) : gs.length ≤ cap ∧ cap ≤ maxLen := by
  rcases h.2 with ⟨hv, h0⟩ | ⟨g, cap', cur, hv, _, _, h1, h2, _⟩
  · injection hv with _ _ hc
    subst hc
    exact ⟨by omega, by unfold maxLen; omega⟩
  · injection hv with _ _ hc
    subst hc
    exact ⟨h1, h2⟩
theorem made8 (j : Nat) (h : j < 8) : (madeCells #[.int .i64 0, .int .i64 0] 8)[j]? = some (.int .i64 0) := by
  match j, h with
  | 0, _ => simp [madeCells]
  | 1, _ => simp [madeCells]
  | 2, _ => simp [madeCells]
  | 3, _ => simp [madeCells]
  | 4, _ => simp [madeCells]
  | 5, _ => simp [madeCells]
  | 6, _ => simp [madeCells]
  | 7, _ => simp [madeCells]
theorem run_make_four (w : World) :
    (Instr.makeSlice 23 (.int .i64 4) (.int .i64 4)).run Tryd.prog w = .ok (.slice (some ⟨w.heap.size, 0, none⟩) 4 4) (w.alloc (.cells (madeCells #[.int .i64 0, .int .i64 0] 8) 33)) := by
  obtain ⟨i, hi, hzz⟩ := Option.map_eq_some_iff.1 infoGood
  simp only [Prod.mk.injEq] at hzz
  obtain ⟨hz, hs, hb⟩ := hzz
  have hr := run_make (P := Tryd.prog) w 23 33 i (.agg #[.int .i64 0, .int .i64 0]) Tryd.underlying23 hi hz .i64 .i64 4 4 (by omega) (Int.le_refl _) (by rw [hb]; omega) (by omega)
  simp only [hs] at hr
  exact hr

set_option maxRecDepth 100000 in
set_option maxHeartbeats 1600000 in
theorem shelves_drawn (g : Nat) (A : Option Addr) (bs : List Int) (c : Nat) (p n : Int) (w : World) (h : Rd w g A bs c p) (hp0 : 0 ≤ p) (hp1 : p ≤ 100000) (hn : n ≤ 1000000) :
    Calls Tryd.prog 36 #[.pointer (some ⟨g, 0, none⟩), .int .i64 n] w (DrawnG w g A bs c p) := by
  have hgw : g < w.heap.size := h.1.lt
  obtain ⟨i0, hi, hz0, hz1, hz2⟩ := info_parts infoGood
  have K4 := Lib.hid (fun W q (hW : Rd W g A bs c q) (h1 : 0 ≤ q) (h2 : q ≤ 1000000) => pick_any g A bs c q 4 W hW h1 h2 (by omega))
  have K12 := Lib.hid (fun W q (hW : Rd W g A bs c q) (h1 : 0 ≤ q) (h2 : q ≤ 1000000) => pick_any g A bs c q 12 W hW h1 h2 (by omega))
  have K3 := Lib.hid (fun W q (hW : Rd W g A bs c q) (h1 : 0 ≤ q) (h2 : q ≤ 1000000) => pick_any g A bs c q 3 W hW h1 h2 (by omega))
  have KO := Lib.hid (fun W q (hW : Rd W g A bs c q) (h1 : 0 ≤ q) (h2 : q ≤ 1000000) => odd_any g A bs c q n W hW h1 h2 hn)
  have H0 := Lib.hid h
  have hrdA : Rd (w.alloc (.cells #[] 33)) g A bs c p := ⟨h.1.alloc _, h.2.1.below (by repeat' (first | with_reducible exact Below.refl _ _ | with_reducible assumption | with_reducible apply Below.drew | with_reducible apply below_drewN | (with_reducible refine Below.setCell ?_ ?_ _) | (with_reducible refine Below.alloc ?_ ?_ _) | with_reducible exact Nat.le_refl _ | with_reducible exact Below.size (by assumption) | (simp; done) | (simp; done) | omega | (simp; omega))), h.2.2⟩
  have hown0 : OwnG (w.alloc (.cells #[] 33)) w.heap.size (.slice (some ⟨w.heap.size, 0, none⟩) 0 0) [] := World.ownsRow_made w #[] 0 (Nat.le_refl _) (Nat.zero_le _) rfl
  have hoA : Only g w (w.alloc (.cells #[] 33)) := Only.of_below (by repeat' (first | with_reducible exact Below.refl _ _ | with_reducible assumption | with_reducible apply Below.drew | with_reducible apply below_drewN | (with_reducible refine Below.setCell ?_ ?_ _) | (with_reducible refine Below.alloc ?_ ?_ _) | with_reducible exact Nat.le_refl _ | with_reducible exact Below.size (by assumption) | (simp; done) | (simp; done) | omega | (simp; omega))) (by omega)
  clear h
  go_enter Tryd.func36, Tryd.ntmps36
  go_wp2_with fail
  refine (K4.out _ p hrdA (by omega) (by omega)).mono ?_
  rintro e w1 ⟨k0, hk0, hk1, rfl, hrd1, ho1⟩
  have hown1 := own_onlyG ho1 hown0 hgw
  have hoB := hoA.trans ho1
  have hk3 : k0 ≤ 3 := by omega
  obtain ⟨kn, rfl⟩ := Int.eq_ofNat_of_zero_le hk0
  clear hk1 hk0 ho1 hown0 hoA hrdA
  go_wp2_with fail
  go_loopg [5, 6] kn (fun gk s5 s6 wx => ∃ (ls : List Gd) (q : Int), s6 = .int .i64 (gk : Int) ∧ gk + ls.length ≤ 3 ∧ OwnG wx w.heap.size s5 ls ∧ SmallG ls ∧ p ≤ q ∧ q + 2 * (gk : Int) ≤ p + 7 ∧ Rd wx g A bs c q ∧ Only g w wx)
  case atStart => exact ⟨[], p + 1, rfl, by simp; omega, hown1, (fun (i : Nat) hi => absurd hi (Nat.not_lt_zero i)), by omega, by omega, hrd1, hoB⟩
  case round =>
    obtain ⟨ls, q, rfl, hlen, hown, hsm, hq0, hq1, hrd, ho⟩ := hrel
    clear hown1 hrd1 hoB
    have hz := ho.2.1
    cases gk with
    | succ gk =>
      have hpos : (0 : Int) < ((gk + 1 : Nat) : Int) := by omega
      have HSM := Lib.hid hsm
      have HOW := Lib.hid hown
      have HO := Lib.hid ho
      clear hsm hown ho
      go_wp2_with fail
      refine (K12.out _ q hrd (by omega) (by omega)).mono ?_
      rintro e w2 ⟨x, hx0, hx1, rfl, hrd2, ho2⟩
      have hx2 : x ≤ 11 := by omega
      have HO2 := Lib.hid (HO.out.trans ho2)
      have HOW2 := Lib.hid (own_onlyG ho2 HOW.out hgw)
      clear ho2 hx1 HO HOW hrd
      go_wp2_with fail
      refine (K4.out _ (q + 1) hrd2 (by omega) (by omega)).mono ?_
      rintro e w3 ⟨y, hy0, hy1, rfl, hrd3, ho3⟩
      have hy2 : y ≤ 3 := by omega
      have HO3 := Lib.hid (HO2.out.trans ho3)
      have hown3 := own_onlyG ho3 HOW2.out hgw
      have hz3 := HO3.out.2.1
      have HR := Lib.hid (fun k hk => World.ownsRow.lt hown3 k hk)
      have HSM2 := Lib.hid (HSM.out.snoc (a := ⟨1 + x, y⟩) ⟨by show 0 ≤ 1 + x; omega, by show 1 + x ≤ 12; omega, hy0, by show y ≤ 6; omega⟩)
      have hown3' : World.ownsRow (w3.alloc (.cells #[.int .i64 (1 + x), .int .i64 y] 33)) w.heap.size 33 2 u5 ls.length (gcl ls) := OwnG.kept hown3 (by repeat' (first | with_reducible exact Below.refl _ _ | with_reducible assumption | with_reducible apply Below.drew | with_reducible apply below_drewN | (with_reducible refine Below.setCell ?_ ?_ _) | (with_reducible refine Below.alloc ?_ ?_ _) | with_reducible exact Nat.le_refl _ | with_reducible exact Below.size (by assumption) | (simp; done) | (simp; done) | omega | (simp; omega)))
      clear ho3 hy1 HO2 HOW2 hrd2 hown3
      go_wp2_with (at_builtin; go_must (refine wpList_append_lies _ rfl _ _ 23 rfl w.heap.size 33 i0 (.agg #[.int .i64 0, .int .i64 0]) 2 16 Tryd.underlying23 hi hz0 hz1 hz2 rfl (by omega) u5 ls.length (gcl ls) (by rfl) hown3' ⟨w3.heap.size, 0, none⟩ 1 1 [.int .i64 (1 + x), .int .i64 y] (by rfl) (by rfl) (World.news_of_block (cs := #[.int .i64 (1 + x), .int .i64 y]) (t := 33) (fr := (0, 0)) (heap_alloc_new w3 _)) (by simp [Value.oneCell']) (by omega) (by unfold maxLen; omega) (by omega) (by simp; omega) (w3.heap.size + 1) (by simp) ?_); intro gg cap w4 hown4 hgrow hat hlt4)
      obtain ⟨hrd4, ho4⟩ := rd_grown H0.out HO3.out hrd3 hgrow (fun k' hk' => (HR.out k' hk').1)
      have hfin : OwnG w4 w.heap.size (.slice (some ⟨gg, 0, none⟩) (ls.length + 1) cap) (ls ++ [⟨1 + x, y⟩]) := by
        unfold OwnG
        rw [gcl_append, List.length_append]
        exact hown4
      clear hgrow hat hown4 hown3' hrd3
      go_roundg gk
      case measure => omega
      case rel => exact ⟨ls ++ [⟨1 + x, y⟩], q + 1 + 1, by go_num, by simp; omega, hfin, HSM2.out, by omega, by omega, hrd4, ho4⟩
    | zero =>
      have HSM := Lib.hid hsm
      have HOW := Lib.hid hown
      have HO := Lib.hid ho
      clear hsm hown ho
      go_wp2_with fail
      refine (KO.out _ q hrd (by omega) (by omega)).mono ?_
      rintro e w2 ⟨r, q', rfl, hq2, hq3, hrd2, ho2⟩
      have HO2 := Lib.hid (HO.out.trans ho2)
      have hown2 := own_onlyG ho2 HOW.out hgw
      have hzw2 := HO2.out.2.1
      clear ho2 hrd HO HOW
      cases r
      · obtain ⟨A2, cap, rfl⟩ := hown2.form
        have hcap : ls.length ≤ cap ∧ cap ≤ maxLen := OwnG.capLe hown2
        have HOW2 := Lib.hid hown2
        clear hown2
        go_wp2
        go_ret
        exact ⟨A2, cap, ls, q', rfl, HOW2.out.grow, by omega, HSM.out, hcap.1, hcap.2, HOW2.out.addr, by omega, by omega, hrd2, HO2.out⟩
      · have HOW2 := Lib.hid hown2
        clear hown2
        go_wp2_with fail
        refine (K3.out _ q' hrd2 (by omega) (by omega)).mono ?_
        rintro e w3 ⟨x, hx0, hx1, rfl, hrd3, ho3⟩
        have HO3 := Lib.hid (HO2.out.trans ho3)
        have hown3 := own_onlyG ho3 HOW2.out hgw
        have hzw3 := HO3.out.2.1
        have HR := Lib.hid (fun k hk => World.ownsRow.lt hown3 k hk)
        have hx : x = 0 ∨ x = 1 ∨ x = 2 := by omega
        clear hx0 hx1 ho3 HO2 HOW2 hrd2
        rcases hx with rfl | rfl | rfl
        · have HSM2 := Lib.hid (HSM.out.snoc (a := ⟨0, 1⟩) ⟨by decide, by decide, by decide, by decide⟩)
          have hown3' : World.ownsRow (w3.alloc (.cells #[.int .i64 0, .int .i64 1] 33)) w.heap.size 33 2 u5 ls.length (gcl ls) := OwnG.kept hown3 (by repeat' (first | with_reducible exact Below.refl _ _ | with_reducible assumption | with_reducible apply Below.drew | with_reducible apply below_drewN | (with_reducible refine Below.setCell ?_ ?_ _) | (with_reducible refine Below.alloc ?_ ?_ _) | with_reducible exact Nat.le_refl _ | with_reducible exact Below.size (by assumption) | (simp; done) | (simp; done) | omega | (simp; omega)))
          clear hown3
          go_wp2_with (at_builtin; go_must (refine wpList_append_lies _ rfl _ _ 23 rfl w.heap.size 33 i0 (.agg #[.int .i64 0, .int .i64 0]) 2 16 Tryd.underlying23 hi hz0 hz1 hz2 rfl (by omega) u5 ls.length (gcl ls) (by rfl) hown3' ⟨w3.heap.size, 0, none⟩ 1 1 [.int .i64 0, .int .i64 1] (by rfl) (by rfl) (World.news_of_block (cs := #[.int .i64 0, .int .i64 1]) (t := 33) (fr := (0, 0)) (heap_alloc_new w3 _)) (by simp [Value.oneCell']) (by omega) (by unfold maxLen; omega) (by omega) (by simp; omega) (w3.heap.size + 1) (by simp) ?_); intro gg cap w4 hown4 hgrow hat hlt4)
          obtain ⟨hrd4, ho4⟩ := rd_grown H0.out HO3.out hrd3 hgrow (fun k' hk' => (HR.out k' hk').1)
          have hfin : OwnG w4 w.heap.size (.slice (some ⟨gg, 0, none⟩) (ls.length + 1) cap) (ls ++ [⟨0, 1⟩]) := by
            unfold OwnG
            rw [gcl_append, List.length_append]
            exact hown4
          have hcap := OwnG.capLe hfin
          have HF := Lib.hid hfin.grow
          have HAD := Lib.hid hfin.addr
          clear hgrow hat hown4 hown3' hrd3 hfin
          go_ret
          exact ⟨_, cap, ls ++ [⟨0, 1⟩], q' + 1, by simp, HF.out, by simp; omega, HSM2.out, hcap.1, hcap.2, HAD.out, by omega, by omega, hrd4, ho4⟩
        · have HSM2 := Lib.hid (HSM.out.snoc (a := ⟨1, 6⟩) ⟨by decide, by decide, by decide, by decide⟩)
          have hown3' : World.ownsRow (w3.alloc (.cells #[.int .i64 1, .int .i64 6] 33)) w.heap.size 33 2 u5 ls.length (gcl ls) := OwnG.kept hown3 (by repeat' (first | with_reducible exact Below.refl _ _ | with_reducible assumption | with_reducible apply Below.drew | with_reducible apply below_drewN | (with_reducible refine Below.setCell ?_ ?_ _) | (with_reducible refine Below.alloc ?_ ?_ _) | with_reducible exact Nat.le_refl _ | with_reducible exact Below.size (by assumption) | (simp; done) | (simp; done) | omega | (simp; omega)))
          clear hown3
          go_wp2_with (at_builtin; go_must (refine wpList_append_lies _ rfl _ _ 23 rfl w.heap.size 33 i0 (.agg #[.int .i64 0, .int .i64 0]) 2 16 Tryd.underlying23 hi hz0 hz1 hz2 rfl (by omega) u5 ls.length (gcl ls) (by rfl) hown3' ⟨w3.heap.size, 0, none⟩ 1 1 [.int .i64 1, .int .i64 6] (by rfl) (by rfl) (World.news_of_block (cs := #[.int .i64 1, .int .i64 6]) (t := 33) (fr := (0, 0)) (heap_alloc_new w3 _)) (by simp [Value.oneCell']) (by omega) (by unfold maxLen; omega) (by omega) (by simp; omega) (w3.heap.size + 1) (by simp) ?_); intro gg cap w4 hown4 hgrow hat hlt4)
          obtain ⟨hrd4, ho4⟩ := rd_grown H0.out HO3.out hrd3 hgrow (fun k' hk' => (HR.out k' hk').1)
          have hfin : OwnG w4 w.heap.size (.slice (some ⟨gg, 0, none⟩) (ls.length + 1) cap) (ls ++ [⟨1, 6⟩]) := by
            unfold OwnG
            rw [gcl_append, List.length_append]
            exact hown4
          have hcap := OwnG.capLe hfin
          have HF := Lib.hid hfin.grow
          have HAD := Lib.hid hfin.addr
          clear hgrow hat hown4 hown3' hrd3 hfin
          go_ret
          exact ⟨_, cap, ls ++ [⟨1, 6⟩], q' + 1, by simp, HF.out, by simp; omega, HSM2.out, hcap.1, hcap.2, HAD.out, by omega, by omega, hrd4, ho4⟩
        · clear hown3
          have hrd4 : Rd (w3.alloc (.cells (madeCells #[.int .i64 0, .int .i64 0] 8) 33)) g A bs c (q' + 1) := ⟨hrd3.1.alloc _, hrd3.2.1.below (by repeat' (first | with_reducible exact Below.refl _ _ | with_reducible assumption | with_reducible apply Below.drew | with_reducible apply below_drewN | (with_reducible refine Below.setCell ?_ ?_ _) | (with_reducible refine Below.alloc ?_ ?_ _) | with_reducible exact Nat.le_refl _ | with_reducible exact Below.size (by assumption) | (simp; done) | (simp; done) | omega | (simp; omega))), hrd3.2.2⟩
          have ho4 : Only g w (w3.alloc (.cells (madeCells #[.int .i64 0, .int .i64 0] 8) 33)) := HO3.out.trans (Only.of_below (by repeat' (first | with_reducible exact Below.refl _ _ | with_reducible assumption | with_reducible apply Below.drew | with_reducible apply below_drewN | (with_reducible refine Below.setCell ?_ ?_ _) | (with_reducible refine Below.alloc ?_ ?_ _) | with_reducible exact Nat.le_refl _ | with_reducible exact Below.size (by assumption) | (simp; done) | (simp; done) | omega | (simp; omega))) (by omega))
          have HZ : Hid (GRow (w3.alloc (.cells (madeCells #[.int .i64 0, .int .i64 0] 8) 33)) (some ⟨w3.heap.size, 0, none⟩) [Gd.none2, Gd.none2, Gd.none2, Gd.none2]) := Lib.hid (by
            have hb : Blk (w3.alloc (.cells (madeCells #[.int .i64 0, .int .i64 0] 8) 33)) w3.heap.size 33 (madeCells #[.int .i64 0, .int .i64 0] 8) := Blk.new _ _ _
            refine .inr ⟨_, 0, rfl, fun i hi => ?_⟩
            have h4 : i = 0 ∨ i = 1 ∨ i = 2 ∨ i = 3 := by simp at hi; omega
            rcases h4 with rfl | rfl | rfl | rfl
            · exact ⟨(hb.cell 0).trans (made8 0 (by decide)), (hb.cell 1).trans (made8 1 (by decide))⟩
            · exact ⟨(hb.cell 2).trans (made8 2 (by decide)), (hb.cell 3).trans (made8 3 (by decide))⟩
            · exact ⟨(hb.cell 4).trans (made8 4 (by decide)), (hb.cell 5).trans (made8 5 (by decide))⟩
            · exact ⟨(hb.cell 6).trans (made8 6 (by decide)), (hb.cell 7).trans (made8 7 (by decide))⟩)
          have hmk : (Instr.makeSlice 23 (.int .i64 4) (.int .i64 4)).run Tryd.prog w3 = .ok (.slice (some ⟨w3.heap.size, 0, none⟩) 4 4) (w3.alloc (.cells (madeCells #[.int .i64 0, .int .i64 0] 8) 33)) := run_make_four w3
          go_wp2
          go_ret
          exact ⟨some ⟨w3.heap.size, 0, none⟩, 4, [Gd.none2, Gd.none2, Gd.none2, Gd.none2], q' + 1, rfl, HZ.out, by decide, small_zero, by decide, by unfold maxLen; decide, (fun a e => by injection e with e; subst e; exact hzw3), by omega, by omega, hrd4, ho4⟩

end Go.Proofs.YtemhikgdbmmnjaaDoor

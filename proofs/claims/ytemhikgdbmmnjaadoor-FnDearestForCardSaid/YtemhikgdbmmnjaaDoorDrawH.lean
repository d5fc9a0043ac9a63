/- The draws of the chapter on shelves: shelves, a basket beside them, an amount beside them. -/
import Derived.Test.YtemhikgdbmmnjaaDoorDrawG
import Derived.Test.YtemhikgdbmmnjaaDoorSbk
namespace Go.Proofs.YtemhikgdbmmnjaaDoor
open Go.RowKit

/-- Small numbers. -/
def SmallN (xs : List Int) : Prop := ∀ j, 0 ≤ xs.getD j 0 ∧ xs.getD j 0 ≤ 20
theorem SmallN.snoc {xs : List Int} (h : SmallN xs) {x : Int} (h0 : 0 ≤ x) (h1 : x ≤ 20) : SmallN (xs ++ [x]) := by
  intro j
  by_cases hlt : j < xs.length
  · have e : (xs ++ [x]).getD j 0 = xs.getD j 0 := by simp [List.getD, List.getElem?_append_left hlt]
    rw [e]; exact h j
  · by_cases he : j = xs.length
    · subst he
      have e : (xs ++ [x]).getD xs.length 0 = x := by simp [List.getD]
      rw [e]; exact ⟨h0, h1⟩
    · have e : (xs ++ [x]).getD j 0 = 0 := by simp [List.getD, List.getElem?_eq_none (show (xs ++ [x]).length ≤ j by simp; omega)]
      rw [e]; exact ⟨Int.le_refl _, by decide⟩

/-- Shelves handed out; with a basket; with an amount. -/
def GotG (w : World) (e : Ending) (w' : World) : Prop :=
  ∃ A2 cap gs, e = .returned (.slice A2 gs.length cap) ∧ GRow w' A2 gs ∧ gs.length ≤ 4 ∧ SmallG gs ∧ gs.length ≤ cap ∧ cap ≤ maxLen ∧ Below w.heap.size w w'
def GotGB (w : World) (e : Ending) (w' : World) : Prop :=
  ∃ A2 cap gs B2 cap2 xs, e = .returned (.tuple #[.slice A2 gs.length cap, .slice B2 xs.length cap2]) ∧ GRow w' A2 gs ∧ gs.length ≤ 4 ∧ SmallG gs ∧ Row .i64 w' B2 xs ∧ xs.length ≤ 5 ∧ SmallN xs ∧ Below w.heap.size w w'
def GotGN (w : World) (e : Ending) (w' : World) : Prop :=
  ∃ A2 cap gs n, e = .returned (.tuple #[.slice A2 gs.length cap, .int .i64 n]) ∧ GRow w' A2 gs ∧ gs.length ≤ 4 ∧ SmallG gs ∧ -1000 ≤ n ∧ n ≤ 1000 ∧ Below w.heap.size w w'

theorem Only.grow {g : Nat} {w w' : World} {A : Option Addr} {gs : List Gd} (h : Only g w w') (hr : GRow w A gs) (hne : ∀ a, A = some a → 0 < gs.length → a.block ≠ g) : GRow w' A gs := by
  rcases hr with hr | ⟨b, off, rfl, hc⟩
  · exact .inl hr
  · refine .inr ⟨b, off, rfl, fun i hi => ?_⟩
    have hlt : b < w.heap.size := World.block_lt_of_cell? w _ (hc i hi).1
    have hb := h.2.2 b (hne _ rfl (by omega)) hlt
    exact ⟨(World.cell?_of_block hb).trans (hc i hi).1, (World.cell?_of_block hb).trans (hc i hi).2⟩

theorem DrawShelvesOk_any (A : Option Addr) (bs : List Int) (c : Nat) (w : World) (hr : Row .u8 w A bs) (hb : Bytes bs) (hc : bs.length ≤ c) (hm : c ≤ maxLen) :
    Calls Tryd.prog 10 #[.slice A bs.length c] w (GotG w) := by
  have K := Lib.hid (fun W (h : Row .u8 W A bs) => open_any A bs c W h hb hc hm)
  clear hb hc hm
  go_enter Tryd.func10, Tryd.ntmps10
  go_wp2_with fail
  refine (K.out _ hr).mono ?_
  rintro e w1 ⟨rfl, hb1, hrd, hz⟩
  have hB1 := Lib.hid hb1
  clear hb1
  go_wp2_with fail
  refine (shelves_drawn _ _ _ _ _ 3 _ hrd (by omega) (by omega) (by omega)).mono ?_
  rintro e w2 ⟨A2, cap, gs, q, rfl, hrow, hlen, hsm, hcap, hcm, _, _, _, _, ho⟩
  have hB2 : Below w.heap.size w w2 := Below.trans hB1.out ho.1
  have HR := Lib.hid hrow
  have HS := Lib.hid hsm
  clear ho hrow hsm hrd
  go_wp2
  go_ret
  exact ⟨A2, cap, gs, rfl, HR.out, hlen, HS.out, hcap, hcm, hB2⟩

theorem DrawStockWorth_any (A : Option Addr) (bs : List Int) (c : Nat) (w : World) (hr : Row .u8 w A bs) (hb : Bytes bs) (hc : bs.length ≤ c) (hm : c ≤ maxLen) :
    Calls Tryd.prog 34 #[.slice A bs.length c] w (GotG w) := by
  have K := Lib.hid (fun W (h : Row .u8 W A bs) => open_any A bs c W h hb hc hm)
  clear hb hc hm
  go_enter Tryd.func34, Tryd.ntmps34
  go_wp2_with fail
  refine (K.out _ hr).mono ?_
  rintro e w1 ⟨rfl, hb1, hrd, hz⟩
  have hB1 := Lib.hid hb1
  clear hb1
  go_wp2_with fail
  refine (shelves_drawn _ _ _ _ _ 9 _ hrd (by omega) (by omega) (by omega)).mono ?_
  rintro e w2 ⟨A2, cap, gs, q, rfl, hrow, hlen, hsm, hcap, hcm, _, _, _, _, ho⟩
  have hB2 : Below w.heap.size w w2 := Below.trans hB1.out ho.1
  have HR := Lib.hid hrow
  have HS := Lib.hid hsm
  clear ho hrow hsm hrd
  go_wp2
  go_ret
  exact ⟨A2, cap, gs, rfl, HR.out, hlen, HS.out, hcap, hcm, hB2⟩

theorem bought_any (g : Nat) (A : Option Addr) (bs : List Int) (c : Nat) (w : World) (h : Rd w g A bs c 0) :
    Calls Tryd.prog 44 #[.pointer (some ⟨g, 0, none⟩)] w fun e w' => ∃ A2 cap gs n, e = .returned (.tuple #[.slice A2 gs.length cap, .int .i64 n]) ∧ GRow w' A2 gs ∧ gs.length ≤ 4 ∧ SmallG gs ∧ -1000 ≤ n ∧ n ≤ 1000 ∧ Below g w w' := by
  have hgw : g < w.heap.size := h.1.lt
  go_enter Tryd.func44, Tryd.ntmps44
  go_wp2_with fail
  refine (shelves_drawn _ _ _ _ _ 14 _ h (by omega) (by omega) (by omega)).mono ?_
  rintro e w1 ⟨A2, cap, gs, q, rfl, hrow, hlen, hsm, hcap, hcm, had, hq0, hq1, hrd, ho⟩
  have hz1 := ho.2.1
  have HN := Lib.hid (show ∀ a, A2 = some a → 0 < gs.length → a.block ≠ g from fun a e _ => by have := had a e; omega)
  have HO := Lib.hid ho
  have HS := Lib.hid hsm
  have HG := Lib.hid hrow
  clear ho h hsm hrow had
  go_wp2_with fail
  refine (pick_any _ _ _ _ _ 60 _ hrd (by omega) (by omega) (by omega)).mono ?_
  rintro e w2 ⟨k, hk0, hk1, rfl, hrd2, ho⟩
  have hk2 : k ≤ 59 := by omega
  have HG2 := Lib.hid (ho.grow HG.out HN.out)
  have HO2 := Lib.hid (HO.out.trans ho)
  clear ho HO HG hrd hk1
  go_wp2_with fail
  refine (pick_any _ _ _ _ _ 20 _ hrd2 (by omega) (by omega) (by omega)).mono ?_
  rintro e w3 ⟨k4, hk40, hk41, rfl, hrd3, ho⟩
  have hk42 : k4 ≤ 19 := by omega
  have HG3 := Lib.hid (ho.grow HG2.out HN.out)
  have HO3 := Lib.hid (HO2.out.trans ho)
  clear ho HO2 HG2 hrd2 hk41
  go_wp2_with fail
  refine (pick_any _ _ _ _ _ 20 _ hrd3 (by omega) (by omega) (by omega)).mono ?_
  rintro e w4 ⟨k5, hk50, hk51, rfl, hrd4, ho⟩
  have hk52 : k5 ≤ 19 := by omega
  have HG4 := Lib.hid (ho.grow HG3.out HN.out)
  have HO4 := Lib.hid (HO3.out.trans ho)
  clear ho HO3 HG3 hrd3 hk51
  go_wp2
  go_ret2
  exact ⟨A2, cap, gs, _, rfl, HG4.out, hlen, HS.out, by omega, by omega, HO4.out.1⟩

theorem OwnN.form {w : World} {base : Nat} {v : Value} {L : List Int} (h : OwnN w base v L) : ∃ A cap, v = .slice A L.length cap := by
  rcases h.2 with ⟨rfl, h0⟩ | ⟨g, cap, cur, rfl, _⟩
  · exact ⟨none, 0, by rw [h0]⟩
  · exact ⟨_, _, rfl⟩
theorem OwnN.row {w : World} {base : Nat} {A : Option Addr} {n cap : Nat} {L : List Int} (h : OwnN w base (.slice A n cap) L) : Row .i64 w A L := by
  by_cases h0 : 0 < L.length
  · obtain ⟨g, cap', e, h1, _⟩ := h.rowAt h0
    injection e with e _ _
    subst e
    exact h1.row
  · exact .inl (List.eq_nil_of_length_eq_zero (by omega))
theorem own_onlyN {g : Nat} {w w' : World} {base : Nat} {v : Value} {L : List Int} (h : Only g w w') (ho : OwnN w base v L) (hg : g < base) : OwnN w' base v L := own_only h ho hg

theorem run_mx (s : Int) (h : 0 ≤ s) (ts : Array TypeId) (t : TypeId) (w : World) : (Builtin.max_ ts t #[.int .i64 s, .int .i64 0]).run Tryd.prog w = .ok (.int .i64 s) w := by
  simp [Builtin.max_, Builtin.max2]
  omega

set_option maxRecDepth 100000 in
set_option maxHeartbeats 1600000 in
theorem basket_drawn (g : Nat) (A : Option Addr) (bs : List Int) (c : Nat) (w : World) (h : Rd w g A bs c 0) :
    Calls Tryd.prog 41 #[.pointer (some ⟨g, 0, none⟩)] w fun e w' => ∃ A2 cap gs B2 cap2 xs, e = .returned (.tuple #[.slice A2 gs.length cap, .slice B2 xs.length cap2]) ∧ GRow w' A2 gs ∧ gs.length ≤ 4 ∧ SmallG gs ∧ Row .i64 w' B2 xs ∧ xs.length ≤ 5 ∧ SmallN xs ∧ Below g w w' := by
  have hgw : g < w.heap.size := h.1.lt
  go_enter Tryd.func41, Tryd.ntmps41
  go_wp2_with fail
  refine (shelves_drawn _ _ _ _ _ 14 _ h (by omega) (by omega) (by omega)).mono ?_
  rintro e w1 ⟨A2, cap, gs, q, rfl, hrow, hlen, hsm, hcap, hcm, had, hq0, hq1, hrd, ho⟩
  have hz1 := ho.2.1
  have HN := Lib.hid (show ∀ a, A2 = some a → 0 < gs.length → a.block ≠ g from fun a e _ => by have := had a e; omega)
  obtain ⟨i0, hi, hz0, hzz1, hzz2⟩ := info_parts infoInt2
  have K20 := Lib.hid (fun W q (hW : Rd W g A bs c q) (h1 : 0 ≤ q) (h2 : q ≤ 1000000) => pick_any g A bs c q 20 W hW h1 h2 (by omega))
  have KP := Lib.hid (fun m W q (h3 : m ≤ 1000000) (hW : Rd W g A bs c q) (h1 : 0 ≤ q) (h2 : q ≤ 1000000) => pick_any g A bs c q m W hW h1 h2 h3)
  have KO := Lib.hid (fun W q (hW : Rd W g A bs c q) (h1 : 0 ≤ q) (h2 : q ≤ 1000000) => odd_any g A bs c q 14 W hW h1 h2 (by omega))
  have H0 := Lib.hid h
  have hrdA : Rd (w1.alloc (.cells #[] 3)) g A bs c q := ⟨hrd.1.alloc _, hrd.2.1.below (by repeat' (first | with_reducible exact Below.refl _ _ | with_reducible assumption | with_reducible apply Below.drew | with_reducible apply below_drewN | (with_reducible refine Below.setCell ?_ ?_ _) | (with_reducible refine Below.alloc ?_ ?_ _) | with_reducible exact Nat.le_refl _ | with_reducible exact Below.size (by assumption) | (simp; done) | (simp; done) | omega | (simp; omega))), hrd.2.2⟩
  have hown0 : OwnN (w1.alloc (.cells #[] 3)) w1.heap.size (.slice (some ⟨w1.heap.size, 0, none⟩) 0 0) [] := World.ownsRow_made w1 #[] 0 (Nat.le_refl _) (Nat.zero_le _) rfl
  have HOS := Lib.hid ho
  have HG1 := Lib.hid hrow
  have hgw1 : g < w1.heap.size := by omega
  have HS := Lib.hid hsm
  have HRD1 := Lib.hid hrd
  clear ho h hsm hrow had hrd
  go_wp2_with fail
  go_loopg [5, 6] gs.length (fun gk s5 s6 wx => ∃ (k : Nat) (ls : List Int) (q' : Int), s6 = .int .i64 (k : Int) ∧ gk + k = gs.length ∧ ls.length = k ∧ OwnN wx w1.heap.size s5 ls ∧ SmallN ls ∧ 0 ≤ q' ∧ q' + 2 * (gk : Int) ≤ 40 ∧ Rd wx g A bs c q' ∧ Only g w1 wx)
  case atStart => exact ⟨0, [], q, rfl, rfl, rfl, hown0, (fun j => by simp), by omega, by omega, hrdA, Only.of_below (by repeat' (first | with_reducible exact Below.refl _ _ | with_reducible assumption | with_reducible apply Below.drew | with_reducible apply below_drewN | (with_reducible refine Below.setCell ?_ ?_ _) | (with_reducible refine Below.alloc ?_ ?_ _) | with_reducible exact Nat.le_refl _ | with_reducible exact Below.size (by assumption) | (simp; done) | (simp; done) | omega | (simp; omega))) (by omega)⟩
  case round =>
    obtain ⟨k, ls, q', rfl, hgk, hll, hown, hsm, hq2, hq3, hrd, ho⟩ := hrel
    clear hown0 hrdA
    have hgr := ho.grow HG1.out HN.out
    have hzw := ho.2.1
    cases gk with
    | succ gk =>
      have hkl : k < gs.length := by omega
      obtain ⟨bA, offA, rfl⟩ := hgr.addr (by omega)
      have c2 := (hgr.one (by omega) k hkl).2
      obtain ⟨s0, s1, s2, s3⟩ := HS.out k hkl
      generalize (gd gs k).s = s at *
      have hmx := run_mx s s2
      have hi0 : (0 : Int) ≤ (k : Int) := by omega
      have hi1 : (k : Int) < (gs.length : Int) := by omega
      have HSM := Lib.hid hsm
      have HOW := Lib.hid hown
      have HO := Lib.hid ho
      clear hsm hown ho hgr
      go_wp2_with fail
      refine (KP.out (s % 9 + 1) _ q' (by omega) hrd (by omega) (by omega)).mono ?_
      rintro e w2 ⟨x, hx0, hx1, rfl, hrd2, ho2⟩
      have hx2 : x ≤ 6 := by omega
      have HO2 := Lib.hid (HO.out.trans ho2)
      have HOW2 := Lib.hid (own_onlyN ho2 HOW.out hgw1)
      clear ho2 hx1 HO HOW hrd
      go_wp2_with fail
      refine (K20.out _ (q' + 1) hrd2 (by omega) (by omega)).mono ?_
      rintro e w3 ⟨y, hy0, hy1, rfl, hrd3, ho3⟩
      have hy2 : y ≤ 19 := by omega
      have HO3 := Lib.hid (HO2.out.trans ho3)
      have hown3 := own_onlyN ho3 HOW2.out hgw1
      have hzw3 := HO3.out.2.1
      have HR := Lib.hid (fun k hk => World.ownsRow.lt hown3 k hk)
      have hz00 : 0 ≤ x + y / 19 := by omega
      have hz20 : x + y / 19 ≤ 20 := by omega
      have HSM2 := Lib.hid (HSM.out.snoc hz00 hz20)
      have hown3' : World.ownsRow (w3.alloc (.cells #[.int .i64 (x + y / 19)] 3)) w1.heap.size 3 1 u5 k (ls.map (Value.int .i64)) := by rw [← hll]; exact OwnN.kept hown3 (by repeat' (first | with_reducible exact Below.refl _ _ | with_reducible assumption | with_reducible apply Below.drew | with_reducible apply below_drewN | (with_reducible refine Below.setCell ?_ ?_ _) | (with_reducible refine Below.alloc ?_ ?_ _) | with_reducible exact Nat.le_refl _ | with_reducible exact Below.size (by assumption) | (simp; done) | (simp; done) | omega | (simp; omega)))
      have hll5 : ls.length ≤ 4 := by omega
      clear ho3 hy1 HO2 HOW2 hrd2 hown3
      go_wp2_with (at_builtin; go_must (refine wpList_append_lies _ rfl _ _ 28 rfl w1.heap.size 3 i0 _ 1 8 Tryd.underlying28 hi hz0 hzz1 hzz2 rfl (by omega) u5 k (ls.map (Value.int .i64)) (by rfl) hown3' ⟨w3.heap.size, 0, none⟩ 1 1 [.int .i64 (x + y / 19)] (by rfl) (by rfl) (World.news_of_block (cs := #[.int .i64 (x + y / 19)]) (t := 3) (fr := (0, 0)) (heap_alloc_new w3 _)) (by simp [Value.oneCell']) (by omega) (by unfold maxLen; omega) (by omega) (by simp; omega) (w3.heap.size + 1) (by simp) ?_); intro gg cap3 w4 hown4 hgrow hat hlt4)
      obtain ⟨hrd4, ho4⟩ := rd_grown HRD1.out HO3.out hrd3 hgrow (fun k' hk' => (HR.out k' hk').1)
      have hfin : OwnN w4 w1.heap.size (.slice (some ⟨gg, 0, none⟩) (k + 1) cap3) (ls ++ [x + y / 19]) := by
        unfold OwnN
        rw [List.map_append, List.length_append, hll]
        exact hown4
      clear hgrow hat hown4 hown3' hrd3
      go_roundg gk
      case measure => omega
      case rel => exact ⟨k + 1, ls ++ [x + y / 19], q' + 1 + 1, by go_num, by omega, by simp [hll], hfin, HSM2.out, by omega, by omega, hrd4, ho4⟩
    | zero =>
      have hkl : gs.length ≤ k := by omega
      have hl4 : ls.length ≤ 4 := by omega
      have HSM := Lib.hid hsm
      have HOW := Lib.hid hown
      have HO := Lib.hid ho
      clear hsm hown ho hgr hll hgk
      go_wp2_with fail
      refine (KO.out _ q' hrd (by omega) (by omega)).mono ?_
      rintro e w2 ⟨r, q2, rfl, hq4, hq5, hrd2, ho2⟩
      have HO2 := Lib.hid (HO.out.trans ho2)
      have hown2 := own_onlyN ho2 HOW.out hgw1
      have hzw2 := HO2.out.2.1
      clear ho2 hrd HO HOW
      obtain ⟨B2, cap2, rfl⟩ := hown2.form
      cases r
      · have HF := Lib.hid hown2.row
        have HGR := Lib.hid (HO2.out.grow HG1.out HN.out)
        have hB := (HOS.out.trans HO2.out).1
        clear hown2
        go_wp2
        go_ret2
        exact ⟨A2, cap, gs, B2, cap2, ls, rfl, HGR.out, hlen, HS.out, HF.out, by omega, HSM.out, hB⟩
      · have HR := Lib.hid (fun k hk => World.ownsRow.lt hown2 k hk)
        have HSM2 := Lib.hid (HSM.out.snoc (x := 0) (by decide) (by decide))
        have hown3' : World.ownsRow (w2.alloc (.cells #[.int .i64 0] 3)) w1.heap.size 3 1 (.slice B2 ls.length cap2) ls.length (ls.map (Value.int .i64)) := OwnN.kept hown2 (by repeat' (first | with_reducible exact Below.refl _ _ | with_reducible assumption | with_reducible apply Below.drew | with_reducible apply below_drewN | (with_reducible refine Below.setCell ?_ ?_ _) | (with_reducible refine Below.alloc ?_ ?_ _) | with_reducible exact Nat.le_refl _ | with_reducible exact Below.size (by assumption) | (simp; done) | (simp; done) | omega | (simp; omega)))
        clear hown2
        go_wp2_with (at_builtin; go_must (refine wpList_append_lies _ rfl _ _ 28 rfl w1.heap.size 3 i0 _ 1 8 Tryd.underlying28 hi hz0 hzz1 hzz2 rfl (by omega) (.slice B2 ls.length cap2) ls.length (ls.map (Value.int .i64)) (by rfl) hown3' ⟨w2.heap.size, 0, none⟩ 1 1 [.int .i64 0] (by rfl) (by rfl) (World.news_of_block (cs := #[.int .i64 0]) (t := 3) (fr := (0, 0)) (heap_alloc_new w2 _)) (by simp [Value.oneCell']) (by omega) (by unfold maxLen; omega) (by omega) (by simp; omega) (w2.heap.size + 1) (by simp) ?_); intro gg cap3 w4 hown4 hgrow hat hlt4)
        obtain ⟨hrd4, ho4⟩ := rd_grown HRD1.out HO2.out hrd2 hgrow (fun k' hk' => (HR.out k' hk').1)
        have hfin : OwnN w4 w1.heap.size (.slice (some ⟨gg, 0, none⟩) (ls.length + 1) cap3) (ls ++ [0]) := by
          unfold OwnN
          rw [List.map_append, List.length_append]
          exact hown4
        have HF := Lib.hid hfin.row
        have HGR := Lib.hid (ho4.grow HG1.out HN.out)
        have hB := (HOS.out.trans ho4).1
        clear hgrow hat hown4 hown3' hrd2 hfin hrd4 ho4
        go_ret2
        exact ⟨A2, cap, gs, _, cap3, ls ++ [0], by simp, HGR.out, hlen, HS.out, HF.out, by simp; omega, HSM2.out, hB⟩

theorem DrawCostOf_any (A : Option Addr) (bs : List Int) (c : Nat) (w : World) (hr : Row .u8 w A bs) (hb : Bytes bs) (hc : bs.length ≤ c) (hm : c ≤ maxLen) :
    Calls Tryd.prog 14 #[.slice A bs.length c] w (GotGB w) := by
  have K := Lib.hid (fun W (h : Row .u8 W A bs) => open_any A bs c W h hb hc hm)
  clear hb hc hm
  go_enter Tryd.func14, Tryd.ntmps14
  go_wp2_with fail
  refine (K.out _ hr).mono ?_
  rintro e w1 ⟨rfl, hb1, hrd, hz⟩
  have hB1 := Lib.hid hb1
  clear hb1
  go_wp2_with fail
  refine (basket_drawn _ _ _ _ _ hrd).mono ?_
  rintro e w2 ⟨A2, cap, gs, B2, cap2, xs, rfl, hrow, hlen, hsm, hrow2, hlen2, hsm2, hb2⟩
  have hB2 : Below w.heap.size w w2 := Below.trans hB1.out hb2
  have HR := Lib.hid hrow
  have HS := Lib.hid hsm
  have HR2 := Lib.hid hrow2
  have HS2 := Lib.hid hsm2
  clear hb2 hrow hsm hrow2 hsm2 hrd
  go_wp2
  go_ret2
  exact ⟨A2, cap, gs, B2, cap2, xs, rfl, HR.out, hlen, HS.out, HR2.out, hlen2, HS2.out, hB2⟩

theorem DrawAfterBasket_any (A : Option Addr) (bs : List Int) (c : Nat) (w : World) (hr : Row .u8 w A bs) (hb : Bytes bs) (hc : bs.length ≤ c) (hm : c ≤ maxLen) :
    Calls Tryd.prog 30 #[.slice A bs.length c] w (GotGB w) := by
  have K := Lib.hid (fun W (h : Row .u8 W A bs) => open_any A bs c W h hb hc hm)
  clear hb hc hm
  go_enter Tryd.func30, Tryd.ntmps30
  go_wp2_with fail
  refine (K.out _ hr).mono ?_
  rintro e w1 ⟨rfl, hb1, hrd, hz⟩
  have hB1 := Lib.hid hb1
  clear hb1
  go_wp2_with fail
  refine (basket_drawn _ _ _ _ _ hrd).mono ?_
  rintro e w2 ⟨A2, cap, gs, B2, cap2, xs, rfl, hrow, hlen, hsm, hrow2, hlen2, hsm2, hb2⟩
  have hB2 : Below w.heap.size w w2 := Below.trans hB1.out hb2
  have HR := Lib.hid hrow
  have HS := Lib.hid hsm
  have HR2 := Lib.hid hrow2
  have HS2 := Lib.hid hsm2
  clear hb2 hrow hsm hrow2 hsm2 hrd
  go_wp2
  go_ret2
  exact ⟨A2, cap, gs, B2, cap2, xs, rfl, HR.out, hlen, HS.out, HR2.out, hlen2, HS2.out, hB2⟩

theorem DrawBasketsFor_any (A : Option Addr) (bs : List Int) (c : Nat) (w : World) (hr : Row .u8 w A bs) (hb : Bytes bs) (hc : bs.length ≤ c) (hm : c ≤ maxLen) :
    Calls Tryd.prog 17 #[.slice A bs.length c] w (GotGN w) := by
  have K := Lib.hid (fun W (h : Row .u8 W A bs) => open_any A bs c W h hb hc hm)
  clear hb hc hm
  go_enter Tryd.func17, Tryd.ntmps17
  go_wp2_with fail
  refine (K.out _ hr).mono ?_
  rintro e w1 ⟨rfl, hb1, hrd, hz⟩
  have hB1 := Lib.hid hb1
  clear hb1
  go_wp2_with fail
  refine (bought_any _ _ _ _ _ hrd).mono ?_
  rintro e w2 ⟨A2, cap, gs, n, rfl, hrow, hlen, hsm, hn0, hn1, hb2⟩
  have hB2 : Below w.heap.size w w2 := Below.trans hB1.out hb2
  have HR := Lib.hid hrow
  have HS := Lib.hid hsm
  clear hb2 hrow hsm hrd
  go_wp2
  go_ret2
  exact ⟨A2, cap, gs, n, rfl, HR.out, hlen, HS.out, hn0, hn1, hB2⟩

theorem DrawMostFor_any (A : Option Addr) (bs : List Int) (c : Nat) (w : World) (hr : Row .u8 w A bs) (hb : Bytes bs) (hc : bs.length ≤ c) (hm : c ≤ maxLen) :
    Calls Tryd.prog 22 #[.slice A bs.length c] w (GotGN w) := by
  have K := Lib.hid (fun W (h : Row .u8 W A bs) => open_any A bs c W h hb hc hm)
  clear hb hc hm
  go_enter Tryd.func22, Tryd.ntmps22
  go_wp2_with fail
  refine (K.out _ hr).mono ?_
  rintro e w1 ⟨rfl, hb1, hrd, hz⟩
  have hB1 := Lib.hid hb1
  clear hb1
  go_wp2_with fail
  refine (bought_any _ _ _ _ _ hrd).mono ?_
  rintro e w2 ⟨A2, cap, gs, n, rfl, hrow, hlen, hsm, hn0, hn1, hb2⟩
  have hB2 : Below w.heap.size w w2 := Below.trans hB1.out hb2
  have HR := Lib.hid hrow
  have HS := Lib.hid hsm
  clear hb2 hrow hsm hrd
  go_wp2
  go_ret2
  exact ⟨A2, cap, gs, n, rfl, HR.out, hlen, HS.out, hn0, hn1, hB2⟩

theorem DrawDearestFor_any (A : Option Addr) (bs : List Int) (c : Nat) (w : World) (hr : Row .u8 w A bs) (hb : Bytes bs) (hc : bs.length ≤ c) (hm : c ≤ maxLen) :
    Calls Tryd.prog 26 #[.slice A bs.length c] w (GotGN w) := by
  have K := Lib.hid (fun W (h : Row .u8 W A bs) => open_any A bs c W h hb hc hm)
  clear hb hc hm
  go_enter Tryd.func26, Tryd.ntmps26
  go_wp2_with fail
  refine (K.out _ hr).mono ?_
  rintro e w1 ⟨rfl, hb1, hrd, hz⟩
  have hB1 := Lib.hid hb1
  clear hb1
  go_wp2_with fail
  refine (bought_any _ _ _ _ _ hrd).mono ?_
  rintro e w2 ⟨A2, cap, gs, n, rfl, hrow, hlen, hsm, hn0, hn1, hb2⟩
  have hB2 : Below w.heap.size w w2 := Below.trans hB1.out hb2
  have HR := Lib.hid hrow
  have HS := Lib.hid hsm
  clear hb2 hrow hsm hrd
  go_wp2
  go_ret2
  exact ⟨A2, cap, gs, n, rfl, HR.out, hlen, HS.out, hn0, hn1, hB2⟩

theorem bytes_of_wfG {bs : List Int} (h : ∀ n ∈ bs, (Lit.int .u8 n).wf = true) : Bytes bs := fun i hi => by
  have e : bs.getD i 0 = bs[i] := by simp [List.getD, hi]
  have := h _ (List.getElem_mem hi)
  rw [e]
  simpa [Lit.wf, IntKind.min, IntKind.max, IntKind.signed, IntKind.bits] using this

end Go.Proofs.YtemhikgdbmmnjaaDoor

/- The model's BasketsFor, at every slice of goods and every amount: all baskets, in their order. -/
import Derived.Test.YtemhikgdbmmnjaaDoorSbm
import Derived.Test.YtemhikgdbmmnjaaDoorRowsB
import Derived.Test.YtemhikgdbmmnjaaDoorMost
import Derived.Test.YtemhikgdbmmnjaaDoorHelp
namespace Go.Proofs.YtemhikgdbmmnjaaDoor
open Go.RowKit

/-- The slice v owns the numbers L. -/
def OwnN (w : World) (base : Nat) (v : Value) (L : List Int) : Prop := w.ownsRow base 3 1 v L.length (L.map (Value.int .i64))
theorem infoIntB : (Tryd.prog.info? 3).map (fun i => (i.zero, i.size, i.bytes)) = some (some (.int .i64 0), 1, 8) := by kernel_rfl
theorem OwnN.rowAt {w : World} {base : Nat} {v : Value} {L : List Int} (h : OwnN w base v L) (h0 : 0 < L.length) : ∃ g cap, v = .slice (some ⟨g, 0, none⟩) L.length cap ∧ RowAt w g 3 L ∧ base ≤ g := by
  rcases h.2 with ⟨_, h1⟩ | ⟨g, cap, cur, rfl, hb, hg, _, _, _, ht⟩
  · omega
  · refine ⟨g, cap, rfl, ⟨cur, hg, fun j hj => ?_⟩, hb⟩
    have : cur.toList[j]? = (L.map (Value.int .i64))[j]? := by
      rw [← ht, List.getElem?_take, if_pos (by omega)]
    rw [Array.getElem?_toList] at this
    rw [this]
    simp [List.getD, hj]
theorem OwnN.kept {w w' : World} {base : Nat} {v : Value} {L : List Int} (h : OwnN w base v L) (hb : Below w.heap.size w w') : OwnN w' base v L :=
  ⟨h.1, by
    rcases h.2 with h0 | ⟨g, cap, cur, hv, k1, k2, k3⟩
    · exact .inl h0
    · exact .inr ⟨g, cap, cur, hv, k1, (hb.block g (Array.getElem?_eq_some_iff.1 k2).1).trans k2, k3⟩⟩
/-- 'append(list, row...)'. -/
theorem wpList_append_ints {ops : Array Oper} {rest : List Oper} {o : Oper} {a : Act} {Q : Exit → Act → World → Prop} (w : World) (hgd : o.guard = none) (s x : Operand)
    (ho : o.op = .call { callee := .builtin .append, args := #[s, x], argTypes := #[28, 28] }) (base : Nat) (v : Value) (L : List Int) (hs : a.eval s = v) (h : OwnN w base v L)
    (b off m c : Nat) (ys : List Int) (hm : ys.length = m) (hx : a.eval x = .slice (some ⟨b, off, none⟩) m c) (hr : Row .i64 w (some ⟨b, off, none⟩) ys) (hbase : base ≤ w.heap.size) (hlen : L.length + m ≤ 1000000)
    (hK : ∀ v' w', OwnN w' base v' (L ++ ys) → Below base w w' → wpList Tryd.prog ops Q rest (a.put o.dst v') w') : wpList Tryd.prog ops Q (o :: rest) a w := by
  subst hm
  obtain ⟨i0, hi, hz0, hz1, hz2⟩ := info_parts infoIntB
  refine wpList_append_own w hgd s x 28 ho base 3 i0 (.int .i64 0) 1 8 Tryd.underlying28 hi hz0 hz1 hz2 rfl (by omega) v L.length (L.map (Value.int .i64)) hs h ⟨b, off, none⟩ ys.length c (ys.map (Value.int .i64)) hx (by simp) ?_ (by simp [Value.oneCell'])
    (by unfold maxLen; omega) (by omega) hbase ?_
  · intro j u hj
    rw [List.getElem?_map] at hj
    by_cases hlt : j < ys.length
    · rw [List.getElem?_eq_getElem hlt] at hj
      injection hj with hj
      rcases hr with h0 | ⟨b', off', e, hc⟩
      · subst h0; cases hlt
      · injection e with e
        injection e with e1 e2 _
        subst e1; subst e2
        have := hc j hlt
        have e1 : (⟨b, off, none⟩ : Addr).add j = ⟨b, off + j, none⟩ := by
          unfold Addr.add
          by_cases h : j = 0 <;> simp [h]
        rw [e1, this, ← hj]
        simp [List.getD, List.getElem?_eq_getElem hlt]
    · rw [List.getElem?_eq_none (by omega)] at hj; cases hj
  · intro v' w' hown hgrow _
    refine hK v' w' ?_ ((Below.refl base w).grown hgrow hbase (fun k hk => (World.ownsRow.lt h k hk).1))
    unfold OwnN
    rw [List.length_append, List.map_append]
    exact hown

/-- What the model's BasketsFor hands back. -/
def GotRowsS (w : World) (n : Nat) (L : List (List Int)) (e : Ending) (w' : World) : Prop :=
  ∃ A cap m, e = .returned (.slice A L.length cap) ∧ RowsC w' w.heap.size w.heap.size (.slice A L.length cap) 3 n L m ∧ m ≤ w'.heap.size ∧ Below w.heap.size w w'

theorem specBasketsFor_no (A : Option Addr) (gs : List Gd) (c : Nat) (n : Int) (w : World) (hr : GRow w A gs) (hl : gs.length ≤ 2097152) (h : okSN gs n = false) :
    Calls Tryd.prog 20 #[.slice A gs.length c, .int .i64 n] w (GotRowsS w 0 []) := by
  have K := Lib.hid (fun W (hW : GRow W A gs) => specShelvesOk_any A gs c W hW hl)
  rcases okSN_no h with h | ⟨h, hn⟩
  · rw [h] at K
    clear h
    go_enter Tryd.func20, Tryd.ntmps20
    go_wp2_with fail
    refine (K.out _ (hr.below (by repeat' (first | with_reducible exact Below.refl _ _ | with_reducible assumption | with_reducible apply Below.drew | with_reducible apply below_drewN | (with_reducible refine Below.setCell ?_ ?_ _) | (with_reducible refine Below.alloc ?_ ?_ _) | with_reducible exact Nat.le_refl _ | with_reducible exact Below.size (by assumption) | (simp; done) | (simp; done) | omega | (simp; omega))))).mono ?_
    rintro e w1 ⟨rfl, rfl⟩
    go_wp2
    go_ret
    exact ⟨_, _, 0, rfl, RowsC.nil (World.ownsRow_made w #[] 0 (Nat.le_refl _) (Nat.zero_le _) rfl), Nat.zero_le _, (by repeat' (first | with_reducible exact Below.refl _ _ | with_reducible assumption | with_reducible apply Below.drew | with_reducible apply below_drewN | (with_reducible refine Below.setCell ?_ ?_ _) | (with_reducible refine Below.alloc ?_ ?_ _) | with_reducible exact Nat.le_refl _ | with_reducible exact Below.size (by assumption) | (simp; done) | (simp; done) | omega | (simp; omega)))⟩
  · rw [h] at K
    have KN := Lib.hid (fun W => l1In_no n 0 99 W hn)
    clear h hn
    go_enter Tryd.func20, Tryd.ntmps20
    go_wp2_with fail
    refine (K.out _ (hr.below (by repeat' (first | with_reducible exact Below.refl _ _ | with_reducible assumption | with_reducible apply Below.drew | with_reducible apply below_drewN | (with_reducible refine Below.setCell ?_ ?_ _) | (with_reducible refine Below.alloc ?_ ?_ _) | with_reducible exact Nat.le_refl _ | with_reducible exact Below.size (by assumption) | (simp; done) | (simp; done) | omega | (simp; omega))))).mono ?_
    rintro e w1 ⟨rfl, rfl⟩
    go_wp2_with fail
    refine (KN.out _).mono ?_
    rintro e w2 ⟨rfl, rfl⟩
    go_wp2
    go_ret
    exact ⟨_, _, 0, rfl, RowsC.nil (World.ownsRow_made w #[] 0 (Nat.le_refl _) (Nat.zero_le _) rfl), Nat.zero_le _, (by repeat' (first | with_reducible exact Below.refl _ _ | with_reducible assumption | with_reducible apply Below.drew | with_reducible apply below_drewN | (with_reducible refine Below.setCell ?_ ?_ _) | (with_reducible refine Below.alloc ?_ ?_ _) | with_reducible exact Nat.le_refl _ | with_reducible exact Below.size (by assumption) | (simp; done) | (simp; done) | omega | (simp; omega)))⟩

set_option maxRecDepth 100000 in
set_option maxHeartbeats 4000000 in
theorem specBasketsFor_yes (A : Option Addr) (gs : List Gd) (c : Nat) (n : Int) (w : World) (hr : GRow w A gs) (h : okSN gs n = true) :
    Calls Tryd.prog 20 #[.slice A gs.length c, .int .i64 n] w (GotRowsS w gs.length ((bsk (shOf gs) n).map (rowOf (shOf gs).m))) := by
  obtain ⟨hg, h0, h1⟩ := okSN_iff.1 h
  have h3 := (okS_iff.1 hg).1
  rw [← bask_rows hg n]
  have K := Lib.hid (fun W (hW : GRow W A gs) => specShelvesOk_any A gs c W hW (by omega))
  rw [hg] at K
  have KN := Lib.hid (fun W => l1In_yes n 0 99 W h0 h1)
  have KC := Lib.hid (fun B xs d (k : Nat) (hk : xs.length = k) W (hW : GRow W A gs) (hX : Row .i64 W B xs) => (show Calls Tryd.prog 16 #[.slice A gs.length c, .slice B k d] W (fun e w' => e = .returned (.int .i64 (costV gs xs)) ∧ Below W.heap.size W w') by subst hk; exact specCostOf_any A B gs xs c d W hW hX (by omega)))
  have HG := Lib.hid hg
  have HR := Lib.hid hr
  clear h hg hr
  go_enter Tryd.func20, Tryd.ntmps20
  go_wp2_with fail
  refine (K.out _ (HR.out.below (by repeat' (first | with_reducible exact Below.refl _ _ | with_reducible assumption | with_reducible apply Below.drew | with_reducible apply below_drewN | (with_reducible refine Below.setCell ?_ ?_ _) | (with_reducible refine Below.alloc ?_ ?_ _) | with_reducible exact Nat.le_refl _ | with_reducible exact Below.size (by assumption) | (simp; done) | (simp; done) | omega | (simp; omega))))).mono ?_
  rintro e w1 ⟨rfl, rfl⟩
  go_wp2_with fail
  refine (KN.out _).mono ?_
  rintro e w1 ⟨rfl, rfl⟩
  have own0 : RowsC (((w.alloc (.cells #[] 28)).alloc (.cells #[] 3)).alloc (.cells #[.slice (some ⟨w.heap.size + 1, 0, none⟩) 0 0] 28)) w.heap.size w.heap.size (.slice (some ⟨w.heap.size, 0, none⟩) 0 0) 3 0 [] (w.heap.size + 1) :=
    RowsC.kept (RowsC.nil (World.ownsRow_made w #[] 0 (Nat.le_refl _) (Nat.zero_le _) rfl)) (by repeat' (first | with_reducible exact Below.refl _ _ | with_reducible assumption | with_reducible apply Below.drew | with_reducible apply below_drewN | (with_reducible refine Below.setCell ?_ ?_ _) | (with_reducible refine Below.alloc ?_ ?_ _) | with_reducible exact Nat.le_refl _ | with_reducible exact Below.size (by assumption) | (simp; done) | (simp; done) | omega | (simp; omega)))
  have hrow0 : RowAt (((w.alloc (.cells #[] 28)).alloc (.cells #[] 3)).alloc (.cells #[.slice (some ⟨w.heap.size + 1, 0, none⟩) 0 0] 28)) (w.heap.size + 1) 3 [] := ⟨#[], (Blk.new' (by simp)).alloc _, fun j hj => by cases hj⟩
  have hcx0 : (((w.alloc (.cells #[] 28)).alloc (.cells #[] 3)).alloc (.cells #[.slice (some ⟨w.heap.size + 1, 0, none⟩) 0 0] 28)).cell? ⟨w.heap.size + 1 + 1, 0, none⟩ = some (.slice (some ⟨w.heap.size + 1, 0, none⟩) 0 0) := (Blk.new' (by simp)).cell 0
  go_wp2_with (at_builtin; refine wpList_append_rows _ rfl _ _ rfl w.heap.size w.heap.size _ 3 (by decide) 0 [] (w.heap.size + 1) rfl own0 (w.heap.size + 1) (w.heap.size + 1 + 1) 1 0 [] rfl hcx0 hrow0 rfl (Nat.le_refl _) (by omega) (by simp; omega) (by simp) ?_)
  intro v1 w2 rows1 hb1 _
  have B2 : Below w.heap.size w w2 := Below.trans (by repeat' (first | with_reducible exact Below.refl _ _ | with_reducible assumption | with_reducible apply Below.drew | with_reducible apply below_drewN | (with_reducible refine Below.setCell ?_ ?_ _) | (with_reducible refine Below.alloc ?_ ?_ _) | with_reducible exact Nat.le_refl _ | with_reducible exact Below.size (by assumption) | (simp; done) | (simp; done) | omega | (simp; omega))) hb1
  have hz2 := hb1.size
  simp at hz2
  clear own0 hrow0 hb1 hcx0
  go_wp2_with fail
  go_loopg [5, 6] gs.length (fun gk s5 s6 wx => ∃ (k m : Nat), s6 = .int .i64 k ∧ gk + k = gs.length ∧ RowsC wx w.heap.size w.heap.size s5 3 k (allRows gs k) m ∧ m ≤ wx.heap.size ∧ Below w.heap.size w wx)
  case atStart => exact ⟨0, _, rfl, rfl, rows1, by omega, B2⟩
  case round =>
    obtain ⟨k, m, rfl, hgk, hrows, hm, hb⟩ := hrel
    clear rows1 B2 hz2
    have hz := hb.size
    obtain ⟨Ao, capo, rfl⟩ := hrows.form
    rename World => wk
    cases gk with
    | zero =>
      have hk : k = gs.length := by omega
      subst hk
      obtain ⟨sz0, _⟩ := allRows_size HG.out gs.length (by omega)
      obtain ⟨L, hL⟩ : ∃ L, L = allRows gs gs.length := ⟨_, rfl⟩
      have HGN := Lib.hid hL
      rw [← hL] at hrows sz0 ⊢
      clear hL
      have hrows' : RowsC wk w.heap.size w.heap.size (.slice Ao L.length capo) 3 gs.length L m := by rw [HGN.out] at hrows ⊢; exact hrows
      have HRL := Lib.hid hrows'
      obtain ⟨go, f, hgo, hf, hasc⟩ := hrows'.blocks
      have HOW := Lib.hid (fun k hk => (hrows'.own k hk).2)
      clear hrows hrows'
      have HF := Lib.hid hf
      have HA := Lib.hid hasc
      have HGO := Lib.hid hgo
      clear hf hasc hgo
      go_wp2_with fail
      go_loopg [10, 11] L.length (fun gj s10 s11 wx => ∃ (j m : Nat), s11 = .int .i64 j ∧ gj + j = L.length ∧ RowsC wx wk.heap.size w.heap.size s10 3 gs.length ((L.take j).filter fun r => decide (costV gs r ≤ n)) m ∧ w.heap.size ≤ m ∧ m ≤ wx.heap.size ∧ (j < L.length → m ≤ (f j).1) ∧ Below wk.heap.size wk wx)
      case atStart => exact ⟨0, w.heap.size, rfl, rfl, RowsC.nil (World.ownsRow_made wk #[] 0 (Nat.le_refl _) (Nat.zero_le _) rfl), Nat.le_refl _, by simp; omega, fun h => (HF.out 0 h).2.2.2.1, (by repeat' (first | with_reducible exact Below.refl _ _ | with_reducible assumption | with_reducible apply Below.drew | with_reducible apply below_drewN | (with_reducible refine Below.setCell ?_ ?_ _) | (with_reducible refine Below.alloc ?_ ?_ _) | with_reducible exact Nat.le_refl _ | with_reducible exact Below.size (by assumption) | (simp; done) | (simp; done) | omega | (simp; omega)))⟩
      case round =>
        obtain ⟨j, mj, rfl, hgj, hrj, hmj0, hmj, hmf, hbj⟩ := hrel
        obtain ⟨Aj, capj, rfl⟩ := hrj.form
        have hzj := hbj.size
        have hbw : Below w.heap.size w wr := Below.trans hb (hbj.mono hz)
        cases gk with
        | zero =>
          have hj : j = L.length := by omega
          subst hj
          have HR2 : Hid (GotRowsS w gs.length ((L.filter fun r => decide (costV gs r ≤ n))) (.returned (.slice Aj ((L.take L.length).filter fun r => decide (costV gs r ≤ n)).length capj)) wr) := Lib.hid (by
            rw [List.take_length] at hrj ⊢
            exact ⟨Aj, capj, mj, rfl, hrj.base hz (Nat.le_refl _), hmj, hbw⟩)
          clear hrj hmf
          go_wp2
          go_ret
          rw [← HGN.out]
          exact HR2.out
        | succ gj =>
          have hjl : j < L.length := by omega
          obtain ⟨e1, r1, l1, o1, o2⟩ := HF.out j hjl
          have hAo := HGO.out (by omega)
          subst hAo
          have hgow : go < wk.heap.size := HOW.out go rfl
          have e2 := (hbj.cell (p := ⟨go, j, none⟩) hgow).trans e1
          have hm1 := hmf hjl
          have lf := r1.lt
          have hnx : j + 1 < L.length → (f j).1 + 1 ≤ (f (j + 1)).1 := fun h => HA.out j (j + 1) (by omega) h
          have HNX := Lib.hid hnx
          have HT : Hid ((L.take (j + 1)).filter (fun r => decide (costV gs r ≤ n)) = (L.take j).filter (fun r => decide (costV gs r ≤ n)) ++ (if costV gs (L.getD j []) ≤ n then [L.getD j []] else [])) := Lib.hid (by
            rw [List.take_succ_eq_append_getElem hjl, List.filter_append]
            congr 1
            have ed : L.getD j [] = L[j] := by simp [List.getD, hjl]
            rw [ed]
            by_cases h : costV gs L[j] ≤ n <;> simp [h])
          have HCU : Hid (((L.take j).filter (fun r => decide (costV gs r ≤ n))).length ≤ 216) := Lib.hid (by
            have h1 := List.length_filter_le (fun r => decide (costV gs r ≤ n)) (L.take j)
            have h2 : (L.take j).length ≤ L.length := by simp; omega
            omega)
          generalize (L.take j).filter (fun r => decide (costV gs r ≤ n)) = cu at *
          have HRJ := Lib.hid hrj
          have hfj : (f j).1 < wr.heap.size := by omega
          have R1 := Lib.hid (r1.kept hbj)
          generalize L.getD j [] = row at *
          have hj0 : (0 : Int) ≤ (j : Int) := by omega
          have hj1 : (j : Int) < (L.length : Int) := by omega
          clear hrj hmf r1 e1 hnx
          generalize f j = fj at *
          obtain ⟨bj, cj⟩ := fj
          dsimp only at *
          have KV := Lib.hid (KC.out (some ⟨bj, 0, none⟩) row cj gs.length l1)
          go_wp2_with fail
          refine (KV.out _ (HR.out.below (by repeat' (first | with_reducible exact Below.refl _ _ | with_reducible assumption | with_reducible apply Below.drew | with_reducible apply below_drewN | (with_reducible refine Below.setCell ?_ ?_ _) | (with_reducible refine Below.alloc ?_ ?_ _) | with_reducible exact Nat.le_refl _ | with_reducible exact Below.size (by assumption) | (simp; done) | (simp; done) | omega | (simp; omega)))) R1.out.row).mono ?_
          rintro e w3 ⟨rfl, hb3⟩
          have z3 := hb3.size
          have B3 : Below wk.heap.size wk w3 := Below.trans hbj (hb3.mono hzj)
          have HR3 := Lib.hid (HRJ.out.kept hb3)
          have R3 := Lib.hid (R1.out.kept hb3)
          have e3 := (hb3.cell (p := ⟨go, j, none⟩) (by show go < wr.heap.size; omega)).trans e2
          have lgo : go < w3.heap.size := by omega
          have hbj3 : bj < w3.heap.size := by omega
          clear hb3 e2 KV
          generalize costV gs row = v at *
          by_cases hle : v ≤ n
          · rw [if_pos hle] at HT
            have BW : Below wk.heap.size wk (w3.alloc (.cells #[.slice (some ⟨bj, 0, none⟩) gs.length cj] 28)) := B3.alloc (by omega) _
            have rows3 := HR3.out.kept (w' := w3.alloc (.cells #[.slice (some ⟨bj, 0, none⟩) gs.length cj] 28)) (by repeat' (first | with_reducible exact Below.refl _ _ | with_reducible assumption | with_reducible apply Below.drew | with_reducible apply below_drewN | (with_reducible refine Below.setCell ?_ ?_ _) | (with_reducible refine Below.alloc ?_ ?_ _) | with_reducible exact Nat.le_refl _ | with_reducible exact Below.size (by assumption) | (simp; done) | (simp; done) | omega | (simp; omega)))
            have rg3 : RowAt (w3.alloc (.cells #[.slice (some ⟨bj, 0, none⟩) gs.length cj] 28)) bj 3 row := R3.out.kept (by repeat' (first | with_reducible exact Below.refl _ _ | with_reducible assumption | with_reducible apply Below.drew | with_reducible apply below_drewN | (with_reducible refine Below.setCell ?_ ?_ _) | (with_reducible refine Below.alloc ?_ ?_ _) | with_reducible exact Nat.le_refl _ | with_reducible exact Below.size (by assumption) | (simp; done) | (simp; done) | omega | (simp; omega)))
            have hcx : (w3.alloc (.cells #[.slice (some ⟨bj, 0, none⟩) gs.length cj] 28)).cell? ⟨w3.heap.size, 0, none⟩ = some (.slice (some ⟨bj, 0, none⟩) gs.length cj) := (Blk.new' rfl).cell 0
            clear B3
            go_wp2_with (at_builtin; refine wpList_append_rows _ rfl _ _ rfl wk.heap.size w.heap.size _ 3 (by decide) gs.length cu mj rfl rows3 bj w3.heap.size 1 cj row rfl hcx rg3 l1 hm1 hmj0 (by simp; omega) (by have := HCU.out; omega) ?_)
            intro v4 w4 rows4 hb4 _
            have z4 := hb4.size
            simp at z4
            have BW4 : Below wk.heap.size wk w4 := Below.trans BW hb4
            have HR4 := Lib.hid rows4
            clear rows3 rg3 hcx rows4 hb4 BW
            go_wp2
            go_roundg gj
            case measure => omega
            case rel => exact ⟨j + 1, bj + 1, by go_num, by omega, by rw [HT.out]; exact HR4.out, by omega, by omega, HNX.out, BW4⟩
          · rw [if_neg hle, List.append_nil] at HT
            go_wp2
            go_roundg gj
            case measure => omega
            case rel => exact ⟨j + 1, mj, by go_num, by omega, by rw [HT.out]; exact HR3.out, hmj0, by omega, fun h => Nat.le_trans hm1 (Nat.le_trans (Nat.le_succ _) (HNX.out h)), B3⟩
    | succ gq =>
      have hlt : k < gs.length := by omega
      obtain ⟨sz0, sz1, sz2, sz3⟩ := allRows_size HG.out k (by omega)
      obtain ⟨g0, g1, g2, g3⟩ := gd_ok (okS_iff.1 HG.out).2 k
      have HNX : Hid (allRows gs (k + 1) = stepB (allRows gs k) (gd gs k).s) := Lib.hid rfl
      have HLN := Lib.hid (allRows_len gs k)
      generalize allRows gs k = L at *
      have HSN := Lib.hid (stepB_size (out := L) g3)
      obtain ⟨bA, offA, rfl⟩ := HR.out.addr (by omega)
      have c2 := ((HR.out.below hb).one (by omega) k hlt).2
      generalize (gd gs k).s = s at *
      have lA : bA < wk.heap.size := World.block_lt_of_cell? wk _ c2
      have hi0 : (0 : Int) ≤ (k : Int) := by omega
      have hi1 : (k : Int) < (gs.length : Int) := by omega
      have HO := Lib.hid hrows
      have HOk := Lib.hid (fun k hk => (hrows.own k hk).2)
      have HC2 := Lib.hid c2
      clear hrows c2
      go_wp2_with fail
      go_loopg [7, 8] L.length (fun gj s7 s8 wx => ∃ (j m : Nat), s8 = .int .i64 j ∧ gj + j = L.length ∧ RowsC wx wk.heap.size wk.heap.size s7 3 (k + 1) (stepB (L.take j) s) m ∧ wk.heap.size ≤ m ∧ m ≤ wx.heap.size ∧ Below wk.heap.size wk wx)
      case atStart => exact ⟨0, wk.heap.size, rfl, rfl, RowsC.nil (World.ownsRow_made wk #[] 0 (Nat.le_refl _) (Nat.zero_le _) rfl), Nat.le_refl _, by simp, (by repeat' (first | with_reducible exact Below.refl _ _ | with_reducible assumption | with_reducible apply Below.drew | with_reducible apply below_drewN | (with_reducible refine Below.setCell ?_ ?_ _) | (with_reducible refine Below.alloc ?_ ?_ _) | with_reducible exact Nat.le_refl _ | with_reducible exact Below.size (by assumption) | (simp; done) | (simp; done) | omega | (simp; omega)))⟩
      case round =>
        obtain ⟨j, mj, rfl, hgj, hrj, hmj0, hmj, hbj⟩ := hrel
        have hzj := hbj.size
        obtain ⟨Aj, capj, rfl⟩ := hrj.form
        cases gk with
        | zero =>
          have hj : j = L.length := by omega
          subst hj
          have hrn : Hid (RowsC wr wk.heap.size wk.heap.size (.slice Aj (stepB (L.take L.length) s).length capj) 3 (k + 1) (allRows gs (k + 1)) mj) := Lib.hid (by
            have h := hrj
            rw [List.take_length] at h ⊢
            rw [HNX.out]
            exact h)
          have hbn : Below w.heap.size w wr := Below.trans hb (hbj.mono hz)
          clear hrj
          go_wp2
          go_roundg gq
          case measure => omega
          case rel => exact ⟨k + 1, mj, by go_num, by omega, hrn.out.base hz hz, hmj, hbn⟩
        | succ gj =>
          have hjl : j < L.length := by omega
          have HST := Lib.hid (stepB_take hjl s)
          have HST0 : Hid ((stepB (L.take j) s).length ≤ 216) := Lib.hid (by
            have h1 := stepB_size (out := L.take j) g3
            have h2 : (L.take j).length ≤ L.length := by simp; omega
            have h3 : L.length ≤ 36 := sz1 (by omega)
            omega)
          have ed : Hid (L.getD j [] = L[j]) := Lib.hid (by simp [List.getD, hjl])
          obtain ⟨row, hrow⟩ : ∃ row, row = L.getD j [] := ⟨_, rfl⟩
          have HROW := Lib.hid hrow
          rw [← hrow] at HST ed
          generalize stepB (L.take j) s = pre at *
          have hj0 : (0 : Int) ≤ (j : Int) := by omega
          have hj1 : (j : Int) < (L.length : Int) := by omega
          have HRJ := Lib.hid hrj
          clear hrj hrow
          go_wp2_with fail
          go_loopg [7, 9] (s + 1).toNat (fun gx s7 s9 wx => ∃ (x : Int) (m : Nat), s9 = .int .i64 x ∧ (gx : Int) + x = s + 1 ∧ 0 ≤ x ∧ RowsC wx wk.heap.size wk.heap.size s7 3 (k + 1) (pre ++ (upto 0 (x - 1)).map fun y => row ++ [y]) m ∧ wk.heap.size ≤ m ∧ m ≤ wx.heap.size ∧ Below wk.heap.size wk wx)
          case atStart => exact ⟨0, mj, rfl, by omega, Int.le_refl _, by rw [upto_nil (by omega)]; simpa using HRJ.out, hmj0, hmj, hbj⟩
          case round =>
            obtain ⟨x, mx, rfl, hgx, hx0, hrx, hmx0, hmx, hbx⟩ := hrel
            obtain ⟨Ax, capx, rfl⟩ := hrx.form
            have cA := (hbx.cell (p := ⟨bA, offA + k * 2 + 1, none⟩) lA).trans HC2.out
            have hbw : Below w.heap.size w wr := Below.trans hb (hbx.mono hz)
            have hzx := hbx.size
            cases gk with
            | zero =>
              have hx : x = s + 1 := by omega
              have hlt2 : s < x := by omega
              have HR2 : Hid (RowsC wr wk.heap.size wk.heap.size (.slice Ax (pre ++ (upto 0 (x - 1)).map fun y => row ++ [y]).length capx) 3 (k + 1) (stepB (L.take (j + 1)) s) mx) := Lib.hid (by
                have h := hrx
                have e : x - 1 = s := by omega
                rw [e] at h ⊢
                rw [HST.out]
                exact h)
              clear hrx hbw
              go_wp2
              go_roundg gj
              case measure => omega
              case rel => exact ⟨j + 1, mx, by go_num, by omega, HR2.out, hmx0, hmx, hbx⟩
            | succ gx =>
              have hxs : x ≤ s := by omega
              obtain ⟨go, bo, co, rfl, e1, r1, l1, o1, o2, o3⟩ := (HO.out.kept hbx).at hjl
              rw [← ed.out] at r1 l1
              have hgo : go < wk.heap.size := HOk.out go rfl
              have lgo : go < wr.heap.size := by omega
              rename World => wx
              have own0 : OwnN (wx.alloc (.cells #[] 3)) wx.heap.size (.slice (some ⟨wx.heap.size, 0, none⟩) 0 0) [] := World.ownsRow_made wx #[] 0 (Nat.le_refl _) (Nat.zero_le _) rfl
              have row0 : Row .i64 (wx.alloc (.cells #[] 3)) (some ⟨bo, 0, none⟩) row := (r1.kept (w' := wx.alloc (.cells #[] 3)) (by repeat' (first | with_reducible exact Below.refl _ _ | with_reducible assumption | with_reducible apply Below.drew | with_reducible apply below_drewN | (with_reducible refine Below.setCell ?_ ?_ _) | (with_reducible refine Below.alloc ?_ ?_ _) | with_reducible exact Nat.le_refl _ | with_reducible exact Below.size (by assumption) | (simp; done) | (simp; done) | omega | (simp; omega)))).row
              have hcu : (pre ++ (upto 0 (x - 1)).map fun y => row ++ [y]).length ≤ 222 := by
                rw [List.length_append, List.length_map, upto_length]
                have := HST0.out
                omega
              have HNU : Hid ((pre ++ (upto 0 (x - 1)).map fun y => row ++ [y]) ++ [row ++ [x]] = pre ++ (upto 0 (x + 1 - 1)).map fun y => row ++ [y]) := Lib.hid (by
                have e : x + 1 - 1 = x := by omega
                rw [e, upto_snoc hx0, List.map_append, List.append_assoc]
                rfl)
              generalize (pre ++ (upto 0 (x - 1)).map fun y => row ++ [y]) = cu at *
              have HRX := Lib.hid hrx
              clear hrx r1
              go_wp2_with (at_builtin; refine wpList_append_ints _ rfl _ _ rfl wx.heap.size _ [] rfl own0 bo 0 k co row l1 rfl row0 (by simp) (by simp; omega) ?_)
              intro v1 w1 own1 hb1
              have z1 := hb1.size
              simp at z1
              have BA1 : Below wx.heap.size wx (w1.alloc (.cells #[.int .i64 x] 3)) := (Below.trans (by repeat' (first | with_reducible exact Below.refl _ _ | with_reducible assumption | with_reducible apply Below.drew | with_reducible apply below_drewN | (with_reducible refine Below.setCell ?_ ?_ _) | (with_reducible refine Below.alloc ?_ ?_ _) | with_reducible exact Nat.le_refl _ | with_reducible exact Below.size (by assumption) | (simp; done) | (simp; done) | omega | (simp; omega))) hb1).alloc (by omega) _
              have own1' : OwnN (w1.alloc (.cells #[.int .i64 x] 3)) wx.heap.size v1 ([] ++ row) := own1.kept (by repeat' (first | with_reducible exact Below.refl _ _ | with_reducible assumption | with_reducible apply Below.drew | with_reducible apply below_drewN | (with_reducible refine Below.setCell ?_ ?_ _) | (with_reducible refine Below.alloc ?_ ?_ _) | with_reducible exact Nat.le_refl _ | with_reducible exact Below.size (by assumption) | (simp; done) | (simp; done) | omega | (simp; omega)))
              have row1 : Row .i64 (w1.alloc (.cells #[.int .i64 x] 3)) (some ⟨w1.heap.size, 0, none⟩) [x] := Blk.row (xs := [x]) (Blk.new w1 _ _)
              clear own0 row0 own1 hb1
              go_wp2_with (at_builtin; refine wpList_append_ints _ rfl _ _ rfl wx.heap.size _ ([] ++ row) rfl own1' w1.heap.size 0 1 1 [x] rfl rfl row1 (by simp; omega) (by simp; omega) ?_)
              intro v2 w2 own2 hb2
              have z2 := hb2.size
              simp at z2
              have BA2 : Below wx.heap.size wx w2 := Below.trans BA1 hb2
              have hv2 : ∃ g cap, v2 = .slice (some ⟨g, 0, none⟩) (k + 1) cap ∧ RowAt w2 g 3 (row ++ [x]) ∧ wx.heap.size ≤ g := by
                obtain ⟨g, cap, e, h1, h2⟩ := own2.rowAt (by simp)
                refine ⟨g, cap, ?_, by simpa using h1, h2⟩
                rw [e]
                simp [l1]
              obtain ⟨g, capg, rfl, rg, hge⟩ := hv2
              have BA3 : Below wx.heap.size wx (w2.alloc (.cells #[.slice (some ⟨g, 0, none⟩) (k + 1) capg] 28)) := BA2.alloc (by omega) _
              have rows3 := HRX.out.kept BA3
              have rg3 : RowAt (w2.alloc (.cells #[.slice (some ⟨g, 0, none⟩) (k + 1) capg] 28)) g 3 (row ++ [x]) := rg.kept (by repeat' (first | with_reducible exact Below.refl _ _ | with_reducible assumption | with_reducible apply Below.drew | with_reducible apply below_drewN | (with_reducible refine Below.setCell ?_ ?_ _) | (with_reducible refine Below.alloc ?_ ?_ _) | with_reducible exact Nat.le_refl _ | with_reducible exact Below.size (by assumption) | (simp; done) | (simp; done) | omega | (simp; omega)))
              have hcx : (w2.alloc (.cells #[.slice (some ⟨g, 0, none⟩) (k + 1) capg] 28)).cell? ⟨w2.heap.size, 0, none⟩ = some (.slice (some ⟨g, 0, none⟩) (k + 1) capg) := (Blk.new' rfl).cell 0
              have lg := rg.lt
              have BW3 : Below wk.heap.size wk (w2.alloc (.cells #[.slice (some ⟨g, 0, none⟩) (k + 1) capg] 28)) := Below.trans hbx (BA3.mono hzx)
              clear own1' row1 own2 hb2 rg BA1 BA2 BA3
              go_wp2_with (at_builtin; refine wpList_append_rows _ rfl _ _ rfl wk.heap.size wk.heap.size _ 3 (by decide) (k + 1) cu mx rfl rows3 g w2.heap.size 1 capg (row ++ [x]) rfl hcx rg3 (by simp; omega) (by omega) (by omega) (by simp; omega) (by omega) ?_)
              intro v3 w3 rows4 hb4 _
              have z4 := hb4.size
              simp at z4
              have BW4 : Below wk.heap.size wk w3 := Below.trans BW3 hb4
              have HR4 := Lib.hid rows4
              clear rows3 rg3 hcx rows4 hb4 BW3
              go_wp2
              go_roundg gx
              case measure => omega
              case rel => exact ⟨x + 1, g + 1, by go_num, by omega, by omega, by rw [← HNU.out]; exact HR4.out, by omega, by omega, BW4⟩

end Go.Proofs.YtemhikgdbmmnjaaDoor

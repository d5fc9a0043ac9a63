/- The draws of the laws on runs of machines: a machine and acts; a number of goods and results. -/
import Derived.Test.YtgkhkphhpeiejaaDoorDrRo
import Derived.Test.YtgkhkphhpeiejaaDoorHelpQ
namespace Go.Proofs.YtgkhkphhpeiejaaDoor
open Go.RowKit

theorem OwnA.capLeN {w : World} {base n cap : Nat} {A : Option Addr} {L : List Ac} (h : OwnA w base (.slice A n cap) L) : L.length ≤ cap := by
  rcases h.2 with ⟨hv, h0⟩ | ⟨g, cap', cur, hv, _, _, h1, _⟩
  · omega
  · injection hv with _ _ hc
    subst hc
    exact h1
theorem OwnA.capM {w : World} {base n cap : Nat} {A : Option Addr} {L : List Ac} (h : OwnA w base (.slice A n cap) L) : cap ≤ maxLen := by
  rcases h.2 with ⟨hv, h0⟩ | ⟨g, cap', cur, hv, _, _, _, h2, _⟩
  · injection hv with _ _ hc
    subst hc
    exact Nat.zero_le _
  · injection hv with _ _ hc
    subst hc
    exact h2
/-- Acts of which nothing was told: 21 of them. -/
theorem ac_rep (n i : Nat) (h : i < n) : ac (List.replicate n ⟨0, 0⟩) i = ⟨0, 0⟩ := by unfold ac; simp [List.getD, h]
def acts0 (n : Nat) : List Ac := List.replicate n ⟨0, 0⟩
/-- A machine and acts handed out. -/
def GotDRun (w : World) (e : Ending) (w' : World) : Prop := ∃ v m A c L, e = .returned (.tuple #[v, .slice A L.length c]) ∧ MRow w' v m ∧ SzM m ∧ ARow w' A L ∧ L.length ≤ 21 ∧ L.length ≤ c ∧ c ≤ maxLen ∧ Below w.heap.size w w'
theorem acts0_length (n : Nat) : (acts0 n).length = n := by unfold acts0; exact List.length_replicate
theorem made_acts0 {w : World} {g : Nat} {MC : Array Value} (h : Blk w g 54 MC) (hMC : MC = madeCells #[.int .i64 0, .int .i64 0] (21 * 2)) : ARow w (some ⟨g, 0, none⟩) (acts0 21) := by
  refine .inr ⟨g, 0, rfl, fun i hi => ?_⟩
  rw [hMC] at h
  have hi21 : i < 21 := by unfold acts0 at hi; rwa [List.length_replicate] at hi
  have e : ac (acts0 21) i = ⟨0, 0⟩ := ac_rep 21 i hi21
  rw [e]
  have hm : ∀ i : Nat, i < 21 → (madeCells #[.int .i64 0, .int .i64 0] (21 * 2))[i * 2]? = some (.int .i64 0) ∧ (madeCells #[.int .i64 0, .int .i64 0] (21 * 2))[i * 2 + 1]? = some (.int .i64 0)
    | 0, _ => ⟨by kernel_rfl, by kernel_rfl⟩
    | 1, _ => ⟨by kernel_rfl, by kernel_rfl⟩
    | 2, _ => ⟨by kernel_rfl, by kernel_rfl⟩
    | 3, _ => ⟨by kernel_rfl, by kernel_rfl⟩
    | 4, _ => ⟨by kernel_rfl, by kernel_rfl⟩
    | 5, _ => ⟨by kernel_rfl, by kernel_rfl⟩
    | 6, _ => ⟨by kernel_rfl, by kernel_rfl⟩
    | 7, _ => ⟨by kernel_rfl, by kernel_rfl⟩
    | 8, _ => ⟨by kernel_rfl, by kernel_rfl⟩
    | 9, _ => ⟨by kernel_rfl, by kernel_rfl⟩
    | 10, _ => ⟨by kernel_rfl, by kernel_rfl⟩
    | 11, _ => ⟨by kernel_rfl, by kernel_rfl⟩
    | 12, _ => ⟨by kernel_rfl, by kernel_rfl⟩
    | 13, _ => ⟨by kernel_rfl, by kernel_rfl⟩
    | 14, _ => ⟨by kernel_rfl, by kernel_rfl⟩
    | 15, _ => ⟨by kernel_rfl, by kernel_rfl⟩
    | 16, _ => ⟨by kernel_rfl, by kernel_rfl⟩
    | 17, _ => ⟨by kernel_rfl, by kernel_rfl⟩
    | 18, _ => ⟨by kernel_rfl, by kernel_rfl⟩
    | 19, _ => ⟨by kernel_rfl, by kernel_rfl⟩
    | 20, _ => ⟨by kernel_rfl, by kernel_rfl⟩
    | n + 21, h => absurd h (by omega)
  rw [Nat.zero_add, h.cell, h.cell]
  exact hm i hi21
set_option maxRecDepth 100000 in
set_option maxHeartbeats 6400000 in
theorem DrawRunOf_any (A : Option Addr) (bs : List Int) (c : Nat) (w : World) (hr : Row .u8 w A bs) (hb : Bytes bs) (hc : bs.length ≤ c) (hm : c ≤ maxLen) :
    Calls Tryd.prog 48 #[.slice A bs.length c] w (GotDRun w) := by
  have K := Lib.hid (fun W (h : Row .u8 W A bs) => open_any A bs c W h hb hc hm)
  have HR := Lib.hid hr
  have b0 : Blk (w.alloc (.cells #[.slice none 0 0, .slice none 0 0, .slice none 0 0] 33)) w.heap.size 33 #[.slice none 0 0, .slice none 0 0, .slice none 0 0] := Blk.new' rfl
  clear hb hc hm hr
  go_enter Tryd.func48, Tryd.ntmps48
  go_wp2_with fail
  refine (K.out _ (HR.out.below belo)).mono ?_
  rintro e w1 ⟨rfl, hb1, hrd, hz⟩
  have b1 := b0.kept hb1
  have hB1 : Below w.heap.size w w1 := Below.trans belo (hb1.mono belo)
  simp only [World.size_alloc] at hrd hz
  clear hb1 b0
  go_wp2_with fail
  refine (machine_drawn _ _ _ _ _ 14 _ hrd (by omega) (by omega) (by omega)).mono ?_
  rintro e w2 ⟨v, m, q, rfl, hp, hs, hq0, hq1, hrd2, ho⟩
  have hz2 := ho.2.1
  have hB2 : Below w.heap.size w w2 := Below.trans hB1 (ho.1.mono (by omega))
  have b2 := ho.blk b1 (by omega)
  obtain ⟨X, x, Y, y, Z, z, rfl⟩ := hp.form
  have HS := Lib.hid hs
  have KA : Hid (∀ W q, Rd W (w.heap.size + 1) A (bs.take 2000) c q → 0 ≤ q → q ≤ 10000 → Calls Tryd.prog 106 #[.pointer (some ⟨w.heap.size + 1, 0, none⟩)] W (DrawnAs W (w.heap.size + 1) A (bs.take 2000) c q)) := Lib.hid (fun W q hW h1 h2 => acts_drawn _ _ _ _ q W hW h1 h2)
  have KO : Hid (∀ W q, Rd W (w.heap.size + 1) A (bs.take 2000) c q → 0 ≤ q → q ≤ 1000000 → Calls Tryd.prog 105 #[.pointer (some ⟨w.heap.size + 1, 0, none⟩), .int .i64 30] W (Odd W (w.heap.size + 1) A (bs.take 2000) c q)) := Lib.hid (fun W q hW h1 h2 => odd_any _ _ _ _ q 30 W hW h1 h2 (by omega))
  have hw1 : w.heap.size + 1 < w1.heap.size := hrd.1.lt
  have HRD2 := Lib.hid (hrd2.allocA (.cells #[.slice X m.own.length x, .slice Y m.inn.length y, .slice Z m.gs.length z] 33))
  have HP2 : Hid (MRowP (fun b => b ≠ w.heap.size ∧ b ≠ w.heap.size + 1) (w2.alloc (.cells #[.slice X m.own.length x, .slice Y m.inn.length y, .slice Z m.gs.length z] 33)) (.agg #[.slice X m.own.length x, .slice Y m.inn.length y, .slice Z m.gs.length z]) m) := Lib.hid ((hp.weaken (fun b hl h1 => ⟨by omega, by omega⟩)).kept (w' := w2.alloc (.cells #[.slice X m.own.length x, .slice Y m.inn.length y, .slice Z m.gs.length z] 33)) belo)
  have HB2 := Lib.hid (b2.alloc (.cells #[.slice X m.own.length x, .slice Y m.inn.length y, .slice Z m.gs.length z] 33))
  have HM2 := Lib.hid (Blk.new w2 33 #[.slice X m.own.length x, .slice Y m.inn.length y, .slice Z m.gs.length z])
  clear b1 b2 ho hrd hp hs hrd2
  go_wp2_with fail
  refine (KO.out _ q HRD2.out (by omega) (by omega)).mono ?_
  rintro e w3 ⟨od, q3, rfl, hq2, hq3, hrd3, ho3⟩
  have hz3 := ho3.2.1
  simp only [World.size_alloc] at hz3
  have HBW : Hid (Below w.heap.size w w3) := Lib.hid (Below.trans (show Below w.heap.size w (w2.alloc (.cells #[.slice X m.own.length x, .slice Y m.inn.length y, .slice Z m.gs.length z] 33)) from belo) (ho3.1.mono (by omega)))
  have HM := Lib.hid (ho3.blk HM2.out (by omega))
  have HB := Lib.hid (ho3.blk HB2.out (by omega))
  have HP : Hid (MRowP (fun b => b ≠ w.heap.size ∧ b ≠ w.heap.size + 1) w3 (.agg #[.slice X m.own.length x, .slice Y m.inn.length y, .slice Z m.gs.length z]) m) := Lib.hid (MRowP.only (w := w2.alloc (.cells #[.slice X m.own.length x, .slice Y m.inn.length y, .slice Z m.gs.length z] 33)) HP2.out ho3 (fun b hb => hb.2))
  have HRD := Lib.hid hrd3
  clear HM2 HB2 HP2 HRD2 hrd3 ho3
  have n3 := HM.out.lt
  have c3 := fun i => HM.out.cell i
  have m3 := HB.out.lt
  have d3 := fun i => HB.out.cell i
  have g3 := fun i => HB.out.frozen i
  have e1 : w2.heap.size ≠ w.heap.size := by omega
  have e2 : w.heap.size ≠ w2.heap.size := by omega
  cases od
  · go_upto_region 5 with fail
    go_region_held3 (fun w' => w'.cell? ⟨w2.heap.size, 0, none⟩ = some (.slice X m.own.length x) ∧ w'.cell? ⟨w2.heap.size, 1, none⟩ = some (.slice Y m.inn.length y) ∧ w'.cell? ⟨w2.heap.size, 2, none⟩ = some (.slice Z m.gs.length z)) (go_keep)
      (first
        | (go_at_call 106; (with_reducible refine (KA.out _ q3 HRD.out (by omega) (by omega)).mono ?_); rintro e w6 ⟨va, L, q6, rfl, hown, hL8, _, _, _, ho6⟩; have hy6 := ho6.2.1; (try simp only [World.size_drew] at hy6 hown); have HM6 := Lib.hid (ho6.blk HM.out (by omega)); have HB6 := Lib.hid (ho6.blk HB.out (by omega)); have HP6 : Hid (MRowP (fun b => b ≠ w.heap.size ∧ b ≠ w.heap.size + 1) w6 (.agg #[.slice X m.own.length x, .slice Y m.inn.length y, .slice Z m.gs.length z]) m) := Lib.hid (MRowP.only (w := w3) HP.out ho6 (fun b hb => hb.2)); obtain ⟨A1, c1, rfl, harp⟩ := hown.rowP; have hcap := hown.capLeN; have hcapm := hown.capM; have HA6 : Hid (ARowP (fun b => b ≠ w.heap.size ∧ b ≠ w.heap.size + 1) w6 A1 L) := Lib.hid (harp.weaken (fun b hl h1 => ⟨by omega, by omega⟩)); have B6 : Below w.heap.size w w6 := Below.trans (show Below w.heap.size w w3 from HBW.out) (ho6.1.mono (by omega)); have n6 := HM6.out.lt; have c6 := (fun i => HM6.out.cell i); have m6 := HB6.out.lt; have d6 := (fun i => HB6.out.cell i); have g6 := (fun i => HB6.out.frozen i); clear ho6 hown harp)
        | (go_at_call 106; (with_reducible refine (KA.out _ q3 HRD.out.drewA (by omega) (by omega)).mono ?_); rintro e w6 ⟨va, L, q6, rfl, hown, hL8, _, _, _, ho6⟩; have hy6 := ho6.2.1; (try simp only [World.size_drew] at hy6 hown); have HM6 := Lib.hid (ho6.blk (Blk.drew HM.out) (by omega)); have HB6 := Lib.hid (ho6.blk (Blk.drew HB.out) (by omega)); have HP6 : Hid (MRowP (fun b => b ≠ w.heap.size ∧ b ≠ w.heap.size + 1) w6 (.agg #[.slice X m.own.length x, .slice Y m.inn.length y, .slice Z m.gs.length z]) m) := Lib.hid (MRowP.only (w := w3.drew) HP.out ho6 (fun b hb => hb.2)); obtain ⟨A1, c1, rfl, harp⟩ := hown.rowP; have hcap := hown.capLeN; have hcapm := hown.capM; have HA6 : Hid (ARowP (fun b => b ≠ w.heap.size ∧ b ≠ w.heap.size + 1) w6 A1 L) := Lib.hid (harp.weaken (fun b hl h1 => ⟨by omega, by omega⟩)); have B6 : Below w.heap.size w w6 := Below.trans (show Below w.heap.size w w3.drew from HBW.out.drew) (ho6.1.mono (by omega)); have n6 := HM6.out.lt; have c6 := (fun i => HM6.out.cell i); have m6 := HB6.out.lt; have d6 := (fun i => HB6.out.cell i); have g6 := (fun i => HB6.out.frozen i); clear ho6 hown harp))
    all_goals
      have hx6 : w.heap.size < w6.heap.size := by omega
      obtain ⟨nL, hnL⟩ : ∃ n, n = L.length := ⟨_, rfl⟩
      rw [← hnL]
      have HNL := Lib.hid hnL.symm
      have HL8 := Lib.hid hL8
      have HCP := Lib.hid hcap
      have HCM := Lib.hid hcapm
      clear hnL hL8 hcap hcapm
      go_wp2
      refine bodyPost_ret (v := .tuple #[mcv X m.own.length x Y m.inn.length y Z m.gs.length z, .slice A1 nL c1]) (by simp [results, Tryd.results48, go_sem, d6]) rfl ⟨_, m, A1, c1, L, by rw [HNL.out], ?_, HS.out, ?_, by have := HL8.out; omega, HCP.out, HCM.out, belo⟩
      · refine (HP6.out.of_heap (fun b _ h1 => ?_)).row
        have hb1 := h1.1
        repeat (first | rw [Below.heap_setCell _ _ _ _ hb1])
      · refine (HA6.out.of_heap (fun b _ h1 => ?_)).row
        have hb1 := h1.1
        repeat (first | rw [Below.heap_setCell _ _ _ _ hb1])
  · obtain ⟨MC, hMC⟩ : ∃ x, x = madeCells #[.int .i64 0, .int .i64 0] (21 * 2) := ⟨_, rfl⟩
    have hmk : ∀ W : World, (Instr.makeSlice 34 (.int .i64 21) (.int .i64 21)).run Tryd.prog W = .ok (.slice (some ⟨W.heap.size, 0, none⟩) 21 21) (W.alloc (.cells MC 54)) := fun W => by rw [hMC]; exact run_make_acts 21 (by omega) W
    have HMC := Lib.hid hMC
    clear hMC
    go_upto_region 4 with fail
    go_region_held3 (fun w' => w'.cell? ⟨w2.heap.size, 0, none⟩ = some (.slice X m.own.length x) ∧ w'.cell? ⟨w2.heap.size, 1, none⟩ = some (.slice Y m.inn.length y) ∧ w'.cell? ⟨w2.heap.size, 2, none⟩ = some (.slice Z m.gs.length z)) (go_keep) (fail)
    all_goals
      have qb : Blk (((((w3.setCell ⟨w.heap.size, 0, none⟩ (.slice X m.own.length x)).setCell ⟨w.heap.size, 1, none⟩ (.slice Y m.inn.length y)).setCell ⟨w.heap.size, 2, none⟩ (.slice Z m.gs.length z)).alloc (.cells MC 54)).drew) w.heap.size 33 #[.slice X m.own.length x, .slice Y m.inn.length y, .slice Z m.gs.length z] := (((HB.out.set_ 0 _).set_ 1 _).set_ 2 _).alloc _
      have qm : Blk (((((w3.setCell ⟨w.heap.size, 0, none⟩ (.slice X m.own.length x)).setCell ⟨w.heap.size, 1, none⟩ (.slice Y m.inn.length y)).setCell ⟨w.heap.size, 2, none⟩ (.slice Z m.gs.length z)).alloc (.cells MC 54)).drew) w3.heap.size 54 MC := Blk.new' (by simp)
      have BB : Below w.heap.size w (((((w3.setCell ⟨w.heap.size, 0, none⟩ (.slice X m.own.length x)).setCell ⟨w.heap.size, 1, none⟩ (.slice Y m.inn.length y)).setCell ⟨w.heap.size, 2, none⟩ (.slice Z m.gs.length z)).alloc (.cells MC 54)).drew) := (Below.alloc (Below.setCell (Below.setCell (Below.setCell HBW.out (Nat.le_refl _) _) (Nat.le_refl _) _) (Nat.le_refl _) _) (by simp; omega) _).drew
      have HPP : MRow (((((w3.setCell ⟨w.heap.size, 0, none⟩ (.slice X m.own.length x)).setCell ⟨w.heap.size, 1, none⟩ (.slice Y m.inn.length y)).setCell ⟨w.heap.size, 2, none⟩ (.slice Z m.gs.length z)).alloc (.cells MC 54)).drew) (.agg #[.slice X m.own.length x, .slice Y m.inn.length y, .slice Z m.gs.length z]) m := (HP.out.of_heap (fun b hl h1 => by
        have hb1 := h1.1
        show (World.alloc _ _).heap[b]? = _
        rw [Below.heap_alloc _ _ _ (by simp; omega), Below.heap_setCell _ _ _ _ hb1, Below.heap_setCell _ _ _ _ hb1, Below.heap_setCell _ _ _ _ hb1])).row
      have cq := fun i => qb.cell i
      have HAR := Lib.hid (made_acts0 qm HMC.out)
      have HLA := Lib.hid (acts0_length 21)
      have HPP' := Lib.hid HPP
      have HBB := Lib.hid BB
      have hqb := qb.lt
      clear qb qm HPP BB c3 d3 g3
      generalize (((((w3.setCell ⟨w.heap.size, 0, none⟩ (.slice X m.own.length x)).setCell ⟨w.heap.size, 1, none⟩ (.slice Y m.inn.length y)).setCell ⟨w.heap.size, 2, none⟩ (.slice Z m.gs.length z)).alloc (.cells MC 54)).drew) = wf at *
      go_wp2
      exact bodyPost_ret (v := .tuple #[mcv X m.own.length x Y m.inn.length y Z m.gs.length z, .slice (some ⟨w3.heap.size, 0, none⟩) 21 21]) (by simp [results, Tryd.results48, go_sem, cq]) rfl ⟨_, m, _, 21, acts0 21, by rw [HLA.out], HPP'.out, HS.out, HAR.out, Nat.le_of_eq HLA.out, Nat.le_of_eq HLA.out, by decide, HBB.out⟩
theorem QRowP.kept {P : Nat → Prop} {w w' : World} {A : Option Addr} {L : List Rs} (h : QRowP P w A L) (hb : Below w.heap.size w w') : QRowP P w' A L := h.of_heap (fun b hl _ => hb.block b hl)
/-- A number and results handed out. -/
def GotDNQ (w : World) (e : Ending) (w' : World) : Prop :=
  ∃ (n : Int) (A2 : Option Addr) (c2 : Nat) (M : List Rs), e = .returned (.tuple #[.int .i64 n, .slice A2 M.length c2]) ∧ QRow w' A2 M ∧ M.length ≤ 9 ∧ Few4 M ∧ -1 ≤ n ∧ n ≤ 4 ∧ Below w.heap.size w w'
def litsN : Array Value := #[.int .i64 3, .int .i64 3, .int .i64 3, .int .i64 2, .int .i64 1, .int .i64 0, .int .i64 4, .int .i64 (-1)]
theorem litsN_get (k : Nat) (h : k < 8) : ∃ n : Int, litsN[k]? = some (.int .i64 n) ∧ -1 ≤ n ∧ n ≤ 4 := by
  rcases (by omega : k = 0 ∨ k = 1 ∨ k = 2 ∨ k = 3 ∨ k = 4 ∨ k = 5 ∨ k = 6 ∨ k = 7) with rfl | rfl | rfl | rfl | rfl | rfl | rfl | rfl
  · exact ⟨3, rfl, by omega, by omega⟩
  · exact ⟨3, rfl, by omega, by omega⟩
  · exact ⟨3, rfl, by omega, by omega⟩
  · exact ⟨2, rfl, by omega, by omega⟩
  · exact ⟨1, rfl, by omega, by omega⟩
  · exact ⟨0, rfl, by omega, by omega⟩
  · exact ⟨4, rfl, by omega, by omega⟩
  · exact ⟨-1, rfl, by omega, by omega⟩
set_option maxHeartbeats 3200000 in
theorem DrawSoldBy_any (A : Option Addr) (bs : List Int) (c : Nat) (w : World) (hr : Row .u8 w A bs) (hb : Bytes bs) (hc : bs.length ≤ c) (hm : c ≤ maxLen) :
    Calls Tryd.prog 53 #[.slice A bs.length c] w (GotDNQ w) := by
  have K := Lib.hid (fun W (h : Row .u8 W A bs) => open_any A bs c W h hb hc hm)
  clear hb hc hm
  go_enter Tryd.func53, Tryd.ntmps53
  go_wp2_with fail
  refine (K.out _ hr).mono ?_
  rintro e w1 ⟨rfl, hb1, hrd, hz⟩
  have hB1 := Lib.hid hb1
  have hz1 := hb1.size
  clear hb1
  go_wp2_with fail
  refine (ran_drawn _ _ _ _ _ _ hrd (by omega) (by omega)).mono ?_
  rintro e w2 ⟨A1, c1, L, A2, c2, M, q, rfl, har, hL, hqr, hM, hF, hc2, hq0, hq1, hrd2, ho⟩
  have hB2 : Below w.heap.size w w2 := Below.trans hB1.out ho.1
  have hz2 := ho.2.1
  have HF := Lib.hid hF
  have HQ := Lib.hid (hqr.kept (w' := w2.alloc (.cells litsN 3)) belo)
  have HRD := Lib.hid (hrd2.allocA (.cells litsN 3))
  have NB := Lib.hid (Blk.new w2 3 litsN)
  have HB2 : Hid (Below w.heap.size w (w2.alloc (.cells litsN 3))) := Lib.hid (Below.alloc hB2 (by omega) _)
  have KP := Lib.hid (fun W q (hW : Rd W w.heap.size A (bs.take 2000) c q) (h1 : 0 ≤ q) (h2 : q ≤ 1000000) => pick_any _ _ _ _ q 8 W hW h1 h2 (by omega))
  clear ho har hqr hF hrd hrd2 hc2 hB2
  go_wp2_with fail
  refine (KP.out _ q HRD.out (by omega) (by omega)).mono ?_
  rintro e w3 ⟨k, hk0, hk1, rfl, _, ho3⟩
  obtain ⟨kn, rfl⟩ := Int.eq_ofNat_of_zero_le hk0
  have hkn : kn < 8 := by omega
  obtain ⟨n, hn, hn0, hn1⟩ := litsN_get kn hkn
  have q3 := ho3.blk NB.out (by omega)
  have hc3 : w3.cell? ⟨w2.heap.size, kn, none⟩ = some (.int .i64 n) := (q3.cell kn).trans hn
  have hki : (kn : Int) < 8 := by omega
  have n3 := q3.lt
  have hB3 : Below w.heap.size w w3 := Below.trans HB2.out (ho3.1.mono (by omega))
  have HQ3 : Hid (QRow w3 A2 M) := Lib.hid (QRowP.row (QRowP.of_heap HQ.out (fun b hl hp => ho3.2.2 b (by omega) hl)))
  clear ho3 q3 NB HRD KP hk1
  go_wp2
  go_ret2
  exact ⟨n, A2, c2, M, rfl, HQ3.out, hM, HF.out, hn0, hn1, hB3⟩
end Go.Proofs.YtgkhkphhpeiejaaDoor

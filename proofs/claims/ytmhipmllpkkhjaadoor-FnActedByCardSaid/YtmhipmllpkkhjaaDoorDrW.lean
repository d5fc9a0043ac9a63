/- The draws of the laws on versions: a version, a machine and an act. -/
import Derived.Test.YtmhipmllpkkhjaaDoorDrVa
namespace Go.Proofs.YtmhipmllpkkhjaaDoor
open Go.RowKit

/-- A version, a machine and an act handed out. -/
def GotDVMA (w : World) (e : Ending) (w' : World) : Prop := ∃ ver v m d n, e = .returned (.tuple #[.int .i64 ver, v, .agg #[.int .i64 d, .int .i64 n]]) ∧ MRow w' v m ∧ SzM m ∧ Below w.heap.size w w'
set_option maxRecDepth 100000 in
set_option maxHeartbeats 6400000 in
theorem DrawActedBy_any (A : Option Addr) (bs : List Int) (c : Nat) (w : World) (hr : Row .u8 w A bs) (hb : Bytes bs) (hc : bs.length ≤ c) (hm : c ≤ maxLen) :
    Calls Tryd.prog 35 #[.slice A bs.length c] w (GotDVMA w) := by
  have K := Lib.hid (fun W (h : Row .u8 W A bs) => open_any A bs c W h hb hc hm)
  have HR := Lib.hid hr
  have b0 : Blk ((w.alloc (.cells #[.slice none 0 0, .slice none 0 0, .slice none 0 0] 26)).alloc (.cells #[.int .i64 0, .int .i64 0] 52)) w.heap.size 26 #[.slice none 0 0, .slice none 0 0, .slice none 0 0] := (Blk.new' rfl).alloc _
  have a0 : Blk ((w.alloc (.cells #[.slice none 0 0, .slice none 0 0, .slice none 0 0] 26)).alloc (.cells #[.int .i64 0, .int .i64 0] 52)) (w.heap.size + 1) 52 #[.int .i64 0, .int .i64 0] := Blk.new' (by simp)
  clear hb hc hm hr
  go_enter Tryd.func35, Tryd.ntmps35
  go_wp2_with fail
  refine (K.out _ (HR.out.below belo)).mono ?_
  rintro e w1 ⟨rfl, hb1, hrd, hz⟩
  have b1 := b0.kept hb1
  have a1 := a0.kept hb1
  have hB1 : Below w.heap.size w w1 := Below.trans belo (hb1.mono belo)
  simp only [World.size_alloc] at hrd hz
  clear hb1 b0 a0
  go_wp2_with fail
  refine (machine_drawn _ _ _ _ _ 14 _ hrd (by omega) (by omega) (by omega)).mono ?_
  rintro e w2 ⟨v, m, q, rfl, hp, hs, hq0, hq1, hrd2, ho⟩
  have hz2 := ho.2.1
  have hB2 : Below w.heap.size w w2 := Below.trans hB1 (ho.1.mono (by omega))
  have b2 := ho.blk b1 (by omega)
  have a2 := ho.blk a1 (by omega)
  obtain ⟨X, x, Y, y, Z, z, rfl⟩ := hp.form
  have HS := Lib.hid hs
  have KA : Hid (∀ W q, Rd W (w.heap.size + 1 + 1) A (bs.take 2000) c q → 0 ≤ q → q ≤ 100000 → Calls Tryd.prog 86 #[.pointer (some ⟨w.heap.size + 1 + 1, 0, none⟩)] W (DrawnA W (w.heap.size + 1 + 1) A (bs.take 2000) c q)) := Lib.hid (fun W q hW h1 h2 => act_drawn _ _ _ _ q W hW h1 h2)
  have KP : Hid (∀ W q n, Rd W (w.heap.size + 1 + 1) A (bs.take 2000) c q → 0 ≤ q → q ≤ 100000 → n ≤ 1000 → Calls Tryd.prog 77 #[.pointer (some ⟨w.heap.size + 1 + 1, 0, none⟩), .int .i64 n] W (Picked W (w.heap.size + 1 + 1) A (bs.take 2000) c q n)) := Lib.hid (fun W q n hW h1 h2 h3 => pick_any _ _ _ _ q n W hW h1 (by omega) (by omega))
  have KV : Hid (∀ W q, Rd W (w.heap.size + 1 + 1) A (bs.take 2000) c q → 0 ≤ q → q ≤ 100000 → Calls Tryd.prog 87 #[.pointer (some ⟨w.heap.size + 1 + 1, 0, none⟩)] W fun e w' => ∃ v, e = .returned (.int .i64 v) ∧ Only (w.heap.size + 1 + 1) W w') := Lib.hid (fun W q hW h1 h2 => version_drawn _ _ _ _ q W hW h1 h2)
  have hw1 : w.heap.size + 1 + 1 < w1.heap.size := hrd.1.lt
  have HRD2 := Lib.hid (hrd2.allocA (.cells #[.slice X m.own.length x, .slice Y m.inn.length y, .slice Z m.gs.length z] 26))
  have HP2 : Hid (MRowP (fun b => b ≠ w.heap.size ∧ b ≠ w.heap.size + 1 ∧ b ≠ w.heap.size + 1 + 1) (w2.alloc (.cells #[.slice X m.own.length x, .slice Y m.inn.length y, .slice Z m.gs.length z] 26)) (.agg #[.slice X m.own.length x, .slice Y m.inn.length y, .slice Z m.gs.length z]) m) := Lib.hid ((hp.weaken (fun b hl h1 => ⟨by omega, by omega, by omega⟩)).kept (w' := w2.alloc (.cells #[.slice X m.own.length x, .slice Y m.inn.length y, .slice Z m.gs.length z] 26)) belo)
  have HB2 := Lib.hid (b2.alloc (.cells #[.slice X m.own.length x, .slice Y m.inn.length y, .slice Z m.gs.length z] 26))
  have HZ2 := Lib.hid (a2.alloc (.cells #[.slice X m.own.length x, .slice Y m.inn.length y, .slice Z m.gs.length z] 26))
  have HM2 := Lib.hid (Blk.new w2 26 #[.slice X m.own.length x, .slice Y m.inn.length y, .slice Z m.gs.length z])
  clear b1 b2 a1 a2 ho hrd hp hs hrd2
  go_wp2_with fail
  refine (KA.out _ q HRD2.out (by omega) (by omega)).mono ?_
  rintro e w3 ⟨d, n, q3, rfl, hq2, hq3, hrd3, ho3⟩
  have hz3 := ho3.2.1
  simp only [World.size_alloc] at hz3
  have HBW3 : Below w.heap.size w w3 := Below.trans (show Below w.heap.size w (w2.alloc (.cells #[.slice X m.own.length x, .slice Y m.inn.length y, .slice Z m.gs.length z] 26)) from belo) (ho3.1.mono (by omega))
  have hm3 := ho3.blk HM2.out (by omega)
  have hb3 := ho3.blk HB2.out (by omega)
  have ha3 := ho3.blk HZ2.out (by omega)
  have hp3 := MRowP.only (w := w2.alloc (.cells #[.slice X m.own.length x, .slice Y m.inn.length y, .slice Z m.gs.length z] 26)) HP2.out ho3 (fun b hb => hb.2.2)
  have HRD3 := Lib.hid (hrd3.allocA (.cells #[.int .i64 d, .int .i64 n] 52))
  have HM3 := Lib.hid (hm3.alloc (.cells #[.int .i64 d, .int .i64 n] 52))
  have HB3 := Lib.hid (hb3.alloc (.cells #[.int .i64 d, .int .i64 n] 52))
  have HZ3 := Lib.hid (ha3.alloc (.cells #[.int .i64 d, .int .i64 n] 52))
  have HA3 := Lib.hid (Blk.new w3 52 #[.int .i64 d, .int .i64 n])
  have HP3 : Hid (MRowP (fun b => b ≠ w.heap.size ∧ b ≠ w.heap.size + 1 ∧ b ≠ w.heap.size + 1 + 1 ∧ b ≠ w3.heap.size) (w3.alloc (.cells #[.int .i64 d, .int .i64 n] 52)) (.agg #[.slice X m.own.length x, .slice Y m.inn.length y, .slice Z m.gs.length z]) m) := Lib.hid ((hp3.weaken (fun b hl h1 => ⟨h1.1, h1.2.1, h1.2.2, by omega⟩)).kept (w' := w3.alloc (.cells #[.int .i64 d, .int .i64 n] 52)) belo)
  clear HM2 HB2 HZ2 HP2 HRD2 hm3 hb3 ha3 hp3 hrd3 ho3
  go_wp2_with fail
  refine (KP.out _ q3 2 HRD3.out (by omega) (by omega) (by omega)).mono ?_
  rintro e w4 ⟨k, hk0, hk1, rfl, hrd4, ho4⟩
  have hz4 := ho4.2.1
  simp only [World.size_alloc] at hz4
  have hB4 : Below w.heap.size w w4 := Below.trans (show Below w.heap.size w (w3.alloc (.cells #[.int .i64 d, .int .i64 n] 52)) from belo) (ho4.1.mono (by omega))
  have HM4 := Lib.hid (ho4.blk HM3.out (by omega))
  have HA4 := Lib.hid (ho4.blk HA3.out (by omega))
  have HB4 := Lib.hid (ho4.blk HB3.out (by omega))
  have HZ4 := Lib.hid (ho4.blk HZ3.out (by omega))
  have HP4 := Lib.hid (MRowP.only (w := w3.alloc (.cells #[.int .i64 d, .int .i64 n] 52)) HP3.out ho4 (fun b hb => hb.2.2.1))
  have HRD4 := Lib.hid hrd4
  clear HM3 HA3 HB3 HZ3 HP3 HRD3 hrd4 ho4
  by_cases hk : k = 0
  · subst hk
    go_wp2_with fail
    refine (KP.out _ (q3 + 1) 3 HRD4.out (by omega) (by omega) (by omega)).mono ?_
    rintro e w5 ⟨k2, hk2, hk3, rfl, hrd5, ho5⟩
    have hz5 := ho5.2.1
    have hAlt : ∀ a, A = some a → 0 < (bs.take 2000).length → a.block ≠ w3.heap.size := fun a e h0 => by
      have h1 : 0 < bs.length := by rw [List.length_take] at h0; omega
      have h2 : a.block < w.heap.size := by
        rcases HR.out with h3 | ⟨b, off, e', hc⟩
        · subst h3; cases h1
        · rw [e] at e'; injection e' with e'; subst e'; exact World.block_lt_of_cell? w _ (hc 0 h1)
      omega
    have HM := Lib.hid (((ho5.blk HM4.out (by omega)).setA (g' := w3.heap.size) (k := 0) (u := .int .i64 1) (by omega)).setA (g' := w3.heap.size) (k := 1) (u := .int .i64 k2) (by omega))
    have HB := Lib.hid (((ho5.blk HB4.out (by omega)).setA (g' := w3.heap.size) (k := 0) (u := .int .i64 1) (by omega)).setA (g' := w3.heap.size) (k := 1) (u := .int .i64 k2) (by omega))
    have HZ := Lib.hid (((ho5.blk HZ4.out (by omega)).setA (g' := w3.heap.size) (k := 0) (u := .int .i64 1) (by omega)).setA (g' := w3.heap.size) (k := 1) (u := .int .i64 k2) (by omega))
    have HA := Lib.hid ((ho5.blk HA4.out (by omega)).put2 (x := .int .i64 1) (y := .int .i64 k2))
    have hp5 := MRowP.only (w := w4) HP4.out ho5 (fun b hb => hb.2.2.1)
    have HP : Hid (MRowP (fun b => b ≠ w.heap.size ∧ b ≠ w.heap.size + 1 ∧ b ≠ w.heap.size + 1 + 1) ((w5.setCell ⟨w3.heap.size, 0, none⟩ (.int .i64 1)).setCell ⟨w3.heap.size, 1, none⟩ (.int .i64 k2)) (.agg #[.slice X m.own.length x, .slice Y m.inn.length y, .slice Z m.gs.length z]) m) := Lib.hid ((hp5.of_heap (fun b _ h1 => by
      have hb1 := h1.2.2.2
      rw [Below.heap_setCell _ _ _ _ hb1, Below.heap_setCell _ _ _ _ hb1])).weaken (fun b _ h1 => ⟨h1.1, h1.2.1, h1.2.2.1⟩))
    have HRD := Lib.hid ((hrd5.far (g' := w3.heap.size) (k := 0) (u := .int .i64 1) (by omega) hAlt).far (g' := w3.heap.size) (k := 1) (u := .int .i64 k2) (by omega) hAlt)
    have hB5 : Below w.heap.size w w5 := Below.trans hB4 (ho5.1.mono (by omega))
    have HBW : Hid (Below w.heap.size w ((w5.setCell ⟨w3.heap.size, 0, none⟩ (.int .i64 1)).setCell ⟨w3.heap.size, 1, none⟩ (.int .i64 k2))) := Lib.hid belo
    have hsz : w5.heap.size = ((w5.setCell ⟨w3.heap.size, 0, none⟩ (.int .i64 1)).setCell ⟨w3.heap.size, 1, none⟩ (.int .i64 k2)).heap.size := by simp only [World.size_setCell]
    have m5 := (ho5.blk HA4.out (by omega)).lt
    have c5 := fun i => (ho5.blk HA4.out (by omega)).cell i
    have f5 := fun i => (ho5.blk HA4.out (by omega)).frozen i
    clear hrd5 ho5 hp5 HM4 HA4 HB4 HZ4 HP4 HRD4
    go_upto_region 6 with fail
    clear c5 f5
    generalize (w5.setCell ⟨w3.heap.size, 0, none⟩ (.int .i64 1)).setCell ⟨w3.heap.size, 1, none⟩ (.int .i64 k2) = wt at *
    have hzt : w4.heap.size ≤ wt.heap.size := by omega
    have n3 := HM.out.lt
    have c3 := fun i => HM.out.cell i
    have na3 := HA.out.lt
    have ca3 := fun i => HA.out.cell i
    have e1 : w2.heap.size ≠ w.heap.size := by omega
    have e2 : w.heap.size ≠ w2.heap.size := by omega
    have e3 : w2.heap.size ≠ w.heap.size + 1 := by omega
    have e4 : w.heap.size + 1 ≠ w2.heap.size := by omega
    have e5 : w3.heap.size ≠ w.heap.size := by omega
    have e6 : w.heap.size ≠ w3.heap.size := by omega
    have e7 : w3.heap.size ≠ w.heap.size + 1 := by omega
    have e8 : w.heap.size + 1 ≠ w3.heap.size := by omega
    have hq9 : 0 ≤ (q3 + 1 + 1) := by omega
    have hq8 : (q3 + 1 + 1) ≤ 100000 := by omega
    go_region_held3 (fun w' => w'.cell? ⟨w2.heap.size, 0, none⟩ = some (.slice X m.own.length x) ∧ w'.cell? ⟨w2.heap.size, 1, none⟩ = some (.slice Y m.inn.length y) ∧ w'.cell? ⟨w2.heap.size, 2, none⟩ = some (.slice Z m.gs.length z) ∧ w'.cell? ⟨w3.heap.size, 0, none⟩ = some (.int .i64 1) ∧ w'.cell? ⟨w3.heap.size, 1, none⟩ = some (.int .i64 k2)) (go_keep)
      (first
        | (go_at_call 87; (with_reducible refine (KV.out _ (q3 + 1 + 1) HRD.out (by omega) (by omega)).mono ?_); rintro e w6 ⟨ver, rfl, ho6⟩; have hy6 := ho6.2.1; (try simp only [World.size_drew] at hy6); have HM6 := Lib.hid (ho6.blk HM.out (by omega)); have HA6 := Lib.hid (ho6.blk HA.out (by omega)); have HB6 := Lib.hid (ho6.blk HB.out (by omega)); have HZ6 := Lib.hid (ho6.blk HZ.out (by omega)); have HP6 : Hid (MRowP (fun b => b ≠ w.heap.size ∧ b ≠ w.heap.size + 1 ∧ b ≠ w.heap.size + 1 + 1) w6 (.agg #[.slice X m.own.length x, .slice Y m.inn.length y, .slice Z m.gs.length z]) m) := Lib.hid (MRowP.only (w := wt) HP.out ho6 (fun b hb => hb.2.2)); have B6 : Below w.heap.size w w6 := Below.trans (show Below w.heap.size w wt from HBW.out) (ho6.1.mono (by omega)); have n6 := HM6.out.lt; have c6 := (fun i => HM6.out.cell i); have na6 := HA6.out.lt; have ca6 := (fun i => HA6.out.cell i); have m6 := HB6.out.lt; have d6 := (fun i => HB6.out.cell i); have g6 := (fun i => HB6.out.frozen i); have z6 := HZ6.out.lt; have dz6 := (fun i => HZ6.out.cell i); have gz6 := (fun i => HZ6.out.frozen i); clear ho6)
        | (go_at_call 87; (with_reducible refine (KV.out _ (q3 + 1 + 1) HRD.out.drewA (by omega) (by omega)).mono ?_); rintro e w6 ⟨ver, rfl, ho6⟩; have hy6 := ho6.2.1; (try simp only [World.size_drew] at hy6); have HM6 := Lib.hid (ho6.blk (Blk.drew HM.out) (by omega)); have HA6 := Lib.hid (ho6.blk (Blk.drew HA.out) (by omega)); have HB6 := Lib.hid (ho6.blk (Blk.drew HB.out) (by omega)); have HZ6 := Lib.hid (ho6.blk (Blk.drew HZ.out) (by omega)); have HP6 : Hid (MRowP (fun b => b ≠ w.heap.size ∧ b ≠ w.heap.size + 1 ∧ b ≠ w.heap.size + 1 + 1) w6 (.agg #[.slice X m.own.length x, .slice Y m.inn.length y, .slice Z m.gs.length z]) m) := Lib.hid (MRowP.only (w := wt.drew) HP.out ho6 (fun b hb => hb.2.2)); have B6 : Below w.heap.size w w6 := Below.trans (show Below w.heap.size w wt.drew from HBW.out.drew) (ho6.1.mono (by omega)); have n6 := HM6.out.lt; have c6 := (fun i => HM6.out.cell i); have na6 := HA6.out.lt; have ca6 := (fun i => HA6.out.cell i); have m6 := HB6.out.lt; have d6 := (fun i => HB6.out.cell i); have g6 := (fun i => HB6.out.frozen i); have z6 := HZ6.out.lt; have dz6 := (fun i => HZ6.out.cell i); have gz6 := (fun i => HZ6.out.frozen i); clear ho6))
    all_goals
      have hx6 : w.heap.size < w6.heap.size := by omega
      go_wp2
      refine bodyPost_ret (v := .tuple #[.int .i64 ver, mcv X m.own.length x Y m.inn.length y Z m.gs.length z, .agg #[.int .i64 1, .int .i64 k2]]) (by simp [results, Tryd.results35, go_sem, d6, dz6]) rfl ⟨ver, _, m, 1, k2, rfl, ?_, HS.out, belo⟩
      refine (HP6.out.of_heap (fun b _ h1 => ?_)).row
      have hb1 := h1.1
      have hb2 := h1.2.1
      repeat (first | rw [Below.heap_setCell _ _ _ _ hb1] | rw [Below.heap_setCell _ _ _ _ hb2])
  · have HM := HM4
    have HA := HA4
    have HB := HB4
    have HZ := HZ4
    have HRD := HRD4
    have HP : Hid (MRowP (fun b => b ≠ w.heap.size ∧ b ≠ w.heap.size + 1 ∧ b ≠ w.heap.size + 1 + 1) w4 (.agg #[.slice X m.own.length x, .slice Y m.inn.length y, .slice Z m.gs.length z]) m) := Lib.hid (HP4.out.weaken (fun b _ h1 => ⟨h1.1, h1.2.1, h1.2.2.1⟩))
    have HBW := Lib.hid hB4
    clear HM4 HA4 HB4 HZ4 HP4 HRD4
    have hk2 : (k == 0) = false := by simpa using hk
    go_upto_region 6 with fail
    have n3 := HM.out.lt
    have c3 := fun i => HM.out.cell i
    have na3 := HA.out.lt
    have ca3 := fun i => HA.out.cell i
    have e1 : w2.heap.size ≠ w.heap.size := by omega
    have e2 : w.heap.size ≠ w2.heap.size := by omega
    have e3 : w2.heap.size ≠ w.heap.size + 1 := by omega
    have e4 : w.heap.size + 1 ≠ w2.heap.size := by omega
    have e5 : w3.heap.size ≠ w.heap.size := by omega
    have e6 : w.heap.size ≠ w3.heap.size := by omega
    have e7 : w3.heap.size ≠ w.heap.size + 1 := by omega
    have e8 : w.heap.size + 1 ≠ w3.heap.size := by omega
    have hq9 : 0 ≤ (q3 + 1) := by omega
    have hq8 : (q3 + 1) ≤ 100000 := by omega
    go_region_held3 (fun w' => w'.cell? ⟨w2.heap.size, 0, none⟩ = some (.slice X m.own.length x) ∧ w'.cell? ⟨w2.heap.size, 1, none⟩ = some (.slice Y m.inn.length y) ∧ w'.cell? ⟨w2.heap.size, 2, none⟩ = some (.slice Z m.gs.length z) ∧ w'.cell? ⟨w3.heap.size, 0, none⟩ = some (.int .i64 d) ∧ w'.cell? ⟨w3.heap.size, 1, none⟩ = some (.int .i64 n)) (go_keep)
      (first
        | (go_at_call 87; (with_reducible refine (KV.out _ (q3 + 1) HRD.out (by omega) (by omega)).mono ?_); rintro e w6 ⟨ver, rfl, ho6⟩; have hy6 := ho6.2.1; (try simp only [World.size_drew] at hy6); have HM6 := Lib.hid (ho6.blk HM.out (by omega)); have HA6 := Lib.hid (ho6.blk HA.out (by omega)); have HB6 := Lib.hid (ho6.blk HB.out (by omega)); have HZ6 := Lib.hid (ho6.blk HZ.out (by omega)); have HP6 : Hid (MRowP (fun b => b ≠ w.heap.size ∧ b ≠ w.heap.size + 1 ∧ b ≠ w.heap.size + 1 + 1) w6 (.agg #[.slice X m.own.length x, .slice Y m.inn.length y, .slice Z m.gs.length z]) m) := Lib.hid (MRowP.only (w := w4) HP.out ho6 (fun b hb => hb.2.2)); have B6 : Below w.heap.size w w6 := Below.trans (show Below w.heap.size w w4 from HBW.out) (ho6.1.mono (by omega)); have n6 := HM6.out.lt; have c6 := (fun i => HM6.out.cell i); have na6 := HA6.out.lt; have ca6 := (fun i => HA6.out.cell i); have m6 := HB6.out.lt; have d6 := (fun i => HB6.out.cell i); have g6 := (fun i => HB6.out.frozen i); have z6 := HZ6.out.lt; have dz6 := (fun i => HZ6.out.cell i); have gz6 := (fun i => HZ6.out.frozen i); clear ho6)
        | (go_at_call 87; (with_reducible refine (KV.out _ (q3 + 1) HRD.out.drewA (by omega) (by omega)).mono ?_); rintro e w6 ⟨ver, rfl, ho6⟩; have hy6 := ho6.2.1; (try simp only [World.size_drew] at hy6); have HM6 := Lib.hid (ho6.blk (Blk.drew HM.out) (by omega)); have HA6 := Lib.hid (ho6.blk (Blk.drew HA.out) (by omega)); have HB6 := Lib.hid (ho6.blk (Blk.drew HB.out) (by omega)); have HZ6 := Lib.hid (ho6.blk (Blk.drew HZ.out) (by omega)); have HP6 : Hid (MRowP (fun b => b ≠ w.heap.size ∧ b ≠ w.heap.size + 1 ∧ b ≠ w.heap.size + 1 + 1) w6 (.agg #[.slice X m.own.length x, .slice Y m.inn.length y, .slice Z m.gs.length z]) m) := Lib.hid (MRowP.only (w := w4.drew) HP.out ho6 (fun b hb => hb.2.2)); have B6 : Below w.heap.size w w6 := Below.trans (show Below w.heap.size w w4.drew from HBW.out.drew) (ho6.1.mono (by omega)); have n6 := HM6.out.lt; have c6 := (fun i => HM6.out.cell i); have na6 := HA6.out.lt; have ca6 := (fun i => HA6.out.cell i); have m6 := HB6.out.lt; have d6 := (fun i => HB6.out.cell i); have g6 := (fun i => HB6.out.frozen i); have z6 := HZ6.out.lt; have dz6 := (fun i => HZ6.out.cell i); have gz6 := (fun i => HZ6.out.frozen i); clear ho6))
    all_goals
      have hx6 : w.heap.size < w6.heap.size := by omega
      go_wp2
      refine bodyPost_ret (v := .tuple #[.int .i64 ver, mcv X m.own.length x Y m.inn.length y Z m.gs.length z, .agg #[.int .i64 d, .int .i64 n]]) (by simp [results, Tryd.results35, go_sem, d6, dz6]) rfl ⟨ver, _, m, d, n, rfl, ?_, HS.out, belo⟩
      refine (HP6.out.of_heap (fun b _ h1 => ?_)).row
      have hb1 := h1.1
      have hb2 := h1.2.1
      repeat (first | rw [Below.heap_setCell _ _ _ _ hb1] | rw [Below.heap_setCell _ _ _ _ hb2])
end Go.Proofs.YtmhipmllpkkhjaaDoor

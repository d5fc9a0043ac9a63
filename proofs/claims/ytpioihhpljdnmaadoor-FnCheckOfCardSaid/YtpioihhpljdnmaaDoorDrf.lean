/- The draw of the law on CheckOf. -/
import Derived.Test.YtpioihhpljdnmaaDoorDre
import Derived.Deep.RegionHeld3
import Derived.Deep.CutRange
namespace Go.Proofs.YtpioihhpljdnmaaDoor
open Go.RowKit

theorem Rd.drewE {w : World} {g : Nat} {A : Option Addr} {bs : List Int} {c : Nat} {p : Int} (h : Rd w g A bs c p) : Rd w.drew g A bs c p := h
theorem Rd.allocE {w : World} {g : Nat} {A : Option Addr} {bs : List Int} {c : Nat} {p : Int} (h : Rd w g A bs c p) (o : Obj) : Rd (w.alloc o) g A bs c p :=
  ⟨h.1.alloc o, h.2.1.below (Below.alloc (Below.refl _ _) (Nat.le_refl _) _), h.2.2⟩
theorem Rd.setE {w : World} {g g2 i : Nat} {A : Option Addr} {bs : List Int} {c : Nat} {p : Int} {u : Value} (h : Rd w g A bs c p) (hne : g ≠ g2) (hr : ∀ a, A = some a → 0 < bs.length → a.block ≠ g2) : Rd (w.setCell ⟨g2, i, none⟩ u) g A bs c p := by
  refine ⟨h.1.far hne u, ?_, h.2.2⟩
  rcases h.2.1 with h0 | ⟨b, off, rfl, hc⟩
  · exact .inl h0
  · refine .inr ⟨b, off, rfl, fun k hk => ?_⟩
    exact (World.cell?_of_block (Below.heap_setCell _ _ _ _ (hr _ rfl (by omega)))).trans (hc k hk)
set_option maxRecDepth 100000 in
set_option maxHeartbeats 3200000 in
theorem DrawCheckOf_any (A : Option Addr) (bs : List Int) (c : Nat) (w : World) (hr : Row .u8 w A bs) (hb : Bytes bs) (hc : bs.length ≤ c) (hm : c ≤ maxLen) :
    Calls Tryd.prog 42 #[.slice A bs.length c] w (GotDNE w) := by
  have K := Lib.hid (fun W (h : Row .u8 W A bs) => open_any A bs c W h hb hc hm)
  have HR := Lib.hid hr
  have b0 : Blk (w.alloc (.cells #[.int .i64 0, .int .i64 0, .int .i64 0, .int .i64 0, .int .i64 0, .int .i64 0] 25)) w.heap.size 25 #[.int .i64 0, .int .i64 0, .int .i64 0, .int .i64 0, .int .i64 0, .int .i64 0] := Blk.new _ _ _
  clear hb hc hm hr
  go_enter Tryd.func42, Tryd.ntmps42
  go_wp2_with fail
  refine (K.out _ (HR.out.below belo)).mono ?_
  rintro e w1 ⟨rfl, hb1, hrd, hz⟩
  have q1 := b0.kept hb1
  have B1 : Below w.heap.size w w1 := Below.trans belo (hb1.mono belo)
  simp only [World.size_alloc] at hrd hz
  clear hb1 b0
  go_wp2_with fail
  refine (pick_any _ _ _ _ _ 3 _ hrd (by omega) (by omega) (by omega)).mono ?_
  rintro e w2 ⟨k0, h0a, h0b, rfl, hrd, ho⟩
  have B2 : Below w.heap.size w w2 := B1.trans (ho.1.mono (by omega))
  have q2 := ho.blk q1 (by omega)
  clear ho q1
  go_wp2_with fail
  refine (pick_any _ _ _ _ _ 10 _ hrd (by omega) (by omega) (by omega)).mono ?_
  rintro e w3 ⟨k1, h1a, h1b, rfl, hrd, ho⟩
  have B3 : Below w.heap.size w w3 := B2.trans (ho.1.mono (by omega))
  have q3 := ho.blk q2 (by omega)
  clear ho q2
  go_wp2_with fail
  refine (pick_any _ _ _ _ _ 2 _ hrd (by omega) (by omega) (by omega)).mono ?_
  rintro e w4 ⟨k2, h2a, h2b, rfl, hrd, ho⟩
  have B4 : Below w.heap.size w w4 := B3.trans (ho.1.mono (by omega))
  have q4 := ho.blk q3 (by omega)
  clear ho q3
  go_wp2_with fail
  refine (pick_any _ _ _ _ _ 4 _ hrd (by omega) (by omega) (by omega)).mono ?_
  rintro e w5 ⟨k3, h3a, h3b, rfl, hrd, ho⟩
  have B5 : Below w.heap.size w w5 := B4.trans (ho.1.mono (by omega))
  have q5 := ho.blk q4 (by omega)
  clear ho q4
  go_wp2_with fail
  refine (pick_any _ _ _ _ _ 250 _ hrd (by omega) (by omega) (by omega)).mono ?_
  rintro e w6 ⟨k4, h4a, h4b, rfl, hrd, ho⟩
  have B6 : Below w.heap.size w w6 := B5.trans (ho.1.mono (by omega))
  have q6 := ho.blk q5 (by omega)
  clear ho q5
  have hrow6 : ∀ a, A = some a → 0 < (bs.take 2000).length → a.block < w6.heap.size := by
    intro a ha h0
    rcases hrd.2.1 with h1 | ⟨b, off, rfl, hcc⟩
    · rw [h1] at h0; exact absurd h0 (by simp)
    · injection ha with ha
      subst ha
      exact World.block_lt_of_cell? _ _ (hcc 0 h0)
  have hl6 : w.heap.size + 1 < w6.heap.size := by have := hrd.1.lt; omega
  have e6 := Blk.new w6 25 #[.int .i64 k0, .int .i64 k1, .int .i64 k2, .int .i64 k3, .int .i64 (3 * k4), .int .i64 0]
  have hrd := hrd.allocE (.cells #[.int .i64 k0, .int .i64 k1, .int .i64 k2, .int .i64 k3, .int .i64 (3 * k4), .int .i64 0] 25)
  have q6 := q6.alloc (.cells #[.int .i64 k0, .int .i64 k1, .int .i64 k2, .int .i64 k3, .int .i64 (3 * k4), .int .i64 0] 25)
  have hB6 : Below w.heap.size w (w6.alloc (.cells #[.int .i64 k0, .int .i64 k1, .int .i64 k2, .int .i64 k3, .int .i64 (3 * k4), .int .i64 0] 25)) := belo
  go_wp2_with fail
  refine (odd_any _ _ _ _ _ 14 _ hrd (by omega) (by omega) (by omega)).mono ?_
  rintro e w7 ⟨r, q, rfl, hq0, hq1, hrd, ho⟩
  have e7 := ho.blk e6 (by omega)
  have q7 := ho.blk q6 (by omega)
  have B7 : Below w.heap.size w w7 := hB6.trans (ho.1.mono (by omega))
  have l7 := e7.lt
  clear ho e6 q6
  cases r
  · have HE := Lib.hid e7
    have HQ := Lib.hid q7
    have HRD := Lib.hid hrd
    have BW := B7
    clear e7 q7 hrd B7
    go_upto_region 5 with fail
    skip
    have hszW : w7.heap.size = w7.heap.size := by first | rfl | simp
    generalize w7 = wv at *
    have KA := Lib.hid (fun W (h : Rd W (w.heap.size + 1) A (bs.take 2000) c q) => pick_any _ _ _ _ q 250 W h (by omega) (by omega) (by omega))
    have KB := Lib.hid (fun W (h : Rd W (w.heap.size + 1) A (bs.take 2000) c (q + 1)) => pick_any _ _ _ _ (q + 1) 20 W h (by omega) (by omega) (by omega))
    have hSH : Hid (∀ w', Blk w' w6.heap.size 25 #[.int .i64 k0, .int .i64 k1, .int .i64 k2, .int .i64 k3, .int .i64 (3 * k4), .int .i64 0] → (∀ i : Nat, w'.cell? ⟨w6.heap.size, i, none⟩ = (#[.int .i64 k0, .int .i64 k1, .int .i64 k2, .int .i64 k3, .int .i64 (3 * k4), .int .i64 0] : Array Value)[i]?) ∧ True ∧ True) := Lib.hid (fun w' h => ⟨fun i => h.cell i, trivial, trivial⟩)
    refine wp_region_held_drew (S := fun w' => (∀ i : Nat, w'.cell? ⟨w6.heap.size, i, none⟩ = (#[.int .i64 k0, .int .i64 k1, .int .i64 k2, .int .i64 k3, .int .i64 (3 * k4), .int .i64 0] : Array Value)[i]?) ∧ True ∧ True) (by kernel_rfl) (hSH.out _ HE.out) (fun hHeld => ?_)
    refine wpAnyH_take (i := 0) (v := ?_) rfl (by kernel_rfl) (by kernel_rfl) (by kernel_rfl) (fun _ _ _ h => h) (Or.inl ⟨by kernel_rfl, ?_⟩) (by assumption) ?_
    rotate_left
    · (intro w hSw; (try dsimp only at hSw); (try (obtain ⟨hSw1, hSw2, hSw3⟩ := hSw)); go_simp; try (with_reducible rfl))
    try simp only [List.getElem_toArray, List.getElem_cons_zero, Act.put, List.setIfInBounds_toArray, List.set_cons_zero, List.set_cons_succ]
    refine wpAnyH_take (i := 3) (v := ?_) rfl (by kernel_rfl) (by kernel_rfl) (by kernel_rfl) (fun _ _ _ h => h) (Or.inl ⟨by kernel_rfl, ?_⟩) (by assumption) ?_
    rotate_left
    · (intro w hSw; (try dsimp only at hSw); (try (obtain ⟨hSw1, hSw2, hSw3⟩ := hSw)); go_simp; try (with_reducible rfl))
    try simp only [List.getElem_toArray, List.getElem_cons_succ, List.getElem_cons_zero, Act.put, List.setIfInBounds_toArray, List.set_cons_zero, List.set_cons_succ]
    refine wpAnyH_take (i := 8) (v := ?_) rfl (by kernel_rfl) (by kernel_rfl) (by kernel_rfl) (fun _ _ _ h => h) (Or.inl ⟨by kernel_rfl, ?_⟩) (by assumption) ?_
    rotate_left
    · (intro w hSw; (try dsimp only at hSw); (try (obtain ⟨hSw1, hSw2, hSw3⟩ := hSw)); go_simp; try (with_reducible rfl))
    try simp only [List.getElem_toArray, List.getElem_cons_succ, List.getElem_cons_zero, Act.put, List.setIfInBounds_toArray, List.set_cons_zero, List.set_cons_succ]
    refine wpAnyH_ready (rs := [1]) (by kernel_rfl) (by simp) ?_
    refine AllReadyH.cons rfl (fun K hK => ?_) AllReadyH.nil
    go_simp
    refine (KA.out _ HRD.out.drewE).mono ?_
    rintro e wa ⟨ka, ha0, ha1, rfl, rda, oa⟩
    have EA := Lib.hid (oa.blk (Blk.drew HE.out) (by omega))
    have QA := Lib.hid (oa.blk (Blk.drew HQ.out) (by omega))
    have BA : Below w.heap.size w wa := Below.trans (Below.drew BW) (oa.1.mono (by omega))
    have RA := Lib.hid rda
    clear oa rda
    go_simp
    refine hK.out _ _ (hSH.out _ EA.out) (fun hHeld => ?_)
    clear hK K
    try simp only [List.getElem_toArray, List.getElem_cons_succ, List.getElem_cons_zero, Act.put, List.setIfInBounds_toArray, List.set_cons_zero, List.set_cons_succ]
    refine wpAnyH_take (i := 2) (v := ?_) rfl (by kernel_rfl) (by kernel_rfl) (by kernel_rfl) (fun _ _ _ h => h) (Or.inl ⟨by kernel_rfl, ?_⟩) (by assumption) ?_
    rotate_left
    · (intro w hSw; (try dsimp only at hSw); (try (obtain ⟨hSw1, hSw2, hSw3⟩ := hSw)); go_simp; try (with_reducible rfl))
    try simp only [List.getElem_toArray, List.getElem_cons_succ, List.getElem_cons_zero, Act.put, List.setIfInBounds_toArray, List.set_cons_zero, List.set_cons_succ]
    refine wpAnyH_ready (rs := [4]) (by kernel_rfl) (by simp) ?_
    refine AllReadyH.cons rfl (fun K hK => ?_) AllReadyH.nil
    go_simp
    refine (KB.out _ RA.out).mono ?_
    rintro e wb ⟨kb, hb0, hb1, rfl, rdb, ob⟩
    have EB := Lib.hid (ob.blk EA.out (by omega))
    have QB := Lib.hid (ob.blk QA.out (by omega))
    have BB : Below w.heap.size w wb := BA.trans (ob.1.mono (by omega))
    clear ob rdb
    go_simp
    refine hK.out _ _ (hSH.out _ EB.out) (fun hHeld => ?_)
    clear hK K
    try simp only [List.getElem_toArray, List.getElem_cons_succ, List.getElem_cons_zero, Act.put, List.setIfInBounds_toArray, List.set_cons_zero, List.set_cons_succ]
    refine wpAnyH_take (i := 5) (v := ?_) rfl (by kernel_rfl) (by kernel_rfl) (by kernel_rfl) (fun _ _ _ h => h) (Or.inl ⟨by kernel_rfl, ?_⟩) (by assumption) ?_
    rotate_left
    · (intro w hSw; (try dsimp only at hSw); (try (obtain ⟨hSw1, hSw2, hSw3⟩ := hSw)); go_simp; try (with_reducible rfl))
    try simp only [List.getElem_toArray, List.getElem_cons_succ, List.getElem_cons_zero, Act.put, List.setIfInBounds_toArray, List.set_cons_zero, List.set_cons_succ]
    refine wpAnyH_take (i := 6) (v := ?_) rfl (by kernel_rfl) (by kernel_rfl) (by kernel_rfl) (fun _ _ _ h => h) (Or.inl ⟨by kernel_rfl, ?_⟩) (by assumption) ?_
    rotate_left
    · (intro w hSw; (try dsimp only at hSw); (try (obtain ⟨hSw1, hSw2, hSw3⟩ := hSw)); go_simp; try (with_reducible rfl))
    try simp only [List.getElem_toArray, List.getElem_cons_succ, List.getElem_cons_zero, Act.put, List.setIfInBounds_toArray, List.set_cons_zero, List.set_cons_succ]
    refine wpAnyH_take (i := 7) (v := ?_) rfl (by kernel_rfl) (by kernel_rfl) (by kernel_rfl) (fun _ _ _ h => h) (Or.inl ⟨by kernel_rfl, ?_⟩) (by assumption) ?_
    rotate_left
    · (intro w hSw; (try dsimp only at hSw); (try (obtain ⟨hSw1, hSw2, hSw3⟩ := hSw)); go_simp; try (with_reducible rfl))
    try simp only [List.getElem_toArray, List.getElem_cons_succ, List.getElem_cons_zero, Act.put, List.setIfInBounds_toArray, List.set_cons_zero, List.set_cons_succ]
    refine wpAnyH_take (i := 9) (v := ?_) rfl (by kernel_rfl) (by kernel_rfl) (by kernel_rfl) (fun _ _ _ h => h) (Or.inl ⟨by kernel_rfl, ?_⟩) (by assumption) ?_
    rotate_left
    · (intro w hSw; (try dsimp only at hSw); (try (obtain ⟨hSw1, hSw2, hSw3⟩ := hSw)); go_simp; try (with_reducible rfl))
    try simp only [List.getElem_toArray, List.getElem_cons_succ, List.getElem_cons_zero, Act.put, List.setIfInBounds_toArray, List.set_cons_zero, List.set_cons_succ]
    have y0 := QB.out.cell 0
    have y1 := QB.out.cell 1
    have y2 := QB.out.cell 2
    have y3 := QB.out.cell 3
    have y4 := QB.out.cell 4
    have y5 := QB.out.cell 5
    have yf := fun i => QB.out.frozen i
    have yl := QB.out.lt
    simp only [List.getElem?_toArray, List.getElem?_cons_succ, List.getElem?_cons_zero] at y0 y1 y2 y3 y4 y5
    have HF := Lib.hid ((((((QB.out.set_ 0 (.int .i64 k0)).set_ 1 (.int .i64 k1)).set_ 2 (.int .i64 k2)).set_ 3 (.int .i64 k3)).set_ 4 (.int .i64 (3 * k4))).set_ 5 (.int .i64 0))
    have hne6 : w6.heap.size ≠ w.heap.size := by omega
    have HFE : Hid (Blk ((((((wb.setCell ⟨w.heap.size, 0, none⟩ (.int .i64 k0)).setCell ⟨w.heap.size, 1, none⟩ (.int .i64 k1)).setCell ⟨w.heap.size, 2, none⟩ (.int .i64 k2)).setCell ⟨w.heap.size, 3, none⟩ (.int .i64 k3)).setCell ⟨w.heap.size, 4, none⟩ (.int .i64 (3 * k4))).setCell ⟨w.heap.size, 5, none⟩ (.int .i64 0)) w6.heap.size 25 #[.int .i64 k0, .int .i64 k1, .int .i64 k2, .int .i64 k3, .int .i64 (3 * k4), .int .i64 0]) := Lib.hid (Blk.far (p := ⟨w.heap.size, 5, none⟩) (Blk.far (p := ⟨w.heap.size, 4, none⟩) (Blk.far (p := ⟨w.heap.size, 3, none⟩) (Blk.far (p := ⟨w.heap.size, 2, none⟩) (Blk.far (p := ⟨w.heap.size, 1, none⟩) (Blk.far (p := ⟨w.heap.size, 0, none⟩) EB.out hne6 (.int .i64 k0)) hne6 (.int .i64 k1)) hne6 (.int .i64 k2)) hne6 (.int .i64 k3)) hne6 (.int .i64 (3 * k4))) hne6 (.int .i64 0))
    have BF : Below w.heap.size w ((((((wb.setCell ⟨w.heap.size, 0, none⟩ (.int .i64 k0)).setCell ⟨w.heap.size, 1, none⟩ (.int .i64 k1)).setCell ⟨w.heap.size, 2, none⟩ (.int .i64 k2)).setCell ⟨w.heap.size, 3, none⟩ (.int .i64 k3)).setCell ⟨w.heap.size, 4, none⟩ (.int .i64 (3 * k4))).setCell ⟨w.heap.size, 5, none⟩ (.int .i64 0)) := belo
    refine wpAnyH_ready (rs := [10]) (by kernel_rfl) (by simp) ?_
    refine AllReadyH.cons rfl (fun K hK => ?_) AllReadyH.nil
    go_simp
    refine hK.out _ _ (hSH.out _ HFE.out) (fun hHeld => ?_)
    clear hK K
    try simp only [List.getElem_toArray, List.getElem_cons_succ, List.getElem_cons_zero, Act.put, List.setIfInBounds_toArray, List.set_cons_zero, List.set_cons_succ]
    refine wpAnyH_done (by kernel_rfl) ?_ _
    clear y0 y1 y2 y3 y4 y5 yf yl
    generalize ((((((wb.setCell ⟨w.heap.size, 0, none⟩ (.int .i64 k0)).setCell ⟨w.heap.size, 1, none⟩ (.int .i64 k1)).setCell ⟨w.heap.size, 2, none⟩ (.int .i64 k2)).setCell ⟨w.heap.size, 3, none⟩ (.int .i64 k3)).setCell ⟨w.heap.size, 4, none⟩ (.int .i64 (3 * k4))).setCell ⟨w.heap.size, 5, none⟩ (.int .i64 0)) = wf at *
    have z := fun i => HF.out.cell i
    go_wp2
    refine bodyPost_ret (v := .tuple #[.int .i64 (IntKind.i64.wrap (IntKind.i64.wrap (4 * ka) - IntKind.i64.wrap (IntKind.i64.wrap (kb.tdiv 19) * 1000))), .agg #[.int .i64 k0, .int .i64 k1, .int .i64 k2, .int .i64 k3, .int .i64 (3 * k4), .int .i64 0]]) (by simp [results, Tryd.results42, go_sem, z]) rfl ⟨_, ⟨k0, k1, k2, k3, 3 * k4, 0⟩, rfl, BF⟩
  · have HE := Lib.hid (e7.set_ 1 (.int .i64 10))
    have HQ := Lib.hid (q7.far (p := ⟨w6.heap.size, 1, none⟩) (show w.heap.size ≠ w6.heap.size by omega) (.int .i64 10))
    have HRD := Lib.hid (hrd.setE (g2 := w6.heap.size) (i := 1) (u := .int .i64 10) (by omega) (fun a h1 h2 => by have := hrow6 a h1 h2; omega))
    have BW : Below w.heap.size w (w7.setCell ⟨w6.heap.size, 1, none⟩ (.int .i64 10)) := belo
    have x1 := e7.cell 1
    have f1 := e7.frozen 1
    simp only [List.getElem?_toArray, List.getElem?_cons_succ, List.getElem?_cons_zero] at x1
    clear e7 q7 hrd B7
    go_upto_region 5 with fail
    clear x1 f1
    have hszW : (w7.setCell ⟨w6.heap.size, 1, none⟩ (.int .i64 10)).heap.size = w7.heap.size := by first | rfl | simp
    generalize (w7.setCell ⟨w6.heap.size, 1, none⟩ (.int .i64 10)) = wv at *
    have KA := Lib.hid (fun W (h : Rd W (w.heap.size + 1) A (bs.take 2000) c q) => pick_any _ _ _ _ q 250 W h (by omega) (by omega) (by omega))
    have KB := Lib.hid (fun W (h : Rd W (w.heap.size + 1) A (bs.take 2000) c (q + 1)) => pick_any _ _ _ _ (q + 1) 20 W h (by omega) (by omega) (by omega))
    have hSH : Hid (∀ w', Blk w' w6.heap.size 25 #[.int .i64 k0, .int .i64 10, .int .i64 k2, .int .i64 k3, .int .i64 (3 * k4), .int .i64 0] → (∀ i : Nat, w'.cell? ⟨w6.heap.size, i, none⟩ = (#[.int .i64 k0, .int .i64 10, .int .i64 k2, .int .i64 k3, .int .i64 (3 * k4), .int .i64 0] : Array Value)[i]?) ∧ True ∧ True) := Lib.hid (fun w' h => ⟨fun i => h.cell i, trivial, trivial⟩)
    refine wp_region_held_drew (S := fun w' => (∀ i : Nat, w'.cell? ⟨w6.heap.size, i, none⟩ = (#[.int .i64 k0, .int .i64 10, .int .i64 k2, .int .i64 k3, .int .i64 (3 * k4), .int .i64 0] : Array Value)[i]?) ∧ True ∧ True) (by kernel_rfl) (hSH.out _ HE.out) (fun hHeld => ?_)
    refine wpAnyH_take (i := 0) (v := ?_) rfl (by kernel_rfl) (by kernel_rfl) (by kernel_rfl) (fun _ _ _ h => h) (Or.inl ⟨by kernel_rfl, ?_⟩) (by assumption) ?_
    rotate_left
    · (intro w hSw; (try dsimp only at hSw); (try (obtain ⟨hSw1, hSw2, hSw3⟩ := hSw)); go_simp; try (with_reducible rfl))
    try simp only [List.getElem_toArray, List.getElem_cons_zero, Act.put, List.setIfInBounds_toArray, List.set_cons_zero, List.set_cons_succ]
    refine wpAnyH_take (i := 3) (v := ?_) rfl (by kernel_rfl) (by kernel_rfl) (by kernel_rfl) (fun _ _ _ h => h) (Or.inl ⟨by kernel_rfl, ?_⟩) (by assumption) ?_
    rotate_left
    · (intro w hSw; (try dsimp only at hSw); (try (obtain ⟨hSw1, hSw2, hSw3⟩ := hSw)); go_simp; try (with_reducible rfl))
    try simp only [List.getElem_toArray, List.getElem_cons_succ, List.getElem_cons_zero, Act.put, List.setIfInBounds_toArray, List.set_cons_zero, List.set_cons_succ]
    refine wpAnyH_take (i := 8) (v := ?_) rfl (by kernel_rfl) (by kernel_rfl) (by kernel_rfl) (fun _ _ _ h => h) (Or.inl ⟨by kernel_rfl, ?_⟩) (by assumption) ?_
    rotate_left
    · (intro w hSw; (try dsimp only at hSw); (try (obtain ⟨hSw1, hSw2, hSw3⟩ := hSw)); go_simp; try (with_reducible rfl))
    try simp only [List.getElem_toArray, List.getElem_cons_succ, List.getElem_cons_zero, Act.put, List.setIfInBounds_toArray, List.set_cons_zero, List.set_cons_succ]
    refine wpAnyH_ready (rs := [1]) (by kernel_rfl) (by simp) ?_
    refine AllReadyH.cons rfl (fun K hK => ?_) AllReadyH.nil
    go_simp
    refine (KA.out _ HRD.out.drewE).mono ?_
    rintro e wa ⟨ka, ha0, ha1, rfl, rda, oa⟩
    have EA := Lib.hid (oa.blk (Blk.drew HE.out) (by omega))
    have QA := Lib.hid (oa.blk (Blk.drew HQ.out) (by omega))
    have BA : Below w.heap.size w wa := Below.trans (Below.drew BW) (oa.1.mono (by omega))
    have RA := Lib.hid rda
    clear oa rda
    go_simp
    refine hK.out _ _ (hSH.out _ EA.out) (fun hHeld => ?_)
    clear hK K
    try simp only [List.getElem_toArray, List.getElem_cons_succ, List.getElem_cons_zero, Act.put, List.setIfInBounds_toArray, List.set_cons_zero, List.set_cons_succ]
    refine wpAnyH_take (i := 2) (v := ?_) rfl (by kernel_rfl) (by kernel_rfl) (by kernel_rfl) (fun _ _ _ h => h) (Or.inl ⟨by kernel_rfl, ?_⟩) (by assumption) ?_
    rotate_left
    · (intro w hSw; (try dsimp only at hSw); (try (obtain ⟨hSw1, hSw2, hSw3⟩ := hSw)); go_simp; try (with_reducible rfl))
    try simp only [List.getElem_toArray, List.getElem_cons_succ, List.getElem_cons_zero, Act.put, List.setIfInBounds_toArray, List.set_cons_zero, List.set_cons_succ]
    refine wpAnyH_ready (rs := [4]) (by kernel_rfl) (by simp) ?_
    refine AllReadyH.cons rfl (fun K hK => ?_) AllReadyH.nil
    go_simp
    refine (KB.out _ RA.out).mono ?_
    rintro e wb ⟨kb, hb0, hb1, rfl, rdb, ob⟩
    have EB := Lib.hid (ob.blk EA.out (by omega))
    have QB := Lib.hid (ob.blk QA.out (by omega))
    have BB : Below w.heap.size w wb := BA.trans (ob.1.mono (by omega))
    clear ob rdb
    go_simp
    refine hK.out _ _ (hSH.out _ EB.out) (fun hHeld => ?_)
    clear hK K
    try simp only [List.getElem_toArray, List.getElem_cons_succ, List.getElem_cons_zero, Act.put, List.setIfInBounds_toArray, List.set_cons_zero, List.set_cons_succ]
    refine wpAnyH_take (i := 5) (v := ?_) rfl (by kernel_rfl) (by kernel_rfl) (by kernel_rfl) (fun _ _ _ h => h) (Or.inl ⟨by kernel_rfl, ?_⟩) (by assumption) ?_
    rotate_left
    · (intro w hSw; (try dsimp only at hSw); (try (obtain ⟨hSw1, hSw2, hSw3⟩ := hSw)); go_simp; try (with_reducible rfl))
    try simp only [List.getElem_toArray, List.getElem_cons_succ, List.getElem_cons_zero, Act.put, List.setIfInBounds_toArray, List.set_cons_zero, List.set_cons_succ]
    refine wpAnyH_take (i := 6) (v := ?_) rfl (by kernel_rfl) (by kernel_rfl) (by kernel_rfl) (fun _ _ _ h => h) (Or.inl ⟨by kernel_rfl, ?_⟩) (by assumption) ?_
    rotate_left
    · (intro w hSw; (try dsimp only at hSw); (try (obtain ⟨hSw1, hSw2, hSw3⟩ := hSw)); go_simp; try (with_reducible rfl))
    try simp only [List.getElem_toArray, List.getElem_cons_succ, List.getElem_cons_zero, Act.put, List.setIfInBounds_toArray, List.set_cons_zero, List.set_cons_succ]
    refine wpAnyH_take (i := 7) (v := ?_) rfl (by kernel_rfl) (by kernel_rfl) (by kernel_rfl) (fun _ _ _ h => h) (Or.inl ⟨by kernel_rfl, ?_⟩) (by assumption) ?_
    rotate_left
    · (intro w hSw; (try dsimp only at hSw); (try (obtain ⟨hSw1, hSw2, hSw3⟩ := hSw)); go_simp; try (with_reducible rfl))
    try simp only [List.getElem_toArray, List.getElem_cons_succ, List.getElem_cons_zero, Act.put, List.setIfInBounds_toArray, List.set_cons_zero, List.set_cons_succ]
    refine wpAnyH_take (i := 9) (v := ?_) rfl (by kernel_rfl) (by kernel_rfl) (by kernel_rfl) (fun _ _ _ h => h) (Or.inl ⟨by kernel_rfl, ?_⟩) (by assumption) ?_
    rotate_left
    · (intro w hSw; (try dsimp only at hSw); (try (obtain ⟨hSw1, hSw2, hSw3⟩ := hSw)); go_simp; try (with_reducible rfl))
    try simp only [List.getElem_toArray, List.getElem_cons_succ, List.getElem_cons_zero, Act.put, List.setIfInBounds_toArray, List.set_cons_zero, List.set_cons_succ]
    have y0 := QB.out.cell 0
    have y1 := QB.out.cell 1
    have y2 := QB.out.cell 2
    have y3 := QB.out.cell 3
    have y4 := QB.out.cell 4
    have y5 := QB.out.cell 5
    have yf := fun i => QB.out.frozen i
    have yl := QB.out.lt
    simp only [List.getElem?_toArray, List.getElem?_cons_succ, List.getElem?_cons_zero] at y0 y1 y2 y3 y4 y5
    have HF := Lib.hid ((((((QB.out.set_ 0 (.int .i64 k0)).set_ 1 (.int .i64 10)).set_ 2 (.int .i64 k2)).set_ 3 (.int .i64 k3)).set_ 4 (.int .i64 (3 * k4))).set_ 5 (.int .i64 0))
    have hne6 : w6.heap.size ≠ w.heap.size := by omega
    have HFE : Hid (Blk ((((((wb.setCell ⟨w.heap.size, 0, none⟩ (.int .i64 k0)).setCell ⟨w.heap.size, 1, none⟩ (.int .i64 10)).setCell ⟨w.heap.size, 2, none⟩ (.int .i64 k2)).setCell ⟨w.heap.size, 3, none⟩ (.int .i64 k3)).setCell ⟨w.heap.size, 4, none⟩ (.int .i64 (3 * k4))).setCell ⟨w.heap.size, 5, none⟩ (.int .i64 0)) w6.heap.size 25 #[.int .i64 k0, .int .i64 10, .int .i64 k2, .int .i64 k3, .int .i64 (3 * k4), .int .i64 0]) := Lib.hid (Blk.far (p := ⟨w.heap.size, 5, none⟩) (Blk.far (p := ⟨w.heap.size, 4, none⟩) (Blk.far (p := ⟨w.heap.size, 3, none⟩) (Blk.far (p := ⟨w.heap.size, 2, none⟩) (Blk.far (p := ⟨w.heap.size, 1, none⟩) (Blk.far (p := ⟨w.heap.size, 0, none⟩) EB.out hne6 (.int .i64 k0)) hne6 (.int .i64 10)) hne6 (.int .i64 k2)) hne6 (.int .i64 k3)) hne6 (.int .i64 (3 * k4))) hne6 (.int .i64 0))
    have BF : Below w.heap.size w ((((((wb.setCell ⟨w.heap.size, 0, none⟩ (.int .i64 k0)).setCell ⟨w.heap.size, 1, none⟩ (.int .i64 10)).setCell ⟨w.heap.size, 2, none⟩ (.int .i64 k2)).setCell ⟨w.heap.size, 3, none⟩ (.int .i64 k3)).setCell ⟨w.heap.size, 4, none⟩ (.int .i64 (3 * k4))).setCell ⟨w.heap.size, 5, none⟩ (.int .i64 0)) := belo
    refine wpAnyH_ready (rs := [10]) (by kernel_rfl) (by simp) ?_
    refine AllReadyH.cons rfl (fun K hK => ?_) AllReadyH.nil
    go_simp
    refine hK.out _ _ (hSH.out _ HFE.out) (fun hHeld => ?_)
    clear hK K
    try simp only [List.getElem_toArray, List.getElem_cons_succ, List.getElem_cons_zero, Act.put, List.setIfInBounds_toArray, List.set_cons_zero, List.set_cons_succ]
    refine wpAnyH_done (by kernel_rfl) ?_ _
    clear y0 y1 y2 y3 y4 y5 yf yl
    generalize ((((((wb.setCell ⟨w.heap.size, 0, none⟩ (.int .i64 k0)).setCell ⟨w.heap.size, 1, none⟩ (.int .i64 10)).setCell ⟨w.heap.size, 2, none⟩ (.int .i64 k2)).setCell ⟨w.heap.size, 3, none⟩ (.int .i64 k3)).setCell ⟨w.heap.size, 4, none⟩ (.int .i64 (3 * k4))).setCell ⟨w.heap.size, 5, none⟩ (.int .i64 0)) = wf at *
    have z := fun i => HF.out.cell i
    go_wp2
    refine bodyPost_ret (v := .tuple #[.int .i64 (IntKind.i64.wrap (IntKind.i64.wrap (4 * ka) - IntKind.i64.wrap (IntKind.i64.wrap (kb.tdiv 19) * 1000))), .agg #[.int .i64 k0, .int .i64 10, .int .i64 k2, .int .i64 k3, .int .i64 (3 * k4), .int .i64 0]]) (by simp [results, Tryd.results42, go_sem, z]) rfl ⟨_, ⟨k0, 10, k2, k3, 3 * k4, 0⟩, rfl, BF⟩

end Go.Proofs.YtpioihhpljdnmaaDoor

/- The program's entry of an act without its check. -/
import Derived.Test.YtnoccmghclmpnaaDoorWri
import Derived.Test.YtnoccmghclmpnaaDoorEn
import Derived.Test.YtnoccmghclmpnaaDoorPu
import Derived.Deep.RegionHeld3
import Derived.Deep.CutRange
namespace Go.Proofs.YtnoccmghclmpnaaDoor
open Go.RowKit

set_option maxRecDepth 100000 in
theorem value_ex (a b c d : Int) (w : World) (hT : Worths w) :
    Calls Tryd.prog 60 #[pv a b c d] w fun e w' => ∃ v : Int, e = .returned (.int .i64 v) ∧ Below w.heap.size w w' := by
  obtain ⟨t0, t1, t2, t3⟩ := hT
  have hz : 0 < w.heap.size := World.block_lt_of_cell? w _ t0
  have i0 := index0 a b c d
  have i1 := index1 a b c d
  have i2 := index2 a b c d
  have i3 := index3 a b c d
  go_enter Tryd.func60, Tryd.ntmps60
  go_wp2
  refine wp_loop_rounds 5 ?_
  rw [rounds_succ]
  go_wp2
  rw [rounds_succ]
  go_wp2
  rw [rounds_succ]
  go_wp2
  rw [rounds_succ]
  go_wp2
  rw [rounds_succ]
  go_wp2
  go_ret
  exact ⟨_, rfl, (Below.refl _ _).alloc (Nat.le_refl _) _⟩
/-- The coins' value: of what is a purse, or nothing, its worth; else some number. -/
theorem out_value (xs : List Int) (w : World) (hT : Worths w) :
    Calls Tryd.prog 60 #[pv (nth xs 0) (nth xs 1) (nth xs 2) (nth xs 3)] w fun e w' => ∃ v : Int, (outOk xs = true → v = valueOf xs) ∧ e = .returned (.int .i64 v) ∧ Below w.heap.size w w' := by
  by_cases h : outOk xs = true
  · obtain ⟨⟨b0, b1, b2, b3⟩, _⟩ := out_bnd h
    refine (value_any _ _ _ _ w hT b0 b1 b2 b3).mono ?_
    rintro e w' ⟨rfl, hb⟩
    exact ⟨_, fun _ => rfl, rfl, hb⟩
  · refine (value_ex _ _ _ _ w hT).mono ?_
    rintro e w' ⟨v, rfl, hb⟩
    exact ⟨v, fun k => absurd k h, rfl, hb⟩
/-- What comes back: the entry and true, or some entry and false. -/
def GotU (w : World) (a : Ac) (r : Rs) (e : Ending) (w' : World) : Prop :=
  ∃ f : En, e = .returned (.tuple #[.agg #[.int .i64 f.d, .int .i64 f.n, .int .i64 f.x, .int .i64 f.p, .int .i64 f.a, .int .i64 f.c], .bool (decide (wOk a r))]) ∧ (wOk a r → f = entU a r) ∧ Below w.heap.size w w'
set_option maxRecDepth 100000 in
set_option maxHeartbeats 6400000 in
theorem unchecked_any (a : Ac) (r : Rs) (A : Option Addr) (c : Nat) (w : World) (hr : Row .i64 w A r.out) (hl : r.out.length ≤ 1048576) (hT : Worths w) (hg : Greats w) :
    Calls Tryd.prog 50 #[.agg #[.int .i64 a.d, .int .i64 a.n], .agg #[.bool r.done, .int .i64 r.piece, .slice A r.out.length c]] w (GotU w a r) := by
  have KC := Lib.hid (fun W (h : Row .i64 W A r.out) => coinsOut_any r A c W h hl)
  have KV := Lib.hid (fun W h => out_value r.out W h)
  have HR := Lib.hid hr
  have HT := Lib.hid hT
  have HG := Lib.hid hg
  have h0 := hT.pos
  have hz := hg.pos
  obtain ⟨ok, hok⟩ : ∃ ok, ok = outOk r.out := ⟨_, rfl⟩
  rw [← hok] at KC KV
  have HOK := Lib.hid hok
  clear hr hT hg hok hl
  obtain ⟨d, n⟩ := a
  obtain ⟨done, piece, out⟩ := r
  dsimp only at *
  generalize nth out 0 = p0 at *
  generalize nth out 1 = p1 at *
  generalize nth out 2 = p2 at *
  generalize nth out 3 = p3 at *
  generalize hlen : out.length = m at *
  clear hlen
  have HA := Lib.hid (((Blk.new w 86 #[.int .i64 d, .int .i64 n]).alloc (.cells #[.bool done, .int .i64 piece, .slice A m c] 90)).alloc (.cells #[.int .i64 0, .int .i64 0, .int .i64 0, .int .i64 0, .int .i64 0, .int .i64 0] 34))
  go_enter Tryd.func50, Tryd.ntmps50
  go_wp2_with fail
  refine (KC.out _ (HR.out.below belo)).mono ?_
  rintro e w1 ⟨rfl, b1⟩
  have B1 : Below w.heap.size w w1 := Below.trans belo (b1.mono belo)
  have z1 := B1.size
  have Q0 := HA.out.kept b1
  have R1 : Blk w1 (w.heap.size + 1) 90 #[.bool done, .int .i64 piece, .slice A m c] := by
    refine Blk.kept (Blk.alloc ?_ _) b1
    have q := Blk.new (w.alloc (.cells #[.int .i64 d, .int .i64 n] 86)) 90 #[.bool done, .int .i64 piece, .slice A m c]
    rwa [World.size_alloc] at q
  have E1 : Blk w1 (w.heap.size + 1 + 1) 34 #[.int .i64 0, .int .i64 0, .int .i64 0, .int .i64 0, .int .i64 0, .int .i64 0] := by
    refine Blk.kept ?_ b1
    have q := Blk.new ((w.alloc (.cells #[.int .i64 d, .int .i64 n] 86)).alloc (.cells #[.bool done, .int .i64 piece, .slice A m c] 90)) 34 #[.int .i64 0, .int .i64 0, .int .i64 0, .int .i64 0, .int .i64 0, .int .i64 0]
    rwa [World.size_alloc, World.size_alloc] at q
  have lE := E1.lt
  have Q2 := Lib.hid (Q0.alloc (.cells #[.int .i64 p0, .int .i64 p1, .int .i64 p2, .int .i64 p3] 69))
  have R2 := Lib.hid (R1.alloc (.cells #[.int .i64 p0, .int .i64 p1, .int .i64 p2, .int .i64 p3] 69))
  have E2 := Lib.hid (E1.alloc (.cells #[.int .i64 p0, .int .i64 p1, .int .i64 p2, .int .i64 p3] 69))
  have O2 := Lib.hid (Blk.new w1 69 #[.int .i64 p0, .int .i64 p1, .int .i64 p2, .int .i64 p3])
  have hB2 : Below w.heap.size w (w1.alloc (.cells #[.int .i64 p0, .int .i64 p1, .int .i64 p2, .int .i64 p3] 69)) := belo
  have hs2 : (w1.alloc (.cells #[.int .i64 p0, .int .i64 p1, .int .i64 p2, .int .i64 p3] 69)).heap.size = w1.heap.size + 1 := by simp
  clear b1 Q0 R1 E1
  go_upto_region 2 with fail
  generalize w1.alloc (.cells #[.int .i64 p0, .int .i64 p1, .int .i64 p2, .int .i64 p3] 69) = wq at *
  go_cut [8] from 14 to 22 (fun s8 wx => ∃ (g8 : Nat) (v : Int), s8 = .pointer (some ⟨g8, 0, none⟩) ∧ Blk wx g8 34 #[.int .i64 d, .int .i64 n, .int .i64 0, .int .i64 piece, .int .i64 v, .int .i64 0] ∧ wq.heap.size ≤ g8 ∧ Blk wx (w.heap.size + 1) 90 #[.bool done, .int .i64 piece, .slice A m c] ∧ Blk wx (w.heap.size + 1 + 1) 34 #[.int .i64 0, .int .i64 0, .int .i64 0, .int .i64 0, .int .i64 0, .int .i64 0] ∧ Hid (ok = true → v = valueOf out) ∧ Below w.heap.size w wx)
  case first =>
    have a0 := Q2.out.cell 0
    have a1 := Q2.out.cell 1
    have r0 := R2.out.cell 0
    have r1 := R2.out.cell 1
    have r2 := R2.out.cell 2
    have x0 := O2.out.cell 0
    have x1 := O2.out.cell 1
    have x2 := O2.out.cell 2
    have x3 := O2.out.cell 3
    simp only [List.getElem?_toArray, List.getElem?_cons_succ, List.getElem?_cons_zero] at a0 a1 r0 r1 r2 x0 x1 x2 x3
    have la : w.heap.size < wq.heap.size := by omega
    have lb : w.heap.size + 1 < wq.heap.size := by omega
    have lc : w1.heap.size < wq.heap.size := by omega
    have hszq : w.heap.size ≤ wq.heap.size := by omega
    have la' : w.heap.size < wq.heap.size + 1 := by omega
    have lb' : w.heap.size + 1 < wq.heap.size + 1 := by omega
    have lb2 : w.heap.size < wq.heap.size := by omega
    have lc' : w1.heap.size < wq.heap.size + 1 := by omega
    have nq0 : ¬ w.heap.size = wq.heap.size := by omega
    have mq0 : ¬ wq.heap.size = w.heap.size := by omega
    have kq0 : w.heap.size < wq.heap.size := by omega
    have nq1 : ¬ w.heap.size + 1 = wq.heap.size := by omega
    have mq1 : ¬ wq.heap.size = w.heap.size + 1 := by omega
    have kq1 : w.heap.size + 1 < wq.heap.size := by omega
    have nq2 : ¬ w1.heap.size = wq.heap.size := by omega
    have mq2 : ¬ wq.heap.size = w1.heap.size := by omega
    have kq2 : w1.heap.size < wq.heap.size := by omega
    have hE2 : w.heap.size + 1 + 1 < wq.heap.size := by omega
    clear hs2
    go_region_held3 (fun w' => w'.cell? ⟨w.heap.size, 0, none⟩ = some (.int .i64 d) ∧ w'.cell? ⟨w.heap.size, 1, none⟩ = some (.int .i64 n) ∧ w'.cell? ⟨w.heap.size + 1, 1, none⟩ = some (.int .i64 piece) ∧ w'.cell? ⟨w1.heap.size, 0, none⟩ = some (.int .i64 p0) ∧ w'.cell? ⟨w1.heap.size, 1, none⟩ = some (.int .i64 p1) ∧ w'.cell? ⟨w1.heap.size, 2, none⟩ = some (.int .i64 p2) ∧ w'.cell? ⟨w1.heap.size, 3, none⟩ = some (.int .i64 p3)) (go_keep)
      (first
        | (go_at_call 60; refine (KV.out _ (HT.out.below (B := w.heap.size) belo h0)).mono ?_; rintro e w3 ⟨v, hv, rfl, b3⟩; have HV := Lib.hid hv; clear hv; have s3 : Below wq.heap.size wq w3 := Below.trans belo (b3.mono belo); have z3 := b3.size; (try simp only [World.size_drew, World.size_alloc] at z3); obtain ⟨o3, f3⟩ := olds b3; (try simp only [World.size_drew, World.size_alloc] at o3 f3); have nz0 : ¬ w.heap.size = w3.heap.size := (by omega); have mz0 : ¬ w3.heap.size = w.heap.size := (by omega); have kz0 : w.heap.size < w3.heap.size := (by omega); have nz1 : ¬ w.heap.size + 1 = w3.heap.size := (by omega); have mz1 : ¬ w3.heap.size = w.heap.size + 1 := (by omega); have kz1 : w.heap.size + 1 < w3.heap.size := (by omega); have nz2 : ¬ w1.heap.size = w3.heap.size := (by omega); have mz2 : ¬ w3.heap.size = w1.heap.size := (by omega); have kz2 : w1.heap.size < w3.heap.size := (by omega)))
    all_goals
      go_wp2_with fail
      go_meet
      have B3 : Below w.heap.size w w3 := Below.trans hB2 (s3.mono hszq)
      clear o3 f3
      first
        | (with_reducible refine ⟨w3.heap.size, v, rfl, Blk.new _ _ _, s3.size, ?_, ?_, HV, ?_⟩
           · exact (R2.out.kept s3).alloc _
           · exact (E2.out.kept s3).alloc _
           · exact belo)
        | (have hnew : Blk w3 wq.heap.size 34 #[.int .i64 0, .int .i64 0, .int .i64 0, .int .i64 0, .int .i64 0, .int .i64 0] := Blk.kept (by first | exact Blk.new wq _ _ | exact Blk.drew (Blk.new wq _ _)) b3
           have hr3 := R2.out.kept s3
           have he3 := E2.out.kept s3
           have nr : w.heap.size + 1 ≠ wq.heap.size := by omega
           have ne : w.heap.size + 1 + 1 ≠ wq.heap.size := by omega
           refine ⟨wq.heap.size, v, rfl, ?_, Nat.le_refl _, ?_, ?_, HV, ?_⟩
           · exact ((((((hnew.set_ 0 (.int .i64 d)).set_ 1 (.int .i64 n)).set_ 2 (.int .i64 0)).set_ 3 (.int .i64 piece)).set_ 4 (.int .i64 v)).set_ 5 (.int .i64 0))
           · exact (Blk.far (p := ⟨wq.heap.size, 5, none⟩) (Blk.far (p := ⟨wq.heap.size, 4, none⟩) (Blk.far (p := ⟨wq.heap.size, 3, none⟩) (Blk.far (p := ⟨wq.heap.size, 2, none⟩) (Blk.far (p := ⟨wq.heap.size, 1, none⟩) (Blk.far (p := ⟨wq.heap.size, 0, none⟩) hr3 nr (.int .i64 d)) nr (.int .i64 n)) nr (.int .i64 0)) nr (.int .i64 piece)) nr (.int .i64 v)) nr (.int .i64 0))
           · exact (Blk.far (p := ⟨wq.heap.size, 5, none⟩) (Blk.far (p := ⟨wq.heap.size, 4, none⟩) (Blk.far (p := ⟨wq.heap.size, 3, none⟩) (Blk.far (p := ⟨wq.heap.size, 2, none⟩) (Blk.far (p := ⟨wq.heap.size, 1, none⟩) (Blk.far (p := ⟨wq.heap.size, 0, none⟩) he3 ne (.int .i64 d)) ne (.int .i64 n)) ne (.int .i64 0)) ne (.int .i64 piece)) ne (.int .i64 v)) ne (.int .i64 0))
           · exact belo)
  case rest =>
    obtain ⟨g8, v, rfl, q8, hg8, qr, qe, HV, B3⟩ := hcut
    have l8 := q8.lt
    have le := qe.lt
    have r0 := qr.cell 0
    simp only [List.getElem?_toArray, List.getElem?_cons_zero] at r0
    have HQ8 := Lib.hid q8
    have HQE := Lib.hid qe
    have HB3 := Lib.hid B3
    have hg8' : w.heap.size + 1 + 1 < g8 := by omega
    have ng : g8 ≠ w.heap.size + 1 + 1 := by omega
    have e0 := qe.cell 0
    have e1 := qe.cell 1
    have e2 := qe.cell 2
    have e3 := qe.cell 3
    have e4 := qe.cell 4
    have e5 := qe.cell 5
    have fe := fun i => qe.frozen i
    have u2 := q8.cell 2
    have f8 := fun i => q8.frozen i
    simp only [List.getElem?_toArray, List.getElem?_cons_succ, List.getElem?_cons_zero] at e0 e1 e2 e3 e4 e5 u2
    clear q8 qr qe
    cases done
    · have HE8 := Lib.hid HQ8.out
      have HEE := Lib.hid HQE.out
      have BW : Below w.heap.size w wc := HB3.out
      go_upto_region 5 with fail
      generalize wc = wv at *
      have hSH : Hid (∀ w', Blk w' g8 34 #[.int .i64 d, .int .i64 n, .int .i64 0, .int .i64 piece, .int .i64 v, .int .i64 0] → (∀ i : Nat, w'.cell? ⟨g8, i, none⟩ = (#[.int .i64 d, .int .i64 n, .int .i64 0, .int .i64 piece, .int .i64 v, .int .i64 0] : Array Value)[i]?) ∧ True ∧ True) := Lib.hid (fun w' h => ⟨fun i => h.cell i, trivial, trivial⟩)
      have HE8 : Hid (Blk wv g8 34 #[.int .i64 d, .int .i64 n, .int .i64 0, .int .i64 piece, .int .i64 v, .int .i64 0]) := Lib.hid HE8.out
      clear e0 e1 e2 e3 e4 e5 fe u2 f8 r0 l8 le
      cases ok
      · have HWO : Hid (decide (wOk ⟨d, n⟩ ⟨false, piece, out⟩) = false) := Lib.hid (decide_eq_false (fun h => by have := h.1; dsimp only at this; rw [← HOK.out] at this; cases this))
        have HWE : Hid (wOk ⟨d, n⟩ ⟨false, piece, out⟩ → (⟨d, n, 0, piece, v, 0⟩ : En) = entU ⟨d, n⟩ ⟨false, piece, out⟩) := Lib.hid (fun h => by have := h.1; dsimp only at this; rw [← HOK.out] at this; cases this)
        refine wp_region_held_drew (S := fun w' => (∀ i : Nat, w'.cell? ⟨g8, i, none⟩ = (#[.int .i64 d, .int .i64 n, .int .i64 0, .int .i64 piece, .int .i64 v, .int .i64 0] : Array Value)[i]?) ∧ True ∧ True) (by kernel_rfl) (hSH.out _ HE8.out) (fun hHeld => ?_)
        refine wpAnyH_take (i := 0) (v := ?_) rfl (by kernel_rfl) (by kernel_rfl) (by kernel_rfl) (fun _ _ _ h => h) (Or.inl ⟨by kernel_rfl, ?_⟩) (by assumption) ?_
        rotate_left
        · (intro w hSw; (try dsimp only at hSw); (try (obtain ⟨hSw1, hSw2, hSw3⟩ := hSw)); go_simp; try (with_reducible rfl))
        try simp only [List.getElem_toArray, List.getElem_cons_zero, Act.put, List.setIfInBounds_toArray, List.set_cons_zero, List.set_cons_succ]
        refine wpAnyH_take (i := 1) (v := ?_) rfl (by kernel_rfl) (by kernel_rfl) (by kernel_rfl) (fun _ _ _ h => h) (Or.inl ⟨by kernel_rfl, ?_⟩) (by assumption) ?_
        rotate_left
        · (intro w hSw; (try dsimp only at hSw); (try (obtain ⟨hSw1, hSw2, hSw3⟩ := hSw)); go_simp; try (with_reducible rfl))
        try simp only [List.getElem_toArray, List.getElem_cons_succ, List.getElem_cons_zero, Act.put, List.setIfInBounds_toArray, List.set_cons_zero, List.set_cons_succ]
        refine wpAnyH_take (i := 2) (v := ?_) rfl (by kernel_rfl) (by kernel_rfl) (by kernel_rfl) (fun _ _ _ h => h) (Or.inl ⟨by kernel_rfl, ?_⟩) (by assumption) ?_
        rotate_left
        · (intro w hSw; (try dsimp only at hSw); (try (obtain ⟨hSw1, hSw2, hSw3⟩ := hSw)); go_simp; try (with_reducible rfl))
        try simp only [List.getElem_toArray, List.getElem_cons_succ, List.getElem_cons_zero, Act.put, List.setIfInBounds_toArray, List.set_cons_zero, List.set_cons_succ]
        refine wpAnyH_take (i := 3) (v := undef) rfl (by kernel_rfl) (by kernel_rfl) (by kernel_rfl) (fun _ _ _ h => h) (Or.inr ⟨by kernel_rfl, rfl⟩) (by assumption) ?_
        try simp only [List.getElem_toArray, List.getElem_cons_succ, List.getElem_cons_zero, Act.put, List.setIfInBounds_toArray, List.set_cons_zero, List.set_cons_succ]
        refine wpAnyH_take (i := 4) (v := undef) rfl (by kernel_rfl) (by kernel_rfl) (by kernel_rfl) (fun _ _ _ h => h) (Or.inr ⟨by kernel_rfl, rfl⟩) (by assumption) ?_
        try simp only [List.getElem_toArray, List.getElem_cons_succ, List.getElem_cons_zero, Act.put, List.setIfInBounds_toArray, List.set_cons_zero, List.set_cons_succ]
        refine wpAnyH_take (i := 5) (v := ?_) rfl (by kernel_rfl) (by kernel_rfl) (by kernel_rfl) (fun _ _ _ h => h) (Or.inl ⟨by kernel_rfl, ?_⟩) (by assumption) ?_
        rotate_left
        · (intro w hSw; (try dsimp only at hSw); (try (obtain ⟨hSw1, hSw2, hSw3⟩ := hSw)); go_simp; try (with_reducible rfl))
        try simp only [List.getElem_toArray, List.getElem_cons_succ, List.getElem_cons_zero, Act.put, List.setIfInBounds_toArray, List.set_cons_zero, List.set_cons_succ]
        have y0 := HEE.out.cell 0
        have y1 := HEE.out.cell 1
        have y2 := HEE.out.cell 2
        have y3 := HEE.out.cell 3
        have y4 := HEE.out.cell 4
        have y5 := HEE.out.cell 5
        have yf := fun i => HEE.out.frozen i
        have yl := HEE.out.lt
        simp only [List.getElem?_toArray, List.getElem?_cons_succ, List.getElem?_cons_zero] at y0 y1 y2 y3 y4 y5
        have HF := Lib.hid ((((((HEE.out.set_ 0 (.int .i64 d)).set_ 1 (.int .i64 n)).set_ 2 (.int .i64 0)).set_ 3 (.int .i64 piece)).set_ 4 (.int .i64 v)).set_ 5 (.int .i64 0))
        have HFE := Lib.hid (Blk.far (p := ⟨w.heap.size + 1 + 1, 5, none⟩) (Blk.far (p := ⟨w.heap.size + 1 + 1, 4, none⟩) (Blk.far (p := ⟨w.heap.size + 1 + 1, 3, none⟩) (Blk.far (p := ⟨w.heap.size + 1 + 1, 2, none⟩) (Blk.far (p := ⟨w.heap.size + 1 + 1, 1, none⟩) (Blk.far (p := ⟨w.heap.size + 1 + 1, 0, none⟩) HE8.out ng (.int .i64 d)) ng (.int .i64 n)) ng (.int .i64 0)) ng (.int .i64 piece)) ng (.int .i64 v)) ng (.int .i64 0))
        have BF : Below w.heap.size w ((((((wv.setCell ⟨w.heap.size + 1 + 1, 0, none⟩ (.int .i64 d)).setCell ⟨w.heap.size + 1 + 1, 1, none⟩ (.int .i64 n)).setCell ⟨w.heap.size + 1 + 1, 2, none⟩ (.int .i64 0)).setCell ⟨w.heap.size + 1 + 1, 3, none⟩ (.int .i64 piece)).setCell ⟨w.heap.size + 1 + 1, 4, none⟩ (.int .i64 v)).setCell ⟨w.heap.size + 1 + 1, 5, none⟩ (.int .i64 0)) := belo
        have HF := Lib.hid (Blk.drew HF.out)
        have HFE := Lib.hid (Blk.drew HFE.out)
        have BF := Below.drew BF
        refine wpAnyH_ready (rs := [6]) (by kernel_rfl) (by simp) ?_
        refine AllReadyH.cons rfl (fun K hK => ?_) AllReadyH.nil
        go_simp
        refine hK.out _ _ (hSH.out _ HFE.out) (fun hHeld => ?_)
        clear hK K
        try simp only [List.getElem_toArray, List.getElem_cons_succ, List.getElem_cons_zero, Act.put, List.setIfInBounds_toArray, List.set_cons_zero, List.set_cons_succ]
        refine wpAnyH_take (i := 7) (v := ?_) rfl (by kernel_rfl) (by kernel_rfl) (by kernel_rfl) (fun _ _ _ h => h) (Or.inl ⟨by kernel_rfl, ?_⟩) (by assumption) ?_
        rotate_left
        · (intro w hSw; (try dsimp only at hSw); (try (obtain ⟨hSw1, hSw2, hSw3⟩ := hSw)); go_simp; try (with_reducible rfl))
        try simp only [List.getElem_toArray, List.getElem_cons_succ, List.getElem_cons_zero, Act.put, List.setIfInBounds_toArray, List.set_cons_zero, List.set_cons_succ]
        refine wpAnyH_done (by kernel_rfl) ?_ _
        clear y0 y1 y2 y3 y4 y5 yf yl
        generalize ((((((wv.setCell ⟨w.heap.size + 1 + 1, 0, none⟩ (.int .i64 d)).setCell ⟨w.heap.size + 1 + 1, 1, none⟩ (.int .i64 n)).setCell ⟨w.heap.size + 1 + 1, 2, none⟩ (.int .i64 0)).setCell ⟨w.heap.size + 1 + 1, 3, none⟩ (.int .i64 piece)).setCell ⟨w.heap.size + 1 + 1, 4, none⟩ (.int .i64 v)).setCell ⟨w.heap.size + 1 + 1, 5, none⟩ (.int .i64 0)).drew = wf at *
        have z := fun i => HF.out.cell i
        go_wp2
        refine bodyPost_ret (v := .tuple #[.agg #[.int .i64 d, .int .i64 n, .int .i64 0, .int .i64 piece, .int .i64 v, .int .i64 0], .bool false]) (by simp [results, Tryd.results50, go_sem, z]) rfl ⟨⟨d, n, 0, piece, v, 0⟩, by rw [HWO.out], HWE.out, BF⟩
      · have HVV : Hid (v = valueOf out) := Lib.hid (HV.out rfl)
        by_cases ho : okE ⟨d, n, 0, piece, v, 0⟩
        · have KOK := Lib.hid (fun W hg => EntryOk_yes d n 0 piece v 0 W hg ho)
          have HWO : Hid (decide (wOk ⟨d, n⟩ ⟨false, piece, out⟩) = true) := Lib.hid (decide_eq_true ⟨HOK.out.symm, by rw [HVV.out] at ho; exact ho.1⟩)
          have HWE : Hid (wOk ⟨d, n⟩ ⟨false, piece, out⟩ → (⟨d, n, 0, piece, v, 0⟩ : En) = entU ⟨d, n⟩ ⟨false, piece, out⟩) := Lib.hid (fun _ => by rw [HVV.out]; rfl)
          clear ho
          refine wp_region_held_drew (S := fun w' => (∀ i : Nat, w'.cell? ⟨g8, i, none⟩ = (#[.int .i64 d, .int .i64 n, .int .i64 0, .int .i64 piece, .int .i64 v, .int .i64 0] : Array Value)[i]?) ∧ True ∧ True) (by kernel_rfl) (hSH.out _ HE8.out) (fun hHeld => ?_)
          refine wpAnyH_take (i := 0) (v := ?_) rfl (by kernel_rfl) (by kernel_rfl) (by kernel_rfl) (fun _ _ _ h => h) (Or.inl ⟨by kernel_rfl, ?_⟩) (by assumption) ?_
          rotate_left
          · (intro w hSw; (try dsimp only at hSw); (try (obtain ⟨hSw1, hSw2, hSw3⟩ := hSw)); go_simp; try (with_reducible rfl))
          try simp only [List.getElem_toArray, List.getElem_cons_zero, Act.put, List.setIfInBounds_toArray, List.set_cons_zero, List.set_cons_succ]
          refine wpAnyH_take (i := 1) (v := ?_) rfl (by kernel_rfl) (by kernel_rfl) (by kernel_rfl) (fun _ _ _ h => h) (Or.inl ⟨by kernel_rfl, ?_⟩) (by assumption) ?_
          rotate_left
          · (intro w hSw; (try dsimp only at hSw); (try (obtain ⟨hSw1, hSw2, hSw3⟩ := hSw)); go_simp; try (with_reducible rfl))
          try simp only [List.getElem_toArray, List.getElem_cons_succ, List.getElem_cons_zero, Act.put, List.setIfInBounds_toArray, List.set_cons_zero, List.set_cons_succ]
          refine wpAnyH_take (i := 2) (v := ?_) rfl (by kernel_rfl) (by kernel_rfl) (by kernel_rfl) (fun _ _ _ h => h) (Or.inl ⟨by kernel_rfl, ?_⟩) (by assumption) ?_
          rotate_left
          · (intro w hSw; (try dsimp only at hSw); (try (obtain ⟨hSw1, hSw2, hSw3⟩ := hSw)); go_simp; try (with_reducible rfl))
          try simp only [List.getElem_toArray, List.getElem_cons_succ, List.getElem_cons_zero, Act.put, List.setIfInBounds_toArray, List.set_cons_zero, List.set_cons_succ]
          refine wpAnyH_take (i := 3) (v := ?_) rfl (by kernel_rfl) (by kernel_rfl) (by kernel_rfl) (fun _ _ _ h => h) (Or.inl ⟨by kernel_rfl, ?_⟩) (by assumption) ?_
          rotate_left
          · (intro w hSw; (try dsimp only at hSw); (try (obtain ⟨hSw1, hSw2, hSw3⟩ := hSw)); go_simp; try (with_reducible rfl))
          try simp only [List.getElem_toArray, List.getElem_cons_succ, List.getElem_cons_zero, Act.put, List.setIfInBounds_toArray, List.set_cons_zero, List.set_cons_succ]
          refine wpAnyH_ready (rs := [4]) (by kernel_rfl) (by simp) ?_
          refine AllReadyH.cons rfl (fun K hK => ?_) AllReadyH.nil
          go_simp
          refine (KOK.out _ (HG.out.below (B := w.heap.size) belo hz)).mono ?_
          rintro e w4 ⟨rfl, b4⟩
          have HE9 := Lib.hid (Blk.kept (Blk.drew HE8.out) b4)
          have HEF := Lib.hid (Blk.kept (Blk.drew HEE.out) b4)
          have B4 : Below w.heap.size w w4 := Below.trans (Below.drew BW) (b4.mono BW.size)
          clear b4
          go_simp
          refine hK.out _ _ (hSH.out _ HE9.out) (fun hHeld => ?_)
          clear hK K
          try simp only [List.getElem_toArray, List.getElem_cons_succ, List.getElem_cons_zero, Act.put, List.setIfInBounds_toArray, List.set_cons_zero, List.set_cons_succ]
          refine wpAnyH_take (i := 5) (v := ?_) rfl (by kernel_rfl) (by kernel_rfl) (by kernel_rfl) (fun _ _ _ h => h) (Or.inl ⟨by kernel_rfl, ?_⟩) (by assumption) ?_
          rotate_left
          · (intro w hSw; (try dsimp only at hSw); (try (obtain ⟨hSw1, hSw2, hSw3⟩ := hSw)); go_simp; try (with_reducible rfl))
          try simp only [List.getElem_toArray, List.getElem_cons_succ, List.getElem_cons_zero, Act.put, List.setIfInBounds_toArray, List.set_cons_zero, List.set_cons_succ]
          have y0 := HEF.out.cell 0
          have y1 := HEF.out.cell 1
          have y2 := HEF.out.cell 2
          have y3 := HEF.out.cell 3
          have y4 := HEF.out.cell 4
          have y5 := HEF.out.cell 5
          have yf := fun i => HEF.out.frozen i
          have yl := HEF.out.lt
          simp only [List.getElem?_toArray, List.getElem?_cons_succ, List.getElem?_cons_zero] at y0 y1 y2 y3 y4 y5
          have HF := Lib.hid ((((((HEF.out.set_ 0 (.int .i64 d)).set_ 1 (.int .i64 n)).set_ 2 (.int .i64 0)).set_ 3 (.int .i64 piece)).set_ 4 (.int .i64 v)).set_ 5 (.int .i64 0))
          have HFE := Lib.hid (Blk.far (p := ⟨w.heap.size + 1 + 1, 5, none⟩) (Blk.far (p := ⟨w.heap.size + 1 + 1, 4, none⟩) (Blk.far (p := ⟨w.heap.size + 1 + 1, 3, none⟩) (Blk.far (p := ⟨w.heap.size + 1 + 1, 2, none⟩) (Blk.far (p := ⟨w.heap.size + 1 + 1, 1, none⟩) (Blk.far (p := ⟨w.heap.size + 1 + 1, 0, none⟩) HE9.out ng (.int .i64 d)) ng (.int .i64 n)) ng (.int .i64 0)) ng (.int .i64 piece)) ng (.int .i64 v)) ng (.int .i64 0))
          have BF : Below w.heap.size w ((((((w4.setCell ⟨w.heap.size + 1 + 1, 0, none⟩ (.int .i64 d)).setCell ⟨w.heap.size + 1 + 1, 1, none⟩ (.int .i64 n)).setCell ⟨w.heap.size + 1 + 1, 2, none⟩ (.int .i64 0)).setCell ⟨w.heap.size + 1 + 1, 3, none⟩ (.int .i64 piece)).setCell ⟨w.heap.size + 1 + 1, 4, none⟩ (.int .i64 v)).setCell ⟨w.heap.size + 1 + 1, 5, none⟩ (.int .i64 0)) := belo
          refine wpAnyH_ready (rs := [6]) (by kernel_rfl) (by simp) ?_
          refine AllReadyH.cons rfl (fun K hK => ?_) AllReadyH.nil
          go_simp
          refine hK.out _ _ (hSH.out _ HFE.out) (fun hHeld => ?_)
          clear hK K
          try simp only [List.getElem_toArray, List.getElem_cons_succ, List.getElem_cons_zero, Act.put, List.setIfInBounds_toArray, List.set_cons_zero, List.set_cons_succ]
          refine wpAnyH_take (i := 7) (v := ?_) rfl (by kernel_rfl) (by kernel_rfl) (by kernel_rfl) (fun _ _ _ h => h) (Or.inl ⟨by kernel_rfl, ?_⟩) (by assumption) ?_
          rotate_left
          · (intro w hSw; (try dsimp only at hSw); (try (obtain ⟨hSw1, hSw2, hSw3⟩ := hSw)); go_simp; try (with_reducible rfl))
          try simp only [List.getElem_toArray, List.getElem_cons_succ, List.getElem_cons_zero, Act.put, List.setIfInBounds_toArray, List.set_cons_zero, List.set_cons_succ]
          refine wpAnyH_done (by kernel_rfl) ?_ _
          clear y0 y1 y2 y3 y4 y5 yf yl
          generalize ((((((w4.setCell ⟨w.heap.size + 1 + 1, 0, none⟩ (.int .i64 d)).setCell ⟨w.heap.size + 1 + 1, 1, none⟩ (.int .i64 n)).setCell ⟨w.heap.size + 1 + 1, 2, none⟩ (.int .i64 0)).setCell ⟨w.heap.size + 1 + 1, 3, none⟩ (.int .i64 piece)).setCell ⟨w.heap.size + 1 + 1, 4, none⟩ (.int .i64 v)).setCell ⟨w.heap.size + 1 + 1, 5, none⟩ (.int .i64 0)) = wf at *
          have z := fun i => HF.out.cell i
          go_wp2
          refine bodyPost_ret (v := .tuple #[.agg #[.int .i64 d, .int .i64 n, .int .i64 0, .int .i64 piece, .int .i64 v, .int .i64 0], .bool true]) (by simp [results, Tryd.results50, go_sem, z]) rfl ⟨⟨d, n, 0, piece, v, 0⟩, by rw [HWO.out], HWE.out, BF⟩
        · have KOK := Lib.hid (fun W hg => EntryOk_no d n 0 piece v 0 W hg ho)
          have HWO : Hid (decide (wOk ⟨d, n⟩ ⟨false, piece, out⟩) = false) := Lib.hid (decide_eq_false (fun h => ho (by rw [HVV.out]; exact ⟨h.2, by show (0 : Int) ≤ 0; omega, by show (0 : Int) ≤ 996; omega⟩)))
          have HWE : Hid (wOk ⟨d, n⟩ ⟨false, piece, out⟩ → (⟨d, n, 0, piece, v, 0⟩ : En) = entU ⟨d, n⟩ ⟨false, piece, out⟩) := Lib.hid (fun _ => by rw [HVV.out]; rfl)
          clear ho
          refine wp_region_held_drew (S := fun w' => (∀ i : Nat, w'.cell? ⟨g8, i, none⟩ = (#[.int .i64 d, .int .i64 n, .int .i64 0, .int .i64 piece, .int .i64 v, .int .i64 0] : Array Value)[i]?) ∧ True ∧ True) (by kernel_rfl) (hSH.out _ HE8.out) (fun hHeld => ?_)
          refine wpAnyH_take (i := 0) (v := ?_) rfl (by kernel_rfl) (by kernel_rfl) (by kernel_rfl) (fun _ _ _ h => h) (Or.inl ⟨by kernel_rfl, ?_⟩) (by assumption) ?_
          rotate_left
          · (intro w hSw; (try dsimp only at hSw); (try (obtain ⟨hSw1, hSw2, hSw3⟩ := hSw)); go_simp; try (with_reducible rfl))
          try simp only [List.getElem_toArray, List.getElem_cons_zero, Act.put, List.setIfInBounds_toArray, List.set_cons_zero, List.set_cons_succ]
          refine wpAnyH_take (i := 1) (v := ?_) rfl (by kernel_rfl) (by kernel_rfl) (by kernel_rfl) (fun _ _ _ h => h) (Or.inl ⟨by kernel_rfl, ?_⟩) (by assumption) ?_
          rotate_left
          · (intro w hSw; (try dsimp only at hSw); (try (obtain ⟨hSw1, hSw2, hSw3⟩ := hSw)); go_simp; try (with_reducible rfl))
          try simp only [List.getElem_toArray, List.getElem_cons_succ, List.getElem_cons_zero, Act.put, List.setIfInBounds_toArray, List.set_cons_zero, List.set_cons_succ]
          refine wpAnyH_take (i := 2) (v := ?_) rfl (by kernel_rfl) (by kernel_rfl) (by kernel_rfl) (fun _ _ _ h => h) (Or.inl ⟨by kernel_rfl, ?_⟩) (by assumption) ?_
          rotate_left
          · (intro w hSw; (try dsimp only at hSw); (try (obtain ⟨hSw1, hSw2, hSw3⟩ := hSw)); go_simp; try (with_reducible rfl))
          try simp only [List.getElem_toArray, List.getElem_cons_succ, List.getElem_cons_zero, Act.put, List.setIfInBounds_toArray, List.set_cons_zero, List.set_cons_succ]
          refine wpAnyH_take (i := 3) (v := ?_) rfl (by kernel_rfl) (by kernel_rfl) (by kernel_rfl) (fun _ _ _ h => h) (Or.inl ⟨by kernel_rfl, ?_⟩) (by assumption) ?_
          rotate_left
          · (intro w hSw; (try dsimp only at hSw); (try (obtain ⟨hSw1, hSw2, hSw3⟩ := hSw)); go_simp; try (with_reducible rfl))
          try simp only [List.getElem_toArray, List.getElem_cons_succ, List.getElem_cons_zero, Act.put, List.setIfInBounds_toArray, List.set_cons_zero, List.set_cons_succ]
          refine wpAnyH_ready (rs := [4]) (by kernel_rfl) (by simp) ?_
          refine AllReadyH.cons rfl (fun K hK => ?_) AllReadyH.nil
          go_simp
          refine (KOK.out _ (HG.out.below (B := w.heap.size) belo hz)).mono ?_
          rintro e w4 ⟨rfl, b4⟩
          have HE9 := Lib.hid (Blk.kept (Blk.drew HE8.out) b4)
          have HEF := Lib.hid (Blk.kept (Blk.drew HEE.out) b4)
          have B4 : Below w.heap.size w w4 := Below.trans (Below.drew BW) (b4.mono BW.size)
          clear b4
          go_simp
          refine hK.out _ _ (hSH.out _ HE9.out) (fun hHeld => ?_)
          clear hK K
          try simp only [List.getElem_toArray, List.getElem_cons_succ, List.getElem_cons_zero, Act.put, List.setIfInBounds_toArray, List.set_cons_zero, List.set_cons_succ]
          refine wpAnyH_take (i := 5) (v := ?_) rfl (by kernel_rfl) (by kernel_rfl) (by kernel_rfl) (fun _ _ _ h => h) (Or.inl ⟨by kernel_rfl, ?_⟩) (by assumption) ?_
          rotate_left
          · (intro w hSw; (try dsimp only at hSw); (try (obtain ⟨hSw1, hSw2, hSw3⟩ := hSw)); go_simp; try (with_reducible rfl))
          try simp only [List.getElem_toArray, List.getElem_cons_succ, List.getElem_cons_zero, Act.put, List.setIfInBounds_toArray, List.set_cons_zero, List.set_cons_succ]
          have y0 := HEF.out.cell 0
          have y1 := HEF.out.cell 1
          have y2 := HEF.out.cell 2
          have y3 := HEF.out.cell 3
          have y4 := HEF.out.cell 4
          have y5 := HEF.out.cell 5
          have yf := fun i => HEF.out.frozen i
          have yl := HEF.out.lt
          simp only [List.getElem?_toArray, List.getElem?_cons_succ, List.getElem?_cons_zero] at y0 y1 y2 y3 y4 y5
          have HF := Lib.hid ((((((HEF.out.set_ 0 (.int .i64 d)).set_ 1 (.int .i64 n)).set_ 2 (.int .i64 0)).set_ 3 (.int .i64 piece)).set_ 4 (.int .i64 v)).set_ 5 (.int .i64 0))
          have HFE := Lib.hid (Blk.far (p := ⟨w.heap.size + 1 + 1, 5, none⟩) (Blk.far (p := ⟨w.heap.size + 1 + 1, 4, none⟩) (Blk.far (p := ⟨w.heap.size + 1 + 1, 3, none⟩) (Blk.far (p := ⟨w.heap.size + 1 + 1, 2, none⟩) (Blk.far (p := ⟨w.heap.size + 1 + 1, 1, none⟩) (Blk.far (p := ⟨w.heap.size + 1 + 1, 0, none⟩) HE9.out ng (.int .i64 d)) ng (.int .i64 n)) ng (.int .i64 0)) ng (.int .i64 piece)) ng (.int .i64 v)) ng (.int .i64 0))
          have BF : Below w.heap.size w ((((((w4.setCell ⟨w.heap.size + 1 + 1, 0, none⟩ (.int .i64 d)).setCell ⟨w.heap.size + 1 + 1, 1, none⟩ (.int .i64 n)).setCell ⟨w.heap.size + 1 + 1, 2, none⟩ (.int .i64 0)).setCell ⟨w.heap.size + 1 + 1, 3, none⟩ (.int .i64 piece)).setCell ⟨w.heap.size + 1 + 1, 4, none⟩ (.int .i64 v)).setCell ⟨w.heap.size + 1 + 1, 5, none⟩ (.int .i64 0)) := belo
          refine wpAnyH_ready (rs := [6]) (by kernel_rfl) (by simp) ?_
          refine AllReadyH.cons rfl (fun K hK => ?_) AllReadyH.nil
          go_simp
          refine hK.out _ _ (hSH.out _ HFE.out) (fun hHeld => ?_)
          clear hK K
          try simp only [List.getElem_toArray, List.getElem_cons_succ, List.getElem_cons_zero, Act.put, List.setIfInBounds_toArray, List.set_cons_zero, List.set_cons_succ]
          refine wpAnyH_take (i := 7) (v := ?_) rfl (by kernel_rfl) (by kernel_rfl) (by kernel_rfl) (fun _ _ _ h => h) (Or.inl ⟨by kernel_rfl, ?_⟩) (by assumption) ?_
          rotate_left
          · (intro w hSw; (try dsimp only at hSw); (try (obtain ⟨hSw1, hSw2, hSw3⟩ := hSw)); go_simp; try (with_reducible rfl))
          try simp only [List.getElem_toArray, List.getElem_cons_succ, List.getElem_cons_zero, Act.put, List.setIfInBounds_toArray, List.set_cons_zero, List.set_cons_succ]
          refine wpAnyH_done (by kernel_rfl) ?_ _
          clear y0 y1 y2 y3 y4 y5 yf yl
          generalize ((((((w4.setCell ⟨w.heap.size + 1 + 1, 0, none⟩ (.int .i64 d)).setCell ⟨w.heap.size + 1 + 1, 1, none⟩ (.int .i64 n)).setCell ⟨w.heap.size + 1 + 1, 2, none⟩ (.int .i64 0)).setCell ⟨w.heap.size + 1 + 1, 3, none⟩ (.int .i64 piece)).setCell ⟨w.heap.size + 1 + 1, 4, none⟩ (.int .i64 v)).setCell ⟨w.heap.size + 1 + 1, 5, none⟩ (.int .i64 0)) = wf at *
          have z := fun i => HF.out.cell i
          go_wp2
          refine bodyPost_ret (v := .tuple #[.agg #[.int .i64 d, .int .i64 n, .int .i64 0, .int .i64 piece, .int .i64 v, .int .i64 0], .bool false]) (by simp [results, Tryd.results50, go_sem, z]) rfl ⟨⟨d, n, 0, piece, v, 0⟩, by rw [HWO.out], HWE.out, BF⟩
    · have HE8 := Lib.hid (HQ8.out.set_ 2 (.int .i64 1))
      have HEE := Lib.hid (HQE.out.far (p := ⟨g8, 2, none⟩) (show w.heap.size + 1 + 1 ≠ g8 by omega) (.int .i64 1))
      have BW : Below w.heap.size w (wc.setCell ⟨g8, 2, none⟩ (.int .i64 1)) := Below.setCell HB3.out (show w.heap.size ≤ g8 by omega) _
      go_upto_region 5 with fail
      generalize (wc.setCell ⟨g8, 2, none⟩ (.int .i64 1)) = wv at *
      have hSH : Hid (∀ w', Blk w' g8 34 #[.int .i64 d, .int .i64 n, .int .i64 1, .int .i64 piece, .int .i64 v, .int .i64 0] → (∀ i : Nat, w'.cell? ⟨g8, i, none⟩ = (#[.int .i64 d, .int .i64 n, .int .i64 1, .int .i64 piece, .int .i64 v, .int .i64 0] : Array Value)[i]?) ∧ True ∧ True) := Lib.hid (fun w' h => ⟨fun i => h.cell i, trivial, trivial⟩)
      have HE8 : Hid (Blk wv g8 34 #[.int .i64 d, .int .i64 n, .int .i64 1, .int .i64 piece, .int .i64 v, .int .i64 0]) := Lib.hid HE8.out
      clear e0 e1 e2 e3 e4 e5 fe u2 f8 r0 l8 le
      cases ok
      · have HWO : Hid (decide (wOk ⟨d, n⟩ ⟨true, piece, out⟩) = false) := Lib.hid (decide_eq_false (fun h => by have := h.1; dsimp only at this; rw [← HOK.out] at this; cases this))
        have HWE : Hid (wOk ⟨d, n⟩ ⟨true, piece, out⟩ → (⟨d, n, 1, piece, v, 0⟩ : En) = entU ⟨d, n⟩ ⟨true, piece, out⟩) := Lib.hid (fun h => by have := h.1; dsimp only at this; rw [← HOK.out] at this; cases this)
        refine wp_region_held_drew (S := fun w' => (∀ i : Nat, w'.cell? ⟨g8, i, none⟩ = (#[.int .i64 d, .int .i64 n, .int .i64 1, .int .i64 piece, .int .i64 v, .int .i64 0] : Array Value)[i]?) ∧ True ∧ True) (by kernel_rfl) (hSH.out _ HE8.out) (fun hHeld => ?_)
        refine wpAnyH_take (i := 0) (v := ?_) rfl (by kernel_rfl) (by kernel_rfl) (by kernel_rfl) (fun _ _ _ h => h) (Or.inl ⟨by kernel_rfl, ?_⟩) (by assumption) ?_
        rotate_left
        · (intro w hSw; (try dsimp only at hSw); (try (obtain ⟨hSw1, hSw2, hSw3⟩ := hSw)); go_simp; try (with_reducible rfl))
        try simp only [List.getElem_toArray, List.getElem_cons_zero, Act.put, List.setIfInBounds_toArray, List.set_cons_zero, List.set_cons_succ]
        refine wpAnyH_take (i := 1) (v := ?_) rfl (by kernel_rfl) (by kernel_rfl) (by kernel_rfl) (fun _ _ _ h => h) (Or.inl ⟨by kernel_rfl, ?_⟩) (by assumption) ?_
        rotate_left
        · (intro w hSw; (try dsimp only at hSw); (try (obtain ⟨hSw1, hSw2, hSw3⟩ := hSw)); go_simp; try (with_reducible rfl))
        try simp only [List.getElem_toArray, List.getElem_cons_succ, List.getElem_cons_zero, Act.put, List.setIfInBounds_toArray, List.set_cons_zero, List.set_cons_succ]
        refine wpAnyH_take (i := 2) (v := ?_) rfl (by kernel_rfl) (by kernel_rfl) (by kernel_rfl) (fun _ _ _ h => h) (Or.inl ⟨by kernel_rfl, ?_⟩) (by assumption) ?_
        rotate_left
        · (intro w hSw; (try dsimp only at hSw); (try (obtain ⟨hSw1, hSw2, hSw3⟩ := hSw)); go_simp; try (with_reducible rfl))
        try simp only [List.getElem_toArray, List.getElem_cons_succ, List.getElem_cons_zero, Act.put, List.setIfInBounds_toArray, List.set_cons_zero, List.set_cons_succ]
        refine wpAnyH_take (i := 3) (v := undef) rfl (by kernel_rfl) (by kernel_rfl) (by kernel_rfl) (fun _ _ _ h => h) (Or.inr ⟨by kernel_rfl, rfl⟩) (by assumption) ?_
        try simp only [List.getElem_toArray, List.getElem_cons_succ, List.getElem_cons_zero, Act.put, List.setIfInBounds_toArray, List.set_cons_zero, List.set_cons_succ]
        refine wpAnyH_take (i := 4) (v := undef) rfl (by kernel_rfl) (by kernel_rfl) (by kernel_rfl) (fun _ _ _ h => h) (Or.inr ⟨by kernel_rfl, rfl⟩) (by assumption) ?_
        try simp only [List.getElem_toArray, List.getElem_cons_succ, List.getElem_cons_zero, Act.put, List.setIfInBounds_toArray, List.set_cons_zero, List.set_cons_succ]
        refine wpAnyH_take (i := 5) (v := ?_) rfl (by kernel_rfl) (by kernel_rfl) (by kernel_rfl) (fun _ _ _ h => h) (Or.inl ⟨by kernel_rfl, ?_⟩) (by assumption) ?_
        rotate_left
        · (intro w hSw; (try dsimp only at hSw); (try (obtain ⟨hSw1, hSw2, hSw3⟩ := hSw)); go_simp; try (with_reducible rfl))
        try simp only [List.getElem_toArray, List.getElem_cons_succ, List.getElem_cons_zero, Act.put, List.setIfInBounds_toArray, List.set_cons_zero, List.set_cons_succ]
        have y0 := HEE.out.cell 0
        have y1 := HEE.out.cell 1
        have y2 := HEE.out.cell 2
        have y3 := HEE.out.cell 3
        have y4 := HEE.out.cell 4
        have y5 := HEE.out.cell 5
        have yf := fun i => HEE.out.frozen i
        have yl := HEE.out.lt
        simp only [List.getElem?_toArray, List.getElem?_cons_succ, List.getElem?_cons_zero] at y0 y1 y2 y3 y4 y5
        have HF := Lib.hid ((((((HEE.out.set_ 0 (.int .i64 d)).set_ 1 (.int .i64 n)).set_ 2 (.int .i64 1)).set_ 3 (.int .i64 piece)).set_ 4 (.int .i64 v)).set_ 5 (.int .i64 0))
        have HFE := Lib.hid (Blk.far (p := ⟨w.heap.size + 1 + 1, 5, none⟩) (Blk.far (p := ⟨w.heap.size + 1 + 1, 4, none⟩) (Blk.far (p := ⟨w.heap.size + 1 + 1, 3, none⟩) (Blk.far (p := ⟨w.heap.size + 1 + 1, 2, none⟩) (Blk.far (p := ⟨w.heap.size + 1 + 1, 1, none⟩) (Blk.far (p := ⟨w.heap.size + 1 + 1, 0, none⟩) HE8.out ng (.int .i64 d)) ng (.int .i64 n)) ng (.int .i64 1)) ng (.int .i64 piece)) ng (.int .i64 v)) ng (.int .i64 0))
        have BF : Below w.heap.size w ((((((wv.setCell ⟨w.heap.size + 1 + 1, 0, none⟩ (.int .i64 d)).setCell ⟨w.heap.size + 1 + 1, 1, none⟩ (.int .i64 n)).setCell ⟨w.heap.size + 1 + 1, 2, none⟩ (.int .i64 1)).setCell ⟨w.heap.size + 1 + 1, 3, none⟩ (.int .i64 piece)).setCell ⟨w.heap.size + 1 + 1, 4, none⟩ (.int .i64 v)).setCell ⟨w.heap.size + 1 + 1, 5, none⟩ (.int .i64 0)) := belo
        have HF := Lib.hid (Blk.drew HF.out)
        have HFE := Lib.hid (Blk.drew HFE.out)
        have BF := Below.drew BF
        refine wpAnyH_ready (rs := [6]) (by kernel_rfl) (by simp) ?_
        refine AllReadyH.cons rfl (fun K hK => ?_) AllReadyH.nil
        go_simp
        refine hK.out _ _ (hSH.out _ HFE.out) (fun hHeld => ?_)
        clear hK K
        try simp only [List.getElem_toArray, List.getElem_cons_succ, List.getElem_cons_zero, Act.put, List.setIfInBounds_toArray, List.set_cons_zero, List.set_cons_succ]
        refine wpAnyH_take (i := 7) (v := ?_) rfl (by kernel_rfl) (by kernel_rfl) (by kernel_rfl) (fun _ _ _ h => h) (Or.inl ⟨by kernel_rfl, ?_⟩) (by assumption) ?_
        rotate_left
        · (intro w hSw; (try dsimp only at hSw); (try (obtain ⟨hSw1, hSw2, hSw3⟩ := hSw)); go_simp; try (with_reducible rfl))
        try simp only [List.getElem_toArray, List.getElem_cons_succ, List.getElem_cons_zero, Act.put, List.setIfInBounds_toArray, List.set_cons_zero, List.set_cons_succ]
        refine wpAnyH_done (by kernel_rfl) ?_ _
        clear y0 y1 y2 y3 y4 y5 yf yl
        generalize ((((((wv.setCell ⟨w.heap.size + 1 + 1, 0, none⟩ (.int .i64 d)).setCell ⟨w.heap.size + 1 + 1, 1, none⟩ (.int .i64 n)).setCell ⟨w.heap.size + 1 + 1, 2, none⟩ (.int .i64 1)).setCell ⟨w.heap.size + 1 + 1, 3, none⟩ (.int .i64 piece)).setCell ⟨w.heap.size + 1 + 1, 4, none⟩ (.int .i64 v)).setCell ⟨w.heap.size + 1 + 1, 5, none⟩ (.int .i64 0)).drew = wf at *
        have z := fun i => HF.out.cell i
        go_wp2
        refine bodyPost_ret (v := .tuple #[.agg #[.int .i64 d, .int .i64 n, .int .i64 1, .int .i64 piece, .int .i64 v, .int .i64 0], .bool false]) (by simp [results, Tryd.results50, go_sem, z]) rfl ⟨⟨d, n, 1, piece, v, 0⟩, by rw [HWO.out], HWE.out, BF⟩
      · have HVV : Hid (v = valueOf out) := Lib.hid (HV.out rfl)
        by_cases ho : okE ⟨d, n, 1, piece, v, 0⟩
        · have KOK := Lib.hid (fun W hg => EntryOk_yes d n 1 piece v 0 W hg ho)
          have HWO : Hid (decide (wOk ⟨d, n⟩ ⟨true, piece, out⟩) = true) := Lib.hid (decide_eq_true ⟨HOK.out.symm, by rw [HVV.out] at ho; exact ho.1⟩)
          have HWE : Hid (wOk ⟨d, n⟩ ⟨true, piece, out⟩ → (⟨d, n, 1, piece, v, 0⟩ : En) = entU ⟨d, n⟩ ⟨true, piece, out⟩) := Lib.hid (fun _ => by rw [HVV.out]; rfl)
          clear ho
          refine wp_region_held_drew (S := fun w' => (∀ i : Nat, w'.cell? ⟨g8, i, none⟩ = (#[.int .i64 d, .int .i64 n, .int .i64 1, .int .i64 piece, .int .i64 v, .int .i64 0] : Array Value)[i]?) ∧ True ∧ True) (by kernel_rfl) (hSH.out _ HE8.out) (fun hHeld => ?_)
          refine wpAnyH_take (i := 0) (v := ?_) rfl (by kernel_rfl) (by kernel_rfl) (by kernel_rfl) (fun _ _ _ h => h) (Or.inl ⟨by kernel_rfl, ?_⟩) (by assumption) ?_
          rotate_left
          · (intro w hSw; (try dsimp only at hSw); (try (obtain ⟨hSw1, hSw2, hSw3⟩ := hSw)); go_simp; try (with_reducible rfl))
          try simp only [List.getElem_toArray, List.getElem_cons_zero, Act.put, List.setIfInBounds_toArray, List.set_cons_zero, List.set_cons_succ]
          refine wpAnyH_take (i := 1) (v := ?_) rfl (by kernel_rfl) (by kernel_rfl) (by kernel_rfl) (fun _ _ _ h => h) (Or.inl ⟨by kernel_rfl, ?_⟩) (by assumption) ?_
          rotate_left
          · (intro w hSw; (try dsimp only at hSw); (try (obtain ⟨hSw1, hSw2, hSw3⟩ := hSw)); go_simp; try (with_reducible rfl))
          try simp only [List.getElem_toArray, List.getElem_cons_succ, List.getElem_cons_zero, Act.put, List.setIfInBounds_toArray, List.set_cons_zero, List.set_cons_succ]
          refine wpAnyH_take (i := 2) (v := ?_) rfl (by kernel_rfl) (by kernel_rfl) (by kernel_rfl) (fun _ _ _ h => h) (Or.inl ⟨by kernel_rfl, ?_⟩) (by assumption) ?_
          rotate_left
          · (intro w hSw; (try dsimp only at hSw); (try (obtain ⟨hSw1, hSw2, hSw3⟩ := hSw)); go_simp; try (with_reducible rfl))
          try simp only [List.getElem_toArray, List.getElem_cons_succ, List.getElem_cons_zero, Act.put, List.setIfInBounds_toArray, List.set_cons_zero, List.set_cons_succ]
          refine wpAnyH_take (i := 3) (v := ?_) rfl (by kernel_rfl) (by kernel_rfl) (by kernel_rfl) (fun _ _ _ h => h) (Or.inl ⟨by kernel_rfl, ?_⟩) (by assumption) ?_
          rotate_left
          · (intro w hSw; (try dsimp only at hSw); (try (obtain ⟨hSw1, hSw2, hSw3⟩ := hSw)); go_simp; try (with_reducible rfl))
          try simp only [List.getElem_toArray, List.getElem_cons_succ, List.getElem_cons_zero, Act.put, List.setIfInBounds_toArray, List.set_cons_zero, List.set_cons_succ]
          refine wpAnyH_ready (rs := [4]) (by kernel_rfl) (by simp) ?_
          refine AllReadyH.cons rfl (fun K hK => ?_) AllReadyH.nil
          go_simp
          refine (KOK.out _ (HG.out.below (B := w.heap.size) belo hz)).mono ?_
          rintro e w4 ⟨rfl, b4⟩
          have HE9 := Lib.hid (Blk.kept (Blk.drew HE8.out) b4)
          have HEF := Lib.hid (Blk.kept (Blk.drew HEE.out) b4)
          have B4 : Below w.heap.size w w4 := Below.trans (Below.drew BW) (b4.mono BW.size)
          clear b4
          go_simp
          refine hK.out _ _ (hSH.out _ HE9.out) (fun hHeld => ?_)
          clear hK K
          try simp only [List.getElem_toArray, List.getElem_cons_succ, List.getElem_cons_zero, Act.put, List.setIfInBounds_toArray, List.set_cons_zero, List.set_cons_succ]
          refine wpAnyH_take (i := 5) (v := ?_) rfl (by kernel_rfl) (by kernel_rfl) (by kernel_rfl) (fun _ _ _ h => h) (Or.inl ⟨by kernel_rfl, ?_⟩) (by assumption) ?_
          rotate_left
          · (intro w hSw; (try dsimp only at hSw); (try (obtain ⟨hSw1, hSw2, hSw3⟩ := hSw)); go_simp; try (with_reducible rfl))
          try simp only [List.getElem_toArray, List.getElem_cons_succ, List.getElem_cons_zero, Act.put, List.setIfInBounds_toArray, List.set_cons_zero, List.set_cons_succ]
          have y0 := HEF.out.cell 0
          have y1 := HEF.out.cell 1
          have y2 := HEF.out.cell 2
          have y3 := HEF.out.cell 3
          have y4 := HEF.out.cell 4
          have y5 := HEF.out.cell 5
          have yf := fun i => HEF.out.frozen i
          have yl := HEF.out.lt
          simp only [List.getElem?_toArray, List.getElem?_cons_succ, List.getElem?_cons_zero] at y0 y1 y2 y3 y4 y5
          have HF := Lib.hid ((((((HEF.out.set_ 0 (.int .i64 d)).set_ 1 (.int .i64 n)).set_ 2 (.int .i64 1)).set_ 3 (.int .i64 piece)).set_ 4 (.int .i64 v)).set_ 5 (.int .i64 0))
          have HFE := Lib.hid (Blk.far (p := ⟨w.heap.size + 1 + 1, 5, none⟩) (Blk.far (p := ⟨w.heap.size + 1 + 1, 4, none⟩) (Blk.far (p := ⟨w.heap.size + 1 + 1, 3, none⟩) (Blk.far (p := ⟨w.heap.size + 1 + 1, 2, none⟩) (Blk.far (p := ⟨w.heap.size + 1 + 1, 1, none⟩) (Blk.far (p := ⟨w.heap.size + 1 + 1, 0, none⟩) HE9.out ng (.int .i64 d)) ng (.int .i64 n)) ng (.int .i64 1)) ng (.int .i64 piece)) ng (.int .i64 v)) ng (.int .i64 0))
          have BF : Below w.heap.size w ((((((w4.setCell ⟨w.heap.size + 1 + 1, 0, none⟩ (.int .i64 d)).setCell ⟨w.heap.size + 1 + 1, 1, none⟩ (.int .i64 n)).setCell ⟨w.heap.size + 1 + 1, 2, none⟩ (.int .i64 1)).setCell ⟨w.heap.size + 1 + 1, 3, none⟩ (.int .i64 piece)).setCell ⟨w.heap.size + 1 + 1, 4, none⟩ (.int .i64 v)).setCell ⟨w.heap.size + 1 + 1, 5, none⟩ (.int .i64 0)) := belo
          refine wpAnyH_ready (rs := [6]) (by kernel_rfl) (by simp) ?_
          refine AllReadyH.cons rfl (fun K hK => ?_) AllReadyH.nil
          go_simp
          refine hK.out _ _ (hSH.out _ HFE.out) (fun hHeld => ?_)
          clear hK K
          try simp only [List.getElem_toArray, List.getElem_cons_succ, List.getElem_cons_zero, Act.put, List.setIfInBounds_toArray, List.set_cons_zero, List.set_cons_succ]
          refine wpAnyH_take (i := 7) (v := ?_) rfl (by kernel_rfl) (by kernel_rfl) (by kernel_rfl) (fun _ _ _ h => h) (Or.inl ⟨by kernel_rfl, ?_⟩) (by assumption) ?_
          rotate_left
          · (intro w hSw; (try dsimp only at hSw); (try (obtain ⟨hSw1, hSw2, hSw3⟩ := hSw)); go_simp; try (with_reducible rfl))
          try simp only [List.getElem_toArray, List.getElem_cons_succ, List.getElem_cons_zero, Act.put, List.setIfInBounds_toArray, List.set_cons_zero, List.set_cons_succ]
          refine wpAnyH_done (by kernel_rfl) ?_ _
          clear y0 y1 y2 y3 y4 y5 yf yl
          generalize ((((((w4.setCell ⟨w.heap.size + 1 + 1, 0, none⟩ (.int .i64 d)).setCell ⟨w.heap.size + 1 + 1, 1, none⟩ (.int .i64 n)).setCell ⟨w.heap.size + 1 + 1, 2, none⟩ (.int .i64 1)).setCell ⟨w.heap.size + 1 + 1, 3, none⟩ (.int .i64 piece)).setCell ⟨w.heap.size + 1 + 1, 4, none⟩ (.int .i64 v)).setCell ⟨w.heap.size + 1 + 1, 5, none⟩ (.int .i64 0)) = wf at *
          have z := fun i => HF.out.cell i
          go_wp2
          refine bodyPost_ret (v := .tuple #[.agg #[.int .i64 d, .int .i64 n, .int .i64 1, .int .i64 piece, .int .i64 v, .int .i64 0], .bool true]) (by simp [results, Tryd.results50, go_sem, z]) rfl ⟨⟨d, n, 1, piece, v, 0⟩, by rw [HWO.out], HWE.out, BF⟩
        · have KOK := Lib.hid (fun W hg => EntryOk_no d n 1 piece v 0 W hg ho)
          have HWO : Hid (decide (wOk ⟨d, n⟩ ⟨true, piece, out⟩) = false) := Lib.hid (decide_eq_false (fun h => ho (by rw [HVV.out]; exact ⟨h.2, by show (0 : Int) ≤ 0; omega, by show (0 : Int) ≤ 996; omega⟩)))
          have HWE : Hid (wOk ⟨d, n⟩ ⟨true, piece, out⟩ → (⟨d, n, 1, piece, v, 0⟩ : En) = entU ⟨d, n⟩ ⟨true, piece, out⟩) := Lib.hid (fun _ => by rw [HVV.out]; rfl)
          clear ho
          refine wp_region_held_drew (S := fun w' => (∀ i : Nat, w'.cell? ⟨g8, i, none⟩ = (#[.int .i64 d, .int .i64 n, .int .i64 1, .int .i64 piece, .int .i64 v, .int .i64 0] : Array Value)[i]?) ∧ True ∧ True) (by kernel_rfl) (hSH.out _ HE8.out) (fun hHeld => ?_)
          refine wpAnyH_take (i := 0) (v := ?_) rfl (by kernel_rfl) (by kernel_rfl) (by kernel_rfl) (fun _ _ _ h => h) (Or.inl ⟨by kernel_rfl, ?_⟩) (by assumption) ?_
          rotate_left
          · (intro w hSw; (try dsimp only at hSw); (try (obtain ⟨hSw1, hSw2, hSw3⟩ := hSw)); go_simp; try (with_reducible rfl))
          try simp only [List.getElem_toArray, List.getElem_cons_zero, Act.put, List.setIfInBounds_toArray, List.set_cons_zero, List.set_cons_succ]
          refine wpAnyH_take (i := 1) (v := ?_) rfl (by kernel_rfl) (by kernel_rfl) (by kernel_rfl) (fun _ _ _ h => h) (Or.inl ⟨by kernel_rfl, ?_⟩) (by assumption) ?_
          rotate_left
          · (intro w hSw; (try dsimp only at hSw); (try (obtain ⟨hSw1, hSw2, hSw3⟩ := hSw)); go_simp; try (with_reducible rfl))
          try simp only [List.getElem_toArray, List.getElem_cons_succ, List.getElem_cons_zero, Act.put, List.setIfInBounds_toArray, List.set_cons_zero, List.set_cons_succ]
          refine wpAnyH_take (i := 2) (v := ?_) rfl (by kernel_rfl) (by kernel_rfl) (by kernel_rfl) (fun _ _ _ h => h) (Or.inl ⟨by kernel_rfl, ?_⟩) (by assumption) ?_
          rotate_left
          · (intro w hSw; (try dsimp only at hSw); (try (obtain ⟨hSw1, hSw2, hSw3⟩ := hSw)); go_simp; try (with_reducible rfl))
          try simp only [List.getElem_toArray, List.getElem_cons_succ, List.getElem_cons_zero, Act.put, List.setIfInBounds_toArray, List.set_cons_zero, List.set_cons_succ]
          refine wpAnyH_take (i := 3) (v := ?_) rfl (by kernel_rfl) (by kernel_rfl) (by kernel_rfl) (fun _ _ _ h => h) (Or.inl ⟨by kernel_rfl, ?_⟩) (by assumption) ?_
          rotate_left
          · (intro w hSw; (try dsimp only at hSw); (try (obtain ⟨hSw1, hSw2, hSw3⟩ := hSw)); go_simp; try (with_reducible rfl))
          try simp only [List.getElem_toArray, List.getElem_cons_succ, List.getElem_cons_zero, Act.put, List.setIfInBounds_toArray, List.set_cons_zero, List.set_cons_succ]
          refine wpAnyH_ready (rs := [4]) (by kernel_rfl) (by simp) ?_
          refine AllReadyH.cons rfl (fun K hK => ?_) AllReadyH.nil
          go_simp
          refine (KOK.out _ (HG.out.below (B := w.heap.size) belo hz)).mono ?_
          rintro e w4 ⟨rfl, b4⟩
          have HE9 := Lib.hid (Blk.kept (Blk.drew HE8.out) b4)
          have HEF := Lib.hid (Blk.kept (Blk.drew HEE.out) b4)
          have B4 : Below w.heap.size w w4 := Below.trans (Below.drew BW) (b4.mono BW.size)
          clear b4
          go_simp
          refine hK.out _ _ (hSH.out _ HE9.out) (fun hHeld => ?_)
          clear hK K
          try simp only [List.getElem_toArray, List.getElem_cons_succ, List.getElem_cons_zero, Act.put, List.setIfInBounds_toArray, List.set_cons_zero, List.set_cons_succ]
          refine wpAnyH_take (i := 5) (v := ?_) rfl (by kernel_rfl) (by kernel_rfl) (by kernel_rfl) (fun _ _ _ h => h) (Or.inl ⟨by kernel_rfl, ?_⟩) (by assumption) ?_
          rotate_left
          · (intro w hSw; (try dsimp only at hSw); (try (obtain ⟨hSw1, hSw2, hSw3⟩ := hSw)); go_simp; try (with_reducible rfl))
          try simp only [List.getElem_toArray, List.getElem_cons_succ, List.getElem_cons_zero, Act.put, List.setIfInBounds_toArray, List.set_cons_zero, List.set_cons_succ]
          have y0 := HEF.out.cell 0
          have y1 := HEF.out.cell 1
          have y2 := HEF.out.cell 2
          have y3 := HEF.out.cell 3
          have y4 := HEF.out.cell 4
          have y5 := HEF.out.cell 5
          have yf := fun i => HEF.out.frozen i
          have yl := HEF.out.lt
          simp only [List.getElem?_toArray, List.getElem?_cons_succ, List.getElem?_cons_zero] at y0 y1 y2 y3 y4 y5
          have HF := Lib.hid ((((((HEF.out.set_ 0 (.int .i64 d)).set_ 1 (.int .i64 n)).set_ 2 (.int .i64 1)).set_ 3 (.int .i64 piece)).set_ 4 (.int .i64 v)).set_ 5 (.int .i64 0))
          have HFE := Lib.hid (Blk.far (p := ⟨w.heap.size + 1 + 1, 5, none⟩) (Blk.far (p := ⟨w.heap.size + 1 + 1, 4, none⟩) (Blk.far (p := ⟨w.heap.size + 1 + 1, 3, none⟩) (Blk.far (p := ⟨w.heap.size + 1 + 1, 2, none⟩) (Blk.far (p := ⟨w.heap.size + 1 + 1, 1, none⟩) (Blk.far (p := ⟨w.heap.size + 1 + 1, 0, none⟩) HE9.out ng (.int .i64 d)) ng (.int .i64 n)) ng (.int .i64 1)) ng (.int .i64 piece)) ng (.int .i64 v)) ng (.int .i64 0))
          have BF : Below w.heap.size w ((((((w4.setCell ⟨w.heap.size + 1 + 1, 0, none⟩ (.int .i64 d)).setCell ⟨w.heap.size + 1 + 1, 1, none⟩ (.int .i64 n)).setCell ⟨w.heap.size + 1 + 1, 2, none⟩ (.int .i64 1)).setCell ⟨w.heap.size + 1 + 1, 3, none⟩ (.int .i64 piece)).setCell ⟨w.heap.size + 1 + 1, 4, none⟩ (.int .i64 v)).setCell ⟨w.heap.size + 1 + 1, 5, none⟩ (.int .i64 0)) := belo
          refine wpAnyH_ready (rs := [6]) (by kernel_rfl) (by simp) ?_
          refine AllReadyH.cons rfl (fun K hK => ?_) AllReadyH.nil
          go_simp
          refine hK.out _ _ (hSH.out _ HFE.out) (fun hHeld => ?_)
          clear hK K
          try simp only [List.getElem_toArray, List.getElem_cons_succ, List.getElem_cons_zero, Act.put, List.setIfInBounds_toArray, List.set_cons_zero, List.set_cons_succ]
          refine wpAnyH_take (i := 7) (v := ?_) rfl (by kernel_rfl) (by kernel_rfl) (by kernel_rfl) (fun _ _ _ h => h) (Or.inl ⟨by kernel_rfl, ?_⟩) (by assumption) ?_
          rotate_left
          · (intro w hSw; (try dsimp only at hSw); (try (obtain ⟨hSw1, hSw2, hSw3⟩ := hSw)); go_simp; try (with_reducible rfl))
          try simp only [List.getElem_toArray, List.getElem_cons_succ, List.getElem_cons_zero, Act.put, List.setIfInBounds_toArray, List.set_cons_zero, List.set_cons_succ]
          refine wpAnyH_done (by kernel_rfl) ?_ _
          clear y0 y1 y2 y3 y4 y5 yf yl
          generalize ((((((w4.setCell ⟨w.heap.size + 1 + 1, 0, none⟩ (.int .i64 d)).setCell ⟨w.heap.size + 1 + 1, 1, none⟩ (.int .i64 n)).setCell ⟨w.heap.size + 1 + 1, 2, none⟩ (.int .i64 1)).setCell ⟨w.heap.size + 1 + 1, 3, none⟩ (.int .i64 piece)).setCell ⟨w.heap.size + 1 + 1, 4, none⟩ (.int .i64 v)).setCell ⟨w.heap.size + 1 + 1, 5, none⟩ (.int .i64 0)) = wf at *
          have z := fun i => HF.out.cell i
          go_wp2
          refine bodyPost_ret (v := .tuple #[.agg #[.int .i64 d, .int .i64 n, .int .i64 1, .int .i64 piece, .int .i64 v, .int .i64 0], .bool false]) (by simp [results, Tryd.results50, go_sem, z]) rfl ⟨⟨d, n, 1, piece, v, 0⟩, by rw [HWO.out], HWE.out, BF⟩
end Go.Proofs.YtnoccmghclmpnaaDoor

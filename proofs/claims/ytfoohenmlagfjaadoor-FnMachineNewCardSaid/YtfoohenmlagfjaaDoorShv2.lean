/- The program's shelvesFrom at every slice of goods. -/
import Derived.Test.YtfoohenmlagfjaaDoorShv
namespace Go.Proofs.YtfoohenmlagfjaaDoor
open Go.RowKit

set_option maxRecDepth 100000 in
theorem shelvesFrom_1bad0 (b off c : Nat) (g0 : Gd) (w : World) (c0 : w.cell? ⟨b, off, none⟩ = some (.int .i64 g0.p)) (c1 : w.cell? ⟨b, off + 1, none⟩ = some (.int .i64 g0.s))  (kb : g0.ok = false) :
    Calls Tryd.prog 86 #[.slice (some ⟨b, off, none⟩) 1 c] w fun e w' => e = .returned (.tuple #[shv Sh.zero, .bool false]) ∧ Below w.heap.size w w' := by
  obtain ⟨p0, s0⟩ := g0
  have K0 := Lib.hid (fun W => inBoundsG_no ⟨p0, s0⟩ W kb)
  clear kb
  have hcp : ∀ ty, (Builtin.copy_ #[24, 24] ty #[.slice (some ⟨w.heap.size + 1, 0, none⟩) 3 3, .slice (some ⟨b, off, none⟩) 1 c]).run Tryd.prog ((w.alloc (.cells #[.int .i64 0, .int .i64 0, .int .i64 0, .int .i64 0, .int .i64 0, .int .i64 0, .int .i64 0] 79)).alloc (.cells #[.int .i64 0, .int .i64 0, .int .i64 0, .int .i64 0, .int .i64 0, .int .i64 0, .int .i64 1] 79))
      = .ok (goInt 1) ((w.alloc (.cells #[.int .i64 0, .int .i64 0, .int .i64 0, .int .i64 0, .int .i64 0, .int .i64 0, .int .i64 0] 79)).alloc (.cells #[.int .i64 p0, .int .i64 s0, .int .i64 0, .int .i64 0, .int .i64 0, .int .i64 0, .int .i64 1] 79)) := fun ty => copied1 b off c ⟨p0, s0⟩ w c0 c1 ty
  dsimp only at c0 c1
  have hbw : b < w.heap.size := World.block_lt_of_cell? w _ c0
  go_enter Tryd.func86, Tryd.ntmps86
  go_wp2_with fail
  refine wp_loop_rounds 2 ?_
  rw [rounds_succ]
  go_wp2_with fail
  refine (K0.out _).mono ?_
  rintro e w1 ⟨rfl, hb1⟩
  have R1 : Blk w1 w.heap.size 79 #[.int .i64 0, .int .i64 0, .int .i64 0, .int .i64 0, .int .i64 0, .int .i64 0, .int .i64 0] := (((Blk.new w _ _).alloc _).alloc _).kept hb1
  have S1 : Blk w1 (w.heap.size + 1) 79 #[.int .i64 p0, .int .i64 s0, .int .i64 0, .int .i64 0, .int .i64 0, .int .i64 0, .int .i64 1] := ((Blk.new' (by simp)).alloc _).kept hb1
  have B1 : Below w.heap.size w w1 := Below.trans (by repeat' (first | with_reducible exact Below.refl _ _ | with_reducible assumption | with_reducible apply Below.drew | with_reducible apply below_drewN | (with_reducible refine Below.setCell ?_ ?_ _) | (with_reducible refine Below.alloc ?_ ?_ _) | with_reducible exact Nat.le_refl _ | with_reducible exact Below.size (by assumption) | (simp; done) | (simp; done) | omega | (simp; omega))) (hb1.mono (by simp; omega))
  have z1 := B1.size
  have d1_0 := (B1.cell (p := ⟨b, off, none⟩) hbw).trans c0
  have d1_1 := (B1.cell (p := ⟨b, off + 1, none⟩) hbw).trans c1
  clear hb1
  have cR := fun i => R1.cell i
  have fR := fun i => R1.frozen i
  have cS := fun i => S1.cell i
  have fS := fun i => S1.frozen i
  go_wp2
  exact bodyPost_ret (v := .tuple #[shv Sh.zero, .bool false]) (by simp [results, Tryd.results86, go_sem, cR, Sh.zero, Gd.none2]) rfl ⟨rfl, (by repeat' (first | with_reducible exact Below.refl _ _ | with_reducible assumption | with_reducible apply Below.drew | with_reducible apply below_drewN | (with_reducible refine Below.setCell ?_ ?_ _) | (with_reducible refine Below.alloc ?_ ?_ _) | with_reducible exact Nat.le_refl _ | with_reducible exact Below.size (by assumption) | (simp; done) | (simp; done) | omega | (simp; omega)))⟩

set_option maxRecDepth 100000 in
theorem shelvesFrom_1ok (b off c : Nat) (g0 : Gd) (w : World) (c0 : w.cell? ⟨b, off, none⟩ = some (.int .i64 g0.p)) (c1 : w.cell? ⟨b, off + 1, none⟩ = some (.int .i64 g0.s)) (k0 : g0.ok = true)  :
    Calls Tryd.prog 86 #[.slice (some ⟨b, off, none⟩) 1 c] w fun e w' => e = .returned (.tuple #[shv (shOf [g0]), .bool true]) ∧ Below w.heap.size w w' := by
  obtain ⟨p0, s0⟩ := g0
  have K0 := Lib.hid (fun W => inBoundsG_yes ⟨p0, s0⟩ W k0)
  clear k0
  have hcp : ∀ ty, (Builtin.copy_ #[24, 24] ty #[.slice (some ⟨w.heap.size + 1, 0, none⟩) 3 3, .slice (some ⟨b, off, none⟩) 1 c]).run Tryd.prog ((w.alloc (.cells #[.int .i64 0, .int .i64 0, .int .i64 0, .int .i64 0, .int .i64 0, .int .i64 0, .int .i64 0] 79)).alloc (.cells #[.int .i64 0, .int .i64 0, .int .i64 0, .int .i64 0, .int .i64 0, .int .i64 0, .int .i64 1] 79))
      = .ok (goInt 1) ((w.alloc (.cells #[.int .i64 0, .int .i64 0, .int .i64 0, .int .i64 0, .int .i64 0, .int .i64 0, .int .i64 0] 79)).alloc (.cells #[.int .i64 p0, .int .i64 s0, .int .i64 0, .int .i64 0, .int .i64 0, .int .i64 0, .int .i64 1] 79)) := fun ty => copied1 b off c ⟨p0, s0⟩ w c0 c1 ty
  dsimp only at c0 c1
  have hbw : b < w.heap.size := World.block_lt_of_cell? w _ c0
  go_enter Tryd.func86, Tryd.ntmps86
  go_wp2_with fail
  refine wp_loop_rounds 2 ?_
  rw [rounds_succ]
  go_wp2_with fail
  refine (K0.out _).mono ?_
  rintro e w1 ⟨rfl, hb1⟩
  have R1 : Blk w1 w.heap.size 79 #[.int .i64 0, .int .i64 0, .int .i64 0, .int .i64 0, .int .i64 0, .int .i64 0, .int .i64 0] := (((Blk.new w _ _).alloc _).alloc _).kept hb1
  have S1 : Blk w1 (w.heap.size + 1) 79 #[.int .i64 p0, .int .i64 s0, .int .i64 0, .int .i64 0, .int .i64 0, .int .i64 0, .int .i64 1] := ((Blk.new' (by simp)).alloc _).kept hb1
  have B1 : Below w.heap.size w w1 := Below.trans (by repeat' (first | with_reducible exact Below.refl _ _ | with_reducible assumption | with_reducible apply Below.drew | with_reducible apply below_drewN | (with_reducible refine Below.setCell ?_ ?_ _) | (with_reducible refine Below.alloc ?_ ?_ _) | with_reducible exact Nat.le_refl _ | with_reducible exact Below.size (by assumption) | (simp; done) | (simp; done) | omega | (simp; omega))) (hb1.mono (by simp; omega))
  have z1 := B1.size
  have d1_0 := (B1.cell (p := ⟨b, off, none⟩) hbw).trans c0
  have d1_1 := (B1.cell (p := ⟨b, off + 1, none⟩) hbw).trans c1
  clear hb1
  have cR := fun i => R1.cell i
  have fR := fun i => R1.frozen i
  have cS := fun i => S1.cell i
  have fS := fun i => S1.frozen i
  go_wp2
  rw [rounds_succ]
  go_wp2
  exact bodyPost_ret (v := .tuple #[shv (shOf [⟨p0, s0⟩]), .bool true]) (by simp [results, Tryd.results86, go_sem, cR, shOf, gd, Gd.none2]) rfl ⟨rfl, (by repeat' (first | with_reducible exact Below.refl _ _ | with_reducible assumption | with_reducible apply Below.drew | with_reducible apply below_drewN | (with_reducible refine Below.setCell ?_ ?_ _) | (with_reducible refine Below.alloc ?_ ?_ _) | with_reducible exact Nat.le_refl _ | with_reducible exact Below.size (by assumption) | (simp; done) | (simp; done) | omega | (simp; omega)))⟩

theorem copied2 (b off c : Nat) (g0 g1 : Gd) (w : World) (c0 : w.cell? ⟨b, off, none⟩ = some (.int .i64 g0.p)) (c1 : w.cell? ⟨b, off + 1, none⟩ = some (.int .i64 g0.s)) (c2 : w.cell? ⟨b, off + 2, none⟩ = some (.int .i64 g1.p)) (c3 : w.cell? ⟨b, off + 3, none⟩ = some (.int .i64 g1.s)) (ty : TypeId) :
    (Builtin.copy_ #[24, 24] ty #[.slice (some ⟨w.heap.size + 1, 0, none⟩) 3 3, .slice (some ⟨b, off, none⟩) 2 c]).run Tryd.prog ((w.alloc (.cells (sc Sh.zero) 79)).alloc (.cells (sc { Sh.zero with m := 2 }) 79))
      = .ok (goInt 2) ((w.alloc (.cells (sc Sh.zero) 79)).alloc (.cells (sc (shOf [g0, g1])) 79)) := by
  have hb : b < w.heap.size := World.block_lt_of_cell? w _ c0
  have hk : ∀ o (X Y : Obj), ((w.alloc X).alloc Y).cell? ⟨b, o, none⟩ = w.cell? ⟨b, o, none⟩ := fun o X Y => by
    rw [World.cell?_alloc_lt _ _ _ (by simp; omega), World.cell?_alloc_lt _ _ _ (by simpa using hb)]
  rw [run_copyG _ ty (w.heap.size + 1) b off 2 c [.int .i64 g0.p, .int .i64 g0.s, .int .i64 g1.p, .int .i64 g1.s] rfl (by omega)
    (by
      intro j v hj
      match j, hj with
      | 0, hj => simp at hj; subst hj; exact (hk _ _ _).trans c0
      | 1, hj => simp at hj; subst hj; exact (hk _ _ _).trans c1
      | 2, hj => simp at hj; subst hj; exact (hk _ _ _).trans c2
      | 3, hj => simp at hj; subst hj; exact (hk _ _ _).trans c3)
    (by
      intro j hj
      have : j < 4 := by simpa using hj
      match j, this with
      | 0, _ => unfold sc; go_simp
      | 1, _ => unfold sc; go_simp
      | 2, _ => unfold sc; go_simp
      | 3, _ => unfold sc; go_simp)
    (by
      intro j hj
      have : j < 4 := by simpa using hj
      match j, this with
      | 0, _ => unfold sc; go_simp
      | 1, _ => unfold sc; go_simp
      | 2, _ => unfold sc; go_simp
      | 3, _ => unfold sc; go_simp)
    (by intro v hv; simp at hv; rcases hv with rfl | rfl | rfl | rfl <;> rfl)]
  simp only [World.setCells]
  unfold sc
  go_simp
  rfl

set_option maxRecDepth 100000 in
theorem shelvesFrom_2bad0 (b off c : Nat) (g0 g1 : Gd) (w : World) (c0 : w.cell? ⟨b, off, none⟩ = some (.int .i64 g0.p)) (c1 : w.cell? ⟨b, off + 1, none⟩ = some (.int .i64 g0.s)) (c2 : w.cell? ⟨b, off + 2, none⟩ = some (.int .i64 g1.p)) (c3 : w.cell? ⟨b, off + 3, none⟩ = some (.int .i64 g1.s))  (kb : g0.ok = false) :
    Calls Tryd.prog 86 #[.slice (some ⟨b, off, none⟩) 2 c] w fun e w' => e = .returned (.tuple #[shv Sh.zero, .bool false]) ∧ Below w.heap.size w w' := by
  obtain ⟨p0, s0⟩ := g0
  obtain ⟨p1, s1⟩ := g1
  have K0 := Lib.hid (fun W => inBoundsG_no ⟨p0, s0⟩ W kb)
  clear kb
  have hcp : ∀ ty, (Builtin.copy_ #[24, 24] ty #[.slice (some ⟨w.heap.size + 1, 0, none⟩) 3 3, .slice (some ⟨b, off, none⟩) 2 c]).run Tryd.prog ((w.alloc (.cells #[.int .i64 0, .int .i64 0, .int .i64 0, .int .i64 0, .int .i64 0, .int .i64 0, .int .i64 0] 79)).alloc (.cells #[.int .i64 0, .int .i64 0, .int .i64 0, .int .i64 0, .int .i64 0, .int .i64 0, .int .i64 2] 79))
      = .ok (goInt 2) ((w.alloc (.cells #[.int .i64 0, .int .i64 0, .int .i64 0, .int .i64 0, .int .i64 0, .int .i64 0, .int .i64 0] 79)).alloc (.cells #[.int .i64 p0, .int .i64 s0, .int .i64 p1, .int .i64 s1, .int .i64 0, .int .i64 0, .int .i64 2] 79)) := fun ty => copied2 b off c ⟨p0, s0⟩ ⟨p1, s1⟩ w c0 c1 c2 c3 ty
  dsimp only at c0 c1 c2 c3
  have hbw : b < w.heap.size := World.block_lt_of_cell? w _ c0
  go_enter Tryd.func86, Tryd.ntmps86
  go_wp2_with fail
  refine wp_loop_rounds 2 ?_
  rw [rounds_succ]
  go_wp2_with fail
  refine (K0.out _).mono ?_
  rintro e w1 ⟨rfl, hb1⟩
  have R1 : Blk w1 w.heap.size 79 #[.int .i64 0, .int .i64 0, .int .i64 0, .int .i64 0, .int .i64 0, .int .i64 0, .int .i64 0] := (((Blk.new w _ _).alloc _).alloc _).kept hb1
  have S1 : Blk w1 (w.heap.size + 1) 79 #[.int .i64 p0, .int .i64 s0, .int .i64 p1, .int .i64 s1, .int .i64 0, .int .i64 0, .int .i64 2] := ((Blk.new' (by simp)).alloc _).kept hb1
  have B1 : Below w.heap.size w w1 := Below.trans (by repeat' (first | with_reducible exact Below.refl _ _ | with_reducible assumption | with_reducible apply Below.drew | with_reducible apply below_drewN | (with_reducible refine Below.setCell ?_ ?_ _) | (with_reducible refine Below.alloc ?_ ?_ _) | with_reducible exact Nat.le_refl _ | with_reducible exact Below.size (by assumption) | (simp; done) | (simp; done) | omega | (simp; omega))) (hb1.mono (by simp; omega))
  have z1 := B1.size
  have d1_0 := (B1.cell (p := ⟨b, off, none⟩) hbw).trans c0
  have d1_1 := (B1.cell (p := ⟨b, off + 1, none⟩) hbw).trans c1
  have d1_2 := (B1.cell (p := ⟨b, off + 2, none⟩) hbw).trans c2
  have d1_3 := (B1.cell (p := ⟨b, off + 3, none⟩) hbw).trans c3
  clear hb1
  have cR := fun i => R1.cell i
  have fR := fun i => R1.frozen i
  have cS := fun i => S1.cell i
  have fS := fun i => S1.frozen i
  go_wp2
  exact bodyPost_ret (v := .tuple #[shv Sh.zero, .bool false]) (by simp [results, Tryd.results86, go_sem, cR, Sh.zero, Gd.none2]) rfl ⟨rfl, (by repeat' (first | with_reducible exact Below.refl _ _ | with_reducible assumption | with_reducible apply Below.drew | with_reducible apply below_drewN | (with_reducible refine Below.setCell ?_ ?_ _) | (with_reducible refine Below.alloc ?_ ?_ _) | with_reducible exact Nat.le_refl _ | with_reducible exact Below.size (by assumption) | (simp; done) | (simp; done) | omega | (simp; omega)))⟩

set_option maxRecDepth 100000 in
theorem shelvesFrom_2bad1 (b off c : Nat) (g0 g1 : Gd) (w : World) (c0 : w.cell? ⟨b, off, none⟩ = some (.int .i64 g0.p)) (c1 : w.cell? ⟨b, off + 1, none⟩ = some (.int .i64 g0.s)) (c2 : w.cell? ⟨b, off + 2, none⟩ = some (.int .i64 g1.p)) (c3 : w.cell? ⟨b, off + 3, none⟩ = some (.int .i64 g1.s)) (k0 : g0.ok = true) (kb : g1.ok = false) :
    Calls Tryd.prog 86 #[.slice (some ⟨b, off, none⟩) 2 c] w fun e w' => e = .returned (.tuple #[shv Sh.zero, .bool false]) ∧ Below w.heap.size w w' := by
  obtain ⟨p0, s0⟩ := g0
  obtain ⟨p1, s1⟩ := g1
  have K0 := Lib.hid (fun W => inBoundsG_yes ⟨p0, s0⟩ W k0)
  have K1 := Lib.hid (fun W => inBoundsG_no ⟨p1, s1⟩ W kb)
  clear k0 kb
  have hcp : ∀ ty, (Builtin.copy_ #[24, 24] ty #[.slice (some ⟨w.heap.size + 1, 0, none⟩) 3 3, .slice (some ⟨b, off, none⟩) 2 c]).run Tryd.prog ((w.alloc (.cells #[.int .i64 0, .int .i64 0, .int .i64 0, .int .i64 0, .int .i64 0, .int .i64 0, .int .i64 0] 79)).alloc (.cells #[.int .i64 0, .int .i64 0, .int .i64 0, .int .i64 0, .int .i64 0, .int .i64 0, .int .i64 2] 79))
      = .ok (goInt 2) ((w.alloc (.cells #[.int .i64 0, .int .i64 0, .int .i64 0, .int .i64 0, .int .i64 0, .int .i64 0, .int .i64 0] 79)).alloc (.cells #[.int .i64 p0, .int .i64 s0, .int .i64 p1, .int .i64 s1, .int .i64 0, .int .i64 0, .int .i64 2] 79)) := fun ty => copied2 b off c ⟨p0, s0⟩ ⟨p1, s1⟩ w c0 c1 c2 c3 ty
  dsimp only at c0 c1 c2 c3
  have hbw : b < w.heap.size := World.block_lt_of_cell? w _ c0
  go_enter Tryd.func86, Tryd.ntmps86
  go_wp2_with fail
  refine wp_loop_rounds 3 ?_
  rw [rounds_succ]
  go_wp2_with fail
  refine (K0.out _).mono ?_
  rintro e w1 ⟨rfl, hb1⟩
  have R1 : Blk w1 w.heap.size 79 #[.int .i64 0, .int .i64 0, .int .i64 0, .int .i64 0, .int .i64 0, .int .i64 0, .int .i64 0] := (((Blk.new w _ _).alloc _).alloc _).kept hb1
  have S1 : Blk w1 (w.heap.size + 1) 79 #[.int .i64 p0, .int .i64 s0, .int .i64 p1, .int .i64 s1, .int .i64 0, .int .i64 0, .int .i64 2] := ((Blk.new' (by simp)).alloc _).kept hb1
  have B1 : Below w.heap.size w w1 := Below.trans (by repeat' (first | with_reducible exact Below.refl _ _ | with_reducible assumption | with_reducible apply Below.drew | with_reducible apply below_drewN | (with_reducible refine Below.setCell ?_ ?_ _) | (with_reducible refine Below.alloc ?_ ?_ _) | with_reducible exact Nat.le_refl _ | with_reducible exact Below.size (by assumption) | (simp; done) | (simp; done) | omega | (simp; omega))) (hb1.mono (by simp; omega))
  have z1 := B1.size
  have d1_0 := (B1.cell (p := ⟨b, off, none⟩) hbw).trans c0
  have d1_1 := (B1.cell (p := ⟨b, off + 1, none⟩) hbw).trans c1
  have d1_2 := (B1.cell (p := ⟨b, off + 2, none⟩) hbw).trans c2
  have d1_3 := (B1.cell (p := ⟨b, off + 3, none⟩) hbw).trans c3
  clear hb1
  go_wp2
  rw [rounds_succ]
  go_wp2_with fail
  refine (K1.out _).mono ?_
  rintro e w2 ⟨rfl, hb2⟩
  have R2 := (R1.alloc _).kept hb2
  have S2 := (S1.alloc _).kept hb2
  have B2 : Below w.heap.size w w2 := Below.trans B1 (Below.trans (by repeat' (first | with_reducible exact Below.refl _ _ | with_reducible assumption | with_reducible apply Below.drew | with_reducible apply below_drewN | (with_reducible refine Below.setCell ?_ ?_ _) | (with_reducible refine Below.alloc ?_ ?_ _) | with_reducible exact Nat.le_refl _ | with_reducible exact Below.size (by assumption) | (simp; done) | (simp; done) | omega | (simp; omega))) (hb2.mono (by simp; omega)))
  clear R1 S1
  have z2 := B2.size
  have d2_0 := (B2.cell (p := ⟨b, off, none⟩) hbw).trans c0
  have d2_1 := (B2.cell (p := ⟨b, off + 1, none⟩) hbw).trans c1
  have d2_2 := (B2.cell (p := ⟨b, off + 2, none⟩) hbw).trans c2
  have d2_3 := (B2.cell (p := ⟨b, off + 3, none⟩) hbw).trans c3
  clear hb2
  have cR := fun i => R2.cell i
  have fR := fun i => R2.frozen i
  have cS := fun i => S2.cell i
  have fS := fun i => S2.frozen i
  go_wp2
  exact bodyPost_ret (v := .tuple #[shv Sh.zero, .bool false]) (by simp [results, Tryd.results86, go_sem, cR, Sh.zero, Gd.none2]) rfl ⟨rfl, (by repeat' (first | with_reducible exact Below.refl _ _ | with_reducible assumption | with_reducible apply Below.drew | with_reducible apply below_drewN | (with_reducible refine Below.setCell ?_ ?_ _) | (with_reducible refine Below.alloc ?_ ?_ _) | with_reducible exact Nat.le_refl _ | with_reducible exact Below.size (by assumption) | (simp; done) | (simp; done) | omega | (simp; omega)))⟩

set_option maxRecDepth 100000 in
theorem shelvesFrom_2ok (b off c : Nat) (g0 g1 : Gd) (w : World) (c0 : w.cell? ⟨b, off, none⟩ = some (.int .i64 g0.p)) (c1 : w.cell? ⟨b, off + 1, none⟩ = some (.int .i64 g0.s)) (c2 : w.cell? ⟨b, off + 2, none⟩ = some (.int .i64 g1.p)) (c3 : w.cell? ⟨b, off + 3, none⟩ = some (.int .i64 g1.s)) (k0 : g0.ok = true) (k1 : g1.ok = true)  :
    Calls Tryd.prog 86 #[.slice (some ⟨b, off, none⟩) 2 c] w fun e w' => e = .returned (.tuple #[shv (shOf [g0, g1]), .bool true]) ∧ Below w.heap.size w w' := by
  obtain ⟨p0, s0⟩ := g0
  obtain ⟨p1, s1⟩ := g1
  have K0 := Lib.hid (fun W => inBoundsG_yes ⟨p0, s0⟩ W k0)
  have K1 := Lib.hid (fun W => inBoundsG_yes ⟨p1, s1⟩ W k1)
  clear k0 k1
  have hcp : ∀ ty, (Builtin.copy_ #[24, 24] ty #[.slice (some ⟨w.heap.size + 1, 0, none⟩) 3 3, .slice (some ⟨b, off, none⟩) 2 c]).run Tryd.prog ((w.alloc (.cells #[.int .i64 0, .int .i64 0, .int .i64 0, .int .i64 0, .int .i64 0, .int .i64 0, .int .i64 0] 79)).alloc (.cells #[.int .i64 0, .int .i64 0, .int .i64 0, .int .i64 0, .int .i64 0, .int .i64 0, .int .i64 2] 79))
      = .ok (goInt 2) ((w.alloc (.cells #[.int .i64 0, .int .i64 0, .int .i64 0, .int .i64 0, .int .i64 0, .int .i64 0, .int .i64 0] 79)).alloc (.cells #[.int .i64 p0, .int .i64 s0, .int .i64 p1, .int .i64 s1, .int .i64 0, .int .i64 0, .int .i64 2] 79)) := fun ty => copied2 b off c ⟨p0, s0⟩ ⟨p1, s1⟩ w c0 c1 c2 c3 ty
  dsimp only at c0 c1 c2 c3
  have hbw : b < w.heap.size := World.block_lt_of_cell? w _ c0
  go_enter Tryd.func86, Tryd.ntmps86
  go_wp2_with fail
  refine wp_loop_rounds 3 ?_
  rw [rounds_succ]
  go_wp2_with fail
  refine (K0.out _).mono ?_
  rintro e w1 ⟨rfl, hb1⟩
  have R1 : Blk w1 w.heap.size 79 #[.int .i64 0, .int .i64 0, .int .i64 0, .int .i64 0, .int .i64 0, .int .i64 0, .int .i64 0] := (((Blk.new w _ _).alloc _).alloc _).kept hb1
  have S1 : Blk w1 (w.heap.size + 1) 79 #[.int .i64 p0, .int .i64 s0, .int .i64 p1, .int .i64 s1, .int .i64 0, .int .i64 0, .int .i64 2] := ((Blk.new' (by simp)).alloc _).kept hb1
  have B1 : Below w.heap.size w w1 := Below.trans (by repeat' (first | with_reducible exact Below.refl _ _ | with_reducible assumption | with_reducible apply Below.drew | with_reducible apply below_drewN | (with_reducible refine Below.setCell ?_ ?_ _) | (with_reducible refine Below.alloc ?_ ?_ _) | with_reducible exact Nat.le_refl _ | with_reducible exact Below.size (by assumption) | (simp; done) | (simp; done) | omega | (simp; omega))) (hb1.mono (by simp; omega))
  have z1 := B1.size
  have d1_0 := (B1.cell (p := ⟨b, off, none⟩) hbw).trans c0
  have d1_1 := (B1.cell (p := ⟨b, off + 1, none⟩) hbw).trans c1
  have d1_2 := (B1.cell (p := ⟨b, off + 2, none⟩) hbw).trans c2
  have d1_3 := (B1.cell (p := ⟨b, off + 3, none⟩) hbw).trans c3
  clear hb1
  go_wp2
  rw [rounds_succ]
  go_wp2_with fail
  refine (K1.out _).mono ?_
  rintro e w2 ⟨rfl, hb2⟩
  have R2 := (R1.alloc _).kept hb2
  have S2 := (S1.alloc _).kept hb2
  have B2 : Below w.heap.size w w2 := Below.trans B1 (Below.trans (by repeat' (first | with_reducible exact Below.refl _ _ | with_reducible assumption | with_reducible apply Below.drew | with_reducible apply below_drewN | (with_reducible refine Below.setCell ?_ ?_ _) | (with_reducible refine Below.alloc ?_ ?_ _) | with_reducible exact Nat.le_refl _ | with_reducible exact Below.size (by assumption) | (simp; done) | (simp; done) | omega | (simp; omega))) (hb2.mono (by simp; omega)))
  clear R1 S1
  have z2 := B2.size
  have d2_0 := (B2.cell (p := ⟨b, off, none⟩) hbw).trans c0
  have d2_1 := (B2.cell (p := ⟨b, off + 1, none⟩) hbw).trans c1
  have d2_2 := (B2.cell (p := ⟨b, off + 2, none⟩) hbw).trans c2
  have d2_3 := (B2.cell (p := ⟨b, off + 3, none⟩) hbw).trans c3
  clear hb2
  have cR := fun i => R2.cell i
  have fR := fun i => R2.frozen i
  have cS := fun i => S2.cell i
  have fS := fun i => S2.frozen i
  go_wp2
  rw [rounds_succ]
  go_wp2
  exact bodyPost_ret (v := .tuple #[shv (shOf [⟨p0, s0⟩, ⟨p1, s1⟩]), .bool true]) (by simp [results, Tryd.results86, go_sem, cR, shOf, gd, Gd.none2]) rfl ⟨rfl, (by repeat' (first | with_reducible exact Below.refl _ _ | with_reducible assumption | with_reducible apply Below.drew | with_reducible apply below_drewN | (with_reducible refine Below.setCell ?_ ?_ _) | (with_reducible refine Below.alloc ?_ ?_ _) | with_reducible exact Nat.le_refl _ | with_reducible exact Below.size (by assumption) | (simp; done) | (simp; done) | omega | (simp; omega)))⟩

theorem copied3 (b off c : Nat) (g0 g1 g2 : Gd) (w : World) (c0 : w.cell? ⟨b, off, none⟩ = some (.int .i64 g0.p)) (c1 : w.cell? ⟨b, off + 1, none⟩ = some (.int .i64 g0.s)) (c2 : w.cell? ⟨b, off + 2, none⟩ = some (.int .i64 g1.p)) (c3 : w.cell? ⟨b, off + 3, none⟩ = some (.int .i64 g1.s)) (c4 : w.cell? ⟨b, off + 4, none⟩ = some (.int .i64 g2.p)) (c5 : w.cell? ⟨b, off + 5, none⟩ = some (.int .i64 g2.s)) (ty : TypeId) :
    (Builtin.copy_ #[24, 24] ty #[.slice (some ⟨w.heap.size + 1, 0, none⟩) 3 3, .slice (some ⟨b, off, none⟩) 3 c]).run Tryd.prog ((w.alloc (.cells (sc Sh.zero) 79)).alloc (.cells (sc { Sh.zero with m := 3 }) 79))
      = .ok (goInt 3) ((w.alloc (.cells (sc Sh.zero) 79)).alloc (.cells (sc (shOf [g0, g1, g2])) 79)) := by
  have hb : b < w.heap.size := World.block_lt_of_cell? w _ c0
  have hk : ∀ o (X Y : Obj), ((w.alloc X).alloc Y).cell? ⟨b, o, none⟩ = w.cell? ⟨b, o, none⟩ := fun o X Y => by
    rw [World.cell?_alloc_lt _ _ _ (by simp; omega), World.cell?_alloc_lt _ _ _ (by simpa using hb)]
  rw [run_copyG _ ty (w.heap.size + 1) b off 3 c [.int .i64 g0.p, .int .i64 g0.s, .int .i64 g1.p, .int .i64 g1.s, .int .i64 g2.p, .int .i64 g2.s] rfl (by omega)
    (by
      intro j v hj
      match j, hj with
      | 0, hj => simp at hj; subst hj; exact (hk _ _ _).trans c0
      | 1, hj => simp at hj; subst hj; exact (hk _ _ _).trans c1
      | 2, hj => simp at hj; subst hj; exact (hk _ _ _).trans c2
      | 3, hj => simp at hj; subst hj; exact (hk _ _ _).trans c3
      | 4, hj => simp at hj; subst hj; exact (hk _ _ _).trans c4
      | 5, hj => simp at hj; subst hj; exact (hk _ _ _).trans c5)
    (by
      intro j hj
      have : j < 6 := by simpa using hj
      match j, this with
      | 0, _ => unfold sc; go_simp
      | 1, _ => unfold sc; go_simp
      | 2, _ => unfold sc; go_simp
      | 3, _ => unfold sc; go_simp
      | 4, _ => unfold sc; go_simp
      | 5, _ => unfold sc; go_simp)
    (by
      intro j hj
      have : j < 6 := by simpa using hj
      match j, this with
      | 0, _ => unfold sc; go_simp
      | 1, _ => unfold sc; go_simp
      | 2, _ => unfold sc; go_simp
      | 3, _ => unfold sc; go_simp
      | 4, _ => unfold sc; go_simp
      | 5, _ => unfold sc; go_simp)
    (by intro v hv; simp at hv; rcases hv with rfl | rfl | rfl | rfl | rfl | rfl <;> rfl)]
  simp only [World.setCells]
  unfold sc
  go_simp
  rfl

set_option maxRecDepth 100000 in
theorem shelvesFrom_3bad0 (b off c : Nat) (g0 g1 g2 : Gd) (w : World) (c0 : w.cell? ⟨b, off, none⟩ = some (.int .i64 g0.p)) (c1 : w.cell? ⟨b, off + 1, none⟩ = some (.int .i64 g0.s)) (c2 : w.cell? ⟨b, off + 2, none⟩ = some (.int .i64 g1.p)) (c3 : w.cell? ⟨b, off + 3, none⟩ = some (.int .i64 g1.s)) (c4 : w.cell? ⟨b, off + 4, none⟩ = some (.int .i64 g2.p)) (c5 : w.cell? ⟨b, off + 5, none⟩ = some (.int .i64 g2.s))  (kb : g0.ok = false) :
    Calls Tryd.prog 86 #[.slice (some ⟨b, off, none⟩) 3 c] w fun e w' => e = .returned (.tuple #[shv Sh.zero, .bool false]) ∧ Below w.heap.size w w' := by
  obtain ⟨p0, s0⟩ := g0
  obtain ⟨p1, s1⟩ := g1
  obtain ⟨p2, s2⟩ := g2
  have K0 := Lib.hid (fun W => inBoundsG_no ⟨p0, s0⟩ W kb)
  clear kb
  have hcp : ∀ ty, (Builtin.copy_ #[24, 24] ty #[.slice (some ⟨w.heap.size + 1, 0, none⟩) 3 3, .slice (some ⟨b, off, none⟩) 3 c]).run Tryd.prog ((w.alloc (.cells #[.int .i64 0, .int .i64 0, .int .i64 0, .int .i64 0, .int .i64 0, .int .i64 0, .int .i64 0] 79)).alloc (.cells #[.int .i64 0, .int .i64 0, .int .i64 0, .int .i64 0, .int .i64 0, .int .i64 0, .int .i64 3] 79))
      = .ok (goInt 3) ((w.alloc (.cells #[.int .i64 0, .int .i64 0, .int .i64 0, .int .i64 0, .int .i64 0, .int .i64 0, .int .i64 0] 79)).alloc (.cells #[.int .i64 p0, .int .i64 s0, .int .i64 p1, .int .i64 s1, .int .i64 p2, .int .i64 s2, .int .i64 3] 79)) := fun ty => copied3 b off c ⟨p0, s0⟩ ⟨p1, s1⟩ ⟨p2, s2⟩ w c0 c1 c2 c3 c4 c5 ty
  dsimp only at c0 c1 c2 c3 c4 c5
  have hbw : b < w.heap.size := World.block_lt_of_cell? w _ c0
  go_enter Tryd.func86, Tryd.ntmps86
  go_wp2_with fail
  refine wp_loop_rounds 2 ?_
  rw [rounds_succ]
  go_wp2_with fail
  refine (K0.out _).mono ?_
  rintro e w1 ⟨rfl, hb1⟩
  have R1 : Blk w1 w.heap.size 79 #[.int .i64 0, .int .i64 0, .int .i64 0, .int .i64 0, .int .i64 0, .int .i64 0, .int .i64 0] := (((Blk.new w _ _).alloc _).alloc _).kept hb1
  have S1 : Blk w1 (w.heap.size + 1) 79 #[.int .i64 p0, .int .i64 s0, .int .i64 p1, .int .i64 s1, .int .i64 p2, .int .i64 s2, .int .i64 3] := ((Blk.new' (by simp)).alloc _).kept hb1
  have B1 : Below w.heap.size w w1 := Below.trans (by repeat' (first | with_reducible exact Below.refl _ _ | with_reducible assumption | with_reducible apply Below.drew | with_reducible apply below_drewN | (with_reducible refine Below.setCell ?_ ?_ _) | (with_reducible refine Below.alloc ?_ ?_ _) | with_reducible exact Nat.le_refl _ | with_reducible exact Below.size (by assumption) | (simp; done) | (simp; done) | omega | (simp; omega))) (hb1.mono (by simp; omega))
  have z1 := B1.size
  have d1_0 := (B1.cell (p := ⟨b, off, none⟩) hbw).trans c0
  have d1_1 := (B1.cell (p := ⟨b, off + 1, none⟩) hbw).trans c1
  have d1_2 := (B1.cell (p := ⟨b, off + 2, none⟩) hbw).trans c2
  have d1_3 := (B1.cell (p := ⟨b, off + 3, none⟩) hbw).trans c3
  have d1_4 := (B1.cell (p := ⟨b, off + 4, none⟩) hbw).trans c4
  have d1_5 := (B1.cell (p := ⟨b, off + 5, none⟩) hbw).trans c5
  clear hb1
  have cR := fun i => R1.cell i
  have fR := fun i => R1.frozen i
  have cS := fun i => S1.cell i
  have fS := fun i => S1.frozen i
  go_wp2
  exact bodyPost_ret (v := .tuple #[shv Sh.zero, .bool false]) (by simp [results, Tryd.results86, go_sem, cR, Sh.zero, Gd.none2]) rfl ⟨rfl, (by repeat' (first | with_reducible exact Below.refl _ _ | with_reducible assumption | with_reducible apply Below.drew | with_reducible apply below_drewN | (with_reducible refine Below.setCell ?_ ?_ _) | (with_reducible refine Below.alloc ?_ ?_ _) | with_reducible exact Nat.le_refl _ | with_reducible exact Below.size (by assumption) | (simp; done) | (simp; done) | omega | (simp; omega)))⟩

set_option maxRecDepth 100000 in
theorem shelvesFrom_3bad1 (b off c : Nat) (g0 g1 g2 : Gd) (w : World) (c0 : w.cell? ⟨b, off, none⟩ = some (.int .i64 g0.p)) (c1 : w.cell? ⟨b, off + 1, none⟩ = some (.int .i64 g0.s)) (c2 : w.cell? ⟨b, off + 2, none⟩ = some (.int .i64 g1.p)) (c3 : w.cell? ⟨b, off + 3, none⟩ = some (.int .i64 g1.s)) (c4 : w.cell? ⟨b, off + 4, none⟩ = some (.int .i64 g2.p)) (c5 : w.cell? ⟨b, off + 5, none⟩ = some (.int .i64 g2.s)) (k0 : g0.ok = true) (kb : g1.ok = false) :
    Calls Tryd.prog 86 #[.slice (some ⟨b, off, none⟩) 3 c] w fun e w' => e = .returned (.tuple #[shv Sh.zero, .bool false]) ∧ Below w.heap.size w w' := by
  obtain ⟨p0, s0⟩ := g0
  obtain ⟨p1, s1⟩ := g1
  obtain ⟨p2, s2⟩ := g2
  have K0 := Lib.hid (fun W => inBoundsG_yes ⟨p0, s0⟩ W k0)
  have K1 := Lib.hid (fun W => inBoundsG_no ⟨p1, s1⟩ W kb)
  clear k0 kb
  have hcp : ∀ ty, (Builtin.copy_ #[24, 24] ty #[.slice (some ⟨w.heap.size + 1, 0, none⟩) 3 3, .slice (some ⟨b, off, none⟩) 3 c]).run Tryd.prog ((w.alloc (.cells #[.int .i64 0, .int .i64 0, .int .i64 0, .int .i64 0, .int .i64 0, .int .i64 0, .int .i64 0] 79)).alloc (.cells #[.int .i64 0, .int .i64 0, .int .i64 0, .int .i64 0, .int .i64 0, .int .i64 0, .int .i64 3] 79))
      = .ok (goInt 3) ((w.alloc (.cells #[.int .i64 0, .int .i64 0, .int .i64 0, .int .i64 0, .int .i64 0, .int .i64 0, .int .i64 0] 79)).alloc (.cells #[.int .i64 p0, .int .i64 s0, .int .i64 p1, .int .i64 s1, .int .i64 p2, .int .i64 s2, .int .i64 3] 79)) := fun ty => copied3 b off c ⟨p0, s0⟩ ⟨p1, s1⟩ ⟨p2, s2⟩ w c0 c1 c2 c3 c4 c5 ty
  dsimp only at c0 c1 c2 c3 c4 c5
  have hbw : b < w.heap.size := World.block_lt_of_cell? w _ c0
  go_enter Tryd.func86, Tryd.ntmps86
  go_wp2_with fail
  refine wp_loop_rounds 3 ?_
  rw [rounds_succ]
  go_wp2_with fail
  refine (K0.out _).mono ?_
  rintro e w1 ⟨rfl, hb1⟩
  have R1 : Blk w1 w.heap.size 79 #[.int .i64 0, .int .i64 0, .int .i64 0, .int .i64 0, .int .i64 0, .int .i64 0, .int .i64 0] := (((Blk.new w _ _).alloc _).alloc _).kept hb1
  have S1 : Blk w1 (w.heap.size + 1) 79 #[.int .i64 p0, .int .i64 s0, .int .i64 p1, .int .i64 s1, .int .i64 p2, .int .i64 s2, .int .i64 3] := ((Blk.new' (by simp)).alloc _).kept hb1
  have B1 : Below w.heap.size w w1 := Below.trans (by repeat' (first | with_reducible exact Below.refl _ _ | with_reducible assumption | with_reducible apply Below.drew | with_reducible apply below_drewN | (with_reducible refine Below.setCell ?_ ?_ _) | (with_reducible refine Below.alloc ?_ ?_ _) | with_reducible exact Nat.le_refl _ | with_reducible exact Below.size (by assumption) | (simp; done) | (simp; done) | omega | (simp; omega))) (hb1.mono (by simp; omega))
  have z1 := B1.size
  have d1_0 := (B1.cell (p := ⟨b, off, none⟩) hbw).trans c0
  have d1_1 := (B1.cell (p := ⟨b, off + 1, none⟩) hbw).trans c1
  have d1_2 := (B1.cell (p := ⟨b, off + 2, none⟩) hbw).trans c2
  have d1_3 := (B1.cell (p := ⟨b, off + 3, none⟩) hbw).trans c3
  have d1_4 := (B1.cell (p := ⟨b, off + 4, none⟩) hbw).trans c4
  have d1_5 := (B1.cell (p := ⟨b, off + 5, none⟩) hbw).trans c5
  clear hb1
  go_wp2
  rw [rounds_succ]
  go_wp2_with fail
  refine (K1.out _).mono ?_
  rintro e w2 ⟨rfl, hb2⟩
  have R2 := (R1.alloc _).kept hb2
  have S2 := (S1.alloc _).kept hb2
  have B2 : Below w.heap.size w w2 := Below.trans B1 (Below.trans (by repeat' (first | with_reducible exact Below.refl _ _ | with_reducible assumption | with_reducible apply Below.drew | with_reducible apply below_drewN | (with_reducible refine Below.setCell ?_ ?_ _) | (with_reducible refine Below.alloc ?_ ?_ _) | with_reducible exact Nat.le_refl _ | with_reducible exact Below.size (by assumption) | (simp; done) | (simp; done) | omega | (simp; omega))) (hb2.mono (by simp; omega)))
  clear R1 S1
  have z2 := B2.size
  have d2_0 := (B2.cell (p := ⟨b, off, none⟩) hbw).trans c0
  have d2_1 := (B2.cell (p := ⟨b, off + 1, none⟩) hbw).trans c1
  have d2_2 := (B2.cell (p := ⟨b, off + 2, none⟩) hbw).trans c2
  have d2_3 := (B2.cell (p := ⟨b, off + 3, none⟩) hbw).trans c3
  have d2_4 := (B2.cell (p := ⟨b, off + 4, none⟩) hbw).trans c4
  have d2_5 := (B2.cell (p := ⟨b, off + 5, none⟩) hbw).trans c5
  clear hb2
  have cR := fun i => R2.cell i
  have fR := fun i => R2.frozen i
  have cS := fun i => S2.cell i
  have fS := fun i => S2.frozen i
  go_wp2
  exact bodyPost_ret (v := .tuple #[shv Sh.zero, .bool false]) (by simp [results, Tryd.results86, go_sem, cR, Sh.zero, Gd.none2]) rfl ⟨rfl, (by repeat' (first | with_reducible exact Below.refl _ _ | with_reducible assumption | with_reducible apply Below.drew | with_reducible apply below_drewN | (with_reducible refine Below.setCell ?_ ?_ _) | (with_reducible refine Below.alloc ?_ ?_ _) | with_reducible exact Nat.le_refl _ | with_reducible exact Below.size (by assumption) | (simp; done) | (simp; done) | omega | (simp; omega)))⟩

set_option maxRecDepth 100000 in
theorem shelvesFrom_3bad2 (b off c : Nat) (g0 g1 g2 : Gd) (w : World) (c0 : w.cell? ⟨b, off, none⟩ = some (.int .i64 g0.p)) (c1 : w.cell? ⟨b, off + 1, none⟩ = some (.int .i64 g0.s)) (c2 : w.cell? ⟨b, off + 2, none⟩ = some (.int .i64 g1.p)) (c3 : w.cell? ⟨b, off + 3, none⟩ = some (.int .i64 g1.s)) (c4 : w.cell? ⟨b, off + 4, none⟩ = some (.int .i64 g2.p)) (c5 : w.cell? ⟨b, off + 5, none⟩ = some (.int .i64 g2.s)) (k0 : g0.ok = true) (k1 : g1.ok = true) (kb : g2.ok = false) :
    Calls Tryd.prog 86 #[.slice (some ⟨b, off, none⟩) 3 c] w fun e w' => e = .returned (.tuple #[shv Sh.zero, .bool false]) ∧ Below w.heap.size w w' := by
  obtain ⟨p0, s0⟩ := g0
  obtain ⟨p1, s1⟩ := g1
  obtain ⟨p2, s2⟩ := g2
  have K0 := Lib.hid (fun W => inBoundsG_yes ⟨p0, s0⟩ W k0)
  have K1 := Lib.hid (fun W => inBoundsG_yes ⟨p1, s1⟩ W k1)
  have K2 := Lib.hid (fun W => inBoundsG_no ⟨p2, s2⟩ W kb)
  clear k0 k1 kb
  have hcp : ∀ ty, (Builtin.copy_ #[24, 24] ty #[.slice (some ⟨w.heap.size + 1, 0, none⟩) 3 3, .slice (some ⟨b, off, none⟩) 3 c]).run Tryd.prog ((w.alloc (.cells #[.int .i64 0, .int .i64 0, .int .i64 0, .int .i64 0, .int .i64 0, .int .i64 0, .int .i64 0] 79)).alloc (.cells #[.int .i64 0, .int .i64 0, .int .i64 0, .int .i64 0, .int .i64 0, .int .i64 0, .int .i64 3] 79))
      = .ok (goInt 3) ((w.alloc (.cells #[.int .i64 0, .int .i64 0, .int .i64 0, .int .i64 0, .int .i64 0, .int .i64 0, .int .i64 0] 79)).alloc (.cells #[.int .i64 p0, .int .i64 s0, .int .i64 p1, .int .i64 s1, .int .i64 p2, .int .i64 s2, .int .i64 3] 79)) := fun ty => copied3 b off c ⟨p0, s0⟩ ⟨p1, s1⟩ ⟨p2, s2⟩ w c0 c1 c2 c3 c4 c5 ty
  dsimp only at c0 c1 c2 c3 c4 c5
  have hbw : b < w.heap.size := World.block_lt_of_cell? w _ c0
  go_enter Tryd.func86, Tryd.ntmps86
  go_wp2_with fail
  refine wp_loop_rounds 4 ?_
  rw [rounds_succ]
  go_wp2_with fail
  refine (K0.out _).mono ?_
  rintro e w1 ⟨rfl, hb1⟩
  have R1 : Blk w1 w.heap.size 79 #[.int .i64 0, .int .i64 0, .int .i64 0, .int .i64 0, .int .i64 0, .int .i64 0, .int .i64 0] := (((Blk.new w _ _).alloc _).alloc _).kept hb1
  have S1 : Blk w1 (w.heap.size + 1) 79 #[.int .i64 p0, .int .i64 s0, .int .i64 p1, .int .i64 s1, .int .i64 p2, .int .i64 s2, .int .i64 3] := ((Blk.new' (by simp)).alloc _).kept hb1
  have B1 : Below w.heap.size w w1 := Below.trans (by repeat' (first | with_reducible exact Below.refl _ _ | with_reducible assumption | with_reducible apply Below.drew | with_reducible apply below_drewN | (with_reducible refine Below.setCell ?_ ?_ _) | (with_reducible refine Below.alloc ?_ ?_ _) | with_reducible exact Nat.le_refl _ | with_reducible exact Below.size (by assumption) | (simp; done) | (simp; done) | omega | (simp; omega))) (hb1.mono (by simp; omega))
  have z1 := B1.size
  have d1_0 := (B1.cell (p := ⟨b, off, none⟩) hbw).trans c0
  have d1_1 := (B1.cell (p := ⟨b, off + 1, none⟩) hbw).trans c1
  have d1_2 := (B1.cell (p := ⟨b, off + 2, none⟩) hbw).trans c2
  have d1_3 := (B1.cell (p := ⟨b, off + 3, none⟩) hbw).trans c3
  have d1_4 := (B1.cell (p := ⟨b, off + 4, none⟩) hbw).trans c4
  have d1_5 := (B1.cell (p := ⟨b, off + 5, none⟩) hbw).trans c5
  clear hb1
  go_wp2
  rw [rounds_succ]
  go_wp2_with fail
  refine (K1.out _).mono ?_
  rintro e w2 ⟨rfl, hb2⟩
  have R2 := (R1.alloc _).kept hb2
  have S2 := (S1.alloc _).kept hb2
  have B2 : Below w.heap.size w w2 := Below.trans B1 (Below.trans (by repeat' (first | with_reducible exact Below.refl _ _ | with_reducible assumption | with_reducible apply Below.drew | with_reducible apply below_drewN | (with_reducible refine Below.setCell ?_ ?_ _) | (with_reducible refine Below.alloc ?_ ?_ _) | with_reducible exact Nat.le_refl _ | with_reducible exact Below.size (by assumption) | (simp; done) | (simp; done) | omega | (simp; omega))) (hb2.mono (by simp; omega)))
  clear R1 S1
  have z2 := B2.size
  have d2_0 := (B2.cell (p := ⟨b, off, none⟩) hbw).trans c0
  have d2_1 := (B2.cell (p := ⟨b, off + 1, none⟩) hbw).trans c1
  have d2_2 := (B2.cell (p := ⟨b, off + 2, none⟩) hbw).trans c2
  have d2_3 := (B2.cell (p := ⟨b, off + 3, none⟩) hbw).trans c3
  have d2_4 := (B2.cell (p := ⟨b, off + 4, none⟩) hbw).trans c4
  have d2_5 := (B2.cell (p := ⟨b, off + 5, none⟩) hbw).trans c5
  clear hb2
  go_wp2
  rw [rounds_succ]
  go_wp2_with fail
  refine (K2.out _).mono ?_
  rintro e w3 ⟨rfl, hb3⟩
  have R3 := (R2.alloc _).kept hb3
  have S3 := (S2.alloc _).kept hb3
  have B3 : Below w.heap.size w w3 := Below.trans B2 (Below.trans (by repeat' (first | with_reducible exact Below.refl _ _ | with_reducible assumption | with_reducible apply Below.drew | with_reducible apply below_drewN | (with_reducible refine Below.setCell ?_ ?_ _) | (with_reducible refine Below.alloc ?_ ?_ _) | with_reducible exact Nat.le_refl _ | with_reducible exact Below.size (by assumption) | (simp; done) | (simp; done) | omega | (simp; omega))) (hb3.mono (by simp; omega)))
  clear R2 S2
  have z3 := B3.size
  have d3_0 := (B3.cell (p := ⟨b, off, none⟩) hbw).trans c0
  have d3_1 := (B3.cell (p := ⟨b, off + 1, none⟩) hbw).trans c1
  have d3_2 := (B3.cell (p := ⟨b, off + 2, none⟩) hbw).trans c2
  have d3_3 := (B3.cell (p := ⟨b, off + 3, none⟩) hbw).trans c3
  have d3_4 := (B3.cell (p := ⟨b, off + 4, none⟩) hbw).trans c4
  have d3_5 := (B3.cell (p := ⟨b, off + 5, none⟩) hbw).trans c5
  clear hb3
  have cR := fun i => R3.cell i
  have fR := fun i => R3.frozen i
  have cS := fun i => S3.cell i
  have fS := fun i => S3.frozen i
  go_wp2
  exact bodyPost_ret (v := .tuple #[shv Sh.zero, .bool false]) (by simp [results, Tryd.results86, go_sem, cR, Sh.zero, Gd.none2]) rfl ⟨rfl, (by repeat' (first | with_reducible exact Below.refl _ _ | with_reducible assumption | with_reducible apply Below.drew | with_reducible apply below_drewN | (with_reducible refine Below.setCell ?_ ?_ _) | (with_reducible refine Below.alloc ?_ ?_ _) | with_reducible exact Nat.le_refl _ | with_reducible exact Below.size (by assumption) | (simp; done) | (simp; done) | omega | (simp; omega)))⟩

set_option maxRecDepth 100000 in
theorem shelvesFrom_3ok (b off c : Nat) (g0 g1 g2 : Gd) (w : World) (c0 : w.cell? ⟨b, off, none⟩ = some (.int .i64 g0.p)) (c1 : w.cell? ⟨b, off + 1, none⟩ = some (.int .i64 g0.s)) (c2 : w.cell? ⟨b, off + 2, none⟩ = some (.int .i64 g1.p)) (c3 : w.cell? ⟨b, off + 3, none⟩ = some (.int .i64 g1.s)) (c4 : w.cell? ⟨b, off + 4, none⟩ = some (.int .i64 g2.p)) (c5 : w.cell? ⟨b, off + 5, none⟩ = some (.int .i64 g2.s)) (k0 : g0.ok = true) (k1 : g1.ok = true) (k2 : g2.ok = true)  :
    Calls Tryd.prog 86 #[.slice (some ⟨b, off, none⟩) 3 c] w fun e w' => e = .returned (.tuple #[shv (shOf [g0, g1, g2]), .bool true]) ∧ Below w.heap.size w w' := by
  obtain ⟨p0, s0⟩ := g0
  obtain ⟨p1, s1⟩ := g1
  obtain ⟨p2, s2⟩ := g2
  have K0 := Lib.hid (fun W => inBoundsG_yes ⟨p0, s0⟩ W k0)
  have K1 := Lib.hid (fun W => inBoundsG_yes ⟨p1, s1⟩ W k1)
  have K2 := Lib.hid (fun W => inBoundsG_yes ⟨p2, s2⟩ W k2)
  clear k0 k1 k2
  have hcp : ∀ ty, (Builtin.copy_ #[24, 24] ty #[.slice (some ⟨w.heap.size + 1, 0, none⟩) 3 3, .slice (some ⟨b, off, none⟩) 3 c]).run Tryd.prog ((w.alloc (.cells #[.int .i64 0, .int .i64 0, .int .i64 0, .int .i64 0, .int .i64 0, .int .i64 0, .int .i64 0] 79)).alloc (.cells #[.int .i64 0, .int .i64 0, .int .i64 0, .int .i64 0, .int .i64 0, .int .i64 0, .int .i64 3] 79))
      = .ok (goInt 3) ((w.alloc (.cells #[.int .i64 0, .int .i64 0, .int .i64 0, .int .i64 0, .int .i64 0, .int .i64 0, .int .i64 0] 79)).alloc (.cells #[.int .i64 p0, .int .i64 s0, .int .i64 p1, .int .i64 s1, .int .i64 p2, .int .i64 s2, .int .i64 3] 79)) := fun ty => copied3 b off c ⟨p0, s0⟩ ⟨p1, s1⟩ ⟨p2, s2⟩ w c0 c1 c2 c3 c4 c5 ty
  dsimp only at c0 c1 c2 c3 c4 c5
  have hbw : b < w.heap.size := World.block_lt_of_cell? w _ c0
  go_enter Tryd.func86, Tryd.ntmps86
  go_wp2_with fail
  refine wp_loop_rounds 4 ?_
  rw [rounds_succ]
  go_wp2_with fail
  refine (K0.out _).mono ?_
  rintro e w1 ⟨rfl, hb1⟩
  have R1 : Blk w1 w.heap.size 79 #[.int .i64 0, .int .i64 0, .int .i64 0, .int .i64 0, .int .i64 0, .int .i64 0, .int .i64 0] := (((Blk.new w _ _).alloc _).alloc _).kept hb1
  have S1 : Blk w1 (w.heap.size + 1) 79 #[.int .i64 p0, .int .i64 s0, .int .i64 p1, .int .i64 s1, .int .i64 p2, .int .i64 s2, .int .i64 3] := ((Blk.new' (by simp)).alloc _).kept hb1
  have B1 : Below w.heap.size w w1 := Below.trans (by repeat' (first | with_reducible exact Below.refl _ _ | with_reducible assumption | with_reducible apply Below.drew | with_reducible apply below_drewN | (with_reducible refine Below.setCell ?_ ?_ _) | (with_reducible refine Below.alloc ?_ ?_ _) | with_reducible exact Nat.le_refl _ | with_reducible exact Below.size (by assumption) | (simp; done) | (simp; done) | omega | (simp; omega))) (hb1.mono (by simp; omega))
  have z1 := B1.size
  have d1_0 := (B1.cell (p := ⟨b, off, none⟩) hbw).trans c0
  have d1_1 := (B1.cell (p := ⟨b, off + 1, none⟩) hbw).trans c1
  have d1_2 := (B1.cell (p := ⟨b, off + 2, none⟩) hbw).trans c2
  have d1_3 := (B1.cell (p := ⟨b, off + 3, none⟩) hbw).trans c3
  have d1_4 := (B1.cell (p := ⟨b, off + 4, none⟩) hbw).trans c4
  have d1_5 := (B1.cell (p := ⟨b, off + 5, none⟩) hbw).trans c5
  clear hb1
  go_wp2
  rw [rounds_succ]
  go_wp2_with fail
  refine (K1.out _).mono ?_
  rintro e w2 ⟨rfl, hb2⟩
  have R2 := (R1.alloc _).kept hb2
  have S2 := (S1.alloc _).kept hb2
  have B2 : Below w.heap.size w w2 := Below.trans B1 (Below.trans (by repeat' (first | with_reducible exact Below.refl _ _ | with_reducible assumption | with_reducible apply Below.drew | with_reducible apply below_drewN | (with_reducible refine Below.setCell ?_ ?_ _) | (with_reducible refine Below.alloc ?_ ?_ _) | with_reducible exact Nat.le_refl _ | with_reducible exact Below.size (by assumption) | (simp; done) | (simp; done) | omega | (simp; omega))) (hb2.mono (by simp; omega)))
  clear R1 S1
  have z2 := B2.size
  have d2_0 := (B2.cell (p := ⟨b, off, none⟩) hbw).trans c0
  have d2_1 := (B2.cell (p := ⟨b, off + 1, none⟩) hbw).trans c1
  have d2_2 := (B2.cell (p := ⟨b, off + 2, none⟩) hbw).trans c2
  have d2_3 := (B2.cell (p := ⟨b, off + 3, none⟩) hbw).trans c3
  have d2_4 := (B2.cell (p := ⟨b, off + 4, none⟩) hbw).trans c4
  have d2_5 := (B2.cell (p := ⟨b, off + 5, none⟩) hbw).trans c5
  clear hb2
  go_wp2
  rw [rounds_succ]
  go_wp2_with fail
  refine (K2.out _).mono ?_
  rintro e w3 ⟨rfl, hb3⟩
  have R3 := (R2.alloc _).kept hb3
  have S3 := (S2.alloc _).kept hb3
  have B3 : Below w.heap.size w w3 := Below.trans B2 (Below.trans (by repeat' (first | with_reducible exact Below.refl _ _ | with_reducible assumption | with_reducible apply Below.drew | with_reducible apply below_drewN | (with_reducible refine Below.setCell ?_ ?_ _) | (with_reducible refine Below.alloc ?_ ?_ _) | with_reducible exact Nat.le_refl _ | with_reducible exact Below.size (by assumption) | (simp; done) | (simp; done) | omega | (simp; omega))) (hb3.mono (by simp; omega)))
  clear R2 S2
  have z3 := B3.size
  have d3_0 := (B3.cell (p := ⟨b, off, none⟩) hbw).trans c0
  have d3_1 := (B3.cell (p := ⟨b, off + 1, none⟩) hbw).trans c1
  have d3_2 := (B3.cell (p := ⟨b, off + 2, none⟩) hbw).trans c2
  have d3_3 := (B3.cell (p := ⟨b, off + 3, none⟩) hbw).trans c3
  have d3_4 := (B3.cell (p := ⟨b, off + 4, none⟩) hbw).trans c4
  have d3_5 := (B3.cell (p := ⟨b, off + 5, none⟩) hbw).trans c5
  clear hb3
  have cR := fun i => R3.cell i
  have fR := fun i => R3.frozen i
  have cS := fun i => S3.cell i
  have fS := fun i => S3.frozen i
  go_wp2
  rw [rounds_succ]
  go_wp2
  exact bodyPost_ret (v := .tuple #[shv (shOf [⟨p0, s0⟩, ⟨p1, s1⟩, ⟨p2, s2⟩]), .bool true]) (by simp [results, Tryd.results86, go_sem, cR, shOf, gd]) rfl ⟨rfl, (by repeat' (first | with_reducible exact Below.refl _ _ | with_reducible assumption | with_reducible apply Below.drew | with_reducible apply below_drewN | (with_reducible refine Below.setCell ?_ ?_ _) | (with_reducible refine Below.alloc ?_ ?_ _) | with_reducible exact Nat.le_refl _ | with_reducible exact Below.size (by assumption) | (simp; done) | (simp; done) | omega | (simp; omega)))⟩

theorem GRow.one {w : World} {b off : Nat} {gs : List Gd} (h : GRow w (some ⟨b, off, none⟩) gs) (h0 : 0 < gs.length) :
    ∀ i, i < gs.length → w.cell? ⟨b, off + i * 2, none⟩ = some (.int .i64 (gd gs i).p) ∧ w.cell? ⟨b, off + i * 2 + 1, none⟩ = some (.int .i64 (gd gs i).s) := by
  rcases h with h | ⟨b', off', e, hc⟩
  · subst h; cases h0
  · injection e with e
    injection e with e1 e2 _
    subst e1; subst e2
    exact hc
theorem GRow.addr {w : World} {A : Option Addr} {gs : List Gd} (h : GRow w A gs) (h0 : 0 < gs.length) : ∃ b off, A = some ⟨b, off, none⟩ := by
  rcases h with h | ⟨b, off, e, _⟩
  · subst h; cases h0
  · exact ⟨b, off, e⟩

theorem shelvesFrom_any (A : Option Addr) (gs : List Gd) (c : Nat) (w : World) (hr : GRow w A gs) :
    Calls Tryd.prog 86 #[.slice A gs.length c] w (ShFrom gs w) := by
  unfold ShFrom
  match gs, hr with
  | [], _ => rw [if_pos (by decide)]; exact shelvesFrom_0 A c w
  | [g0], hr =>
    obtain ⟨b, off, rfl⟩ := hr.addr (by simp)
    have h := hr.one (by simp)
    have h0 := h 0 (by simp)
    cases k0 : g0.ok
    · rw [if_neg (by simp [okS, k0])]; exact shelvesFrom_1bad0 b off c g0 w h0.1 h0.2 k0
    · rw [if_pos (by simp [okS, k0])]; exact shelvesFrom_1ok b off c g0 w h0.1 h0.2 k0
  | [g0, g1], hr =>
    obtain ⟨b, off, rfl⟩ := hr.addr (by simp)
    have h := hr.one (by simp)
    have h0 := h 0 (by simp)
    have h1 := h 1 (by simp)
    cases k0 : g0.ok
    · rw [if_neg (by simp [okS, k0])]; exact shelvesFrom_2bad0 b off c g0 g1 w h0.1 h0.2 h1.1 h1.2 k0
    · cases k1 : g1.ok
      · rw [if_neg (by simp [okS, k1])]; exact shelvesFrom_2bad1 b off c g0 g1 w h0.1 h0.2 h1.1 h1.2 k0 k1
      · rw [if_pos (by simp [okS, k0, k1])]; exact shelvesFrom_2ok b off c g0 g1 w h0.1 h0.2 h1.1 h1.2 k0 k1
  | [g0, g1, g2], hr =>
    obtain ⟨b, off, rfl⟩ := hr.addr (by simp)
    have h := hr.one (by simp)
    have h0 := h 0 (by simp)
    have h1 := h 1 (by simp)
    have h2 := h 2 (by simp)
    cases k0 : g0.ok
    · rw [if_neg (by simp [okS, k0])]; exact shelvesFrom_3bad0 b off c g0 g1 g2 w h0.1 h0.2 h1.1 h1.2 h2.1 h2.2 k0
    · cases k1 : g1.ok
      · rw [if_neg (by simp [okS, k1])]; exact shelvesFrom_3bad1 b off c g0 g1 g2 w h0.1 h0.2 h1.1 h1.2 h2.1 h2.2 k0 k1
      · cases k2 : g2.ok
        · rw [if_neg (by simp [okS, k2])]; exact shelvesFrom_3bad2 b off c g0 g1 g2 w h0.1 h0.2 h1.1 h1.2 h2.1 h2.2 k0 k1 k2
        · rw [if_pos (by simp [okS, k0, k1, k2])]; exact shelvesFrom_3ok b off c g0 g1 g2 w h0.1 h0.2 h1.1 h1.2 h2.1 h2.2 k0 k1 k2
  | g0 :: g1 :: g2 :: g3 :: gs, _ =>
    rw [if_neg (by simp [okS])]
    exact shelvesFrom_long A _ c w (by simp)
theorem shelvesFrom_yes (A : Option Addr) (gs : List Gd) (c : Nat) (w : World) (hr : GRow w A gs) (h : okS gs = true) :
    Calls Tryd.prog 86 #[.slice A gs.length c] w fun e w' => e = .returned (.tuple #[shv (shOf gs), .bool true]) ∧ Below w.heap.size w w' := by
  have := shelvesFrom_any A gs c w hr
  unfold ShFrom at this
  rwa [if_pos h] at this
theorem shelvesFrom_no (A : Option Addr) (gs : List Gd) (c : Nat) (w : World) (hr : GRow w A gs) (h : okS gs = false) :
    Calls Tryd.prog 86 #[.slice A gs.length c] w fun e w' => e = .returned (.tuple #[shv Sh.zero, .bool false]) ∧ Below w.heap.size w w' := by
  have := shelvesFrom_any A gs c w hr
  unfold ShFrom at this
  rwa [if_neg (by simp [h])] at this

end Go.Proofs.YtfoohenmlagfjaaDoor

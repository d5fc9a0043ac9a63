/- Shelves and baskets as values of the program, and what the helpers over them return: inBounds, pieces, cost, all, next, without, row, list. -/
import Derived.Test.YtemhikgdbmmnjaaDoorBase
import Derived.Test.YtemhikgdbmmnjaaDoorBsk
import Derived.Deep.QuietTactic
import Derived.BigQuiet
import Derived.Deep.RegionHeld3
namespace Go.Proofs.YtemhikgdbmmnjaaDoor
open Go.RowKit

/-- The cells of a basket, of a good, of shelves. -/
def bc (q : Q3) : Array Value := #[.int .i64 q.x, .int .i64 q.y, .int .i64 q.z]
abbrev bv (q : Q3) : Value := .agg #[.int .i64 q.x, .int .i64 q.y, .int .i64 q.z]
abbrev gdv (g : Gd) : Value := .agg #[.int .i64 g.p, .int .i64 g.s]
def sc (S : Sh) : Array Value := #[.int .i64 S.a.p, .int .i64 S.a.s, .int .i64 S.b.p, .int .i64 S.b.s, .int .i64 S.c.p, .int .i64 S.c.s, .int .i64 S.m]
abbrev shv (S : Sh) : Value := .agg #[.int .i64 S.a.p, .int .i64 S.a.s, .int .i64 S.b.p, .int .i64 S.b.s, .int .i64 S.c.p, .int .i64 S.c.s, .int .i64 S.m]

theorem Blk.new' {w : World} {t : TypeId} {cs : Array Value} {g : Nat} (h : g = w.heap.size) : Blk (w.alloc (.cells cs t)) g t cs := by subst h; exact Blk.new _ _ _

theorem bindex0 (x y z : Int) (w : World) : (Instr.index 58 (.agg #[.int .i64 x, .int .i64 y, .int .i64 z]) (.int .i64 0)).run Tryd.prog w = .ok (.int .i64 x) w := by kernel_rfl
theorem bindex1 (x y z : Int) (w : World) : (Instr.index 58 (.agg #[.int .i64 x, .int .i64 y, .int .i64 z]) (.int .i64 1)).run Tryd.prog w = .ok (.int .i64 y) w := by kernel_rfl
theorem bindex2 (x y z : Int) (w : World) : (Instr.index 58 (.agg #[.int .i64 x, .int .i64 y, .int .i64 z]) (.int .i64 2)).run Tryd.prog w = .ok (.int .i64 z) w := by kernel_rfl

theorem inBoundsG_any (g : Gd) (w : World) :
    Calls Tryd.prog 56 #[gdv g] w fun e w' => e = .returned (.bool g.ok) ∧ Below w.heap.size w w' := by
  obtain ⟨p, s⟩ := g
  cases h : Gd.ok ⟨p, s⟩
  · have h' := Gd.ok_false.1 h
    clear h
    dsimp only at h'
    have h2 : p < 1 ∨ (1 ≤ p ∧ 40 < p) ∨ ((1 ≤ p ∧ p ≤ 40) ∧ s < 0) ∨ ((1 ≤ p ∧ p ≤ 40) ∧ 0 ≤ s ∧ 5 < s) := by omega
    clear h'
    rcases h2 with h1 | ⟨h1, h2⟩ | ⟨⟨h1, h2⟩, h3⟩ | ⟨⟨h1, h2⟩, h3, h4⟩
    all_goals
      go_enter Tryd.func56, Tryd.ntmps56
      go_wp2
      go_ret
      exact ⟨by first | with_reducible rfl | exact ret_bool (by simp; omega) | rfl, (by repeat' (first | with_reducible exact Below.refl _ _ | with_reducible assumption | with_reducible apply Below.drew | with_reducible apply below_drewN | (with_reducible refine Below.setCell ?_ ?_ _) | (with_reducible refine Below.alloc ?_ ?_ _) | with_reducible exact Nat.le_refl _ | with_reducible exact Below.size (by assumption) | (simp; done) | (simp; done) | omega | (simp; omega)))⟩
  · obtain ⟨h1, h2, h3, h4⟩ := Gd.ok_iff.1 h
    clear h
    dsimp only at h1 h2 h3 h4
    go_enter Tryd.func56, Tryd.ntmps56
    go_wp2
    go_ret
    exact ⟨rfl, (by repeat' (first | with_reducible exact Below.refl _ _ | with_reducible assumption | with_reducible apply Below.drew | with_reducible apply below_drewN | (with_reducible refine Below.setCell ?_ ?_ _) | (with_reducible refine Below.alloc ?_ ?_ _) | with_reducible exact Nat.le_refl _ | with_reducible exact Below.size (by assumption) | (simp; done) | (simp; done) | omega | (simp; omega)))⟩

set_option maxRecDepth 100000 in
theorem pieces_any (q : Q3) (w : World) (hx : 0 ≤ q.x ∧ q.x ≤ 5) (hy : 0 ≤ q.y ∧ q.y ≤ 5) (hz : 0 ≤ q.z ∧ q.z ≤ 5) :
    Calls Tryd.prog 49 #[bv q] w fun e w' => e = .returned (.int .i64 q.cnt) ∧ Below w.heap.size w w' := by
  obtain ⟨x, y, z⟩ := q
  obtain ⟨hx0, hx1⟩ := hx
  obtain ⟨hy0, hy1⟩ := hy
  obtain ⟨hz0, hz1⟩ := hz
  have i0 := bindex0 x y z
  have i1 := bindex1 x y z
  have i2 := bindex2 x y z
  dsimp only at *
  go_enter Tryd.func49, Tryd.ntmps49
  go_wp2
  refine wp_loop_rounds 4 ?_
  rw [rounds_succ]
  go_wp2
  rw [rounds_succ]
  go_wp2
  rw [rounds_succ]
  go_wp2
  rw [rounds_succ]
  go_wp2
  go_ret
  exact ⟨ret_int (by unfold Q3.cnt; simp only), (by repeat' (first | with_reducible exact Below.refl _ _ | with_reducible assumption | with_reducible apply Below.drew | with_reducible apply below_drewN | (with_reducible refine Below.setCell ?_ ?_ _) | (with_reducible refine Below.alloc ?_ ?_ _) | with_reducible exact Nat.le_refl _ | with_reducible exact Below.size (by assumption) | (simp; done) | (simp; done) | omega | (simp; omega)))⟩

set_option maxRecDepth 100000 in
theorem cost_any (S : Sh) (q : Q3) (w : World) (hS : S.In) (hq : S.Has q) :
    Calls Tryd.prog 43 #[shv S, bv q] w fun e w' => e = .returned (.int .i64 (cost S q)) ∧ Below w.heap.size w w' := by
  obtain ⟨⟨c0, c1⟩, ⟨d0, d1⟩, e0, e1⟩ := cost_bnd hS hq
  obtain ⟨⟨p0, s0⟩, ⟨p1, s1⟩, ⟨p2, s2⟩, m⟩ := S
  obtain ⟨x, y, z⟩ := q
  clear hS hq
  have i0 := bindex0 x y z
  have i1 := bindex1 x y z
  have i2 := bindex2 x y z
  dsimp only at *
  go_enter Tryd.func43, Tryd.ntmps43
  go_wp2
  refine wp_loop_rounds 4 ?_
  rw [rounds_succ]
  go_wp2
  rw [rounds_succ]
  go_wp2
  rw [rounds_succ]
  go_wp2
  rw [rounds_succ]
  go_wp2
  go_ret
  exact ⟨ret_int (by unfold cost; simp only), (by repeat' (first | with_reducible exact Below.refl _ _ | with_reducible assumption | with_reducible apply Below.drew | with_reducible apply below_drewN | (with_reducible refine Below.setCell ?_ ?_ _) | (with_reducible refine Below.alloc ?_ ?_ _) | with_reducible exact Nat.le_refl _ | with_reducible exact Below.size (by assumption) | (simp; done) | (simp; done) | omega | (simp; omega)))⟩

set_option maxRecDepth 100000 in
theorem all_any (S : Sh) (w : World) :
    Calls Tryd.prog 51 #[shv S] w fun e w' => e = .returned (bv ⟨S.a.s, S.b.s, S.c.s⟩) ∧ Below w.heap.size w w' := by
  obtain ⟨⟨p0, s0⟩, ⟨p1, s1⟩, ⟨p2, s2⟩, m⟩ := S
  have i0 : ∀ w, (Instr.index 50 (.agg #[.int .i64 p0, .int .i64 s0, .int .i64 p1, .int .i64 s1, .int .i64 p2, .int .i64 s2]) (.int .i64 0)).run Tryd.prog w = .ok (.agg #[.int .i64 p0, .int .i64 s0]) w := fun w => by kernel_rfl
  have i1 : ∀ w, (Instr.index 50 (.agg #[.int .i64 p0, .int .i64 s0, .int .i64 p1, .int .i64 s1, .int .i64 p2, .int .i64 s2]) (.int .i64 1)).run Tryd.prog w = .ok (.agg #[.int .i64 p1, .int .i64 s1]) w := fun w => by kernel_rfl
  have i2 : ∀ w, (Instr.index 50 (.agg #[.int .i64 p0, .int .i64 s0, .int .i64 p1, .int .i64 s1, .int .i64 p2, .int .i64 s2]) (.int .i64 2)).run Tryd.prog w = .ok (.agg #[.int .i64 p2, .int .i64 s2]) w := fun w => by kernel_rfl
  dsimp only at *
  go_enter Tryd.func51, Tryd.ntmps51
  go_wp2
  refine wp_loop_rounds 4 ?_
  rw [rounds_succ]
  go_wp2
  rw [rounds_succ]
  go_wp2
  rw [rounds_succ]
  go_wp2
  rw [rounds_succ]
  go_wp2
  exact bodyPost_ret (v := bv ⟨s0, s1, s2⟩) (by simp [results, Tryd.results51, go_sem]) rfl ⟨rfl, (by repeat' (first | with_reducible exact Below.refl _ _ | with_reducible assumption | with_reducible apply Below.drew | with_reducible apply below_drewN | (with_reducible refine Below.setCell ?_ ?_ _) | (with_reducible refine Below.alloc ?_ ?_ _) | with_reducible exact Nat.le_refl _ | with_reducible exact Below.size (by assumption) | (simp; done) | (simp; done) | omega | (simp; omega)))⟩

set_option maxRecDepth 100000 in
theorem without_any (S : Sh) (q : Q3) (w : World) (hS : S.In) (hq : S.Has q) :
    Calls Tryd.prog 52 #[shv S, bv q] w fun e w' => e = .returned (shv ⟨⟨S.a.p, S.a.s - q.x⟩, ⟨S.b.p, S.b.s - q.y⟩, ⟨S.c.p, S.c.s - q.z⟩, S.m⟩) ∧ Below w.heap.size w w' := by
  have a3 := hS.a3
  have b3 := hS.b3
  have c3 := hS.c3
  obtain ⟨x0, x1, y0, y1, z0, z1⟩ := hq
  obtain ⟨⟨p0, s0⟩, ⟨p1, s1⟩, ⟨p2, s2⟩, m⟩ := S
  obtain ⟨x, y, z⟩ := q
  clear hS
  have i0 := bindex0 x y z
  have i1 := bindex1 x y z
  have i2 := bindex2 x y z
  dsimp only at *
  go_enter Tryd.func52, Tryd.ntmps52
  go_wp2
  refine wp_loop_rounds 4 ?_
  rw [rounds_succ]
  go_wp2
  rw [rounds_succ]
  go_wp2
  rw [rounds_succ]
  go_wp2
  rw [rounds_succ]
  go_wp2
  exact bodyPost_ret (v := shv ⟨⟨p0, s0 - x⟩, ⟨p1, s1 - y⟩, ⟨p2, s2 - z⟩, m⟩) (by simp [results, Tryd.results52, go_sem]) rfl ⟨rfl, (by repeat' (first | with_reducible exact Below.refl _ _ | with_reducible assumption | with_reducible apply Below.drew | with_reducible apply below_drewN | (with_reducible refine Below.setCell ?_ ?_ _) | (with_reducible refine Below.alloc ?_ ?_ _) | with_reducible exact Nat.le_refl _ | with_reducible exact Below.size (by assumption) | (simp; done) | (simp; done) | omega | (simp; omega)))⟩

/-- The list of shelves is a new block. -/
def GotList (w : World) (S : Sh) (e : Ending) (w' : World) : Prop :=
  ∃ g, e = .returned (.slice (some ⟨g, 0, none⟩) S.m.toNat S.m.toNat) ∧ Blk w' g 52 (sc S) ∧ w.heap.size ≤ g ∧ Below w.heap.size w w'
theorem list_any (S : Sh) (w : World) (m0 : 0 ≤ S.m) (m1 : S.m ≤ 3) :
    Calls Tryd.prog 53 #[shv S] w (GotList w S) := by
  obtain ⟨⟨p0, s0⟩, ⟨p1, s1⟩, ⟨p2, s2⟩, m⟩ := S
  dsimp only at *
  go_enter Tryd.func53, Tryd.ntmps53
  go_wp2
  go_ret
  exact ⟨_, rfl, Blk.new' (by simp), by simp, (by repeat' (first | with_reducible exact Below.refl _ _ | with_reducible assumption | with_reducible apply Below.drew | with_reducible apply below_drewN | (with_reducible refine Below.setCell ?_ ?_ _) | (with_reducible refine Below.alloc ?_ ?_ _) | with_reducible exact Nat.le_refl _ | with_reducible exact Below.size (by assumption) | (simp; done) | (simp; done) | omega | (simp; omega)))⟩

/-- What 'next' hands back. -/
def nextV (S : Sh) (q : Q3) : Value := match next S q with
  | some u => .tuple #[bv u, .bool true]
  | none => .tuple #[bv Q3.zero, .bool false]
set_option maxRecDepth 100000 in
theorem next_z (S : Sh) (q : Q3) (w : World) (h : q.z < S.c.s) (hb : S.c.s ≤ 5) (h0 : 0 ≤ q.z) :
    Calls Tryd.prog 61 #[shv S, bv q] w fun e w' => e = .returned (.tuple #[bv ⟨q.x, q.y, q.z + 1⟩, .bool true]) ∧ Below w.heap.size w w' := by
  obtain ⟨⟨p0, s0⟩, ⟨p1, s1⟩, ⟨p2, s2⟩, m⟩ := S
  obtain ⟨x, y, z⟩ := q
  dsimp only at *
  go_enter Tryd.func61, Tryd.ntmps61
  go_wp2
  refine wp_loop_rounds 4 ?_
  rw [rounds_succ]
  go_wp2
  go_quiet (fail)
  go_wp2
  exact bodyPost_ret (v := .tuple #[bv ⟨x, y, z + 1⟩, .bool true]) (by simp [results, Tryd.results61, go_sem]) rfl ⟨rfl, (by repeat' (first | with_reducible exact Below.refl _ _ | with_reducible assumption | with_reducible apply Below.drew | with_reducible apply below_drewN | (with_reducible refine Below.setCell ?_ ?_ _) | (with_reducible refine Below.alloc ?_ ?_ _) | with_reducible exact Nat.le_refl _ | with_reducible exact Below.size (by assumption) | (simp; done) | (simp; done) | omega | (simp; omega)))⟩

set_option maxRecDepth 100000 in
theorem next_y (S : Sh) (q : Q3) (w : World) (h2 : S.c.s ≤ q.z) (h : q.y < S.b.s) (hb : S.b.s ≤ 5) (h0 : 0 ≤ q.y) :
    Calls Tryd.prog 61 #[shv S, bv q] w fun e w' => e = .returned (.tuple #[bv ⟨q.x, q.y + 1, 0⟩, .bool true]) ∧ Below w.heap.size w w' := by
  obtain ⟨⟨p0, s0⟩, ⟨p1, s1⟩, ⟨p2, s2⟩, m⟩ := S
  obtain ⟨x, y, z⟩ := q
  dsimp only at *
  go_enter Tryd.func61, Tryd.ntmps61
  go_wp2
  refine wp_loop_rounds 4 ?_
  rw [rounds_succ]
  go_wp2
  go_quiet (fail)
  go_wp2
  rw [rounds_succ]
  go_wp2
  go_quiet (fail)
  go_wp2
  exact bodyPost_ret (v := .tuple #[bv ⟨x, y + 1, 0⟩, .bool true]) (by simp [results, Tryd.results61, go_sem]) rfl ⟨rfl, (by repeat' (first | with_reducible exact Below.refl _ _ | with_reducible assumption | with_reducible apply Below.drew | with_reducible apply below_drewN | (with_reducible refine Below.setCell ?_ ?_ _) | (with_reducible refine Below.alloc ?_ ?_ _) | with_reducible exact Nat.le_refl _ | with_reducible exact Below.size (by assumption) | (simp; done) | (simp; done) | omega | (simp; omega)))⟩
set_option maxRecDepth 100000 in
theorem next_x (S : Sh) (q : Q3) (w : World) (h2 : S.c.s ≤ q.z) (h1 : S.b.s ≤ q.y) (h : q.x < S.a.s) (hb : S.a.s ≤ 5) (h0 : 0 ≤ q.x) :
    Calls Tryd.prog 61 #[shv S, bv q] w fun e w' => e = .returned (.tuple #[bv ⟨q.x + 1, 0, 0⟩, .bool true]) ∧ Below w.heap.size w w' := by
  obtain ⟨⟨p0, s0⟩, ⟨p1, s1⟩, ⟨p2, s2⟩, m⟩ := S
  obtain ⟨x, y, z⟩ := q
  dsimp only at *
  go_enter Tryd.func61, Tryd.ntmps61
  go_wp2
  refine wp_loop_rounds 4 ?_
  rw [rounds_succ]
  go_wp2
  go_quiet (fail)
  go_wp2
  rw [rounds_succ]
  go_wp2
  go_quiet (fail)
  go_wp2
  rw [rounds_succ]
  go_wp2
  go_quiet (fail)
  go_wp2
  exact bodyPost_ret (v := .tuple #[bv ⟨x + 1, 0, 0⟩, .bool true]) (by simp [results, Tryd.results61, go_sem]) rfl ⟨rfl, (by repeat' (first | with_reducible exact Below.refl _ _ | with_reducible assumption | with_reducible apply Below.drew | with_reducible apply below_drewN | (with_reducible refine Below.setCell ?_ ?_ _) | (with_reducible refine Below.alloc ?_ ?_ _) | with_reducible exact Nat.le_refl _ | with_reducible exact Below.size (by assumption) | (simp; done) | (simp; done) | omega | (simp; omega)))⟩
set_option maxRecDepth 100000 in
theorem next_none (S : Sh) (q : Q3) (w : World) (h2 : S.c.s ≤ q.z) (h1 : S.b.s ≤ q.y) (h : S.a.s ≤ q.x) :
    Calls Tryd.prog 61 #[shv S, bv q] w fun e w' => e = .returned (.tuple #[bv ⟨0, 0, 0⟩, .bool false]) ∧ Below w.heap.size w w' := by
  obtain ⟨⟨p0, s0⟩, ⟨p1, s1⟩, ⟨p2, s2⟩, m⟩ := S
  obtain ⟨x, y, z⟩ := q
  dsimp only at *
  go_enter Tryd.func61, Tryd.ntmps61
  go_wp2
  refine wp_loop_rounds 4 ?_
  rw [rounds_succ]
  go_wp2
  go_quiet (fail)
  go_wp2
  rw [rounds_succ]
  go_wp2
  go_quiet (fail)
  go_wp2
  rw [rounds_succ]
  go_wp2
  go_quiet (fail)
  go_wp2
  rw [rounds_succ]
  go_wp2
  exact bodyPost_ret (v := .tuple #[bv ⟨0, 0, 0⟩, .bool false]) (by simp [results, Tryd.results61, go_sem]) rfl ⟨rfl, (by repeat' (first | with_reducible exact Below.refl _ _ | with_reducible assumption | with_reducible apply Below.drew | with_reducible apply below_drewN | (with_reducible refine Below.setCell ?_ ?_ _) | (with_reducible refine Below.alloc ?_ ?_ _) | with_reducible exact Nat.le_refl _ | with_reducible exact Below.size (by assumption) | (simp; done) | (simp; done) | omega | (simp; omega)))⟩
theorem next_any (S : Sh) (q : Q3) (w : World) (hS : S.In) (hq : S.Has q) :
    Calls Tryd.prog 61 #[shv S, bv q] w fun e w' => e = .returned (nextV S q) ∧ Below w.heap.size w w' := by
  unfold nextV next
  by_cases h2 : q.z < S.c.s
  · rw [if_pos h2]; exact next_z S q w h2 hS.c3 hq.z0
  · rw [if_neg h2]
    by_cases h1 : q.y < S.b.s
    · rw [if_pos h1]; exact next_y S q w (by omega) h1 hS.b3 hq.y0
    · rw [if_neg h1]
      by_cases h : q.x < S.a.s
      · rw [if_pos h]; exact next_x S q w (by omega) (by omega) h hS.a3 hq.x0
      · rw [if_neg h]; exact next_none S q w (by omega) (by omega) (by omega)

/-- The row of a basket is a new block. -/
def GotRow (w : World) (S : Sh) (q : Q3) (e : Ending) (w' : World) : Prop :=
  ∃ g, e = .returned (.slice (some ⟨g, 0, none⟩) S.m.toNat S.m.toNat) ∧ Blk w' g 58 (bc q) ∧ w.heap.size ≤ g ∧ Below w.heap.size w w'
theorem row_any (S : Sh) (q : Q3) (w : World) (hS : S.In) :
    Calls Tryd.prog 47 #[shv S, bv q] w (GotRow w S q) := by
  have m0 := hS.m0
  have m1 := hS.m1
  clear hS
  obtain ⟨⟨p0, s0⟩, ⟨p1, s1⟩, ⟨p2, s2⟩, m⟩ := S
  obtain ⟨x, y, z⟩ := q
  dsimp only at *
  go_enter Tryd.func47, Tryd.ntmps47
  go_wp2
  go_ret
  exact ⟨_, rfl, Blk.new' (by simp), by simp, (by repeat' (first | with_reducible exact Below.refl _ _ | with_reducible assumption | with_reducible apply Below.drew | with_reducible apply below_drewN | (with_reducible refine Below.setCell ?_ ?_ _) | (with_reducible refine Below.alloc ?_ ?_ _) | with_reducible exact Nat.le_refl _ | with_reducible exact Below.size (by assumption) | (simp; done) | (simp; done) | omega | (simp; omega)))⟩

end Go.Proofs.YtemhikgdbmmnjaaDoor

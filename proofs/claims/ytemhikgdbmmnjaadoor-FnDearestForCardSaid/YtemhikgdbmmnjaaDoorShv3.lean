/- The program's basketFrom at every slice of ints. -/
import Derived.Test.YtemhikgdbmmnjaaDoorShv2
namespace Go.Proofs.YtemhikgdbmmnjaaDoor
open Go.RowKit

/-- The basket that a row tells. -/
def q3 (xs : List Int) : Q3 := ⟨xs.getD 0 0, xs.getD 1 0, xs.getD 2 0⟩
def hasB (S : Sh) (q : Q3) : Bool := decide (0 ≤ q.x) && (decide (q.x ≤ S.a.s) && (decide (0 ≤ q.y) && (decide (q.y ≤ S.b.s) && (decide (0 ≤ q.z) && decide (q.z ≤ S.c.s)))))
theorem hasB_iff {S : Sh} {q : Q3} : hasB S q = true ↔ S.Has q := by
  simp only [hasB, Bool.and_eq_true, decide_eq_true_eq]
  exact ⟨fun ⟨a, b, c, d, e, f⟩ => ⟨a, b, c, d, e, f⟩, fun ⟨a, b, c, d, e, f⟩ => ⟨a, b, c, d, e, f⟩⟩
/-- The row is a basket of these shelves. -/
def bOk (S : Sh) (xs : List Int) : Bool := decide ((xs.length : Int) = S.m) && hasB S (q3 xs)
theorem bOk_iff {S : Sh} {xs : List Int} : bOk S xs = true ↔ (xs.length : Int) = S.m ∧ S.Has (q3 xs) := by
  simp [bOk, hasB_iff]

theorem basketFrom_len (S : Sh) (A : Option Addr) (n c : Nat) (w : World) (h : (n : Int) ≠ S.m) :
    Calls Tryd.prog 59 #[shv S, .slice A n c] w fun e w' => e = .returned (.tuple #[bv Q3.zero, .bool false]) ∧ Below w.heap.size w w' := by
  obtain ⟨⟨p0, s0⟩, ⟨p1, s1⟩, ⟨p2, s2⟩, m⟩ := S
  dsimp only at *
  have hb : ((n : Int) == m) = false := by simpa using h
  go_enter Tryd.func59, Tryd.ntmps59
  go_wp2
  exact bodyPost_ret (v := .tuple #[bv Q3.zero, .bool false]) (by simp [results, Tryd.results59, go_sem, Q3.zero]) rfl ⟨rfl, (by repeat' (first | with_reducible exact Below.refl _ _ | with_reducible assumption | with_reducible apply Below.drew | with_reducible apply below_drewN | (with_reducible refine Below.setCell ?_ ?_ _) | (with_reducible refine Below.alloc ?_ ?_ _) | with_reducible exact Nat.le_refl _ | with_reducible exact Below.size (by assumption) | (simp; done) | (simp; done) | omega | (simp; omega)))⟩

set_option maxRecDepth 100000 in
theorem basketFrom_0ok (A : Option Addr) (c : Nat) (p0 s0 p1 s1 p2 s2 : Int) (w : World)    :
    Calls Tryd.prog 59 #[.agg #[.int .i64 p0, .int .i64 s0, .int .i64 p1, .int .i64 s1, .int .i64 p2, .int .i64 s2, .int .i64 0], .slice A 0 c] w fun e w' => e = .returned (.tuple #[bv ⟨0, 0, 0⟩, .bool true]) ∧ Below w.heap.size w w' := by
  go_enter Tryd.func59, Tryd.ntmps59
  go_wp2
  refine wp_loop_rounds 1 ?_
  rw [rounds_succ]
  go_wp2
  exact bodyPost_ret (v := .tuple #[bv ⟨0, 0, 0⟩, .bool true]) (by simp [results, Tryd.results59, go_sem]) rfl ⟨rfl, (by repeat' (first | with_reducible exact Below.refl _ _ | with_reducible assumption | with_reducible apply Below.drew | with_reducible apply below_drewN | (with_reducible refine Below.setCell ?_ ?_ _) | (with_reducible refine Below.alloc ?_ ?_ _) | with_reducible exact Nat.le_refl _ | with_reducible exact Below.size (by assumption) | (simp; done) | (simp; done) | omega | (simp; omega)))⟩

set_option maxRecDepth 100000 in
theorem basketFrom_1bad0 (b off c : Nat) (p0 s0 p1 s1 p2 s2 : Int) (x0 : Int) (w : World) (c0 : w.cell? ⟨b, off, none⟩ = some (.int .i64 x0))  (kb : x0 < 0 ∨ (0 ≤ x0 ∧ s0 < x0)) :
    Calls Tryd.prog 59 #[.agg #[.int .i64 p0, .int .i64 s0, .int .i64 p1, .int .i64 s1, .int .i64 p2, .int .i64 s2, .int .i64 1], .slice (some ⟨b, off, none⟩) 1 c] w fun e w' => e = .returned (.tuple #[bv Q3.zero, .bool false]) ∧ Below w.heap.size w w' := by
  have hbw : b < w.heap.size := World.block_lt_of_cell? w _ c0
  have hb1 : b < w.heap.size + 1 := by omega
  have hb2 : b < w.heap.size + 1 + 1 := by omega
  have hb3 : b < w.heap.size + 1 + 1 + 1 := by omega
  rcases kb with kb | ⟨kb, kb2⟩
  · go_enter Tryd.func59, Tryd.ntmps59
    go_wp2
    refine wp_loop_rounds 1 ?_
    rw [rounds_succ]
    go_wp2
    exact bodyPost_ret (v := .tuple #[bv Q3.zero, .bool false]) (by simp [results, Tryd.results59, go_sem, Q3.zero]) rfl ⟨rfl, (by repeat' (first | with_reducible exact Below.refl _ _ | with_reducible assumption | with_reducible apply Below.drew | with_reducible apply below_drewN | (with_reducible refine Below.setCell ?_ ?_ _) | (with_reducible refine Below.alloc ?_ ?_ _) | with_reducible exact Nat.le_refl _ | with_reducible exact Below.size (by assumption) | (simp; done) | (simp; done) | omega | (simp; omega)))⟩
  · go_enter Tryd.func59, Tryd.ntmps59
    go_wp2
    refine wp_loop_rounds 1 ?_
    rw [rounds_succ]
    go_wp2
    exact bodyPost_ret (v := .tuple #[bv Q3.zero, .bool false]) (by simp [results, Tryd.results59, go_sem, Q3.zero]) rfl ⟨rfl, (by repeat' (first | with_reducible exact Below.refl _ _ | with_reducible assumption | with_reducible apply Below.drew | with_reducible apply below_drewN | (with_reducible refine Below.setCell ?_ ?_ _) | (with_reducible refine Below.alloc ?_ ?_ _) | with_reducible exact Nat.le_refl _ | with_reducible exact Below.size (by assumption) | (simp; done) | (simp; done) | omega | (simp; omega)))⟩

set_option maxRecDepth 100000 in
theorem basketFrom_1ok (b off c : Nat) (p0 s0 p1 s1 p2 s2 : Int) (x0 : Int) (w : World) (c0 : w.cell? ⟨b, off, none⟩ = some (.int .i64 x0)) (l0 : 0 ≤ x0) (u0 : x0 ≤ s0)  :
    Calls Tryd.prog 59 #[.agg #[.int .i64 p0, .int .i64 s0, .int .i64 p1, .int .i64 s1, .int .i64 p2, .int .i64 s2, .int .i64 1], .slice (some ⟨b, off, none⟩) 1 c] w fun e w' => e = .returned (.tuple #[bv ⟨x0, 0, 0⟩, .bool true]) ∧ Below w.heap.size w w' := by
  have hbw : b < w.heap.size := World.block_lt_of_cell? w _ c0
  have hb1 : b < w.heap.size + 1 := by omega
  have hb2 : b < w.heap.size + 1 + 1 := by omega
  have hb3 : b < w.heap.size + 1 + 1 + 1 := by omega
  go_enter Tryd.func59, Tryd.ntmps59
  go_wp2
  refine wp_loop_rounds 2 ?_
  rw [rounds_succ]
  go_wp2
  rw [rounds_succ]
  go_wp2
  exact bodyPost_ret (v := .tuple #[bv ⟨x0, 0, 0⟩, .bool true]) (by simp [results, Tryd.results59, go_sem]) rfl ⟨rfl, (by repeat' (first | with_reducible exact Below.refl _ _ | with_reducible assumption | with_reducible apply Below.drew | with_reducible apply below_drewN | (with_reducible refine Below.setCell ?_ ?_ _) | (with_reducible refine Below.alloc ?_ ?_ _) | with_reducible exact Nat.le_refl _ | with_reducible exact Below.size (by assumption) | (simp; done) | (simp; done) | omega | (simp; omega)))⟩

set_option maxRecDepth 100000 in
theorem basketFrom_2bad0 (b off c : Nat) (p0 s0 p1 s1 p2 s2 : Int) (x0 : Int) (w : World) (c0 : w.cell? ⟨b, off, none⟩ = some (.int .i64 x0))  (kb : x0 < 0 ∨ (0 ≤ x0 ∧ s0 < x0)) :
    Calls Tryd.prog 59 #[.agg #[.int .i64 p0, .int .i64 s0, .int .i64 p1, .int .i64 s1, .int .i64 p2, .int .i64 s2, .int .i64 2], .slice (some ⟨b, off, none⟩) 2 c] w fun e w' => e = .returned (.tuple #[bv Q3.zero, .bool false]) ∧ Below w.heap.size w w' := by
  have hbw : b < w.heap.size := World.block_lt_of_cell? w _ c0
  have hb1 : b < w.heap.size + 1 := by omega
  have hb2 : b < w.heap.size + 1 + 1 := by omega
  have hb3 : b < w.heap.size + 1 + 1 + 1 := by omega
  rcases kb with kb | ⟨kb, kb2⟩
  · go_enter Tryd.func59, Tryd.ntmps59
    go_wp2
    refine wp_loop_rounds 1 ?_
    rw [rounds_succ]
    go_wp2
    exact bodyPost_ret (v := .tuple #[bv Q3.zero, .bool false]) (by simp [results, Tryd.results59, go_sem, Q3.zero]) rfl ⟨rfl, (by repeat' (first | with_reducible exact Below.refl _ _ | with_reducible assumption | with_reducible apply Below.drew | with_reducible apply below_drewN | (with_reducible refine Below.setCell ?_ ?_ _) | (with_reducible refine Below.alloc ?_ ?_ _) | with_reducible exact Nat.le_refl _ | with_reducible exact Below.size (by assumption) | (simp; done) | (simp; done) | omega | (simp; omega)))⟩
  · go_enter Tryd.func59, Tryd.ntmps59
    go_wp2
    refine wp_loop_rounds 1 ?_
    rw [rounds_succ]
    go_wp2
    exact bodyPost_ret (v := .tuple #[bv Q3.zero, .bool false]) (by simp [results, Tryd.results59, go_sem, Q3.zero]) rfl ⟨rfl, (by repeat' (first | with_reducible exact Below.refl _ _ | with_reducible assumption | with_reducible apply Below.drew | with_reducible apply below_drewN | (with_reducible refine Below.setCell ?_ ?_ _) | (with_reducible refine Below.alloc ?_ ?_ _) | with_reducible exact Nat.le_refl _ | with_reducible exact Below.size (by assumption) | (simp; done) | (simp; done) | omega | (simp; omega)))⟩

set_option maxRecDepth 100000 in
theorem basketFrom_2bad1 (b off c : Nat) (p0 s0 p1 s1 p2 s2 : Int) (x0 x1 : Int) (w : World) (c0 : w.cell? ⟨b, off, none⟩ = some (.int .i64 x0)) (c1 : w.cell? ⟨b, off + 1, none⟩ = some (.int .i64 x1)) (l0 : 0 ≤ x0) (u0 : x0 ≤ s0) (kb : x1 < 0 ∨ (0 ≤ x1 ∧ s1 < x1)) :
    Calls Tryd.prog 59 #[.agg #[.int .i64 p0, .int .i64 s0, .int .i64 p1, .int .i64 s1, .int .i64 p2, .int .i64 s2, .int .i64 2], .slice (some ⟨b, off, none⟩) 2 c] w fun e w' => e = .returned (.tuple #[bv Q3.zero, .bool false]) ∧ Below w.heap.size w w' := by
  have hbw : b < w.heap.size := World.block_lt_of_cell? w _ c0
  have hb1 : b < w.heap.size + 1 := by omega
  have hb2 : b < w.heap.size + 1 + 1 := by omega
  have hb3 : b < w.heap.size + 1 + 1 + 1 := by omega
  rcases kb with kb | ⟨kb, kb2⟩
  · go_enter Tryd.func59, Tryd.ntmps59
    go_wp2
    refine wp_loop_rounds 2 ?_
    rw [rounds_succ]
    go_wp2
    rw [rounds_succ]
    go_wp2
    exact bodyPost_ret (v := .tuple #[bv Q3.zero, .bool false]) (by simp [results, Tryd.results59, go_sem, Q3.zero]) rfl ⟨rfl, (by repeat' (first | with_reducible exact Below.refl _ _ | with_reducible assumption | with_reducible apply Below.drew | with_reducible apply below_drewN | (with_reducible refine Below.setCell ?_ ?_ _) | (with_reducible refine Below.alloc ?_ ?_ _) | with_reducible exact Nat.le_refl _ | with_reducible exact Below.size (by assumption) | (simp; done) | (simp; done) | omega | (simp; omega)))⟩
  · go_enter Tryd.func59, Tryd.ntmps59
    go_wp2
    refine wp_loop_rounds 2 ?_
    rw [rounds_succ]
    go_wp2
    rw [rounds_succ]
    go_wp2
    exact bodyPost_ret (v := .tuple #[bv Q3.zero, .bool false]) (by simp [results, Tryd.results59, go_sem, Q3.zero]) rfl ⟨rfl, (by repeat' (first | with_reducible exact Below.refl _ _ | with_reducible assumption | with_reducible apply Below.drew | with_reducible apply below_drewN | (with_reducible refine Below.setCell ?_ ?_ _) | (with_reducible refine Below.alloc ?_ ?_ _) | with_reducible exact Nat.le_refl _ | with_reducible exact Below.size (by assumption) | (simp; done) | (simp; done) | omega | (simp; omega)))⟩

set_option maxRecDepth 100000 in
theorem basketFrom_2ok (b off c : Nat) (p0 s0 p1 s1 p2 s2 : Int) (x0 x1 : Int) (w : World) (c0 : w.cell? ⟨b, off, none⟩ = some (.int .i64 x0)) (c1 : w.cell? ⟨b, off + 1, none⟩ = some (.int .i64 x1)) (l0 : 0 ≤ x0) (u0 : x0 ≤ s0) (l1 : 0 ≤ x1) (u1 : x1 ≤ s1)  :
    Calls Tryd.prog 59 #[.agg #[.int .i64 p0, .int .i64 s0, .int .i64 p1, .int .i64 s1, .int .i64 p2, .int .i64 s2, .int .i64 2], .slice (some ⟨b, off, none⟩) 2 c] w fun e w' => e = .returned (.tuple #[bv ⟨x0, x1, 0⟩, .bool true]) ∧ Below w.heap.size w w' := by
  have hbw : b < w.heap.size := World.block_lt_of_cell? w _ c0
  have hb1 : b < w.heap.size + 1 := by omega
  have hb2 : b < w.heap.size + 1 + 1 := by omega
  have hb3 : b < w.heap.size + 1 + 1 + 1 := by omega
  go_enter Tryd.func59, Tryd.ntmps59
  go_wp2
  refine wp_loop_rounds 3 ?_
  rw [rounds_succ]
  go_wp2
  rw [rounds_succ]
  go_wp2
  rw [rounds_succ]
  go_wp2
  exact bodyPost_ret (v := .tuple #[bv ⟨x0, x1, 0⟩, .bool true]) (by simp [results, Tryd.results59, go_sem]) rfl ⟨rfl, (by repeat' (first | with_reducible exact Below.refl _ _ | with_reducible assumption | with_reducible apply Below.drew | with_reducible apply below_drewN | (with_reducible refine Below.setCell ?_ ?_ _) | (with_reducible refine Below.alloc ?_ ?_ _) | with_reducible exact Nat.le_refl _ | with_reducible exact Below.size (by assumption) | (simp; done) | (simp; done) | omega | (simp; omega)))⟩

set_option maxRecDepth 100000 in
theorem basketFrom_3bad0 (b off c : Nat) (p0 s0 p1 s1 p2 s2 : Int) (x0 : Int) (w : World) (c0 : w.cell? ⟨b, off, none⟩ = some (.int .i64 x0))  (kb : x0 < 0 ∨ (0 ≤ x0 ∧ s0 < x0)) :
    Calls Tryd.prog 59 #[.agg #[.int .i64 p0, .int .i64 s0, .int .i64 p1, .int .i64 s1, .int .i64 p2, .int .i64 s2, .int .i64 3], .slice (some ⟨b, off, none⟩) 3 c] w fun e w' => e = .returned (.tuple #[bv Q3.zero, .bool false]) ∧ Below w.heap.size w w' := by
  have hbw : b < w.heap.size := World.block_lt_of_cell? w _ c0
  have hb1 : b < w.heap.size + 1 := by omega
  have hb2 : b < w.heap.size + 1 + 1 := by omega
  have hb3 : b < w.heap.size + 1 + 1 + 1 := by omega
  rcases kb with kb | ⟨kb, kb2⟩
  · go_enter Tryd.func59, Tryd.ntmps59
    go_wp2
    refine wp_loop_rounds 1 ?_
    rw [rounds_succ]
    go_wp2
    exact bodyPost_ret (v := .tuple #[bv Q3.zero, .bool false]) (by simp [results, Tryd.results59, go_sem, Q3.zero]) rfl ⟨rfl, (by repeat' (first | with_reducible exact Below.refl _ _ | with_reducible assumption | with_reducible apply Below.drew | with_reducible apply below_drewN | (with_reducible refine Below.setCell ?_ ?_ _) | (with_reducible refine Below.alloc ?_ ?_ _) | with_reducible exact Nat.le_refl _ | with_reducible exact Below.size (by assumption) | (simp; done) | (simp; done) | omega | (simp; omega)))⟩
  · go_enter Tryd.func59, Tryd.ntmps59
    go_wp2
    refine wp_loop_rounds 1 ?_
    rw [rounds_succ]
    go_wp2
    exact bodyPost_ret (v := .tuple #[bv Q3.zero, .bool false]) (by simp [results, Tryd.results59, go_sem, Q3.zero]) rfl ⟨rfl, (by repeat' (first | with_reducible exact Below.refl _ _ | with_reducible assumption | with_reducible apply Below.drew | with_reducible apply below_drewN | (with_reducible refine Below.setCell ?_ ?_ _) | (with_reducible refine Below.alloc ?_ ?_ _) | with_reducible exact Nat.le_refl _ | with_reducible exact Below.size (by assumption) | (simp; done) | (simp; done) | omega | (simp; omega)))⟩

set_option maxRecDepth 100000 in
theorem basketFrom_3bad1 (b off c : Nat) (p0 s0 p1 s1 p2 s2 : Int) (x0 x1 : Int) (w : World) (c0 : w.cell? ⟨b, off, none⟩ = some (.int .i64 x0)) (c1 : w.cell? ⟨b, off + 1, none⟩ = some (.int .i64 x1)) (l0 : 0 ≤ x0) (u0 : x0 ≤ s0) (kb : x1 < 0 ∨ (0 ≤ x1 ∧ s1 < x1)) :
    Calls Tryd.prog 59 #[.agg #[.int .i64 p0, .int .i64 s0, .int .i64 p1, .int .i64 s1, .int .i64 p2, .int .i64 s2, .int .i64 3], .slice (some ⟨b, off, none⟩) 3 c] w fun e w' => e = .returned (.tuple #[bv Q3.zero, .bool false]) ∧ Below w.heap.size w w' := by
  have hbw : b < w.heap.size := World.block_lt_of_cell? w _ c0
  have hb1 : b < w.heap.size + 1 := by omega
  have hb2 : b < w.heap.size + 1 + 1 := by omega
  have hb3 : b < w.heap.size + 1 + 1 + 1 := by omega
  rcases kb with kb | ⟨kb, kb2⟩
  · go_enter Tryd.func59, Tryd.ntmps59
    go_wp2
    refine wp_loop_rounds 2 ?_
    rw [rounds_succ]
    go_wp2
    rw [rounds_succ]
    go_wp2
    exact bodyPost_ret (v := .tuple #[bv Q3.zero, .bool false]) (by simp [results, Tryd.results59, go_sem, Q3.zero]) rfl ⟨rfl, (by repeat' (first | with_reducible exact Below.refl _ _ | with_reducible assumption | with_reducible apply Below.drew | with_reducible apply below_drewN | (with_reducible refine Below.setCell ?_ ?_ _) | (with_reducible refine Below.alloc ?_ ?_ _) | with_reducible exact Nat.le_refl _ | with_reducible exact Below.size (by assumption) | (simp; done) | (simp; done) | omega | (simp; omega)))⟩
  · go_enter Tryd.func59, Tryd.ntmps59
    go_wp2
    refine wp_loop_rounds 2 ?_
    rw [rounds_succ]
    go_wp2
    rw [rounds_succ]
    go_wp2
    exact bodyPost_ret (v := .tuple #[bv Q3.zero, .bool false]) (by simp [results, Tryd.results59, go_sem, Q3.zero]) rfl ⟨rfl, (by repeat' (first | with_reducible exact Below.refl _ _ | with_reducible assumption | with_reducible apply Below.drew | with_reducible apply below_drewN | (with_reducible refine Below.setCell ?_ ?_ _) | (with_reducible refine Below.alloc ?_ ?_ _) | with_reducible exact Nat.le_refl _ | with_reducible exact Below.size (by assumption) | (simp; done) | (simp; done) | omega | (simp; omega)))⟩

set_option maxRecDepth 100000 in
theorem basketFrom_3bad2 (b off c : Nat) (p0 s0 p1 s1 p2 s2 : Int) (x0 x1 x2 : Int) (w : World) (c0 : w.cell? ⟨b, off, none⟩ = some (.int .i64 x0)) (c1 : w.cell? ⟨b, off + 1, none⟩ = some (.int .i64 x1)) (c2 : w.cell? ⟨b, off + 2, none⟩ = some (.int .i64 x2)) (l0 : 0 ≤ x0) (u0 : x0 ≤ s0) (l1 : 0 ≤ x1) (u1 : x1 ≤ s1) (kb : x2 < 0 ∨ (0 ≤ x2 ∧ s2 < x2)) :
    Calls Tryd.prog 59 #[.agg #[.int .i64 p0, .int .i64 s0, .int .i64 p1, .int .i64 s1, .int .i64 p2, .int .i64 s2, .int .i64 3], .slice (some ⟨b, off, none⟩) 3 c] w fun e w' => e = .returned (.tuple #[bv Q3.zero, .bool false]) ∧ Below w.heap.size w w' := by
  have hbw : b < w.heap.size := World.block_lt_of_cell? w _ c0
  have hb1 : b < w.heap.size + 1 := by omega
  have hb2 : b < w.heap.size + 1 + 1 := by omega
  have hb3 : b < w.heap.size + 1 + 1 + 1 := by omega
  rcases kb with kb | ⟨kb, kb2⟩
  · go_enter Tryd.func59, Tryd.ntmps59
    go_wp2
    refine wp_loop_rounds 3 ?_
    rw [rounds_succ]
    go_wp2
    rw [rounds_succ]
    go_wp2
    rw [rounds_succ]
    go_wp2
    exact bodyPost_ret (v := .tuple #[bv Q3.zero, .bool false]) (by simp [results, Tryd.results59, go_sem, Q3.zero]) rfl ⟨rfl, (by repeat' (first | with_reducible exact Below.refl _ _ | with_reducible assumption | with_reducible apply Below.drew | with_reducible apply below_drewN | (with_reducible refine Below.setCell ?_ ?_ _) | (with_reducible refine Below.alloc ?_ ?_ _) | with_reducible exact Nat.le_refl _ | with_reducible exact Below.size (by assumption) | (simp; done) | (simp; done) | omega | (simp; omega)))⟩
  · go_enter Tryd.func59, Tryd.ntmps59
    go_wp2
    refine wp_loop_rounds 3 ?_
    rw [rounds_succ]
    go_wp2
    rw [rounds_succ]
    go_wp2
    rw [rounds_succ]
    go_wp2
    exact bodyPost_ret (v := .tuple #[bv Q3.zero, .bool false]) (by simp [results, Tryd.results59, go_sem, Q3.zero]) rfl ⟨rfl, (by repeat' (first | with_reducible exact Below.refl _ _ | with_reducible assumption | with_reducible apply Below.drew | with_reducible apply below_drewN | (with_reducible refine Below.setCell ?_ ?_ _) | (with_reducible refine Below.alloc ?_ ?_ _) | with_reducible exact Nat.le_refl _ | with_reducible exact Below.size (by assumption) | (simp; done) | (simp; done) | omega | (simp; omega)))⟩

set_option maxRecDepth 100000 in
theorem basketFrom_3ok (b off c : Nat) (p0 s0 p1 s1 p2 s2 : Int) (x0 x1 x2 : Int) (w : World) (c0 : w.cell? ⟨b, off, none⟩ = some (.int .i64 x0)) (c1 : w.cell? ⟨b, off + 1, none⟩ = some (.int .i64 x1)) (c2 : w.cell? ⟨b, off + 2, none⟩ = some (.int .i64 x2)) (l0 : 0 ≤ x0) (u0 : x0 ≤ s0) (l1 : 0 ≤ x1) (u1 : x1 ≤ s1) (l2 : 0 ≤ x2) (u2 : x2 ≤ s2)  :
    Calls Tryd.prog 59 #[.agg #[.int .i64 p0, .int .i64 s0, .int .i64 p1, .int .i64 s1, .int .i64 p2, .int .i64 s2, .int .i64 3], .slice (some ⟨b, off, none⟩) 3 c] w fun e w' => e = .returned (.tuple #[bv ⟨x0, x1, x2⟩, .bool true]) ∧ Below w.heap.size w w' := by
  have hbw : b < w.heap.size := World.block_lt_of_cell? w _ c0
  have hb1 : b < w.heap.size + 1 := by omega
  have hb2 : b < w.heap.size + 1 + 1 := by omega
  have hb3 : b < w.heap.size + 1 + 1 + 1 := by omega
  go_enter Tryd.func59, Tryd.ntmps59
  go_wp2
  refine wp_loop_rounds 4 ?_
  rw [rounds_succ]
  go_wp2
  rw [rounds_succ]
  go_wp2
  rw [rounds_succ]
  go_wp2
  rw [rounds_succ]
  go_wp2
  exact bodyPost_ret (v := .tuple #[bv ⟨x0, x1, x2⟩, .bool true]) (by simp [results, Tryd.results59, go_sem]) rfl ⟨rfl, (by repeat' (first | with_reducible exact Below.refl _ _ | with_reducible assumption | with_reducible apply Below.drew | with_reducible apply below_drewN | (with_reducible refine Below.setCell ?_ ?_ _) | (with_reducible refine Below.alloc ?_ ?_ _) | with_reducible exact Nat.le_refl _ | with_reducible exact Below.size (by assumption) | (simp; done) | (simp; done) | omega | (simp; omega)))⟩

theorem Row.cells {w : World} {b off : Nat} {xs : List Int} (h : Row .i64 w (some ⟨b, off, none⟩) xs) : ∀ i, i < xs.length → w.cell? ⟨b, off + i, none⟩ = some (.int .i64 (xs.getD i 0)) := by
  rcases h with h | ⟨b', off', e, hc⟩
  · subst h; intro i hi; cases hi
  · injection e with e
    injection e with e1 e2 _
    subst e1; subst e2
    exact hc
theorem Row.addr {w : World} {A : Option Addr} {xs : List Int} (h : Row .i64 w A xs) (h0 : 0 < xs.length) : ∃ b off, A = some ⟨b, off, none⟩ := by
  rcases h with h | ⟨b, off, e, _⟩
  · subst h; cases h0
  · exact ⟨b, off, e⟩
theorem not_le2 {a b : Int} (h : ¬ (0 ≤ a ∧ a ≤ b)) : a < 0 ∨ (0 ≤ a ∧ b < a) := by omega

/-- What basketFrom gives. -/
def BaFrom (S : Sh) (xs : List Int) (w : World) (e : Ending) (w' : World) : Prop :=
  e = .returned (if bOk S xs = true then .tuple #[bv (q3 xs), .bool true] else .tuple #[bv Q3.zero, .bool false]) ∧ Below w.heap.size w w'
theorem basketFrom_any (S : Sh) (A : Option Addr) (xs : List Int) (c : Nat) (w : World) (hS : S.In) (hr : Row .i64 w A xs) :
    Calls Tryd.prog 59 #[shv S, .slice A xs.length c] w (BaFrom S xs w) := by
  unfold BaFrom
  by_cases hm : (xs.length : Int) = S.m
  · have a2 := hS.a2
    have b2 := hS.b2
    have c2 := hS.c2
    have m1 := hS.m1
    clear hS
    obtain ⟨⟨p0, s0⟩, ⟨p1, s1⟩, ⟨p2, s2⟩, m⟩ := S
    dsimp only at *
    match xs, hr, hm with
    | [], _, hm =>
      obtain rfl : m = 0 := by simpa using hm.symm
      rw [if_pos (by simp [bOk, hasB, q3, a2, b2, c2])]
      exact basketFrom_0ok A c p0 s0 p1 s1 p2 s2 w
    | [x0], hr, hm =>
      obtain rfl : m = 1 := by simpa using hm.symm
      obtain ⟨b, off, rfl⟩ := hr.addr (by simp)
      have h0 := hr.cells 0 (by simp)
      by_cases k0 : 0 ≤ x0 ∧ x0 ≤ s0
      · rw [if_pos (by simp [bOk, hasB, q3, b2, c2, k0])]
        exact basketFrom_1ok b off c p0 s0 p1 s1 p2 s2 x0 w h0 k0.1 k0.2
      · rw [if_neg (by simp [bOk, hasB, q3, b2, c2]; omega)]
        exact basketFrom_1bad0 b off c p0 s0 p1 s1 p2 s2 x0 w h0 (not_le2 k0)
    | [x0, x1], hr, hm =>
      obtain rfl : m = 2 := by simpa using hm.symm
      obtain ⟨b, off, rfl⟩ := hr.addr (by simp)
      have h0 := hr.cells 0 (by simp)
      have h1 := hr.cells 1 (by simp)
      by_cases k0 : 0 ≤ x0 ∧ x0 ≤ s0
      · by_cases k1 : 0 ≤ x1 ∧ x1 ≤ s1
        · rw [if_pos (by simp [bOk, hasB, q3, c2, k0, k1])]
          exact basketFrom_2ok b off c p0 s0 p1 s1 p2 s2 x0 x1 w h0 h1 k0.1 k0.2 k1.1 k1.2
        · rw [if_neg (by simp [bOk, hasB, q3, c2]; omega)]
          exact basketFrom_2bad1 b off c p0 s0 p1 s1 p2 s2 x0 x1 w h0 h1 k0.1 k0.2 (not_le2 k1)
      · rw [if_neg (by simp [bOk, hasB, q3, c2]; omega)]
        exact basketFrom_2bad0 b off c p0 s0 p1 s1 p2 s2 x0 w h0 (not_le2 k0)
    | [x0, x1, x2], hr, hm =>
      obtain rfl : m = 3 := by simpa using hm.symm
      obtain ⟨b, off, rfl⟩ := hr.addr (by simp)
      have h0 := hr.cells 0 (by simp)
      have h1 := hr.cells 1 (by simp)
      have h2 := hr.cells 2 (by simp)
      by_cases k0 : 0 ≤ x0 ∧ x0 ≤ s0
      · by_cases k1 : 0 ≤ x1 ∧ x1 ≤ s1
        · by_cases k2 : 0 ≤ x2 ∧ x2 ≤ s2
          · rw [if_pos (by simp [bOk, hasB, q3, k0, k1, k2])]
            exact basketFrom_3ok b off c p0 s0 p1 s1 p2 s2 x0 x1 x2 w h0 h1 h2 k0.1 k0.2 k1.1 k1.2 k2.1 k2.2
          · rw [if_neg (by simp [bOk, hasB, q3]; omega)]
            exact basketFrom_3bad2 b off c p0 s0 p1 s1 p2 s2 x0 x1 x2 w h0 h1 h2 k0.1 k0.2 k1.1 k1.2 (not_le2 k2)
        · rw [if_neg (by simp [bOk, hasB, q3]; omega)]
          exact basketFrom_3bad1 b off c p0 s0 p1 s1 p2 s2 x0 x1 w h0 h1 k0.1 k0.2 (not_le2 k1)
      · rw [if_neg (by simp [bOk, hasB, q3]; omega)]
        exact basketFrom_3bad0 b off c p0 s0 p1 s1 p2 s2 x0 w h0 (not_le2 k0)
    | _ :: _ :: _ :: _ :: _, _, hm =>
      exfalso
      simp at hm
      omega
  · rw [if_neg (by simp [bOk, hm])]
    exact basketFrom_len S A xs.length c w hm
theorem basketFrom_yes (S : Sh) (A : Option Addr) (xs : List Int) (c : Nat) (w : World) (hS : S.In) (hr : Row .i64 w A xs) (h : bOk S xs = true) :
    Calls Tryd.prog 59 #[shv S, .slice A xs.length c] w fun e w' => e = .returned (.tuple #[bv (q3 xs), .bool true]) ∧ Below w.heap.size w w' := by
  have := basketFrom_any S A xs c w hS hr
  unfold BaFrom at this
  rwa [if_pos h] at this
theorem basketFrom_no (S : Sh) (A : Option Addr) (xs : List Int) (c : Nat) (w : World) (hS : S.In) (hr : Row .i64 w A xs) (h : bOk S xs = false) :
    Calls Tryd.prog 59 #[shv S, .slice A xs.length c] w fun e w' => e = .returned (.tuple #[bv Q3.zero, .bool false]) ∧ Below w.heap.size w w' := by
  have := basketFrom_any S A xs c w hS hr
  unfold BaFrom at this
  rwa [if_neg (by simp [h])] at this

end Go.Proofs.YtemhikgdbmmnjaaDoor

/- The program's helpers of change: an amount in bounds, a new row of counts, the most coins of a kind. -/
import Derived.Test.YtfoohenmlagfjaaDoorPurse2
import Derived.Test.YtfoohenmlagfjaaDoorWorth
import Derived.Test.YtfoohenmlagfjaaDoorChg2
namespace Go.Proofs.YtfoohenmlagfjaaDoor
open Go.RowKit

/-- Four counts as a value, and as cells. -/
abbrev qv (v : Q4) : Value := pv v.a v.b v.c v.d
abbrev qc (v : Q4) : Array Value := #[.int .i64 v.a, .int .i64 v.b, .int .i64 v.c, .int .i64 v.d]
/-- All four counts are in 0..20. -/
def In20 (p : Q4) : Prop := (0 ≤ p.a ∧ p.a ≤ 20) ∧ (0 ≤ p.b ∧ p.b ≤ 20) ∧ (0 ≤ p.c ∧ p.c ≤ 20) ∧ (0 ≤ p.d ∧ p.d ≤ 20)
theorem In20.get {p : Q4} (h : In20 p) (j : Nat) : 0 ≤ p.get j ∧ p.get j ≤ 20 := by
  obtain ⟨h0, h1, h2, h3⟩ := h
  match j with
  | 0 => exact h0
  | 1 => exact h1
  | 2 => exact h2
  | 3 => exact h3
  | j + 4 => exact ⟨Int.le_refl 0, show (0 : Int) ≤ 20 by decide⟩

theorem amountOk_yes (n : Int) (w : World) (h1 : 0 ≤ n) (h2 : n ≤ 99) : Calls Tryd.prog 103 #[.int .i64 n] w fun e w' => e = .returned (.bool true) ∧ w = w' := by
  go_enter Tryd.func103, Tryd.ntmps103
  go_wp2
  go_ret
  exact ⟨rfl, rfl⟩
theorem amountOk_no (n : Int) (w : World) (h : n < 0 ∨ 99 < n) : Calls Tryd.prog 103 #[.int .i64 n] w fun e w' => e = .returned (.bool false) ∧ w = w' := by
  by_cases h1 : n < 0
  · clear h
    go_enter Tryd.func103, Tryd.ntmps103
    go_wp2
    go_ret
    exact ⟨rfl, rfl⟩
  · have h2 : 99 < n := by omega
    have h3 : 0 ≤ n := by omega
    clear h h1
    go_enter Tryd.func103, Tryd.ntmps103
    go_wp2
    go_ret
    exact ⟨ret_bool (by simp; omega), rfl⟩

theorem row_any (v : Q4) (w : World) :
    Calls Tryd.prog 87 #[qv v] w fun e w' => e = .returned (.slice (some ⟨w.heap.size, 0, none⟩) 4 4) ∧ Blk w' w.heap.size 76 (qc v) ∧ Below w.heap.size w w' := by
  go_enter Tryd.func87, Tryd.ntmps87
  go_wp2
  go_ret
  exact ⟨rfl, Blk.new _ _ _, (by repeat' (first | with_reducible exact Below.refl _ _ | with_reducible assumption | with_reducible apply Below.drew | with_reducible apply below_drewN | (with_reducible refine Below.setCell ?_ ?_ _) | (with_reducible refine Below.alloc ?_ ?_ _) | with_reducible exact Nat.le_refl _ | with_reducible exact Below.size (by assumption) | (simp; done) | (simp; done) | omega | (simp; omega)))⟩

theorem most_eq (p : Q4) (k : Nat) (n : Int) : most p k n = mn (p.get k) (n / wt k) := rfl

theorem mostOf_any (p : Q4) (k : Nat) (hk : k < 4) (n : Int) (w : World) (hn : 0 ≤ n) (hn2 : n ≤ 99) (hT : Worths w) :
    Calls Tryd.prog 108 #[qv p, .int .i64 (k : Int), .int .i64 n] w fun e w' => e = .returned (.int .i64 (most p k n)) ∧ Below w.heap.size w w' := by
  obtain ⟨t0, t1, t2, t3⟩ := hT
  have hz : 0 < w.heap.size := World.block_lt_of_cell? w _ t0
  have m := fun ts t => run_mn ts t (p.get k) (n / wt k)
  rw [most_eq]
  rcases lt4 hk with rfl | rfl | rfl | rfl
  all_goals
    clear hk
    simp only [Q4.get, wt, Int.ediv_one] at m ⊢
    go_enter Tryd.func108, Tryd.ntmps108
    go_wp2
    go_quiet (fail)
    go_wp2
    go_ret
    exact ⟨rfl, (by repeat' (first | with_reducible exact Below.refl _ _ | with_reducible assumption | with_reducible apply Below.drew | with_reducible apply below_drewN | (with_reducible refine Below.setCell ?_ ?_ _) | (with_reducible refine Below.alloc ?_ ?_ _) | with_reducible exact Nat.le_refl _ | with_reducible exact Below.size (by assumption) | (simp; done) | (simp; done) | omega | (simp; omega)))⟩

end Go.Proofs.YtfoohenmlagfjaaDoor

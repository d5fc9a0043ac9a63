/- The program's helpers of change: an amount in bounds, a new row of counts, the most coins of a kind. -/
import Derived.Test.YtfoohenmlagfjaaPurse2
import Derived.Test.YtfoohenmlagfjaaWorth
import Derived.Test.YtfoohenmlagfjaaChg2
namespace Go.Proofs.Ytfoohenmlagfjaa
open Go.RowKit

/-- Four counts as a value, and as cells. -/
abbrev qv (v : Q4) : Value := pv v.a v.b v.c v.d
abbrev qc (v : Q4) : Array Value := #[.int .i64 v.a, .int .i64 v.b, .int .i64 v.c, .int .i64 v.d]
/-- All four counts are in 0..20. -/
def In20 (p : Q4) : Prop := (0 ≤ p.a ∧ p.a ≤ 20) ∧ (0 ≤ p.b ∧ p.b ≤ 20) ∧ (0 ≤ p.c ∧ p.c ≤ 20) ∧ (0 ≤ p.d ∧ p.d ≤ 20)
theorem In20.get {p : Q4} (h : In20 p) (j : Nat) : 0 ≤ p.get j ∧ p.get j ≤ 20 := by
  obtain ⟨h0, h1, h2, h3⟩ := h
  match j with
  | 0 => exact h0
  | 1 => exact h1
  | 2 => exact h2
  | 3 => exact h3
  | j + 4 => exact ⟨Int.le_refl 0, show (0 : Int) ≤ 20 by decide⟩


theorem row_any (v : Q4) (w : World) :
    Calls Try.prog 37 #[qv v] w fun e w' => e = .returned (.slice (some ⟨w.heap.size, 0, none⟩) 4 4) ∧ Blk w' w.heap.size 50 (qc v) ∧ Below w.heap.size w w' := by
  go_enter Try.func37, Try.ntmps37
  go_wp2
  go_ret
  exact ⟨rfl, Blk.new _ _ _, (by repeat' (first | with_reducible exact Below.refl _ _ | with_reducible assumption | with_reducible apply Below.drew | with_reducible apply below_drewN | (with_reducible refine Below.setCell ?_ ?_ _) | (with_reducible refine Below.alloc ?_ ?_ _) | with_reducible exact Nat.le_refl _ | with_reducible exact Below.size (by assumption) | (simp; done) | (simp; done) | omega | (simp; omega)))⟩


end Go.Proofs.Ytfoohenmlagfjaa

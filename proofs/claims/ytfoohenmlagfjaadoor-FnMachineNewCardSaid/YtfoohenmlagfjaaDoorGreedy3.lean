/- The program's GreedyOf, at every slice of ints and every amount: what it returns. -/
import Derived.Test.YtfoohenmlagfjaaDoorGreedy2
import Derived.Test.YtfoohenmlagfjaaDoorHelp
import Derived.Test.YtfoohenmlagfjaaDoorSpec2
namespace Go.Proofs.YtfoohenmlagfjaaDoor
open Go.RowKit

/-- The purse that a slice of ints is. -/
def q4 (xs : List Int) : Q4 := ⟨nth xs 0, nth xs 1, nth xs 2, nth xs 3⟩
theorem okP_in {xs : List Int} (h : okP xs = true) : In20 (q4 xs) := okP_bnd h
/-- Four counts as a list. -/
def li (v : Q4) : List Int := [v.a, v.b, v.c, v.d]
theorem qc_li (v : Q4) : qc v = cellsOf (li v) := rfl
/-- What the program hands back: a slice over a new block that holds the four counts, and true. -/
def GotPurse (w : World) (v : Q4) (e : Ending) (w' : World) : Prop :=
  ∃ g, e = .returned (.tuple #[.slice (some ⟨g, 0, none⟩) 4 4, .bool true]) ∧ Blk w' g 76 (qc v) ∧ w.heap.size ≤ g ∧ Below w.heap.size w w'
/-- What the model hands back: a slice in new memory that reads as the four counts, and true. -/
def GotRow (w : World) (v : Q4) (e : Ending) (w' : World) : Prop :=
  ∃ g cap, e = .returned (.tuple #[.slice (some ⟨g, 0, none⟩) 4 cap, .bool true]) ∧ Row .i64 w' (some ⟨g, 0, none⟩) (li v) ∧ w.heap.size ≤ g ∧ Below w.heap.size w w'

/-- The slice is a purse, and the amount is in bounds. -/
def okN (xs : List Int) (n : Int) : Bool := okP xs && (decide (0 ≤ n) && decide (n ≤ 99))
theorem okN_iff {xs : List Int} {n : Int} : okN xs n = true ↔ okP xs = true ∧ 0 ≤ n ∧ n ≤ 99 := by
  simp [okN]
/-- What greedy change gives, if it gives it. -/
def greedyR (xs : List Int) (n : Int) : Option Q4 := if okN xs n = true ∧ (greedy (q4 xs) 4 n).2 = 0 then some (greedy (q4 xs) 4 n).1 else none


end Go.Proofs.YtfoohenmlagfjaaDoor

/- The walk of the law FnGreedyOf: for every bytes the law returns true. -/
import Derived.Test.YtciohflcofeebaaDoorFnWays
import Derived.Test.YtciohflcofeebaaDoorGreedy4
import Derived.Test.YtciohflcofeebaaDoorWays4
namespace Go.Proofs.YtciohflcofeebaaDoor
open Go.RowKit

theorem greedyR_head {xs : List Int} {n : Int} {v : Q4} (h : greedyR xs n = some v) : ∃ l, waysR xs n = v :: l := by
  unfold greedyR at h
  split at h
  · rename_i hh
    injection h with h
    rw [waysR_in hh.1, ← h]
    obtain ⟨h1, h2, _⟩ := okN_iff.1 hh.1
    exact greedy_head (fun j => ((okP_in h1).get j).1) h2 hh.2
  · cases h


end Go.Proofs.YtciohflcofeebaaDoor

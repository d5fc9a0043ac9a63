/- The program's greedy change: its two loops. -/
import Derived.Test.YtfoohenmlagfjaaDoorGreedy
import Derived.Deep.LoopGhost
import Derived.WalkMore
namespace Go.Proofs.YtfoohenmlagfjaaDoor
open Go.RowKit

/-- With the kinds below g still to come, m left, and G given so far. -/
def GreedyAt (p : Q4) (n : Int) (g : Nat) (m : Int) (G : Q4) : Prop :=
  (∀ j, j < g → G.get j = 0) ∧ greedy p 4 n = (over g (greedy p g m).1 G, (greedy p g m).2)

theorem greedyAt_start (p : Q4) (n : Int) : GreedyAt p n 4 n Q4.none4 := by
  refine ⟨fun j _ => get_none4 j, Prod.ext ?_ rfl⟩
  refine ext4 fun j => ?_
  rw [get_over _ _ (by omega)]
  by_cases h : j < 4
  · rw [if_pos h]
  · rw [if_neg h, get_high _ (by omega), get_none4]
theorem greedyAt_next {p : Q4} {n : Int} {k : Nat} (hk : k < 4) {m : Int} {G : Q4} (h : GreedyAt p n (k + 1) m G) : GreedyAt p n k (m - most p k m * wt k) (G.set k (most p k m)) := by
  refine ⟨fun j hj => ?_, ?_⟩
  · rw [get_set_other _ hk _ (by omega)]; exact h.1 j (by omega)
  · rw [h.2, greedy, over_set _ _ hk]
theorem greedyAt_done {p : Q4} (hp : ∀ j, 0 ≤ p.get j) {n : Int} {k : Nat} (hk : k < 4) {m c : Int} {G : Q4} (h : GreedyAt p n (k + 1) m G) (hc : c = most p k m) (hl : m - c * wt k = 0) : greedy p 4 n = (G.set k c, 0) := by
  have h2 := greedyAt_next hk h
  rw [← hc, hl] at h2
  rw [h2.2, greedy_zero hp (by omega)]
  refine Prod.ext (ext4 fun j => ?_) rfl
  rw [get_over _ _ (by omega)]
  by_cases hj : j < k
  · rw [if_pos hj, h2.1 j hj, get_none4]
  · rw [if_neg hj]
theorem greedyAt_end {p : Q4} {n m : Int} {G : Q4} (h : GreedyAt p n 0 m G) : greedy p 4 n = (G, m) := h.2


end Go.Proofs.YtfoohenmlagfjaaDoor

/- The helpers of the laws over slices of rows of the shelves: a comparison, marks that are written and looked for. -/
import Derived.Test.YtfoohenmlagfjaaDoorHelpG
import Derived.Test.YtfoohenmlagfjaaDoorRowsB
namespace Go.Proofs.YtfoohenmlagfjaaDoor
open Go.RowKit

theorem GCopy.other {w w' : World} {g g1 : Nat} {gs : List Gd} (h : GCopy w g gs) (ho : ∀ g2, g2 ≠ g1 → w'.heap[g2]? = w.heap[g2]?) (hne : g ≠ g1) : GCopy w' g gs := by obtain ⟨cs, h1, h2⟩ := h; exact ⟨cs, h1.other ho hne, h2⟩
theorem RowAt.other {w w' : World} {g g1 : Nat} {T : TypeId} {xs : List Int} (h : RowAt w g T xs) (ho : ∀ g2, g2 ≠ g1 → w'.heap[g2]? = w.heap[g2]?) (hne : g ≠ g1) : RowAt w' g T xs := h.of_heap (ho g hne)
theorem RowAt.size {w : World} {g : Nat} {T : TypeId} {xs : List Int} {n : Nat} (h : RowAt w g T xs) (hn : xs.length = n) : ∃ cs, Blk w g T cs ∧ n ≤ cs.size ∧ ∀ j, j < n → cs[j]? = some (.int .i64 (xs.getD j 0)) := by
  subst hn
  obtain ⟨cs, h1, h2⟩ := h
  refine ⟨cs, h1, ?_, h2⟩
  by_cases h0 : xs.length = 0
  · omega
  · have := h2 (xs.length - 1) (by omega)
    have := (Array.getElem?_eq_some_iff.1 this).1
    omega


end Go.Proofs.YtfoohenmlagfjaaDoor

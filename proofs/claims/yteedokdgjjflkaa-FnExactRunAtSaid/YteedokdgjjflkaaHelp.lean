/- The helpers of the laws over slices of ints: a copy of a slice, a comparison, marks that are written and looked for. -/
import Derived.Test.YteedokdgjjflkaaBase
import Derived.Deep.QuietTactic
import Derived.BigQuiet
import Derived.Deep.OwnRows
namespace Go.Proofs.Yteedokdgjjflkaa
open Go.RowKit

/-- The cells of a list of ints. -/
def cellsOf (xs : List Int) : Array Value := (xs.map (Value.int .i64)).toArray
theorem cellsOf_get {xs : List Int} {i : Nat} (h : i < xs.length) : (cellsOf xs)[i]? = some (.int .i64 (xs.getD i 0)) := by
  simp [cellsOf, h]
theorem cellsOf_size (xs : List Int) : (cellsOf xs).size = xs.length := by simp [cellsOf]

theorem Blk.row {w : World} {g : Nat} {t : TypeId} {xs : List Int} (h : Blk w g t (cellsOf xs)) : Row .i64 w (some ⟨g, 0, none⟩) xs :=
  .inr ⟨g, 0, rfl, fun i hi => by rw [Nat.zero_add, h.cell i, cellsOf_get hi]⟩

/-- The first k numbers of xs, the rest 0. -/
def fore (xs : List Int) (k : Nat) : List Int := (List.range xs.length).map fun i => if i < k then xs.getD i 0 else 0
theorem fore_length (xs : List Int) (k : Nat) : (fore xs k).length = xs.length := by simp [fore]
theorem fore_all (xs : List Int) : fore xs xs.length = xs := by
  apply List.ext_getElem (by simp [fore])
  intro i h1 h2
  simp [fore, h2]
theorem cellsOf_get? (xs : List Int) (i : Nat) : (cellsOf xs)[i]? = (xs[i]?).map (Value.int .i64) := by
  simp [cellsOf]
theorem fore_get? (xs : List Int) (k i : Nat) : (fore xs k)[i]? = if i < xs.length then some (if i < k then xs.getD i 0 else 0) else none := by
  simp only [fore, List.getElem?_map]
  by_cases h : i < xs.length
  · rw [List.getElem?_range h, if_pos h]; rfl
  · rw [if_neg h, List.getElem?_eq_none (by simp; omega)]; rfl
theorem fore_set (xs : List Int) (k : Nat) (hk : k < xs.length) : (cellsOf (fore xs k)).setIfInBounds k (.int .i64 (xs.getD k 0)) = cellsOf (fore xs (k + 1)) := by
  apply Array.ext_getElem?
  intro i
  rw [Array.getElem?_setIfInBounds, cellsOf_get?, cellsOf_get?, fore_get?, fore_get?, cellsOf_size, fore_length]
  by_cases hik : k = i
  · subst hik; simp [hk]
  · rw [if_neg hik]
    have e : (if i < k then xs.getD i 0 else 0) = (if i < k + 1 then xs.getD i 0 else 0) := by
      by_cases h3 : i < k
      · rw [if_pos h3, if_pos (by omega)]
      · rw [if_neg h3, if_neg (by omega)]
    rw [e]

theorem fore_zero (xs : List Int) : cellsOf (fore xs 0) = madeCells #[.int .i64 0] xs.length := by
  apply Array.ext_getElem?
  intro i
  rw [cellsOf_get?, fore_get?]
  by_cases h : i < xs.length
  · simp [madeCells, h, Nat.mod_one]
  · rw [if_neg h, Array.getElem?_eq_none (by simp [madeCells]; omega)]; rfl



/-- The marks 1, 2, .., n. -/
def marks (n : Nat) : List Int := (List.range n).map fun (i : Nat) => 1 + (i : Int)
theorem marks_length (n : Nat) : (marks n).length = n := by simp [marks]
theorem marks_get {n i : Nat} (h : i < n) : (marks n).getD i 0 = 1 + (i : Int) := by
  simp [marks, List.getD, h]

/-- The first k cells of a block bear the marks s, s + 1, ..; it is as long as it was. -/
def MarkedTo (s : Int) (old : Array Value) (k : Nat) (cs : Array Value) : Prop :=
  cs.size = old.size ∧ ∀ i, i < k → cs[i]? = some (.int .i64 (s + (i : Int)))

theorem MarkedTo.row {old cs : Array Value} {n g : Nat} {t : TypeId} {w : World} (h : MarkedTo 1 old n cs) (hg : Blk w g t cs) : Row .i64 w (some ⟨g, 0, none⟩) (marks n) :=
  .inr ⟨g, 0, rfl, fun i hi => by
    rw [marks_length] at hi
    rw [Nat.zero_add, hg.cell i, h.2 i hi, marks_get hi]⟩

theorem MarkedTo.step {s : Int} {old cs : Array Value} {k : Nat} (h : MarkedTo s old k cs) (hk : k < old.size) : MarkedTo s old (k + 1) (cs.setIfInBounds k (.int .i64 (s + (k : Int)))) := by
  refine ⟨by simpa using h.1, fun i hi => ?_⟩
  rw [Array.getElem?_setIfInBounds]
  by_cases hik : k = i
  · subst hik
    rw [if_pos rfl, if_pos (by rw [h.1]; exact hk)]
  · rw [if_neg hik]
    exact h.2 i (by omega)




/-- A row is as it was where another block alone has turned. -/
theorem Row.other {k : IntKind} {w w' : World} {g off g1 : Nat} {xs : List Int} (h : Row k w (some ⟨g, off, none⟩) xs) (ho : ∀ g2, g2 ≠ g1 → w'.heap[g2]? = w.heap[g2]?) (hne : g ≠ g1) :
    Row k w' (some ⟨g, off, none⟩) xs := by
  rcases h with h | ⟨b, o, e, hc⟩
  · exact .inl h
  · injection e with e
    injection e with e1 e2 _
    subst e1; subst e2
    exact .inr ⟨g, off, rfl, fun i hi => (World.cell?_of_block (ho g hne)).trans (hc i hi)⟩
theorem Blk.other {w w' : World} {g g1 : Nat} {t : TypeId} {cs : Array Value} (h : Blk w g t cs) (ho : ∀ g2, g2 ≠ g1 → w'.heap[g2]? = w.heap[g2]?) (hne : g ≠ g1) : Blk w' g t cs :=
  (ho g hne).trans h

end Go.Proofs.Yteedokdgjjflkaa

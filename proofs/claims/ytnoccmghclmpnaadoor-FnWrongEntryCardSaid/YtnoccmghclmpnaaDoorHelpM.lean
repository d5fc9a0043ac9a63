/- The helpers of the exact laws over machines and results: copies, comparisons, marks that are written and looked for. -/
import Derived.Test.YtnoccmghclmpnaaDoorSh
import Derived.Test.YtnoccmghclmpnaaDoorLo
import Derived.Test.YtnoccmghclmpnaaDoorMch
namespace Go.Proofs.YtnoccmghclmpnaaDoor
open Go.RowKit

def SmallM (m : Mc) : Prop := m.own.length + m.inn.length + m.gs.length ≤ 1048576
abbrev nov : Value := mcv none 0 0 none 0 0 none 0 0
abbrev norv : Value := .agg #[.bool false, .int .i64 0, .slice none 0 0]

/-- A machine in three blocks of its own, from lo on and below hi; or none. -/
def MAt (w : World) (lo hi : Nat) (v : Value) (m : Mc) : Prop :=
  (v = nov ∧ m = noM) ∨ ∃ ga gb gc Ta Tb Tc a b c, v = mcv (some ⟨ga, 0, none⟩) m.own.length a (some ⟨gb, 0, none⟩) m.inn.length b (some ⟨gc, 0, none⟩) m.gs.length c ∧
    RowAt w ga Ta m.own ∧ RowAt w gb Tb m.inn ∧ GAt w gc Tc m.gs ∧ lo ≤ ga ∧ ga < gb ∧ gb < gc ∧ gc < hi
/-- A result in a block of its own; or none. -/
def RAt (w : World) (lo hi : Nat) (u : Value) (r : Rs) : Prop :=
  (u = norv ∧ r = noR) ∨ ∃ g T c, u = .agg #[.bool r.done, .int .i64 r.piece, .slice (some ⟨g, 0, none⟩) r.out.length c] ∧ RowAt w g T r.out ∧ lo ≤ g ∧ g < hi
theorem GAt.of_heap {w w' : World} {g : Nat} {T : TypeId} {ls : List Gd} (h : GAt w g T ls) (he : w'.heap[g]? = w.heap[g]?) : GAt w' g T ls := by obtain ⟨cs, h1, h2⟩ := h; exact ⟨cs, he.trans h1, h2⟩
theorem MAt.same {w w' : World} {lo hi : Nat} {v : Value} {m : Mc} (h : MAt w lo hi v m) (hs : ∀ g, lo ≤ g → g < hi → w'.heap[g]? = w.heap[g]?) : MAt w' lo hi v m := by
  rcases h with h | ⟨ga, gb, gc, Ta, Tb, Tc, a, b, c, rfl, h1, h2, h3, l1, l2, l3, l4⟩
  · exact .inl h
  · exact .inr ⟨ga, gb, gc, Ta, Tb, Tc, a, b, c, rfl, h1.of_heap (hs _ (by omega) (by omega)), h2.of_heap (hs _ (by omega) (by omega)), h3.of_heap (hs _ (by omega) (by omega)), l1, l2, l3, l4⟩
theorem RAt.same {w w' : World} {lo hi : Nat} {u : Value} {r : Rs} (h : RAt w lo hi u r) (hs : ∀ g, lo ≤ g → g < hi → w'.heap[g]? = w.heap[g]?) : RAt w' lo hi u r := by
  rcases h with h | ⟨g, T, c, rfl, h1, l1, l2⟩
  · exact .inl h
  · exact .inr ⟨g, T, c, rfl, h1.of_heap (hs _ (by omega) (by omega)), l1, l2⟩
theorem MAt.kept {w w' : World} {lo hi : Nat} {v : Value} {m : Mc} (h : MAt w lo hi v m) (hb : Below w.heap.size w w') : MAt w' lo hi v m := by
  rcases h with h | ⟨ga, gb, gc, Ta, Tb, Tc, a, b, c, rfl, h1, h2, h3, l1, l2, l3, l4⟩
  · exact .inl h
  · exact .inr ⟨ga, gb, gc, Ta, Tb, Tc, a, b, c, rfl, h1.kept hb, h2.kept hb, h3.kept hb, l1, l2, l3, l4⟩
theorem RAt.kept {w w' : World} {lo hi : Nat} {u : Value} {r : Rs} (h : RAt w lo hi u r) (hb : Below w.heap.size w w') : RAt w' lo hi u r := by
  rcases h with h | ⟨g, T, c, rfl, h1, l1, l2⟩
  · exact .inl h
  · exact .inr ⟨g, T, c, rfl, h1.kept hb, l1, l2⟩
theorem MAt.row {w : World} {lo hi : Nat} {v : Value} {m : Mc} (h : MAt w lo hi v m) : MRow w v m := by
  rcases h with ⟨rfl, rfl⟩ | ⟨ga, gb, gc, Ta, Tb, Tc, a, b, c, rfl, h1, h2, h3, _⟩
  · exact ⟨none, 0, none, 0, none, 0, rfl, Row.nil _ _ _, Row.nil _ _ _, GRow.nil _ _⟩
  · exact ⟨_, a, _, b, _, c, rfl, h1.row, h2.row, h3.row⟩
theorem RAt.row {w : World} {lo hi : Nat} {u : Value} {r : Rs} (h : RAt w lo hi u r) : RRow w u r := by
  rcases h with ⟨rfl, rfl⟩ | ⟨g, T, c, rfl, h1, _⟩
  · exact ⟨none, 0, rfl, Row.nil _ _ _⟩
  · exact ⟨_, c, rfl, h1.row⟩
/-- The same in a wider span. -/
theorem MAt.wide {w : World} {lo hi lo' hi' : Nat} {v : Value} {m : Mc} (h : MAt w lo hi v m) (h1 : lo' ≤ lo) (h2 : hi ≤ hi') : MAt w lo' hi' v m := by
  rcases h with h | ⟨ga, gb, gc, Ta, Tb, Tc, a, b, c, rfl, k1, k2, k3, l1, l2, l3, l4⟩
  · exact .inl h
  · exact .inr ⟨ga, gb, gc, Ta, Tb, Tc, a, b, c, rfl, k1, k2, k3, by omega, l2, l3, by omega⟩

theorem Blk.setc {w : World} {g g' k : Nat} {T : TypeId} {cs : Array Value} {u : Value} (h : Blk w g T cs) (hne : g ≠ g') : Blk (w.setCell ⟨g', k, none⟩ u) g T cs := (Below.heap_setCell w ⟨g', k, none⟩ u g hne).trans h













end Go.Proofs.YtnoccmghclmpnaaDoor

/- The model's run: act by act. -/
import Derived.Test.YtmhipmllpkkhjaaDoorRna
import Derived.Test.YtmhipmllpkkhjaaDoorSMf
import Derived.Deep.AppendLies
import Derived.Deep.CutRange
import Derived.Sort.LoopGhostIn
namespace Go.Proofs.YtmhipmllpkkhjaaDoor
open Go.RowKit

/-- The slice v owns the results L; their coins lie in other blocks, from lo on. -/
def OwnQ (w : World) (base lo : Nat) (v : Value) (L : List Rs) : Prop :=
  ∃ xs : List Value, w.ownsRow base 58 3 v L.length xs ∧ ∀ i, i < L.length → xs[i * 3]? = some (.bool (rs L i).done) ∧ xs[i * 3 + 1]? = some (.int .i64 (rs L i).piece) ∧
    ∃ B c, xs[i * 3 + 2]? = some (.slice B (rs L i).out.length c) ∧ Row .i64 w B (rs L i).out ∧ ∀ a, B = some a → 0 < (rs L i).out.length → lo ≤ a.block ∧ some a.block ≠ v.ownBlock
theorem OwnQ.form {w : World} {base lo : Nat} {v : Value} {L : List Rs} (h : OwnQ w base lo v L) : ∃ A cap, v = .slice A L.length cap := by
  obtain ⟨xs, h, _⟩ := h
  rcases h.2 with ⟨rfl, h0⟩ | ⟨g, cap, cur, rfl, _⟩
  · exact ⟨none, 0, by rw [h0]⟩
  · exact ⟨_, _, rfl⟩
theorem OwnQ.row {w : World} {base lo : Nat} {v : Value} {L : List Rs} (h : OwnQ w base lo v L) : ∃ A cap, v = .slice A L.length cap ∧ QRow w A L := by
  by_cases h0 : L.length = 0
  · obtain ⟨A, cap, e⟩ := h.form
    exact ⟨A, cap, e, .inl (List.eq_nil_of_length_eq_zero h0)⟩
  · obtain ⟨xs, h, hx⟩ := h
    rcases h.2 with ⟨_, h1⟩ | ⟨g, cap, cur, rfl, _, hg, _, _, hsz, ht⟩
    · exact absurd h1 h0
    · have hj : ∀ j, j < L.length * 3 → cur[j]? = xs[j]? := fun j hj => by
        rw [← ht, List.getElem?_take, if_pos hj]; simp
      refine ⟨_, cap, rfl, .inr ⟨g, 0, rfl, fun i hi => ?_⟩⟩
      obtain ⟨k1, k2, B, c, k3, k4, _⟩ := hx i hi
      have hb : Blk w g 58 cur := hg
      rw [Nat.zero_add, hb.cell, hb.cell, hb.cell, hj _ (by omega), hj _ (by omega), hj _ (by omega)]
      exact ⟨k1, k2, B, c, k3, k4⟩
theorem Row.of_blocks {w w' : World} {A : Option Addr} {xs : List Int} (h : Row .i64 w A xs) (hb : ∀ x, A = some x → 0 < xs.length → w'.heap[x.block]? = w.heap[x.block]?) : Row .i64 w' A xs := by
  rcases h with h | ⟨b, off, rfl, hc⟩
  · exact .inl h
  · by_cases h0 : xs.length = 0
    · exact .inl (List.eq_nil_of_length_eq_zero h0)
    · have e : w'.heap[b]? = w.heap[b]? := hb ⟨b, off, none⟩ rfl (by omega)
      exact .inr ⟨b, off, rfl, fun i hi => (World.cell?_of_block (a := ⟨b, off + i, none⟩) e).trans (hc i hi)⟩
theorem Row.blockLt {w : World} {A : Option Addr} {xs : List Int} (h : Row .i64 w A xs) : ∀ x, A = some x → 0 < xs.length → x.block < w.heap.size := by
  intro x e h0
  rcases h with h | ⟨b, off, rfl, hc⟩
  · subst h; cases h0
  · injection e with e; subst e; exact World.block_lt_of_cell? w _ (hc 0 h0)
theorem GRow.of_blocks {w w' : World} {A : Option Addr} {gs : List Gd} (h : GRow w A gs) (hb : ∀ x, A = some x → 0 < gs.length → w'.heap[x.block]? = w.heap[x.block]?) : GRow w' A gs := by
  rcases h with h | ⟨b, off, rfl, hc⟩
  · exact .inl h
  · by_cases h0 : gs.length = 0
    · exact .inl (List.eq_nil_of_length_eq_zero h0)
    · have e : w'.heap[b]? = w.heap[b]? := hb ⟨b, off, none⟩ rfl (by omega)
      exact .inr ⟨b, off, rfl, fun i hi => ⟨(World.cell?_of_block (a := ⟨b, off + i * 2, none⟩) e).trans (hc i hi).1, (World.cell?_of_block (a := ⟨b, off + i * 2 + 1, none⟩) e).trans (hc i hi).2⟩⟩
theorem OwnQ.kept {w w' : World} {base lo : Nat} {v : Value} {L : List Rs} (h : OwnQ w base lo v L) (hb : Below w.heap.size w w') : OwnQ w' base lo v L := by
  obtain ⟨xs, h1, h2⟩ := h
  refine ⟨xs, ⟨h1.1, ?_⟩, fun i hi => ?_⟩
  · rcases h1.2 with h0 | ⟨g, cap, cur, hv, k1, k2, k3⟩
    · exact .inl h0
    · exact .inr ⟨g, cap, cur, hv, k1, (hb.block g (Array.getElem?_eq_some_iff.1 k2).1).trans k2, k3⟩
  · obtain ⟨k1, k2, B, c, k3, k4, k5⟩ := h2 i hi
    exact ⟨k1, k2, B, c, k3, k4.below hb, k5⟩
theorem OwnQ.far {w : World} {base lo g k : Nat} {v u : Value} {L : List Rs} (h : OwnQ w base lo v L) (hg : g < lo) (ho : ∀ j, v.ownBlock = some j → j ≠ g) : OwnQ (w.setCell ⟨g, k, none⟩ u) base lo v L := by
  obtain ⟨xs, h1, h2⟩ := h
  refine ⟨xs, ⟨h1.1, ?_⟩, fun i hi => ?_⟩
  · rcases h1.2 with h0 | ⟨g2, cap, cur, hv, k1, k2, k3⟩
    · exact .inl h0
    · have hne : g2 ≠ g := ho g2 (by rw [hv]; rfl)
      exact .inr ⟨g2, cap, cur, hv, k1, (Below.heap_setCell w ⟨g, k, none⟩ u g2 hne).trans k2, k3⟩
  · obtain ⟨k1, k2, B, c, k3, k4, k5⟩ := h2 i hi
    refine ⟨k1, k2, B, c, k3, k4.of_blocks fun x e h0 => ?_, k5⟩
    have hne : x.block ≠ g := by have := (k5 x e h0).1; omega
    exact Below.heap_setCell w ⟨g, k, none⟩ u x.block hne
theorem OwnQ.nil (w : World) (base lo : Nat) : OwnQ w base lo (.slice none 0 0) [] := ⟨[], World.ownsRow_nil w base _ _, fun i hi => absurd hi (Nat.not_lt_zero i)⟩
theorem OwnQ.made {w : World} {base lo : Nat} (hb : base ≤ w.heap.size) : OwnQ (w.alloc (.cells #[] 58)) base lo (.slice (some ⟨w.heap.size, 0, none⟩) 0 0) [] :=
  ⟨[], World.ownsRow_made w #[] 0 hb (Nat.zero_le _) rfl, fun i hi => absurd hi (Nat.not_lt_zero i)⟩
theorem MRowO.of_heap {w w' : World} {base : Nat} {v : Value} {m : Mc} (h : MRowO w base v m) (hb : ∀ b, b < w.heap.size → base ≤ b → w'.heap[b]? = w.heap[b]?) : MRowO w' base v m := by
  obtain ⟨⟨A, a, B, b, C, c, rfl, h1, h2, h3⟩, hmo⟩ := h
  have hmo' := hmo
  obtain ⟨A', n', a', B', k', b', C', j', c', e, hc, hA, hB⟩ := hmo
  injection e with e
  simp only [Array.mk.injEq, List.cons.injEq, Value.slice.injEq, and_true] at e
  obtain ⟨⟨rfl, rfl, rfl⟩, ⟨rfl, rfl, rfl⟩, rfl, rfl, rfl⟩ := e
  refine ⟨⟨A, a, B, b, C, c, rfl, h1.of_blocks fun x e h0 => hb _ (h1.blockLt x e h0) (hA x e), h2.of_blocks fun x e h0 => hb _ (h2.blockLt x e h0) (hB x e), h3.of_blocks fun x e h0 => ?_⟩, hmo'.of_heap hb⟩
  rcases hc with ⟨rfl, _⟩ | ⟨g, rfl, h4, h5, _⟩
  · cases e
  · injection e with e; subst e; exact hb _ h5.lt h4
theorem RRowO.of_heap {w w' : World} {base : Nat} {v : Value} {r : Rs} (h : RRowO w base v r) (hb : ∀ b, b < w.heap.size → base ≤ b → w'.heap[b]? = w.heap[b]?) : RRowO w' base v r := by
  obtain ⟨A, c, e, h1, h2⟩ := h
  exact ⟨A, c, e, h1.of_blocks fun x e h0 => hb _ (h1.blockLt x e h0) (h2 x e), h2⟩
theorem RRowO.mono {w : World} {base base' : Nat} {v : Value} {r : Rs} (h : RRowO w base v r) (hb : base' ≤ base) : RRowO w base' v r := by
  obtain ⟨A, c, e, h1, h2⟩ := h
  exact ⟨A, c, e, h1, fun x e => Nat.le_trans hb (h2 x e)⟩
theorem MRowO.mono {w : World} {base base' : Nat} {v : Value} {m : Mc} (h : MRowO w base v m) (hb : base' ≤ base) : MRowO w base' v m := ⟨h.1, h.2.mono hb⟩

theorem Blk.putMq {w : World} {g : Nat} {T : TypeId} {x y z : Value} (h : Blk w g T #[.slice none 0 0, .slice none 0 0, .slice none 0 0]) : Blk (((w.setCell ⟨g, 0, none⟩ x).setCell ⟨g, 1, none⟩ y).setCell ⟨g, 2, none⟩ z) g T #[x, y, z] := ((h.set_ 0 x).set_ 1 y).set_ 2 z
theorem Blk.put3q {w : World} {g : Nat} {T : TypeId} {a b c x y z : Value} (h : Blk w g T #[a, b, c]) : Blk (((w.setCell ⟨g, 0, none⟩ x).setCell ⟨g, 1, none⟩ y).setCell ⟨g, 2, none⟩ z) g T #[x, y, z] := ((h.set_ 0 x).set_ 1 y).set_ 2 z

end Go.Proofs.YtmhipmllpkkhjaaDoor

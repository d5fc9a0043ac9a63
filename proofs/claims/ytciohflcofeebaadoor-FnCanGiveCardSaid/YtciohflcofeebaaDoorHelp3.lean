/- The helpers of the laws over slices of rows: a comparison, marks that are written and looked for. -/
import Derived.Test.YtciohflcofeebaaDoorWays4
import Derived.Test.YtciohflcofeebaaDoorFind6
import Derived.Test.YtciohflcofeebaaDoorDraw4
namespace Go.Proofs.YtciohflcofeebaaDoor
open Go.RowKit

theorem Rows4.own {w : World} {base : Nat} {v : Value} {T : TypeId} {L : List Q4} {m : Nat} (h : Rows4 w base v T L m) : ∀ k, v.ownBlock = some k → base ≤ k ∧ k < w.heap.size := by
  obtain ⟨bs, _, h2, _⟩ := h
  exact h2.lt
/-- What lies below a bound stays. -/
theorem Rows4.below {w w' : World} {base : Nat} {v : Value} {T : TypeId} {L : List Q4} {m B : Nat} (h : Rows4 w base v T L m) (hb : Below B w w') (hm : m ≤ B) (hs : ∀ k, v.ownBlock = some k → k < B) : Rows4 w' base v T L m := by
  obtain ⟨bs, h1, h2, h3, h4, h5⟩ := h
  refine ⟨bs, h1, ⟨h2.1, ?_⟩, fun i g q hg hq => (h3 i g q hg hq).below hb (Nat.lt_of_lt_of_le (h5 g (List.mem_of_getElem? hg)).2 hm), h4, h5⟩
  rcases h2.2 with h0 | ⟨g, cap, cur, rfl, k1, k2, rest⟩
  · exact .inl h0
  · exact .inr ⟨g, cap, cur, rfl, k1, (hb.block g (hs g rfl)).trans k2, rest⟩
/-- Another block that is older turns. -/
theorem Rows4.other {w w' : World} {base : Nat} {v : Value} {T : TypeId} {L : List Q4} {m g1 : Nat} (h : Rows4 w base v T L m) (ho : ∀ g2, g2 ≠ g1 → w'.heap[g2]? = w.heap[g2]?) (hlt : g1 < base) : Rows4 w' base v T L m := by
  obtain ⟨bs, h1, h2, h3, h4, h5⟩ := h
  refine ⟨bs, h1, ⟨h2.1, ?_⟩, fun i g q hg hq => (h3 i g q hg hq).other ho (by have := (h5 g (List.mem_of_getElem? hg)).1; omega), h4, h5⟩
  rcases h2.2 with h0 | ⟨g, cap, cur, rfl, k1, k2, rest⟩
  · exact .inl h0
  · exact .inr ⟨g, cap, cur, rfl, k1, (ho g (by omega)).trans k2, rest⟩
/-- One row turns. -/
theorem Rows4.turn {w w' : World} {base : Nat} {A : Option Addr} {n cap : Nat} {T : TypeId} (hT : T ≠ 23) {L : List Q4} {m : Nat} (h : Rows4 w base (.slice A n cap) T L m) {i : Nat} (hi : i < L.length) {g b : Nat} (hA : A = some ⟨g, 0, none⟩)
    (hc : w.cell? ⟨g, i, none⟩ = some (.slice (some ⟨b, 0, none⟩) 4 4)) {q : Q4} (ho : ∀ g2, g2 ≠ b → w'.heap[g2]? = w.heap[g2]?) (hq : Blk w' b T (qc q)) : Rows4 w' base (.slice A n cap) T (L.set i q) m := by
  obtain ⟨bs, h1, h2, h3, h4, h5⟩ := h
  have hi' : i < bs.length := by omega
  have hbi : bs[i]? = some b := by
    have hcc := h2.cells (g := g) (by rw [hA]; rfl) i (.slice (some ⟨bs[i], 0, none⟩) 4 4) (by simp [rowCells, hi'])
    have e1 : (⟨g, 0, none⟩ : Addr).add i = ⟨g, i, none⟩ := by
      unfold Addr.add
      by_cases h : i = 0 <;> simp [h]
    rw [e1, hc] at hcc
    simp at hcc
    rw [List.getElem?_eq_getElem hi', hcc]
  refine ⟨bs, by rw [List.length_set]; exact h1, ?_, ?_, h4, h5⟩
  · rw [List.length_set]
    refine ⟨h2.1, ?_⟩
    rcases h2.2 with h0 | ⟨g', cap', cur, hv, k1, k2, rest⟩
    · exact .inl h0
    · refine .inr ⟨g', cap', cur, hv, k1, (ho g' (fun e => ?_)).trans k2, rest⟩
      subst e
      have hb := h3 i g' _ hbi (List.getElem?_eq_getElem hi)
      unfold Blk at hb
      rw [hb] at k2
      injection k2 with k2
      injection k2 with _ k2 _
      exact hT k2
  · intro j g2 q2 hg2 hq2
    by_cases hj : j = i
    · subst hj
      rw [hbi] at hg2
      injection hg2 with hg2
      subst hg2
      rw [List.getElem?_set_self hi] at hq2
      injection hq2 with hq2
      subst hq2
      exact hq
    · rw [List.getElem?_set_ne (fun e => hj e.symm)] at hq2
      have hne : g2 ≠ b := fun e => by
        subst e
        obtain ⟨hj', ej⟩ := List.getElem?_eq_some_iff.1 hg2
        obtain ⟨hi2, ei⟩ := List.getElem?_eq_some_iff.1 hbi
        have := List.pairwise_iff_getElem.1 h4
        rcases Nat.lt_or_gt_of_ne hj with hlt | hlt
        · have := this j i hj' hi2 hlt; omega
        · have := this i j hi2 hj' hlt; omega
      exact (h3 j g2 q2 hg2 hq2).other ho hne



theorem int_eq {a b : Int} (h : a = b) : Value.int .i64 a = Value.int .i64 b := by rw [h]



end Go.Proofs.YtciohflcofeebaaDoor

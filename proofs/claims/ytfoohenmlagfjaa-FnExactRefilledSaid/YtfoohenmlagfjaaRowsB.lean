/- A slice of rows of ints that the call itself builds by append: each row a block of its own, all of one length. -/
import Derived.Test.YtfoohenmlagfjaaBase
import Derived.OwnWalk
import Derived.Laws.AppendOwn
namespace Go.Proofs.Ytfoohenmlagfjaa
open Go.RowKit

/-- Block g holds the numbers xs at its beginning. -/
def RowAt (w : World) (g : Nat) (T : TypeId) (xs : List Int) : Prop := ∃ cs, Blk w g T cs ∧ ∀ j, j < xs.length → cs[j]? = some (.int .i64 (xs.getD j 0))
theorem RowAt.lt {w : World} {g : Nat} {T : TypeId} {xs : List Int} (h : RowAt w g T xs) : g < w.heap.size := by obtain ⟨cs, h, _⟩ := h; exact h.lt
theorem RowAt.kept {w w' : World} {g : Nat} {T : TypeId} {xs : List Int} (h : RowAt w g T xs) (hb : Below w.heap.size w w') : RowAt w' g T xs := by obtain ⟨cs, h, k⟩ := h; exact ⟨cs, h.kept hb, k⟩
theorem RowAt.of_heap {w w' : World} {g : Nat} {T : TypeId} {xs : List Int} (h : RowAt w g T xs) (he : w'.heap[g]? = w.heap[g]?) : RowAt w' g T xs := by obtain ⟨cs, h, k⟩ := h; exact ⟨cs, he.trans h, k⟩
theorem RowAt.row {w : World} {g : Nat} {T : TypeId} {xs : List Int} (h : RowAt w g T xs) : Row .i64 w (some ⟨g, 0, none⟩) xs := by
  obtain ⟨cs, h, k⟩ := h
  exact .inr ⟨g, 0, rfl, fun i hi => by rw [Nat.zero_add, h.cell i, k i hi]⟩

/-- The cells of a slice of rows: each a slice over a block, of length n. -/
def rowCellsB (n : Nat) (rs : List (Nat × Nat)) : List Value := rs.map fun r => .slice (some ⟨r.1, 0, none⟩) n r.2

/-- The slice v owns (from base on) a row of slices of length n: those of L, in order; the rows' blocks lie from rb on, below m, each behind the one before. -/
def RowsC (w : World) (base rb : Nat) (v : Value) (T : TypeId) (n : Nat) (L : List (List Int)) (m : Nat) : Prop :=
  ∃ rs : List (Nat × Nat), rs.length = L.length ∧ w.ownsRow base 22 1 v L.length (rowCellsB n rs) ∧ (∀ (i : Nat) (r : Nat × Nat) (xs : List Int), rs[i]? = some r → L[i]? = some xs → xs.length = n ∧ RowAt w r.1 T xs) ∧ rs.Pairwise (fun a b => a.1 < b.1) ∧ ∀ r ∈ rs, rb ≤ r.1 ∧ r.1 < m
abbrev RowsB (w : World) (base : Nat) (v : Value) (T : TypeId) (n : Nat) (L : List (List Int)) (m : Nat) : Prop := RowsC w base base v T n L m

theorem grownOf {w w' : World} (h : Below w.heap.size w w') (row : Option Nat) : w.grownBy w' row := ⟨h.os, h.tape, h.output, h.size, fun k hk _ => h.block k hk⟩
theorem RowsC.nil {w : World} {base rb : Nat} {v : Value} {T : TypeId} {n m : Nat} (h : w.ownsRow base 22 1 v 0 []) : RowsC w base rb v T n [] m :=
  ⟨[], rfl, h, fun i g q hg _ => by simp at hg, List.Pairwise.nil, fun g hg => by cases hg⟩
theorem RowsC.kept {w w' : World} {base rb : Nat} {v : Value} {T : TypeId} {n : Nat} {L : List (List Int)} {m : Nat} (h : RowsC w base rb v T n L m) (hb : Below w.heap.size w w') : RowsC w' base rb v T n L m := by
  obtain ⟨rs, h1, h2, h3, h4, h5⟩ := h
  refine ⟨rs, h1, h2.kept (grownOf hb none) ?_, fun i r xs hg hq => ⟨(h3 i r xs hg hq).1, (h3 i r xs hg hq).2.kept hb⟩, h4, h5⟩
  cases v.ownBlock with
  | none => exact .inl rfl
  | some k => exact .inr (by simp)
theorem RowsC.mono {w : World} {base rb : Nat} {v : Value} {T : TypeId} {n : Nat} {L : List (List Int)} {m m' : Nat} (h : RowsC w base rb v T n L m) (hm : m ≤ m') : RowsC w base rb v T n L m' := by
  obtain ⟨rs, h1, h2, h3, h4, h5⟩ := h
  exact ⟨rs, h1, h2, h3, h4, fun g hg => ⟨(h5 g hg).1, Nat.lt_of_lt_of_le (h5 g hg).2 hm⟩⟩
theorem RowsC.base {w : World} {base base' rb rb' : Nat} {v : Value} {T : TypeId} {n : Nat} {L : List (List Int)} {m : Nat} (h : RowsC w base rb v T n L m) (hm : base' ≤ base) (hr : rb' ≤ rb) : RowsC w base' rb' v T n L m := by
  obtain ⟨rs, h1, h2, h3, h4, h5⟩ := h
  refine ⟨rs, h1, ⟨h2.1, ?_⟩, h3, h4, fun g hg => ⟨Nat.le_trans hr (h5 g hg).1, (h5 g hg).2⟩⟩
  rcases h2.2 with h0 | ⟨g, cap, cur, hv, k1, k2⟩
  · exact .inl h0
  · exact .inr ⟨g, cap, cur, hv, Nat.le_trans hm k1, k2⟩
theorem RowsC.form {w : World} {base rb : Nat} {v : Value} {T : TypeId} {n : Nat} {L : List (List Int)} {m : Nat} (h : RowsC w base rb v T n L m) : ∃ A cap, v = .slice A L.length cap := by
  obtain ⟨rs, h1, h2, _⟩ := h
  rcases h2.2 with ⟨rfl, h0⟩ | ⟨g, cap, cur, rfl, _⟩
  · exact ⟨none, 0, by rw [h0]⟩
  · exact ⟨_, _, rfl⟩
theorem RowsC.own {w : World} {base rb : Nat} {v : Value} {T : TypeId} {n : Nat} {L : List (List Int)} {m : Nat} (h : RowsC w base rb v T n L m) : ∀ k, v.ownBlock = some k → base ≤ k ∧ k < w.heap.size := by
  obtain ⟨rs, _, h2, _⟩ := h
  exact h2.lt
theorem RowsC.len {w : World} {base rb : Nat} {v : Value} {T : TypeId} {n : Nat} {L : List (List Int)} {m : Nat} (h : RowsC w base rb v T n L m) {i : Nat} (hi : i < L.length) : L[i].length = n := by
  obtain ⟨rs, h1, _, h3, _⟩ := h
  exact (h3 i _ _ (List.getElem?_eq_getElem (by omega : i < rs.length)) (List.getElem?_eq_getElem hi)).1

/-- One row: where it lies, and what it holds. -/
theorem RowsC.at {w : World} {base rb : Nat} {A : Option Addr} {k cap : Nat} {T : TypeId} {n : Nat} {L : List (List Int)} {m : Nat} (h : RowsC w base rb (.slice A k cap) T n L m) {i : Nat} (hi : i < L.length) :
    ∃ g b c, A = some ⟨g, 0, none⟩ ∧ w.cell? ⟨g, i, none⟩ = some (.slice (some ⟨b, 0, none⟩) n c) ∧ RowAt w b T L[i] ∧ L[i].length = n ∧ rb ≤ b ∧ b < m ∧ base ≤ g := by
  obtain ⟨rs, h1, h2, h3, _, h5⟩ := h
  have hi' : i < rs.length := by omega
  rcases h2.2 with ⟨_, h0⟩ | ⟨g, cap', cur, hv, hbase, hg, _⟩
  · omega
  · injection hv with hv _ _
    subst hv
    have hc := h2.cells (g := g) rfl i (.slice (some ⟨rs[i].1, 0, none⟩) n rs[i].2) (by simp [rowCellsB, hi'])
    have e1 : (⟨g, 0, none⟩ : Addr).add i = ⟨g, i, none⟩ := by
      unfold Addr.add
      by_cases h : i = 0 <;> simp [h]
    rw [e1] at hc
    have h6 := h3 i _ _ (List.getElem?_eq_getElem hi') (List.getElem?_eq_getElem hi)
    exact ⟨g, rs[i].1, rs[i].2, rfl, hc, h6.2, h6.1, (h5 _ (List.getElem_mem hi')).1, (h5 _ (List.getElem_mem hi')).2, hbase⟩

/-- All rows at once: where they lie, in ascending order. -/
theorem RowsC.blocks {w : World} {base rb : Nat} {A : Option Addr} {k cap : Nat} {T : TypeId} {n : Nat} {L : List (List Int)} {m : Nat} (h : RowsC w base rb (.slice A k cap) T n L m) :
    ∃ (g : Nat) (f : Nat → Nat × Nat), (0 < L.length → A = some ⟨g, 0, none⟩) ∧ (∀ i, i < L.length → w.cell? ⟨g, i, none⟩ = some (.slice (some ⟨(f i).1, 0, none⟩) n (f i).2) ∧ RowAt w (f i).1 T (L.getD i []) ∧ (L.getD i []).length = n ∧ rb ≤ (f i).1 ∧ (f i).1 < m) ∧ ∀ i j, i < j → j < L.length → (f i).1 < (f j).1 := by
  have hat := fun i hi => h.at (i := i) hi
  obtain ⟨rs, h1, h2, h3, h4, h5⟩ := h
  have key : ∃ g, 0 < L.length → A = some ⟨g, 0, none⟩ := by
    by_cases h0 : 0 < L.length
    · obtain ⟨g, _, _, e, _⟩ := hat 0 h0
      exact ⟨g, fun _ => e⟩
    · exact ⟨0, fun h => absurd h h0⟩
  obtain ⟨g, hg⟩ := key
  refine ⟨g, fun i => rs.getD i (0, 0), hg, fun i hi => ?_, fun i j hij hj => ?_⟩
  · have hi' : i < rs.length := by omega
    have e1 : rs.getD i (0, 0) = rs[i] := by simp [List.getD, hi']
    have e2 : L.getD i [] = L[i] := by simp [List.getD, hi]
    obtain ⟨g', b, c, e, hc, hr, hl, h6, h7, _⟩ := hat i hi
    have hg' := hg (by omega)
    rw [e] at hg'
    injection hg' with hg'
    injection hg' with hg' _ _
    have hcc := h2.cells (g := g') (by rw [e]; rfl) i (.slice (some ⟨rs[i].1, 0, none⟩) n rs[i].2) (by simp [rowCellsB, hi'])
    have e3 : (⟨g', 0, none⟩ : Addr).add i = ⟨g', i, none⟩ := by
      unfold Addr.add
      by_cases h : i = 0 <;> simp [h]
    rw [e3, hg'] at hcc
    obtain ⟨k1, k2⟩ := h3 i _ _ (List.getElem?_eq_getElem hi') (List.getElem?_eq_getElem hi)
    dsimp only
    rw [e1, e2]
    exact ⟨hcc, k2, k1, (h5 _ (List.getElem_mem hi')).1, (h5 _ (List.getElem_mem hi')).2⟩
  · have hi' : i < rs.length := by omega
    have hj' : j < rs.length := by omega
    have := List.pairwise_iff_getElem.1 h4 i j hi' hj' hij
    simpa [List.getD, hi', hj'] using this

theorem infoRowB : (Try.prog.info? 22).map (fun i => (i.zero, i.size, i.bytes)) = some (some (.slice none 0 0), 1, 24) := by kernel_rfl


end Go.Proofs.Ytfoohenmlagfjaa

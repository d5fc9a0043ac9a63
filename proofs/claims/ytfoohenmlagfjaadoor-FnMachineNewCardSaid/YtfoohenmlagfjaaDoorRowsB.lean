/- A slice of rows of ints that the call itself builds by append: each row a block of its own, all of one length. -/
import Derived.Test.YtfoohenmlagfjaaDoorBase
import Derived.OwnWalk
import Derived.Laws.AppendOwn
namespace Go.Proofs.YtfoohenmlagfjaaDoor
open Go.RowKit

/-- Block g holds the numbers xs at its beginning. -/
def RowAt (w : World) (g : Nat) (T : TypeId) (xs : List Int) : Prop := ∃ cs, Blk w g T cs ∧ ∀ j, j < xs.length → cs[j]? = some (.int .i64 (xs.getD j 0))
theorem RowAt.lt {w : World} {g : Nat} {T : TypeId} {xs : List Int} (h : RowAt w g T xs) : g < w.heap.size := by obtain ⟨cs, h, _⟩ := h; exact h.lt
theorem RowAt.kept {w w' : World} {g : Nat} {T : TypeId} {xs : List Int} (h : RowAt w g T xs) (hb : Below w.heap.size w w') : RowAt w' g T xs := by obtain ⟨cs, h, k⟩ := h; exact ⟨cs, h.kept hb, k⟩
theorem RowAt.of_heap {w w' : World} {g : Nat} {T : TypeId} {xs : List Int} (h : RowAt w g T xs) (he : w'.heap[g]? = w.heap[g]?) : RowAt w' g T xs := by obtain ⟨cs, h, k⟩ := h; exact ⟨cs, he.trans h, k⟩
theorem RowAt.row {w : World} {g : Nat} {T : TypeId} {xs : List Int} (h : RowAt w g T xs) : Row .i64 w (some ⟨g, 0, none⟩) xs := by
  obtain ⟨cs, h, k⟩ := h
  exact .inr ⟨g, 0, rfl, fun i hi => by rw [Nat.zero_add, h.cell i, k i hi]⟩

/-- The cells of a slice of rows: each a slice over a block, of length n. -/
def rowCellsB (n : Nat) (rs : List (Nat × Nat)) : List Value := rs.map fun r => .slice (some ⟨r.1, 0, none⟩) n r.2

/-- The slice v owns (from base on) a row of slices of length n: those of L, in order; the rows' blocks lie from rb on, below m, each behind the one before. -/
def RowsC (w : World) (base rb : Nat) (v : Value) (T : TypeId) (n : Nat) (L : List (List Int)) (m : Nat) : Prop :=
  ∃ rs : List (Nat × Nat), rs.length = L.length ∧ w.ownsRow base 23 1 v L.length (rowCellsB n rs) ∧ (∀ (i : Nat) (r : Nat × Nat) (xs : List Int), rs[i]? = some r → L[i]? = some xs → xs.length = n ∧ RowAt w r.1 T xs) ∧ rs.Pairwise (fun a b => a.1 < b.1) ∧ ∀ r ∈ rs, rb ≤ r.1 ∧ r.1 < m
abbrev RowsB (w : World) (base : Nat) (v : Value) (T : TypeId) (n : Nat) (L : List (List Int)) (m : Nat) : Prop := RowsC w base base v T n L m

theorem grownOf {w w' : World} (h : Below w.heap.size w w') (row : Option Nat) : w.grownBy w' row := ⟨h.os, h.tape, h.output, h.size, fun k hk _ => h.block k hk⟩
theorem RowsC.nil {w : World} {base rb : Nat} {v : Value} {T : TypeId} {n m : Nat} (h : w.ownsRow base 23 1 v 0 []) : RowsC w base rb v T n [] m :=
  ⟨[], rfl, h, fun i g q hg _ => by simp at hg, List.Pairwise.nil, fun g hg => by cases hg⟩
theorem RowsC.kept {w w' : World} {base rb : Nat} {v : Value} {T : TypeId} {n : Nat} {L : List (List Int)} {m : Nat} (h : RowsC w base rb v T n L m) (hb : Below w.heap.size w w') : RowsC w' base rb v T n L m := by
  obtain ⟨rs, h1, h2, h3, h4, h5⟩ := h
  refine ⟨rs, h1, h2.kept (grownOf hb none) ?_, fun i r xs hg hq => ⟨(h3 i r xs hg hq).1, (h3 i r xs hg hq).2.kept hb⟩, h4, h5⟩
  cases v.ownBlock with
  | none => exact .inl rfl
  | some k => exact .inr (by simp)
theorem RowsC.mono {w : World} {base rb : Nat} {v : Value} {T : TypeId} {n : Nat} {L : List (List Int)} {m m' : Nat} (h : RowsC w base rb v T n L m) (hm : m ≤ m') : RowsC w base rb v T n L m' := by
  obtain ⟨rs, h1, h2, h3, h4, h5⟩ := h
  exact ⟨rs, h1, h2, h3, h4, fun g hg => ⟨(h5 g hg).1, Nat.lt_of_lt_of_le (h5 g hg).2 hm⟩⟩
theorem RowsC.base {w : World} {base base' rb rb' : Nat} {v : Value} {T : TypeId} {n : Nat} {L : List (List Int)} {m : Nat} (h : RowsC w base rb v T n L m) (hm : base' ≤ base) (hr : rb' ≤ rb) : RowsC w base' rb' v T n L m := by
  obtain ⟨rs, h1, h2, h3, h4, h5⟩ := h
  refine ⟨rs, h1, ⟨h2.1, ?_⟩, h3, h4, fun g hg => ⟨Nat.le_trans hr (h5 g hg).1, (h5 g hg).2⟩⟩
  rcases h2.2 with h0 | ⟨g, cap, cur, hv, k1, k2⟩
  · exact .inl h0
  · exact .inr ⟨g, cap, cur, hv, Nat.le_trans hm k1, k2⟩
theorem RowsC.form {w : World} {base rb : Nat} {v : Value} {T : TypeId} {n : Nat} {L : List (List Int)} {m : Nat} (h : RowsC w base rb v T n L m) : ∃ A cap, v = .slice A L.length cap := by
  obtain ⟨rs, h1, h2, _⟩ := h
  rcases h2.2 with ⟨rfl, h0⟩ | ⟨g, cap, cur, rfl, _⟩
  · exact ⟨none, 0, by rw [h0]⟩
  · exact ⟨_, _, rfl⟩
theorem RowsC.own {w : World} {base rb : Nat} {v : Value} {T : TypeId} {n : Nat} {L : List (List Int)} {m : Nat} (h : RowsC w base rb v T n L m) : ∀ k, v.ownBlock = some k → base ≤ k ∧ k < w.heap.size := by
  obtain ⟨rs, _, h2, _⟩ := h
  exact h2.lt
theorem RowsC.len {w : World} {base rb : Nat} {v : Value} {T : TypeId} {n : Nat} {L : List (List Int)} {m : Nat} (h : RowsC w base rb v T n L m) {i : Nat} (hi : i < L.length) : L[i].length = n := by
  obtain ⟨rs, h1, _, h3, _⟩ := h
  exact (h3 i _ _ (List.getElem?_eq_getElem (by omega : i < rs.length)) (List.getElem?_eq_getElem hi)).1

/-- One row: where it lies, and what it holds. -/
theorem RowsC.at {w : World} {base rb : Nat} {A : Option Addr} {k cap : Nat} {T : TypeId} {n : Nat} {L : List (List Int)} {m : Nat} (h : RowsC w base rb (.slice A k cap) T n L m) {i : Nat} (hi : i < L.length) :
    ∃ g b c, A = some ⟨g, 0, none⟩ ∧ w.cell? ⟨g, i, none⟩ = some (.slice (some ⟨b, 0, none⟩) n c) ∧ RowAt w b T L[i] ∧ L[i].length = n ∧ rb ≤ b ∧ b < m ∧ base ≤ g := by
  obtain ⟨rs, h1, h2, h3, _, h5⟩ := h
  have hi' : i < rs.length := by omega
  rcases h2.2 with ⟨_, h0⟩ | ⟨g, cap', cur, hv, hbase, hg, _⟩
  · omega
  · injection hv with hv _ _
    subst hv
    have hc := h2.cells (g := g) rfl i (.slice (some ⟨rs[i].1, 0, none⟩) n rs[i].2) (by simp [rowCellsB, hi'])
    have e1 : (⟨g, 0, none⟩ : Addr).add i = ⟨g, i, none⟩ := by
      unfold Addr.add
      by_cases h : i = 0 <;> simp [h]
    rw [e1] at hc
    have h6 := h3 i _ _ (List.getElem?_eq_getElem hi') (List.getElem?_eq_getElem hi)
    exact ⟨g, rs[i].1, rs[i].2, rfl, hc, h6.2, h6.1, (h5 _ (List.getElem_mem hi')).1, (h5 _ (List.getElem_mem hi')).2, hbase⟩

/-- All rows at once: where they lie, in ascending order. -/
theorem RowsC.blocks {w : World} {base rb : Nat} {A : Option Addr} {k cap : Nat} {T : TypeId} {n : Nat} {L : List (List Int)} {m : Nat} (h : RowsC w base rb (.slice A k cap) T n L m) :
    ∃ (g : Nat) (f : Nat → Nat × Nat), (0 < L.length → A = some ⟨g, 0, none⟩) ∧ (∀ i, i < L.length → w.cell? ⟨g, i, none⟩ = some (.slice (some ⟨(f i).1, 0, none⟩) n (f i).2) ∧ RowAt w (f i).1 T (L.getD i []) ∧ (L.getD i []).length = n ∧ rb ≤ (f i).1 ∧ (f i).1 < m) ∧ ∀ i j, i < j → j < L.length → (f i).1 < (f j).1 := by
  have hat := fun i hi => h.at (i := i) hi
  obtain ⟨rs, h1, h2, h3, h4, h5⟩ := h
  have key : ∃ g, 0 < L.length → A = some ⟨g, 0, none⟩ := by
    by_cases h0 : 0 < L.length
    · obtain ⟨g, _, _, e, _⟩ := hat 0 h0
      exact ⟨g, fun _ => e⟩
    · exact ⟨0, fun h => absurd h h0⟩
  obtain ⟨g, hg⟩ := key
  refine ⟨g, fun i => rs.getD i (0, 0), hg, fun i hi => ?_, fun i j hij hj => ?_⟩
  · have hi' : i < rs.length := by omega
    have e1 : rs.getD i (0, 0) = rs[i] := by simp [List.getD, hi']
    have e2 : L.getD i [] = L[i] := by simp [List.getD, hi]
    obtain ⟨g', b, c, e, hc, hr, hl, h6, h7, _⟩ := hat i hi
    have hg' := hg (by omega)
    rw [e] at hg'
    injection hg' with hg'
    injection hg' with hg' _ _
    have hcc := h2.cells (g := g') (by rw [e]; rfl) i (.slice (some ⟨rs[i].1, 0, none⟩) n rs[i].2) (by simp [rowCellsB, hi'])
    have e3 : (⟨g', 0, none⟩ : Addr).add i = ⟨g', i, none⟩ := by
      unfold Addr.add
      by_cases h : i = 0 <;> simp [h]
    rw [e3, hg'] at hcc
    obtain ⟨k1, k2⟩ := h3 i _ _ (List.getElem?_eq_getElem hi') (List.getElem?_eq_getElem hi)
    dsimp only
    rw [e1, e2]
    exact ⟨hcc, k2, k1, (h5 _ (List.getElem_mem hi')).1, (h5 _ (List.getElem_mem hi')).2⟩
  · have hi' : i < rs.length := by omega
    have hj' : j < rs.length := by omega
    have := List.pairwise_iff_getElem.1 h4 i j hi' hj' hij
    simpa [List.getD, hi', hj'] using this

theorem infoRowB : (Tryd.prog.info? 23).map (fun i => (i.zero, i.size, i.bytes)) = some (some (.slice none 0 0), 1, 24) := by kernel_rfl

/-- 'list = append(list, row)', the row over a block of its own that is newer than all others. -/
theorem wpList_append_rowsB {ops : Array Oper} {rest : List Oper} {o : Oper} {a : Act} {Q : Exit → Act → World → Prop} (w : World) (hgd : o.guard = none) (s x : Operand)
    (ho : o.op = .call { callee := .builtin .append, args := #[s, x], argTypes := #[132, 132] }) (base rb : Nat) (v : Value) (T : TypeId) (hT : T ≠ 23) (n : Nat) (L : List (List Int)) (m : Nat) (hs : a.eval s = v) (h : RowsC w base rb v T n L m)
    (g gx c cx : Nat) (xs : List Int) (hx : a.eval x = .slice (some ⟨gx, 0, none⟩) 1 c) (hcx : w.cell? ⟨gx, 0, none⟩ = some (.slice (some ⟨g, 0, none⟩) n cx)) (hq : RowAt w g T xs) (hl : xs.length = n) (hm : m ≤ g) (hbm : rb ≤ m) (hbs : base ≤ w.heap.size) (hlen : L.length ≤ 1000000)
    (hK : ∀ v' w', RowsC w' base rb v' T n (L ++ [xs]) (g + 1) → Below base w w' → w.grownBy w' v.ownBlock → wpList Tryd.prog ops Q rest (a.put o.dst v') w') : wpList Tryd.prog ops Q (o :: rest) a w := by
  have h' := h
  obtain ⟨rs, h1, h2, h3, h4, h5⟩ := h'
  obtain ⟨i0, hi, hz0, hz1, hz2⟩ := info_parts infoRowB
  have hgl := hq.lt
  refine wpList_append_own w hgd s x 132 ho base 23 i0 (.slice none 0 0) 1 24 Tryd.underlying132 hi hz0 hz1 hz2 rfl (by omega) v L.length (rowCellsB n rs) hs h2 ⟨gx, 0, none⟩ 1 c [.slice (some ⟨g, 0, none⟩) n cx] hx rfl ?_ (by simp [Value.oneCell'])
    (by unfold maxLen; omega) (by omega) (by omega) ?_
  · intro j u hj
    match j, hj with
    | 0, hj => simp at hj; subst hj; simpa [Addr.add] using hcx
  · intro v' w' hown hgrow _
    have hb : Below base w w' := (Below.refl base w).grown hgrow (by omega) (fun k hk => (h2.lt k hk).1)
    refine hK v' w' ?_ hb hgrow
    have hne : ∀ g2 q2, RowAt w g2 T q2 → some g2 ≠ v.ownBlock := fun g2 q2 hb e => by
      obtain ⟨cs, hb, _⟩ := hb
      rcases h2.2 with ⟨rfl, _⟩ | ⟨g', cap, cur, rfl, _, hg, _⟩
      · simp [Value.ownBlock] at e
      · simp [Value.ownBlock] at e
        subst e
        unfold Blk at hb
        rw [hb] at hg
        injection hg with hg
        injection hg with _ hg _
        exact hT hg
    have hlen2 : (L ++ [xs]).length = L.length + 1 := by simp
    refine ⟨rs ++ [(g, cx)], by simp [h1], ?_, ?_, ?_, ?_⟩
    · rw [hlen2]; simpa [rowCellsB] using hown
    · intro i r2 q2 hg2 hq2
      by_cases hlt : i < rs.length
      · rw [List.getElem?_append_left hlt] at hg2
        rw [List.getElem?_append_left (by omega)] at hq2
        obtain ⟨hl2, hb2⟩ := h3 i r2 q2 hg2 hq2
        exact ⟨hl2, hb2.of_heap (hgrow.block r2.1 hb2.lt (hne r2.1 q2 hb2))⟩
      · by_cases heq : i = rs.length
        · subst heq
          simp at hg2
          rw [h1] at hq2
          simp at hq2
          subst hg2; subst hq2
          exact ⟨hl, hq.of_heap (hgrow.block g hq.lt (hne g _ hq))⟩
        · rw [List.getElem?_eq_none (by simp; omega)] at hg2; cases hg2
    · rw [List.pairwise_append]
      refine ⟨h4, List.pairwise_singleton _ _, fun x hx y hy => ?_⟩
      rw [List.mem_singleton] at hy
      subst hy
      exact Nat.lt_of_lt_of_le (h5 x hx).2 hm
    · intro r2 hg2
      rcases List.mem_append.1 hg2 with hg2 | hg2
      · exact ⟨(h5 r2 hg2).1, by have := (h5 r2 hg2).2; omega⟩
      · rw [List.mem_singleton] at hg2
        subst hg2
        exact ⟨by omega, by omega⟩

/-- What lies below a bound stays. -/
theorem RowsC.below {w w' : World} {base rb : Nat} {v : Value} {T : TypeId} {n : Nat} {L : List (List Int)} {m B : Nat} (h : RowsC w base rb v T n L m) (hb : Below B w w') (hm : m ≤ B) (hs : ∀ k, v.ownBlock = some k → k < B) : RowsC w' base rb v T n L m := by
  obtain ⟨rs, h1, h2, h3, h4, h5⟩ := h
  refine ⟨rs, h1, ⟨h2.1, ?_⟩, fun i r xs hg hq => ⟨(h3 i r xs hg hq).1, (h3 i r xs hg hq).2.of_heap (hb.block r.1 (Nat.lt_of_lt_of_le (h5 r (List.mem_of_getElem? hg)).2 hm))⟩, h4, h5⟩
  rcases h2.2 with h0 | ⟨g, cap, cur, rfl, k1, k2, rest⟩
  · exact .inl h0
  · exact .inr ⟨g, cap, cur, rfl, k1, (hb.block g (hs g rfl)).trans k2, rest⟩
/-- Another block that is older turns. -/
theorem RowsC.other {w w' : World} {base rb : Nat} {v : Value} {T : TypeId} {n : Nat} {L : List (List Int)} {m g1 : Nat} (h : RowsC w base rb v T n L m) (ho : ∀ g2, g2 ≠ g1 → w'.heap[g2]? = w.heap[g2]?) (hlt : g1 < base) (hlt2 : g1 < rb) : RowsC w' base rb v T n L m := by
  obtain ⟨rs, h1, h2, h3, h4, h5⟩ := h
  refine ⟨rs, h1, ⟨h2.1, ?_⟩, fun i r xs hg hq => ⟨(h3 i r xs hg hq).1, (h3 i r xs hg hq).2.of_heap (ho r.1 (by have := (h5 r (List.mem_of_getElem? hg)).1; omega))⟩, h4, h5⟩
  rcases h2.2 with h0 | ⟨g, cap, cur, rfl, k1, k2, rest⟩
  · exact .inl h0
  · exact .inr ⟨g, cap, cur, rfl, k1, (ho g (by omega)).trans k2, rest⟩
/-- One row turns. -/
theorem RowsC.turn {w w' : World} {base rb : Nat} {A : Option Addr} {k cap : Nat} {T : TypeId} (hT : T ≠ 23) {n : Nat} {L : List (List Int)} {m : Nat} (h : RowsC w base rb (.slice A k cap) T n L m) {i : Nat} (hi : i < L.length) {g b c : Nat} (hA : A = some ⟨g, 0, none⟩)
    (hc : w.cell? ⟨g, i, none⟩ = some (.slice (some ⟨b, 0, none⟩) n c)) {xs : List Int} (hl : xs.length = n) (ho : ∀ g2, g2 ≠ b → w'.heap[g2]? = w.heap[g2]?) (hq : RowAt w' b T xs) : RowsC w' base rb (.slice A k cap) T n (L.set i xs) m := by
  obtain ⟨rs, h1, h2, h3, h4, h5⟩ := h
  have hi' : i < rs.length := by omega
  have hbi : ∃ cc, rs[i]? = some (b, cc) := by
    have hcc := h2.cells (g := g) (by rw [hA]; rfl) i (.slice (some ⟨rs[i].1, 0, none⟩) n rs[i].2) (by simp [rowCellsB, hi'])
    have e1 : (⟨g, 0, none⟩ : Addr).add i = ⟨g, i, none⟩ := by
      unfold Addr.add
      by_cases h : i = 0 <;> simp [h]
    rw [e1, hc] at hcc
    simp at hcc
    exact ⟨rs[i].2, by rw [List.getElem?_eq_getElem hi']; rw [hcc.1]⟩
  obtain ⟨cc, hbi⟩ := hbi
  refine ⟨rs, by rw [List.length_set]; exact h1, ?_, ?_, h4, h5⟩
  · rw [List.length_set]
    refine ⟨h2.1, ?_⟩
    rcases h2.2 with h0 | ⟨g', cap', cur, hv, k1, k2, rest⟩
    · exact .inl h0
    · refine .inr ⟨g', cap', cur, hv, k1, (ho g' (fun e => ?_)).trans k2, rest⟩
      subst e
      obtain ⟨cs, hb, _⟩ := (h3 i _ _ hbi (List.getElem?_eq_getElem hi)).2
      unfold Blk at hb
      rw [hb] at k2
      injection k2 with k2
      injection k2 with _ k2 _
      exact hT k2
  · intro j r2 q2 hg2 hq2
    by_cases hj : j = i
    · subst hj
      rw [hbi] at hg2
      injection hg2 with hg2
      subst hg2
      rw [List.getElem?_set_self hi] at hq2
      injection hq2 with hq2
      subst hq2
      exact ⟨hl, hq⟩
    · rw [List.getElem?_set_ne (fun e => hj e.symm)] at hq2
      have hne : r2.1 ≠ b := fun e => by
        obtain ⟨hj', ej⟩ := List.getElem?_eq_some_iff.1 hg2
        obtain ⟨hi2, ei⟩ := List.getElem?_eq_some_iff.1 hbi
        have hp := List.pairwise_iff_getElem.1 h4
        rcases Nat.lt_or_gt_of_ne hj with hlt | hlt
        · have := hp j i hj' hi2 hlt; rw [ej, ei] at this; simp at this; omega
        · have := hp i j hi2 hj' hlt; rw [ej, ei] at this; simp at this; omega
      obtain ⟨k1, k2⟩ := h3 j r2 q2 hg2 hq2
      exact ⟨k1, k2.of_heap (ho r2.1 hne)⟩

end Go.Proofs.YtfoohenmlagfjaaDoor

/- A slice of rows of four ints that the call itself builds by append: each row a block of its own. -/
import Derived.Test.YtfoohenmlagfjaaDoorGreedy3
import Derived.OwnWalk
namespace Go.Proofs.YtfoohenmlagfjaaDoor
open Go.RowKit

/-- The cells of a slice of rows. -/
def rowCells (bs : List Nat) : List Value := bs.map fun g => .slice (some ⟨g, 0, none⟩) 4 4

/-- The slice v owns a row of slices, each one over a block of its own that holds four counts: those of L, in order; the blocks lie from base on, below m, each behind the one before. -/
def Rows4 (w : World) (base : Nat) (v : Value) (T : TypeId) (L : List Q4) (m : Nat) : Prop :=
  ∃ bs : List Nat, bs.length = L.length ∧ w.ownsRow base 23 1 v L.length (rowCells bs) ∧ (∀ (i g : Nat) (q : Q4), bs[i]? = some g → L[i]? = some q → Blk w g T (qc q)) ∧ bs.Pairwise (fun a b => a < b) ∧ ∀ g ∈ bs, base ≤ g ∧ g < m

theorem Rows4.nil {w : World} {base : Nat} {v : Value} {T : TypeId} {m : Nat} (h : w.ownsRow base 23 1 v 0 []) : Rows4 w base v T [] m :=
  ⟨[], rfl, h, fun i g q hg _ => by simp at hg, List.Pairwise.nil, fun g hg => by cases hg⟩

theorem Rows4.kept {w w' : World} {base : Nat} {v : Value} {T : TypeId} {L : List Q4} {m : Nat} (h : Rows4 w base v T L m) (hb : Below w.heap.size w w') : Rows4 w' base v T L m := by
  obtain ⟨bs, h1, h2, h3, h4, h5⟩ := h
  refine ⟨bs, h1, h2.kept (grown_of_below hb none) ?_, fun i g q hg hq => (h3 i g q hg hq).kept hb, h4, h5⟩
  cases v.ownBlock with
  | none => exact .inl rfl
  | some k => exact .inr (by simp)
theorem Rows4.mono {w : World} {base : Nat} {v : Value} {T : TypeId} {L : List Q4} {m m' : Nat} (h : Rows4 w base v T L m) (hm : m ≤ m') : Rows4 w base v T L m' := by
  obtain ⟨bs, h1, h2, h3, h4, h5⟩ := h
  exact ⟨bs, h1, h2, h3, h4, fun g hg => ⟨(h5 g hg).1, Nat.lt_of_lt_of_le (h5 g hg).2 hm⟩⟩

theorem Rows4.form {w : World} {base : Nat} {v : Value} {T : TypeId} {L : List Q4} {m : Nat} (h : Rows4 w base v T L m) : ∃ A cap, v = .slice A L.length cap := by
  obtain ⟨bs, h1, h2, _⟩ := h
  rcases h2.2 with ⟨rfl, h0⟩ | ⟨g, cap, cur, rfl, _⟩
  · exact ⟨none, 0, by rw [h0]⟩
  · exact ⟨_, _, rfl⟩

/-- One row: where it lies, and what it holds. -/
theorem Rows4.at {w : World} {base : Nat} {A : Option Addr} {n cap : Nat} {T : TypeId} {L : List Q4} {m : Nat} (h : Rows4 w base (.slice A n cap) T L m) {i : Nat} (hi : i < L.length) :
    ∃ g b, A = some ⟨g, 0, none⟩ ∧ w.cell? ⟨g, i, none⟩ = some (.slice (some ⟨b, 0, none⟩) 4 4) ∧ Blk w b T (qc L[i]) ∧ base ≤ b ∧ base ≤ g := by
  obtain ⟨bs, h1, h2, h3, _, h5⟩ := h
  have hi' : i < bs.length := by omega
  rcases h2.2 with ⟨_, h0⟩ | ⟨g, cap', cur, hv, hbase, hg, _⟩
  · omega
  · injection hv with hv _ _
    subst hv
    have hc := h2.cells (g := g) rfl i (.slice (some ⟨bs[i], 0, none⟩) 4 4) (by simp [rowCells, hi'])
    have e1 : (⟨g, 0, none⟩ : Addr).add i = ⟨g, i, none⟩ := by
      unfold Addr.add
      by_cases h : i = 0 <;> simp [h]
    rw [e1] at hc
    exact ⟨g, bs[i], rfl, hc, h3 i _ _ (List.getElem?_eq_getElem hi') (List.getElem?_eq_getElem hi), (h5 _ (List.getElem_mem hi')).1, hbase⟩

theorem infoRow : (Tryd.prog.info? 23).map (fun i => (i.zero, i.size, i.bytes)) = some (some (.slice none 0 0), 1, 24) := by kernel_rfl

/-- 'list = append(list, row)', the row over a block of its own that is newer than all others. -/
theorem wpList_append_rows {ops : Array Oper} {rest : List Oper} {o : Oper} {a : Act} {Q : Exit → Act → World → Prop} (w : World) (hgd : o.guard = none) (s x : Operand)
    (ho : o.op = .call { callee := .builtin .append, args := #[s, x], argTypes := #[132, 132] }) (base : Nat) (v : Value) (T : TypeId) (hT : T ≠ 23) (L : List Q4) (m : Nat) (hs : a.eval s = v) (h : Rows4 w base v T L m)
    (g gx c : Nat) (q : Q4) (hx : a.eval x = .slice (some ⟨gx, 0, none⟩) 1 c) (hcx : w.cell? ⟨gx, 0, none⟩ = some (.slice (some ⟨g, 0, none⟩) 4 4)) (hq : Blk w g T (qc q)) (hm : m ≤ g) (hbm : base ≤ m) (hlen : L.length ≤ 1000000)
    (hK : ∀ v' w', Rows4 w' base v' T (L ++ [q]) (g + 1) → Below base w w' → wpList Tryd.prog ops Q rest (a.put o.dst v') w') : wpList Tryd.prog ops Q (o :: rest) a w := by
  obtain ⟨bs, h1, h2, h3, h4, h5⟩ := h
  obtain ⟨i0, hi, hz0, hz1, hz2⟩ := info_parts infoRow
  have hgl := hq.lt
  have hne : ∀ g2 q2, Blk w g2 T (qc q2) → some g2 ≠ v.ownBlock := fun g2 q2 hb e => by
    rcases h2.2 with ⟨rfl, _⟩ | ⟨g', cap, cur, rfl, _, hg, _⟩
    · simp [Value.ownBlock] at e
    · simp [Value.ownBlock] at e
      subst e
      unfold Blk at hb
      rw [hb] at hg
      injection hg with hg
      injection hg with _ hg _
      exact hT hg
  refine wpList_append_own w hgd s x 132 ho base 23 i0 (.slice none 0 0) 1 24 Tryd.underlying132 hi hz0 hz1 hz2 rfl (by omega) v L.length (rowCells bs) hs h2 ⟨gx, 0, none⟩ 1 c [.slice (some ⟨g, 0, none⟩) 4 4] hx rfl ?_ (by simp [Value.oneCell'])
    (by unfold maxLen; omega) (by omega) (by omega) ?_
  · intro j u hj
    match j, hj with
    | 0, hj => simp at hj; subst hj; simpa [Addr.add] using hcx
  · intro v' w' hown hgrow _
    have hlen2 : (L ++ [q]).length = L.length + 1 := by simp
    have hb : Below base w w' := (Below.refl base w).grown hgrow (by omega) (fun k hk => (h2.lt k hk).1)
    refine hK v' w' ⟨bs ++ [g], by simp [h1], ?_, ?_, ?_, ?_⟩ hb
    · rw [hlen2]; simpa [rowCells] using hown
    · intro i g2 q2 hg2 hq2
      by_cases hlt : i < bs.length
      · rw [List.getElem?_append_left hlt] at hg2
        rw [List.getElem?_append_left (by omega)] at hq2
        have hb2 := h3 i g2 q2 hg2 hq2
        exact (hgrow.block g2 hb2.lt (hne g2 q2 hb2)).trans hb2
      · by_cases heq : i = bs.length
        · subst heq
          simp at hg2
          rw [h1] at hq2
          simp at hq2
          subst hg2; subst hq2
          exact (hgrow.block g hgl (hne g q hq)).trans hq
        · rw [List.getElem?_eq_none (by simp; omega)] at hg2; cases hg2
    · rw [List.pairwise_append]
      refine ⟨h4, List.pairwise_singleton _ _, fun x hx y hy => ?_⟩
      rw [List.mem_singleton] at hy
      subst hy
      exact Nat.lt_of_lt_of_le (h5 x hx).2 hm
    · intro g2 hg2
      rcases List.mem_append.1 hg2 with hg2 | hg2
      · exact ⟨(h5 g2 hg2).1, by have := (h5 g2 hg2).2; omega⟩
      · rw [List.mem_singleton] at hg2
        subst hg2
        exact ⟨by omega, by omega⟩

end Go.Proofs.YtfoohenmlagfjaaDoor

/- 'append(list, row...)': a slice of ints that the call owns, with another one behind it. -/
import Derived.Test.YtfoohenmlagfjaaDoorRowsB
import Derived.Test.YtfoohenmlagfjaaDoorHelp
import Derived.Laws.AppendOwnNone
namespace Go.Proofs.YtfoohenmlagfjaaDoor
open Go.RowKit

/-- The slice v owns the numbers L. -/
def OwnN (w : World) (base : Nat) (v : Value) (L : List Int) : Prop := w.ownsRow base 3 1 v L.length (L.map (Value.int .i64))
theorem infoIntB : (Tryd.prog.info? 3).map (fun i => (i.zero, i.size, i.bytes)) = some (some (.int .i64 0), 1, 8) := by kernel_rfl
theorem OwnN.rowAt {w : World} {base : Nat} {v : Value} {L : List Int} (h : OwnN w base v L) (h0 : 0 < L.length) : ∃ g cap, v = .slice (some ⟨g, 0, none⟩) L.length cap ∧ RowAt w g 3 L ∧ base ≤ g := by
  rcases h.2 with ⟨_, h1⟩ | ⟨g, cap, cur, rfl, hb, hg, _, _, _, ht⟩
  · omega
  · refine ⟨g, cap, rfl, ⟨cur, hg, fun j hj => ?_⟩, hb⟩
    have : cur.toList[j]? = (L.map (Value.int .i64))[j]? := by
      rw [← ht, List.getElem?_take, if_pos (by omega)]
    rw [Array.getElem?_toList] at this
    rw [this]
    simp [List.getD, hj]
theorem OwnN.kept {w w' : World} {base : Nat} {v : Value} {L : List Int} (h : OwnN w base v L) (hb : Below w.heap.size w w') : OwnN w' base v L :=
  ⟨h.1, by
    rcases h.2 with h0 | ⟨g, cap, cur, hv, k1, k2, k3⟩
    · exact .inl h0
    · exact .inr ⟨g, cap, cur, hv, k1, (hb.block g (Array.getElem?_eq_some_iff.1 k2).1).trans k2, k3⟩⟩
set_option maxRecDepth 100000 in
/-- 'append(list, row...)'. -/
theorem wpList_append_ints {ops : Array Oper} {rest : List Oper} {o : Oper} {a : Act} {Q : Exit → Act → World → Prop} (w : World) (hgd : o.guard = none) (s x : Operand)
    (ho : o.op = .call { callee := .builtin .append, args := #[s, x], argTypes := #[23, 23] }) (base : Nat) (v : Value) (L : List Int) (hs : a.eval s = v) (h : OwnN w base v L)
    (b off m c : Nat) (ys : List Int) (hm : ys.length = m) (hx : a.eval x = .slice (some ⟨b, off, none⟩) m c) (hr : Row .i64 w (some ⟨b, off, none⟩) ys) (hbase : base ≤ w.heap.size) (hlen : L.length + m ≤ 1000000)
    (hK : ∀ v' w', OwnN w' base v' (L ++ ys) → Below base w w' → wpList Tryd.prog ops Q rest (a.put o.dst v') w') : wpList Tryd.prog ops Q (o :: rest) a w := by
  subst hm
  obtain ⟨i0, hi, hz0, hz1, hz2⟩ := info_parts infoIntB
  refine wpList_append_own w hgd s x 23 ho base 3 i0 (.int .i64 0) 1 8 Tryd.underlying23 hi hz0 hz1 hz2 rfl (by omega) v L.length (L.map (Value.int .i64)) hs h ⟨b, off, none⟩ ys.length c (ys.map (Value.int .i64)) hx (by simp) ?_ (by simp [Value.oneCell'])
    (by unfold maxLen; omega) (by omega) hbase ?_
  · intro j u hj
    rw [List.getElem?_map] at hj
    by_cases hlt : j < ys.length
    · rw [List.getElem?_eq_getElem hlt] at hj
      injection hj with hj
      rcases hr with h0 | ⟨b', off', e, hc⟩
      · subst h0; cases hlt
      · injection e with e
        injection e with e1 e2 _
        subst e1; subst e2
        have := hc j hlt
        have e1 : (⟨b, off, none⟩ : Addr).add j = ⟨b, off + j, none⟩ := by
          unfold Addr.add
          by_cases h : j = 0 <;> simp [h]
        rw [e1, this, ← hj]
        simp [List.getD, List.getElem?_eq_getElem hlt]
    · rw [List.getElem?_eq_none (by omega)] at hj; cases hj
  · intro v' w' hown hgrow _
    refine hK v' w' ?_ ((Below.refl base w).grown hgrow hbase (fun k hk => (World.ownsRow.lt h k hk).1))
    unfold OwnN
    rw [List.length_append, List.map_append]
    exact hown

end Go.Proofs.YtfoohenmlagfjaaDoor

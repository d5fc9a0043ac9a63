/- A slice of deeds that a call builds by append. -/
import Derived.Test.YtffccdpgpdganaaDoorDee
import Derived.Test.YtffccdpgpdganaaDoorHelp
import Derived.Laws.AppendOwnNone
import Derived.Sort.LoopGhostIn
namespace Go.Proofs.YtffccdpgpdganaaDoor
open Go.RowKit Go.Maps

theorem infoDee : (Tryd.prog.info? 29).map (fun i => (i.zero, i.size, i.bytes)) = some (some (.agg #[.bool false, .int .i64 0, .int .i64 0]), 3, 24) := by kernel_rfl
/-- The cells of entries. -/
def dcl : List Dee → List Value
  | [] => []
  | e :: L => .bool e.b :: .int .i64 e.d :: .int .i64 e.n :: dcl L
theorem dcl_append (a b : List Dee) : dcl (a ++ b) = dcl a ++ dcl b := by
  induction a with
  | nil => rfl
  | cons g a ih => simp [dcl, ih]
theorem dcl_length (L : List Dee) : (dcl L).length = L.length * 3 := by
  induction L with
  | nil => rfl
  | cons g a ih => simp [dcl, ih]; omega
theorem dcl_get : ∀ (L : List Dee) (i : Nat), i < L.length → (dcl L)[i * 3]? = some (.bool (dee L i).b) ∧ (dcl L)[i * 3 + 1]? = some (.int .i64 (dee L i).d) ∧ (dcl L)[i * 3 + 2]? = some (.int .i64 (dee L i).n)
  | a :: L, 0, _ => ⟨rfl, rfl, rfl⟩
  | a :: L, i + 1, h => by
    have := dcl_get L i (by simpa using h)
    have e : (i + 1) * 3 = i * 3 + 1 + 1 + 1 := by omega
    rw [e]
    exact this
/-- The slice v owns the entries L. -/
def OwnDe (w : World) (base : Nat) (v : Value) (L : List Dee) : Prop := w.ownsRow base 29 3 v L.length (dcl L)
theorem OwnDe.nil (w : World) (base : Nat) : OwnDe w base (.slice none 0 0) [] := World.ownsRow_nil w base _ _
theorem OwnDe.kept {w w' : World} {base : Nat} {v : Value} {L : List Dee} (h : OwnDe w base v L) (hb : Below w.heap.size w w') : OwnDe w' base v L :=
  ⟨h.1, by
    rcases h.2 with h0 | ⟨g, cap, cur, hv, k1, k2, k3⟩
    · exact .inl h0
    · exact .inr ⟨g, cap, cur, hv, k1, (hb.block g (Array.getElem?_eq_some_iff.1 k2).1).trans k2, k3⟩⟩
theorem OwnDe.form {w : World} {base : Nat} {v : Value} {L : List Dee} (h : OwnDe w base v L) : ∃ A cap, v = .slice A L.length cap := by
  rcases h.2 with ⟨rfl, h0⟩ | ⟨g, cap, cur, rfl, _⟩
  · exact ⟨none, 0, by rw [h0]⟩
  · exact ⟨_, _, rfl⟩
theorem OwnDe.deat {w : World} {base : Nat} {v : Value} {L : List Dee} (h : OwnDe w base v L) (hL : 0 < L.length) : ∃ g cap, v = .slice (some ⟨g, 0, none⟩) L.length cap ∧ DeAt w g 29 L ∧ base ≤ g := by
  rcases h.2 with ⟨_, h0⟩ | ⟨g, cap, cur, rfl, hb, hg, h1, _, h3, ht⟩
  · omega
  · refine ⟨g, cap, rfl, ⟨cur, hg, by omega, fun i hi => ?_⟩, hb⟩
    obtain ⟨e0, e1, e2⟩ := dcl_get L i hi
    have hj : ∀ j, j < L.length * 3 → cur[j]? = (dcl L)[j]? := fun j hj => by
      rw [← ht, List.getElem?_take, if_pos hj]; simp
    exact ⟨(hj _ (by omega)).trans e0, (hj _ (by omega)).trans e1, (hj _ (by omega)).trans e2⟩
theorem OwnDe.capLe {w : World} {base n cap : Nat} {A : Option Addr} {L : List Dee} (h : OwnDe w base (.slice A n cap) L) : L.length ≤ cap := by
  rcases h.2 with ⟨_, h0⟩ | ⟨g, c2, cur, hv, _, _, h1, _⟩
  · omega
  · injection hv with _ _ hc
    subst hc
    exact h1
theorem OwnDe.row {w : World} {base : Nat} {v : Value} {L : List Dee} (h : OwnDe w base v L) : ∃ A cap, v = .slice A L.length cap ∧ DRow w A L := by
  by_cases h0 : 0 < L.length
  · obtain ⟨g, cap, rfl, h1, _⟩ := h.deat h0
    exact ⟨_, cap, rfl, h1.row⟩
  · obtain ⟨A, cap, rfl⟩ := h.form
    exact ⟨A, cap, rfl, .inl (List.eq_nil_of_length_eq_zero (by omega))⟩

/-- 'list = append(list, entry)'. -/
theorem wpList_append_deed {ops : Array Oper} {rest : List Oper} {o : Oper} {a : Act} {Q : Exit → Act → World → Prop} (w : World) (hgd : o.guard = none) (s x : Operand)
    (ho : o.op = .call { callee := .builtin .append, args := #[s, x], argTypes := #[39, 39] }) (base : Nat) (v : Value) (L : List Dee) (hs : a.eval s = v) (h : OwnDe w base v L)
    (gx c : Nat) (y : Dee) (hx : a.eval x = .slice (some ⟨gx, 0, none⟩) 1 c) (hc : ThrD w gx 0 y) (hbase : base ≤ w.heap.size) (hlen : L.length ≤ 1048577)
    (hK : ∀ v' w', OwnDe w' base v' (L ++ [y]) → Below base w w' → wpList Tryd.prog ops Q rest (a.put o.dst v') w') : wpList Tryd.prog ops Q (o :: rest) a w := by
  obtain ⟨i0, hi, hz0, hz1, hz2⟩ := info_parts infoDee
  refine wpList_append_own w hgd s x 39 ho base 29 i0 (.agg #[.bool false, .int .i64 0, .int .i64 0]) 3 24 Tryd.underlying39 hi hz0 hz1 hz2 rfl (by omega) v L.length (dcl L) hs h ⟨gx, 0, none⟩ 1 c [.bool y.b, .int .i64 y.d, .int .i64 y.n] hx rfl ?_ (by simp [Value.oneCell'])
    (by unfold maxLen; omega) (by omega) hbase ?_
  · obtain ⟨h0, h1, h2⟩ := hc
    intro j u hj
    match j, hj with
    | 0, hj => simp at hj; subst hj; simpa [Addr.add] using h0
    | 1, hj => simp at hj; subst hj; simpa [Addr.add] using h1
    | 2, hj => simp at hj; subst hj; simpa [Addr.add] using h2
  · intro v' w' hown hgrow _
    refine hK v' w' ?_ ((Below.refl base w).grown hgrow hbase (fun k hk => (World.ownsRow.lt h k hk).1))
    unfold OwnDe
    rw [List.length_append, dcl_append]
    exact hown

end Go.Proofs.YtffccdpgpdganaaDoor

/- A slice of entries that a call builds by append. -/
import Derived.Test.YtffccdpgpdganaaDoorEnt
import Derived.Test.YtffccdpgpdganaaDoorHelp
import Derived.Laws.AppendOwnNone
import Derived.Sort.LoopGhostIn
namespace Go.Proofs.YtffccdpgpdganaaDoor
open Go.RowKit Go.Maps

theorem infoEnt : (Tryd.prog.info? 97).map (fun i => (i.zero, i.size, i.bytes)) = some (some (.agg #[.int .i64 0, .int .i64 0, .int .i64 0, .int .i64 0, .int .i64 0, .int .i64 0]), 6, 48) := by kernel_rfl
/-- The cells of entries. -/
def ecl : List En → List Value
  | [] => []
  | e :: L => .int .i64 e.d :: .int .i64 e.n :: .int .i64 e.x :: .int .i64 e.p :: .int .i64 e.a :: .int .i64 e.c :: ecl L
theorem ecl_append (a b : List En) : ecl (a ++ b) = ecl a ++ ecl b := by
  induction a with
  | nil => rfl
  | cons g a ih => simp [ecl, ih]
theorem ecl_length (L : List En) : (ecl L).length = L.length * 6 := by
  induction L with
  | nil => rfl
  | cons g a ih => simp [ecl, ih]; omega
theorem ecl_get : ∀ (L : List En) (i : Nat), i < L.length → (ecl L)[i * 6]? = some (.int .i64 (en L i).d) ∧ (ecl L)[i * 6 + 1]? = some (.int .i64 (en L i).n) ∧ (ecl L)[i * 6 + 2]? = some (.int .i64 (en L i).x) ∧ (ecl L)[i * 6 + 3]? = some (.int .i64 (en L i).p) ∧ (ecl L)[i * 6 + 4]? = some (.int .i64 (en L i).a) ∧ (ecl L)[i * 6 + 5]? = some (.int .i64 (en L i).c)
  | a :: L, 0, _ => ⟨rfl, rfl, rfl, rfl, rfl, rfl⟩
  | a :: L, i + 1, h => by
    have := ecl_get L i (by simpa using h)
    have e : (i + 1) * 6 = i * 6 + 1 + 1 + 1 + 1 + 1 + 1 := by omega
    rw [e]
    exact this
/-- The slice v owns the entries L. -/
def OwnE (w : World) (base : Nat) (v : Value) (L : List En) : Prop := w.ownsRow base 97 6 v L.length (ecl L)
theorem OwnE.nil (w : World) (base : Nat) : OwnE w base (.slice none 0 0) [] := World.ownsRow_nil w base _ _
theorem OwnE.kept {w w' : World} {base : Nat} {v : Value} {L : List En} (h : OwnE w base v L) (hb : Below w.heap.size w w') : OwnE w' base v L :=
  ⟨h.1, by
    rcases h.2 with h0 | ⟨g, cap, cur, hv, k1, k2, k3⟩
    · exact .inl h0
    · exact .inr ⟨g, cap, cur, hv, k1, (hb.block g (Array.getElem?_eq_some_iff.1 k2).1).trans k2, k3⟩⟩
theorem OwnE.form {w : World} {base : Nat} {v : Value} {L : List En} (h : OwnE w base v L) : ∃ A cap, v = .slice A L.length cap := by
  rcases h.2 with ⟨rfl, h0⟩ | ⟨g, cap, cur, rfl, _⟩
  · exact ⟨none, 0, by rw [h0]⟩
  · exact ⟨_, _, rfl⟩
theorem OwnE.eat {w : World} {base : Nat} {v : Value} {L : List En} (h : OwnE w base v L) (hL : 0 < L.length) : ∃ g cap, v = .slice (some ⟨g, 0, none⟩) L.length cap ∧ EAt w g 97 L ∧ base ≤ g := by
  rcases h.2 with ⟨_, h0⟩ | ⟨g, cap, cur, rfl, hb, hg, h1, _, h3, ht⟩
  · omega
  · refine ⟨g, cap, rfl, ⟨cur, hg, by omega, fun i hi => ?_⟩, hb⟩
    obtain ⟨e0, e1, e2, e3, e4, e5⟩ := ecl_get L i hi
    have hj : ∀ j, j < L.length * 6 → cur[j]? = (ecl L)[j]? := fun j hj => by
      rw [← ht, List.getElem?_take, if_pos hj]; simp
    exact ⟨(hj _ (by omega)).trans e0, (hj _ (by omega)).trans e1, (hj _ (by omega)).trans e2, (hj _ (by omega)).trans e3, (hj _ (by omega)).trans e4, (hj _ (by omega)).trans e5⟩
theorem OwnE.capLe {w : World} {base n cap : Nat} {A : Option Addr} {L : List En} (h : OwnE w base (.slice A n cap) L) : L.length ≤ cap := by
  rcases h.2 with ⟨_, h0⟩ | ⟨g, c2, cur, hv, _, _, h1, _⟩
  · omega
  · injection hv with _ _ hc
    subst hc
    exact h1
theorem OwnE.row {w : World} {base : Nat} {v : Value} {L : List En} (h : OwnE w base v L) : ∃ A cap, v = .slice A L.length cap ∧ ERow w A L := by
  by_cases h0 : 0 < L.length
  · obtain ⟨g, cap, rfl, h1, _⟩ := h.eat h0
    exact ⟨_, cap, rfl, h1.row⟩
  · obtain ⟨A, cap, rfl⟩ := h.form
    exact ⟨A, cap, rfl, .inl (List.eq_nil_of_length_eq_zero (by omega))⟩

/-- 'list = append(list, entry)'. -/
theorem wpList_append_entry {ops : Array Oper} {rest : List Oper} {o : Oper} {a : Act} {Q : Exit → Act → World → Prop} (w : World) (hgd : o.guard = none) (s x : Operand)
    (ho : o.op = .call { callee := .builtin .append, args := #[s, x], argTypes := #[56, 56] }) (base : Nat) (v : Value) (L : List En) (hs : a.eval s = v) (h : OwnE w base v L)
    (gx c : Nat) (y : En) (hx : a.eval x = .slice (some ⟨gx, 0, none⟩) 1 c) (hc : Six w gx 0 y) (hbase : base ≤ w.heap.size) (hlen : L.length ≤ 1048577)
    (hK : ∀ v' w', OwnE w' base v' (L ++ [y]) → Below base w w' → wpList Tryd.prog ops Q rest (a.put o.dst v') w') : wpList Tryd.prog ops Q (o :: rest) a w := by
  obtain ⟨i0, hi, hz0, hz1, hz2⟩ := info_parts infoEnt
  refine wpList_append_own w hgd s x 56 ho base 97 i0 (.agg #[.int .i64 0, .int .i64 0, .int .i64 0, .int .i64 0, .int .i64 0, .int .i64 0]) 6 48 Tryd.underlying56 hi hz0 hz1 hz2 rfl (by omega) v L.length (ecl L) hs h ⟨gx, 0, none⟩ 1 c [.int .i64 y.d, .int .i64 y.n, .int .i64 y.x, .int .i64 y.p, .int .i64 y.a, .int .i64 y.c] hx rfl ?_ (by simp [Value.oneCell'])
    (by unfold maxLen; omega) (by omega) hbase ?_
  · obtain ⟨h0, h1, h2, h3, h4, h5⟩ := hc
    intro j u hj
    match j, hj with
    | 0, hj => simp at hj; subst hj; simpa [Addr.add] using h0
    | 1, hj => simp at hj; subst hj; simpa [Addr.add] using h1
    | 2, hj => simp at hj; subst hj; simpa [Addr.add] using h2
    | 3, hj => simp at hj; subst hj; simpa [Addr.add] using h3
    | 4, hj => simp at hj; subst hj; simpa [Addr.add] using h4
    | 5, hj => simp at hj; subst hj; simpa [Addr.add] using h5
  · intro v' w' hown hgrow _
    refine hK v' w' ?_ ((Below.refl base w).grown hgrow hbase (fun k hk => (World.ownsRow.lt h k hk).1))
    unfold OwnE
    rw [List.length_append, ecl_append]
    exact hown

end Go.Proofs.YtffccdpgpdganaaDoor

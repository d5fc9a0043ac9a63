/- A slice of acts that a call builds by append. -/
import Derived.Test.YteedokdgjjflkaaRsd
import Derived.Test.YteedokdgjjflkaaHelp
import Derived.Laws.AppendOwnNone
import Derived.Sort.LoopGhostIn
namespace Go.Proofs.Yteedokdgjjflkaa
open Go.RowKit Go.Maps

theorem infoActA : (Try.prog.info? 34).map (fun i => (i.zero, i.size, i.bytes)) = some (some (.agg #[.int .i64 0, .int .i64 0]), 2, 16) := by kernel_rfl
theorem info_partsA {t : TypeId} {z : Value} {s b : Nat} (h : (Try.prog.info? t).map (fun i => (i.zero, i.size, i.bytes)) = some (some z, s, b)) : ∃ i, Try.prog.info? t = some i ∧ i.zero = some z ∧ i.size = s ∧ i.bytes = b := by
  obtain ⟨i, hi, hzz⟩ := Option.map_eq_some_iff.1 h
  simp only [Prod.mk.injEq] at hzz
  exact ⟨i, hi, hzz.1, hzz.2.1, hzz.2.2⟩
theorem Blk.newa {w : World} {t : TypeId} {cs : Array Value} {g : Nat} (h : g = w.heap.size) : Blk (w.alloc (.cells cs t)) g t cs := by subst h; exact Blk.new _ _ _
/-- The cells of acts. -/
def acl : List Ac → List Value
  | [] => []
  | a :: L => .int .i64 a.d :: .int .i64 a.n :: acl L
theorem acl_append (a b : List Ac) : acl (a ++ b) = acl a ++ acl b := by
  induction a with
  | nil => rfl
  | cons g a ih => simp [acl, ih]
theorem acl_length (L : List Ac) : (acl L).length = L.length * 2 := by
  induction L with
  | nil => rfl
  | cons g a ih => simp [acl, ih]; omega
theorem acl_get : ∀ (L : List Ac) (i : Nat), i < L.length → (acl L)[i * 2]? = some (.int .i64 (ac L i).d) ∧ (acl L)[i * 2 + 1]? = some (.int .i64 (ac L i).n)
  | a :: L, 0, _ => ⟨rfl, rfl⟩
  | a :: L, i + 1, h => by
    have := acl_get L i (by simpa using h)
    have e : (i + 1) * 2 = i * 2 + 1 + 1 := by omega
    rw [e]
    exact this
/-- The slice v owns the acts L. -/
def OwnA (w : World) (base : Nat) (v : Value) (L : List Ac) : Prop := w.ownsRow base 34 2 v L.length (acl L)
theorem OwnA.nil (w : World) (base : Nat) : OwnA w base (.slice none 0 0) [] := World.ownsRow_nil w base _ _
theorem OwnA.kept {w w' : World} {base : Nat} {v : Value} {L : List Ac} (h : OwnA w base v L) (hb : Below w.heap.size w w') : OwnA w' base v L :=
  ⟨h.1, by
    rcases h.2 with h0 | ⟨g, cap, cur, hv, k1, k2, k3⟩
    · exact .inl h0
    · exact .inr ⟨g, cap, cur, hv, k1, (hb.block g (Array.getElem?_eq_some_iff.1 k2).1).trans k2, k3⟩⟩
theorem OwnA.form {w : World} {base : Nat} {v : Value} {L : List Ac} (h : OwnA w base v L) : ∃ A cap, v = .slice A L.length cap := by
  rcases h.2 with ⟨rfl, h0⟩ | ⟨g, cap, cur, rfl, _⟩
  · exact ⟨none, 0, by rw [h0]⟩
  · exact ⟨_, _, rfl⟩
theorem OwnA.aat {w : World} {base : Nat} {v : Value} {L : List Ac} (h : OwnA w base v L) (hL : 0 < L.length) : ∃ g cap, v = .slice (some ⟨g, 0, none⟩) L.length cap ∧ AAt w g 34 L ∧ base ≤ g := by
  rcases h.2 with ⟨_, h0⟩ | ⟨g, cap, cur, rfl, hb, hg, h1, _, h3, ht⟩
  · omega
  · refine ⟨g, cap, rfl, ⟨cur, hg, by omega, fun i hi => ?_⟩, hb⟩
    obtain ⟨e1, e2⟩ := acl_get L i hi
    have hj : ∀ j, j < L.length * 2 → cur[j]? = (acl L)[j]? := fun j hj => by
      rw [← ht, List.getElem?_take, if_pos hj]; simp
    exact ⟨(hj _ (by omega)).trans e1, (hj _ (by omega)).trans e2⟩
theorem OwnA.row {w : World} {base : Nat} {v : Value} {L : List Ac} (h : OwnA w base v L) : ∃ A cap, v = .slice A L.length cap ∧ ARow w A L := by
  by_cases h0 : 0 < L.length
  · obtain ⟨g, cap, rfl, h1, _⟩ := h.aat h0
    exact ⟨_, cap, rfl, h1.row⟩
  · obtain ⟨A, cap, rfl⟩ := h.form
    exact ⟨A, cap, rfl, .inl (List.eq_nil_of_length_eq_zero (by omega))⟩

/-- 'list = append(list, act)'. -/
theorem wpList_append_act {ops : Array Oper} {rest : List Oper} {o : Oper} {a : Act} {Q : Exit → Act → World → Prop} (w : World) (hgd : o.guard = none) (s x : Operand)
    (ho : o.op = .call { callee := .builtin .append, args := #[s, x], argTypes := #[25, 25] }) (base : Nat) (v : Value) (L : List Ac) (hs : a.eval s = v) (h : OwnA w base v L)
    (gx c : Nat) (y : Ac) (hx : a.eval x = .slice (some ⟨gx, 0, none⟩) 1 c) (hc0 : w.cell? ⟨gx, 0, none⟩ = some (.int .i64 y.d)) (hc1 : w.cell? ⟨gx, 1, none⟩ = some (.int .i64 y.n)) (hbase : base ≤ w.heap.size) (hlen : L.length ≤ 1000000)
    (hK : ∀ v' w', OwnA w' base v' (L ++ [y]) → Below base w w' → wpList Try.prog ops Q rest (a.put o.dst v') w') : wpList Try.prog ops Q (o :: rest) a w := by
  obtain ⟨i0, hi, hz0, hz1, hz2⟩ := info_partsA infoActA
  refine wpList_append_own w hgd s x 25 ho base 34 i0 (.agg #[.int .i64 0, .int .i64 0]) 2 16 Try.underlying25 hi hz0 hz1 hz2 rfl (by omega) v L.length (acl L) hs h ⟨gx, 0, none⟩ 1 c [.int .i64 y.d, .int .i64 y.n] hx rfl ?_ (by simp [Value.oneCell'])
    (by unfold maxLen; omega) (by omega) hbase ?_
  · intro j u hj
    match j, hj with
    | 0, hj => simp at hj; subst hj; simpa [Addr.add] using hc0
    | 1, hj => simp at hj; subst hj; simpa [Addr.add] using hc1
  · intro v' w' hown hgrow _
    refine hK v' w' ?_ ((Below.refl base w).grown hgrow hbase (fun k hk => (World.ownsRow.lt h k hk).1))
    unfold OwnA
    rw [List.length_append, acl_append]
    exact hown

/-- What comes back: a slice that owns the acts of L. -/
def GotActs (w : World) (L : List Ac) (e : Ending) (w' : World) : Prop :=
  ∃ v, e = .returned v ∧ OwnA w' w.heap.size v L ∧ Below w.heap.size w w'

end Go.Proofs.Yteedokdgjjflkaa

/- A slice of outcomes that a call of the program's owns. -/
import Derived.Test.YtgkhkphhpeiejaaDoorLo
import Derived.Deep.AppendLies
import Derived.Laws.AppendOwnNone
namespace Go.Proofs.YtgkhkphhpeiejaaDoor
open Go.RowKit

theorem infoOut : (Tryd.prog.info? 148).map (fun i => (i.zero, i.size, i.bytes)) = some (some (.agg #[.bool false, .int .i64 0, .int .i64 0, .int .i64 0, .int .i64 0, .int .i64 0]), 6, 48) := by kernel_rfl
/-- The cells of outcomes. -/
def oc (r : Rs) : List Value := [.bool r.done, .int .i64 r.piece, .int .i64 (nth r.out 0), .int .i64 (nth r.out 1), .int .i64 (nth r.out 2), .int .i64 (nth r.out 3)]
def ocl : List Rs → List Value
  | [] => []
  | r :: L => oc r ++ ocl L
theorem ocl_append (a b : List Rs) : ocl (a ++ b) = ocl a ++ ocl b := by
  induction a with
  | nil => rfl
  | cons r a ih => simp [ocl, ih]
theorem ocl_one (r : Rs) : ocl [r] = oc r := by simp [ocl]
/-- The slice v owns the outcomes L. -/
def OwnO (w : World) (base : Nat) (v : Value) (L : List Rs) : Prop := w.ownsRow base 148 6 v L.length (ocl L)
theorem OwnO.nil (w : World) (base : Nat) : OwnO w base (.slice none 0 0) [] := World.ownsRow_nil w base _ _
theorem OwnO.kept {w w' : World} {base : Nat} {v : Value} {L : List Rs} (h : OwnO w base v L) (hb : Below w.heap.size w w') : OwnO w' base v L :=
  ⟨h.1, by
    rcases h.2 with h0 | ⟨g, cap, cur, hv, k1, k2, k3⟩
    · exact .inl h0
    · exact .inr ⟨g, cap, cur, hv, k1, (hb.block g (Array.getElem?_eq_some_iff.1 k2).1).trans k2, k3⟩⟩
theorem OwnO.far {w : World} {base g k : Nat} {v u : Value} {L : List Rs} (h : OwnO w base v L) (hg : g < base) : OwnO (w.setCell ⟨g, k, none⟩ u) base v L :=
  ⟨h.1, by
    rcases h.2 with h0 | ⟨g2, cap, cur, hv, k1, k2, k3⟩
    · exact .inl h0
    · exact .inr ⟨g2, cap, cur, hv, k1, (Below.heap_setCell w ⟨g, k, none⟩ u g2 (by show g2 ≠ g; omega)).trans k2, k3⟩⟩
theorem OwnO.form {w : World} {base : Nat} {v : Value} {L : List Rs} (h : OwnO w base v L) : ∃ A cap, v = .slice A L.length cap := by
  rcases h.2 with ⟨rfl, h0⟩ | ⟨g, cap, cur, rfl, _⟩
  · exact ⟨none, 0, by rw [h0]⟩
  · exact ⟨_, _, rfl⟩
/-- 'list = append(list, outcome)'. -/
theorem wpList_append_out {ops : Array Oper} {rest : List Oper} {o : Oper} {a : Act} {Q : Exit → Act → World → Prop} (w : World) (hgd : o.guard = none) (s x : Operand)
    (ho : o.op = .call { callee := .builtin .append, args := #[s, x], argTypes := #[108, 108] }) (base : Nat) (v : Value) (L : List Rs) (hs : a.eval s = v) (h : OwnO w base v L)
    (gx c : Nat) (y : Rs) (hx : a.eval x = .slice (some ⟨gx, 0, none⟩) 1 c) (hc : ∀ j u, (oc y)[j]? = some u → w.cell? ⟨gx, j, none⟩ = some u) (hbase : base ≤ w.heap.size) (hlen : L.length ≤ 1000000)
    (hK : ∀ v' w', OwnO w' base v' (L ++ [y]) → Below base w w' → wpList Tryd.prog ops Q rest (a.put o.dst v') w') : wpList Tryd.prog ops Q (o :: rest) a w := by
  obtain ⟨i0, hi, hz0, hz1, hz2⟩ := info_parts infoOut
  refine wpList_append_own w hgd s x 108 ho base 148 i0 (.agg #[.bool false, .int .i64 0, .int .i64 0, .int .i64 0, .int .i64 0, .int .i64 0]) 6 48 Tryd.underlying108 hi hz0 hz1 hz2 rfl (by omega) v L.length (ocl L) hs h ⟨gx, 0, none⟩ 1 c (oc y) hx rfl ?_ (by simp [oc, Value.oneCell'])
    (by unfold maxLen; omega) (by omega) hbase ?_
  · intro j u hj
    have e : (⟨gx, 0, none⟩ : Addr).add j = ⟨gx, j, none⟩ := by
      unfold Addr.add
      by_cases h : j = 0 <;> simp [h]
    rw [e]
    exact hc j u hj
  · intro v' w' hown hgrow _
    refine hK v' w' ?_ ((Below.refl base w).grown hgrow hbase (fun k hk => (World.ownsRow.lt h k hk).1))
    unfold OwnO
    rw [List.length_append, ocl_append, ocl_one]
    exact hown
end Go.Proofs.YtgkhkphhpeiejaaDoor

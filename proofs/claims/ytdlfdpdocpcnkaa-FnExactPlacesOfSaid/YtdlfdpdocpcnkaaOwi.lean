/- A slice of ints that the call itself builds by append (for seats without the search for change). -/
import Derived.Test.YtdlfdpdocpcnkaaHelp
import Derived.Deep.AppendLies
import Derived.Laws.AppendOwnNone
namespace Go.Proofs.Ytdlfdpdocpcnkaa
open Go.RowKit Go.Maps

theorem infoIntW : (Try.prog.info? 3).map (fun i => (i.zero, i.size, i.bytes)) = some (some (.int .i64 0), 1, 8) := by kernel_rfl
/-- The slice v owns a row that holds the ints of L. -/
def OwnI (w : World) (base : Nat) (v : Value) (L : List Int) : Prop := w.ownsRow base 3 1 v L.length (L.map (Value.int .i64))

theorem OwnI.nil (w : World) (base : Nat) : OwnI w base (.slice none 0 0) [] := World.ownsRow_nil w base _ _
theorem OwnI.kept {w w' : World} {base : Nat} {v : Value} {L : List Int} (h : OwnI w base v L) (hb : Below w.heap.size w w') : OwnI w' base v L :=
  ⟨h.1, by
    rcases h.2 with h0 | ⟨g, cap, cur, hv, k1, k2, k3⟩
    · exact .inl h0
    · exact .inr ⟨g, cap, cur, hv, k1, (hb.block g (Array.getElem?_eq_some_iff.1 k2).1).trans k2, k3⟩⟩
theorem OwnI.form {w : World} {base : Nat} {v : Value} {L : List Int} (h : OwnI w base v L) : ∃ A cap, v = .slice A L.length cap := by
  rcases h.2 with ⟨rfl, h0⟩ | ⟨g, cap, cur, rfl, _⟩
  · exact ⟨none, 0, by rw [h0]⟩
  · exact ⟨_, _, rfl⟩
theorem OwnI.row {w : World} {base : Nat} {A : Option Addr} {n cap : Nat} {L : List Int} (h : OwnI w base (.slice A n cap) L) : Row .i64 w A L := by
  rcases h.2 with ⟨_, h0⟩ | ⟨g, cap', cur, hv, _, hg, _⟩
  · left
    exact List.length_eq_zero_iff.1 h0
  · injection hv with hv _ _
    subst hv
    refine .inr ⟨g, 0, rfl, fun i hi => ?_⟩
    have h1 := World.ownsRow.cells h (g := g) rfl i (.int .i64 (L.getD i 0)) (by simp [List.getElem?_eq_getElem hi, List.getD])
    have e1 : (⟨g, 0, none⟩ : Addr).add i = ⟨g, 0 + i, none⟩ := by
      unfold Addr.add
      by_cases h : i = 0 <;> simp [h]
    rw [e1] at h1
    exact h1
/-- The block of a row that is not empty. -/
theorem OwnI.blk {w : World} {base : Nat} {A : Option Addr} {n cap : Nat} {L : List Int} (h : OwnI w base (.slice A n cap) L) (hL : 0 < L.length) :
    ∃ g cur, A = some ⟨g, 0, none⟩ ∧ Blk w g 3 cur ∧ L.length ≤ cur.size ∧ base ≤ g := by
  rcases h.2 with ⟨_, h0⟩ | ⟨g, cap', cur, hv, hb, hg, h1, _, h3, _⟩
  · omega
  · injection hv with hv _ _
    exact ⟨g, cur, hv, hg, by omega, hb⟩

/-- 'list = append(list, x)'. -/
theorem wpList_append_int {ops : Array Oper} {rest : List Oper} {o : Oper} {a : Act} {Q : Exit → Act → World → Prop} (w : World) (hgd : o.guard = none) (s x : Operand)
    (ho : o.op = .call { callee := .builtin .append, args := #[s, x], argTypes := #[39, 39] }) (base : Nat) (v : Value) (L : List Int) (hs : a.eval s = v) (h : OwnI w base v L)
    (gx c : Nat) (y : Int) (hx : a.eval x = .slice (some ⟨gx, 0, none⟩) 1 c) (hcx : w.cell? ⟨gx, 0, none⟩ = some (.int .i64 y)) (hbase : base ≤ w.heap.size) (hlen : L.length ≤ 1000000)
    (hK : ∀ v' w', OwnI w' base v' (L ++ [y]) → w.grownBy w' v.ownBlock → Below base w w' → wpList Try.prog ops Q rest (a.put o.dst v') w') : wpList Try.prog ops Q (o :: rest) a w := by
  obtain ⟨i0, hi, hz0, hz1, hz2⟩ := info_parts infoIntW
  refine wpList_append_own w hgd s x 39 ho base 3 i0 (.int .i64 0) 1 8 Try.underlying39 hi hz0 hz1 hz2 rfl (by omega) v L.length (L.map (Value.int .i64)) hs h ⟨gx, 0, none⟩ 1 c [.int .i64 y] hx rfl ?_ (by simp [Value.oneCell'])
    (by unfold maxLen; omega) (by omega) hbase ?_
  · intro j u hj
    match j, hj with
    | 0, hj => simp at hj; subst hj; simpa [Addr.add] using hcx
  · intro v' w' hown hgrow _
    refine hK v' w' ?_ hgrow ((Below.refl base w).grown hgrow hbase (fun k hk => (World.ownsRow.lt h k hk).1))
    unfold OwnI
    rw [List.length_append, List.map_append]
    exact hown

/-- What comes back: a slice that owns the ints of L. -/
def GotInts (w : World) (L : List Int) (e : Ending) (w' : World) : Prop :=
  ∃ A cap, e = .returned (.slice A L.length cap) ∧ OwnI w' w.heap.size (.slice A L.length cap) L ∧ Below w.heap.size w w'

end Go.Proofs.Ytdlfdpdocpcnkaa

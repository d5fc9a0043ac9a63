/- A slice of purses that the call itself builds by append: four cells each. -/
import Derived.Test.YtciohflcofeebaaDoorWays1
import Derived.Test.YtciohflcofeebaaDoorValue
import Derived.Deep.AppendLies
namespace Go.Proofs.YtciohflcofeebaaDoor
open Go.RowKit

/-- The cells of a list of purses. -/
def flat : List Q4 → List Value
  | [] => []
  | v :: L => .int .i64 v.a :: .int .i64 v.b :: .int .i64 v.c :: .int .i64 v.d :: flat L
theorem flat_append : ∀ L M : List Q4, flat (L ++ M) = flat L ++ flat M
  | [], M => rfl
  | v :: L, M => by simp [flat, flat_append L M]
theorem flat_size : ∀ L : List Q4, (flat L).length = L.length * 4
  | [] => rfl
  | v :: L => by simp [flat, flat_size L]; omega
theorem flat_get : ∀ (L : List Q4) (i : Nat) (hi : i < L.length), (flat L)[4 * i]? = some (.int .i64 L[i].a) ∧ (flat L)[4 * i + 1]? = some (.int .i64 L[i].b) ∧ (flat L)[4 * i + 2]? = some (.int .i64 L[i].c) ∧ (flat L)[4 * i + 3]? = some (.int .i64 L[i].d)
  | [], i, hi => by simp at hi
  | v :: L, 0, hi => ⟨rfl, rfl, rfl, rfl⟩
  | v :: L, i + 1, hi => by
    have h := flat_get L i (by simpa using hi)
    have e0 : 4 * (i + 1) = 4 * i + 4 := by omega
    have e1 : 4 * (i + 1) + 1 = 4 * i + 1 + 4 := by omega
    have e2 : 4 * (i + 1) + 2 = 4 * i + 2 + 4 := by omega
    have e3 : 4 * (i + 1) + 3 = 4 * i + 3 + 4 := by omega
    rw [e1, e2, e3, e0]
    simpa [flat] using h

/-- The slice v owns a row of the purses of L. -/
def OwnF (w : World) (base : Nat) (v : Value) (L : List Q4) : Prop := w.ownsRow base 46 4 v L.length (flat L)

theorem OwnF.nil (w : World) (base : Nat) : OwnF w base (.slice none 0 0) [] := ⟨rfl, .inl ⟨rfl, rfl⟩⟩
theorem OwnF.kept {w w' : World} {base : Nat} {v : Value} {L : List Q4} (h : OwnF w base v L) (hb : Below w.heap.size w w') : OwnF w' base v L :=
  World.ownsRow.kept h (grown_of_below hb none) (by cases v.ownBlock with
    | none => exact .inl rfl
    | some k => exact .inr (by simp))
theorem OwnF.form {w : World} {base : Nat} {v : Value} {L : List Q4} (h : OwnF w base v L) : ∃ A cap, v = .slice A L.length cap := by
  rcases h.2 with ⟨rfl, h0⟩ | ⟨g, cap, cur, rfl, _⟩
  · exact ⟨none, 0, by rw [h0]⟩
  · exact ⟨_, _, rfl⟩
theorem OwnF.mono {w : World} {base base' : Nat} {v : Value} {L : List Q4} (h : OwnF w base v L) (hb : base' ≤ base) : OwnF w base' v L := by
  refine ⟨h.1, ?_⟩
  rcases h.2 with h0 | ⟨g, cap, cur, rfl, h1, rest⟩
  · exact .inl h0
  · exact .inr ⟨g, cap, cur, rfl, Nat.le_trans hb h1, rest⟩

/-- A slice that reads as the purses of L. -/
def Flat (w : World) (A : Option Addr) (L : List Q4) : Prop :=
  L = [] ∨ ∃ g, A = some ⟨g, 0, none⟩ ∧ ∀ i (hi : i < L.length), w.cell? ⟨g, i * 4, none⟩ = some (.int .i64 L[i].a) ∧ w.cell? ⟨g, i * 4 + 1, none⟩ = some (.int .i64 L[i].b) ∧ w.cell? ⟨g, i * 4 + 2, none⟩ = some (.int .i64 L[i].c) ∧ w.cell? ⟨g, i * 4 + 3, none⟩ = some (.int .i64 L[i].d)
theorem OwnF.flat {w : World} {base : Nat} {A : Option Addr} {n cap : Nat} {L : List Q4} (h : OwnF w base (.slice A n cap) L) : Flat w A L := by
  rcases h.2 with ⟨_, h0⟩ | ⟨g, cap', cur, hv, _, hg, _⟩
  · exact .inl (List.length_eq_zero_iff.1 h0)
  · injection hv with hv _ _
    subst hv
    refine .inr ⟨g, rfl, fun i hi => ?_⟩
    obtain ⟨f0, f1, f2, f3⟩ := flat_get L i hi
    have hc := World.ownsRow.cells h (g := g) rfl
    have e : ∀ j, (⟨g, 0, none⟩ : Addr).add j = ⟨g, j, none⟩ := fun j => by
      unfold Addr.add
      by_cases h : j = 0 <;> simp [h]
    have c0 := hc _ _ f0
    have c1 := hc _ _ f1
    have c2 := hc _ _ f2
    have c3 := hc _ _ f3
    rw [e, Nat.mul_comm] at c0 c1 c2 c3
    exact ⟨c0, c1, c2, c3⟩
theorem Flat.below {w w' : World} {A : Option Addr} {L : List Q4} (h : Flat w A L) (hb : Below w.heap.size w w') : Flat w' A L := by
  rcases h with h | ⟨g, rfl, hc⟩
  · exact .inl h
  · refine .inr ⟨g, rfl, fun i hi => ?_⟩
    obtain ⟨c0, c1, c2, c3⟩ := hc i hi
    have hl : g < w.heap.size := World.block_lt_of_cell? w _ c0
    exact ⟨(hb.cell (p := ⟨g, i * 4, none⟩) hl).trans c0, (hb.cell (p := ⟨g, i * 4 + 1, none⟩) hl).trans c1, (hb.cell (p := ⟨g, i * 4 + 2, none⟩) hl).trans c2, (hb.cell (p := ⟨g, i * 4 + 3, none⟩) hl).trans c3⟩

theorem infoPurse : (Tryd.prog.info? 46).map (fun i => (i.zero, i.size, i.bytes)) = some (some (pv 0 0 0 0), 4, 32) := by kernel_rfl

theorem OwnF.far {w : World} {base : Nat} {v : Value} {L : List Q4} (h : OwnF w base v L) {a : Addr} (ha : v.ownBlock ≠ some a.block) (u : Value) : OwnF (w.setCell a u) base v L := by
  refine ⟨h.1, ?_⟩
  rcases h.2 with h0 | ⟨g, cap, cur, rfl, hb, hg, rest⟩
  · exact .inl h0
  · refine .inr ⟨g, cap, cur, rfl, hb, ?_, rest⟩
    have hne : g ≠ a.block := fun e => ha (by rw [← e]; rfl)
    rw [Below.heap_setCell _ _ _ _ hne]
    exact hg
theorem OwnF.ne {w : World} {base : Nat} {v : Value} {L : List Q4} (h : OwnF w base v L) {g : Nat} (hg : w.heap.size ≤ g) : v.ownBlock ≠ some g := fun e => by
  have := (World.ownsRow.lt h g e).2
  omega

/-- 'longer = append(longer, way)': another block G of before is not the new slice's. -/
theorem wpList_append_purse {ops : Array Oper} {rest : List Oper} {o : Oper} {a : Act} {Q : Exit → Act → World → Prop} (w : World) (hgd : o.guard = none) (s x : Operand)
    (ho : o.op = .call { callee := .builtin .append, args := #[s, x], argTypes := #[52, 52] }) (base : Nat) (v : Value) (L : List Q4) (hs : a.eval s = v) (h : OwnF w base v L)
    (G : Nat) (hG : G < w.heap.size) (hne : v.ownBlock ≠ some G)
    (gx c : Nat) (q : Q4) (hx : a.eval x = .slice (some ⟨gx, 0, none⟩) 1 c) (hcx : Blk w gx 46 (qc q)) (hbase : base ≤ w.heap.size) (hlen : L.length ≤ 10000000)
    (hK : ∀ v' w', OwnF w' base v' (L ++ [q]) → v'.ownBlock ≠ some G → w.grownBy w' v.ownBlock → Below base w w' → wpList Tryd.prog ops Q rest (a.put o.dst v') w') : wpList Tryd.prog ops Q (o :: rest) a w := by
  obtain ⟨i0, hi, hz0, hz1, hz2⟩ := info_parts infoPurse
  refine wpList_append_lies w hgd s x 52 ho base 46 i0 (pv 0 0 0 0) 4 32 Tryd.underlying52 hi hz0 hz1 hz2 rfl (by omega) v L.length (flat L) hs h ⟨gx, 0, none⟩ 1 c [.int .i64 q.a, .int .i64 q.b, .int .i64 q.c, .int .i64 q.d] hx rfl ?_ (by simp [Value.oneCell'])
    (by omega) (by unfold maxLen; omega) (by omega) hbase w.heap.size rfl ?_
  · intro j u hj
    match j, hj with
    | 0, hj => simp at hj; subst hj; simpa [Addr.add] using hcx.cell 0
    | 1, hj => simp at hj; subst hj; simpa [Addr.add] using hcx.cell 1
    | 2, hj => simp at hj; subst hj; simpa [Addr.add] using hcx.cell 2
    | 3, hj => simp at hj; subst hj; simpa [Addr.add] using hcx.cell 3
  · intro g cap w' hown hgrow hat _
    refine hK _ w' ?_ ?_ hgrow ((Below.refl base w).grown hgrow hbase (fun k hk => (World.ownsRow.lt h k hk).1))
    · unfold OwnF
      rw [List.length_append, flat_append]
      exact hown
    · intro e
      simp [Value.ownBlock] at e
      rcases hat with hat | hat
      · exact hne (by rw [hat, e])
      · omega

/-- What comes back: a slice of purses in new memory. -/
def GotFlat (w : World) (L : List Q4) (e : Ending) (w' : World) : Prop :=
  ∃ A cap, e = .returned (.slice A L.length cap) ∧ Flat w' A L ∧ (∀ g, A = some ⟨g, 0, none⟩ → 0 < L.length → w.heap.size ≤ g) ∧ Below w.heap.size w w'
theorem OwnF.from {w : World} {base : Nat} {A : Option Addr} {n cap : Nat} {L : List Q4} (h : OwnF w base (.slice A n cap) L) : ∀ g, A = some ⟨g, 0, none⟩ → 0 < L.length → base ≤ g := fun g e hl => by
  rcases h.2 with ⟨_, h0⟩ | ⟨g', cap', cur, hv, hb, _⟩
  · omega
  · injection hv with hv _ _
    rw [hv] at e
    injection e with e
    injection e with e _ _
    omega

end Go.Proofs.YtciohflcofeebaaDoor

/- The model's run: act by act. -/
import Derived.Test.YtnoccmghclmpnaaDoorRn
import Derived.Test.YtnoccmghclmpnaaDoorSMf
import Derived.Deep.AppendLies
import Derived.Deep.CutRange
import Derived.Sort.LoopGhostIn
namespace Go.Proofs.YtnoccmghclmpnaaDoor
open Go.RowKit

theorem infoResQ : (Tryd.prog.info? 90).map (fun i => (i.zero, i.size, i.bytes)) = some (some (.agg #[.bool false, .int .i64 0, .slice none 0 0]), 3, 40) := by kernel_rfl
/-- The slice v owns the results L; their coins lie in other blocks, from lo on. -/
def OwnQ (w : World) (base lo : Nat) (v : Value) (L : List Rs) : Prop :=
  ∃ xs : List Value, w.ownsRow base 90 3 v L.length xs ∧ ∀ i, i < L.length → xs[i * 3]? = some (.bool (rs L i).done) ∧ xs[i * 3 + 1]? = some (.int .i64 (rs L i).piece) ∧
    ∃ B c, xs[i * 3 + 2]? = some (.slice B (rs L i).out.length c) ∧ Row .i64 w B (rs L i).out ∧ ∀ a, B = some a → 0 < (rs L i).out.length → lo ≤ a.block ∧ some a.block ≠ v.ownBlock
theorem OwnQ.form {w : World} {base lo : Nat} {v : Value} {L : List Rs} (h : OwnQ w base lo v L) : ∃ A cap, v = .slice A L.length cap := by
  obtain ⟨xs, h, _⟩ := h
  rcases h.2 with ⟨rfl, h0⟩ | ⟨g, cap, cur, rfl, _⟩
  · exact ⟨none, 0, by rw [h0]⟩
  · exact ⟨_, _, rfl⟩
theorem OwnQ.row {w : World} {base lo : Nat} {v : Value} {L : List Rs} (h : OwnQ w base lo v L) : ∃ A cap, v = .slice A L.length cap ∧ QRow w A L := by
  by_cases h0 : L.length = 0
  · obtain ⟨A, cap, e⟩ := h.form
    exact ⟨A, cap, e, .inl (List.eq_nil_of_length_eq_zero h0)⟩
  · obtain ⟨xs, h, hx⟩ := h
    rcases h.2 with ⟨_, h1⟩ | ⟨g, cap, cur, rfl, _, hg, _, _, hsz, ht⟩
    · exact absurd h1 h0
    · have hj : ∀ j, j < L.length * 3 → cur[j]? = xs[j]? := fun j hj => by
        rw [← ht, List.getElem?_take, if_pos hj]; simp
      refine ⟨_, cap, rfl, .inr ⟨g, 0, rfl, fun i hi => ?_⟩⟩
      obtain ⟨k1, k2, B, c, k3, k4, _⟩ := hx i hi
      have hb : Blk w g 90 cur := hg
      rw [Nat.zero_add, hb.cell, hb.cell, hb.cell, hj _ (by omega), hj _ (by omega), hj _ (by omega)]
      exact ⟨k1, k2, B, c, k3, k4⟩
theorem ownBlock_lt {w : World} {base lo : Nat} {v : Value} {L : List Rs} (h : OwnQ w base lo v L) : ∀ k, v.ownBlock = some k → base ≤ k ∧ k < w.heap.size := by
  obtain ⟨xs, h, _⟩ := h
  exact World.ownsRow.lt h
theorem Row.of_blocks {w w' : World} {A : Option Addr} {xs : List Int} (h : Row .i64 w A xs) (hb : ∀ x, A = some x → 0 < xs.length → w'.heap[x.block]? = w.heap[x.block]?) : Row .i64 w' A xs := by
  rcases h with h | ⟨b, off, rfl, hc⟩
  · exact .inl h
  · by_cases h0 : xs.length = 0
    · exact .inl (List.eq_nil_of_length_eq_zero h0)
    · have e : w'.heap[b]? = w.heap[b]? := hb ⟨b, off, none⟩ rfl (by omega)
      exact .inr ⟨b, off, rfl, fun i hi => (World.cell?_of_block (a := ⟨b, off + i, none⟩) e).trans (hc i hi)⟩
theorem Row.blockLt {w : World} {A : Option Addr} {xs : List Int} (h : Row .i64 w A xs) : ∀ x, A = some x → 0 < xs.length → x.block < w.heap.size := by
  intro x e h0
  rcases h with h | ⟨b, off, rfl, hc⟩
  · subst h; cases h0
  · injection e with e; subst e; exact World.block_lt_of_cell? w _ (hc 0 h0)
theorem GRow.of_blocks {w w' : World} {A : Option Addr} {gs : List Gd} (h : GRow w A gs) (hb : ∀ x, A = some x → 0 < gs.length → w'.heap[x.block]? = w.heap[x.block]?) : GRow w' A gs := by
  rcases h with h | ⟨b, off, rfl, hc⟩
  · exact .inl h
  · by_cases h0 : gs.length = 0
    · exact .inl (List.eq_nil_of_length_eq_zero h0)
    · have e : w'.heap[b]? = w.heap[b]? := hb ⟨b, off, none⟩ rfl (by omega)
      exact .inr ⟨b, off, rfl, fun i hi => ⟨(World.cell?_of_block (a := ⟨b, off + i * 2, none⟩) e).trans (hc i hi).1, (World.cell?_of_block (a := ⟨b, off + i * 2 + 1, none⟩) e).trans (hc i hi).2⟩⟩
theorem OwnQ.kept {w w' : World} {base lo : Nat} {v : Value} {L : List Rs} (h : OwnQ w base lo v L) (hb : Below w.heap.size w w') : OwnQ w' base lo v L := by
  obtain ⟨xs, h1, h2⟩ := h
  refine ⟨xs, ⟨h1.1, ?_⟩, fun i hi => ?_⟩
  · rcases h1.2 with h0 | ⟨g, cap, cur, hv, k1, k2, k3⟩
    · exact .inl h0
    · exact .inr ⟨g, cap, cur, hv, k1, (hb.block g (Array.getElem?_eq_some_iff.1 k2).1).trans k2, k3⟩
  · obtain ⟨k1, k2, B, c, k3, k4, k5⟩ := h2 i hi
    exact ⟨k1, k2, B, c, k3, k4.below hb, k5⟩
theorem OwnQ.far {w : World} {base lo g k : Nat} {v u : Value} {L : List Rs} (h : OwnQ w base lo v L) (hg : g < lo) (ho : ∀ j, v.ownBlock = some j → j ≠ g) : OwnQ (w.setCell ⟨g, k, none⟩ u) base lo v L := by
  obtain ⟨xs, h1, h2⟩ := h
  refine ⟨xs, ⟨h1.1, ?_⟩, fun i hi => ?_⟩
  · rcases h1.2 with h0 | ⟨g2, cap, cur, hv, k1, k2, k3⟩
    · exact .inl h0
    · have hne : g2 ≠ g := ho g2 (by rw [hv]; rfl)
      exact .inr ⟨g2, cap, cur, hv, k1, (Below.heap_setCell w ⟨g, k, none⟩ u g2 hne).trans k2, k3⟩
  · obtain ⟨k1, k2, B, c, k3, k4, k5⟩ := h2 i hi
    refine ⟨k1, k2, B, c, k3, k4.of_blocks fun x e h0 => ?_, k5⟩
    have hne : x.block ≠ g := by have := (k5 x e h0).1; omega
    exact Below.heap_setCell w ⟨g, k, none⟩ u x.block hne
theorem OwnQ.nil (w : World) (base lo : Nat) : OwnQ w base lo (.slice none 0 0) [] := ⟨[], World.ownsRow_nil w base _ _, fun i hi => absurd hi (Nat.not_lt_zero i)⟩
theorem OwnQ.made {w : World} {base lo : Nat} (hb : base ≤ w.heap.size) : OwnQ (w.alloc (.cells #[] 90)) base lo (.slice (some ⟨w.heap.size, 0, none⟩) 0 0) [] :=
  ⟨[], World.ownsRow_made w #[] 0 hb (Nat.zero_le _) rfl, fun i hi => absurd hi (Nat.not_lt_zero i)⟩
theorem MRowO.of_heap {w w' : World} {base : Nat} {v : Value} {m : Mc} (h : MRowO w base v m) (hb : ∀ b, b < w.heap.size → base ≤ b → w'.heap[b]? = w.heap[b]?) : MRowO w' base v m := by
  obtain ⟨⟨A, a, B, b, C, c, rfl, h1, h2, h3⟩, hmo⟩ := h
  have hmo' := hmo
  obtain ⟨A', n', a', B', k', b', C', j', c', e, hc, hA, hB⟩ := hmo
  injection e with e
  simp only [Array.mk.injEq, List.cons.injEq, Value.slice.injEq, and_true] at e
  obtain ⟨⟨rfl, rfl, rfl⟩, ⟨rfl, rfl, rfl⟩, rfl, rfl, rfl⟩ := e
  refine ⟨⟨A, a, B, b, C, c, rfl, h1.of_blocks fun x e h0 => hb _ (h1.blockLt x e h0) (hA x e), h2.of_blocks fun x e h0 => hb _ (h2.blockLt x e h0) (hB x e), h3.of_blocks fun x e h0 => ?_⟩, hmo'.of_heap hb⟩
  rcases hc with ⟨rfl, _⟩ | ⟨g, rfl, h4, h5, _⟩
  · cases e
  · injection e with e; subst e; exact hb _ h5.lt h4
theorem RRowO.of_heap {w w' : World} {base : Nat} {v : Value} {r : Rs} (h : RRowO w base v r) (hb : ∀ b, b < w.heap.size → base ≤ b → w'.heap[b]? = w.heap[b]?) : RRowO w' base v r := by
  obtain ⟨A, c, e, h1, h2⟩ := h
  exact ⟨A, c, e, h1.of_blocks fun x e h0 => hb _ (h1.blockLt x e h0) (h2 x e), h2⟩
theorem RRowO.mono {w : World} {base base' : Nat} {v : Value} {r : Rs} (h : RRowO w base v r) (hb : base' ≤ base) : RRowO w base' v r := by
  obtain ⟨A, c, e, h1, h2⟩ := h
  exact ⟨A, c, e, h1, fun x e => Nat.le_trans hb (h2 x e)⟩
theorem MRowO.mono {w : World} {base base' : Nat} {v : Value} {m : Mc} (h : MRowO w base v m) (hb : base' ≤ base) : MRowO w base' v m := ⟨h.1, h.2.mono hb⟩

/-- 'out = append(out, what)'. -/
theorem wpList_append_res {ops : Array Oper} {rest : List Oper} {o : Oper} {a : Act} {Q : Exit → Act → World → Prop} (w : World) (hgd : o.guard = none) (s x : Operand)
    (ho : o.op = .call { callee := .builtin .append, args := #[s, x], argTypes := #[44, 44] }) (base lo : Nat) (v : Value) (L : List Rs) (hs : a.eval s = v) (h : OwnQ w base lo v L)
    (gx c : Nat) (y : Rs) (U : Option Addr) (u : Nat) (hx : a.eval x = .slice (some ⟨gx, 0, none⟩) 1 c) (hc : Blk w gx 90 #[.bool y.done, .int .i64 y.piece, .slice U y.out.length u])
    (hU : Row .i64 w U y.out) (hU2 : ∀ a, U = some a → 0 < y.out.length → lo ≤ a.block ∧ some a.block ≠ v.ownBlock) (hbase : base ≤ w.heap.size) (hlen : L.length ≤ 1000000)
    (hK : ∀ v' w', OwnQ w' base lo v' (L ++ [y]) → (v'.ownBlock = v.ownBlock ∨ v'.ownBlock = some w.heap.size) → Below base w w' → (∀ b, b < w.heap.size → some b ≠ v.ownBlock → w'.heap[b]? = w.heap[b]?) → wpList Tryd.prog ops Q rest (a.put o.dst v') w') : wpList Tryd.prog ops Q (o :: rest) a w := by
  obtain ⟨i0, hi, hz0, hz1, hz2⟩ := info_parts infoResQ
  obtain ⟨xs, h1, h2⟩ := h
  have hl := h1.1
  refine wpList_append_lies w hgd s x 44 ho base 90 i0 _ 3 40 Tryd.underlying44 hi hz0 hz1 hz2 rfl (by omega) v L.length xs hs h1 ⟨gx, 0, none⟩ 1 c [.bool y.done, .int .i64 y.piece, .slice U y.out.length u] hx rfl (World.news_of_block hc) (by simp [Value.oneCell'])
    (by omega) (by unfold maxLen; omega) (by omega) hbase _ rfl ?_
  intro g cap w' hown hgrow hat hlt
  have hrows : ∀ B (ys : List Int), Row .i64 w B ys → (∀ a, B = some a → 0 < ys.length → some a.block ≠ v.ownBlock) → Row .i64 w' B ys := fun B ys hr hne => hr.of_blocks fun x e h0 => hgrow.block _ (hr.blockLt x e h0) (hne x e h0)
  have hown' : (Value.slice (some ⟨g, 0, none⟩) (L.length + 1) cap).ownBlock = some g := rfl
  refine hK _ w' ⟨xs ++ [.bool y.done, .int .i64 y.piece, .slice U y.out.length u], by rw [List.length_append]; exact hown, fun i hi => ?_⟩ (by rw [hown']; exact hat.elim (fun h => .inl h.symm) (fun h => .inr (by rw [h]))) ((Below.refl base w).grown hgrow hbase (fun k hk => (World.ownsRow.lt h1 k hk).1)) (fun b hb hne => hgrow.block b hb hne)
  have hne : ∀ a : Addr, a.block < w.heap.size → some a.block ≠ v.ownBlock → some a.block ≠ some g := fun a ha hn e => by
    injection e with e
    rcases hat with h | h
    · exact hn (by rw [h, e])
    · omega
  by_cases hlt2 : i < L.length
  · obtain ⟨k1, k2, B, c', k3, k4, k5⟩ := h2 i hlt2
    have er : rs (L ++ [y]) i = rs L i := by simp [rs, List.getD, List.getElem?_append_left hlt2]
    rw [er, List.getElem?_append_left (by omega), List.getElem?_append_left (by omega), List.getElem?_append_left (by omega)]
    exact ⟨k1, k2, B, c', k3, hrows B _ k4 (fun a e h0 => (k5 a e h0).2), fun a e h0 => ⟨(k5 a e h0).1, hne a (k4.blockLt a e h0) (k5 a e h0).2⟩⟩
  · have ei : i = L.length := by simp at hi; omega
    subst ei
    have er : rs (L ++ [y]) L.length = y := by simp [rs, List.getD]
    rw [er, List.getElem?_append_right (by omega), List.getElem?_append_right (by omega), List.getElem?_append_right (by omega), hl]
    have e0 : L.length * 3 - L.length * 3 = 0 := by omega
    have e1 : L.length * 3 + 1 - L.length * 3 = 1 := by omega
    have e2 : L.length * 3 + 2 - L.length * 3 = 2 := by omega
    rw [e0, e1, e2]
    exact ⟨rfl, rfl, U, u, rfl, hrows U _ hU (fun a e h0 => (hU2 a e h0).2), fun a e h0 => ⟨(hU2 a e h0).1, hne a (hU.blockLt a e h0) (hU2 a e h0).2⟩⟩
theorem closeRun {w4 wf : World} {r1 : Mc} {r2 : Rs} {g6 g7 B0 lo : Nat} {v u : Value} (h : MRowO w4 B0 v r1 ∧ RRowO w4 B0 u r2) (v6 : w4.heap.size ≤ g6 ∨ g6 < B0) (v7 : w4.heap.size ≤ g7 ∨ g7 < B0)
    (hf : ∀ b, b < w4.heap.size → b ≠ g6 → b ≠ g7 → wf.heap[b]? = w4.heap[b]?) (hlo : lo ≤ B0) : MRowO wf lo v r1 ∧ RRowO wf lo u r2 :=
  ⟨(h.1.of_heap fun b hl hb => hf b hl (by omega) (by omega)).mono hlo, (h.2.of_heap fun b hl hb => hf b hl (by omega) (by omega)).mono hlo⟩
theorem Blk.putMq {w : World} {g : Nat} {T : TypeId} {x y z : Value} (h : Blk w g T #[.slice none 0 0, .slice none 0 0, .slice none 0 0]) : Blk (((w.setCell ⟨g, 0, none⟩ x).setCell ⟨g, 1, none⟩ y).setCell ⟨g, 2, none⟩ z) g T #[x, y, z] := ((h.set_ 0 x).set_ 1 y).set_ 2 z
theorem Blk.putRq {w : World} {g : Nat} {T : TypeId} {x y z : Value} (h : Blk w g T #[.bool false, .int .i64 0, .slice none 0 0]) : Blk (((w.setCell ⟨g, 0, none⟩ x).setCell ⟨g, 1, none⟩ y).setCell ⟨g, 2, none⟩ z) g T #[x, y, z] := ((h.set_ 0 x).set_ 1 y).set_ 2 z
theorem OwnQ.lower {w : World} {base lo lo' : Nat} {v : Value} {L : List Rs} (h : OwnQ w base lo v L) (hl : lo' ≤ lo) : OwnQ w base lo' v L := by
  obtain ⟨xs, h1, h2⟩ := h
  refine ⟨xs, h1, fun i hi => ?_⟩
  obtain ⟨k1, k2, B, c, k3, k4, k5⟩ := h2 i hi
  exact ⟨k1, k2, B, c, k3, k4, fun a e h0 => ⟨Nat.le_trans hl (k5 a e h0).1, (k5 a e h0).2⟩⟩
theorem Blk.put3q {w : World} {g : Nat} {T : TypeId} {a b c x y z : Value} (h : Blk w g T #[a, b, c]) : Blk (((w.setCell ⟨g, 0, none⟩ x).setCell ⟨g, 1, none⟩ y).setCell ⟨g, 2, none⟩ z) g T #[x, y, z] := ((h.set_ 0 x).set_ 1 y).set_ 2 z

theorem closeRunAll {wb w4 wf : World} {s6 s7 : Value} {r1 : Mc} {r2 : Rs} {g6 g7 B0 : Nat} {X Y Z U : Option Addr} {x y z u : Nat} (e6 : s6 = .pointer (some ⟨g6, 0, none⟩)) (e7 : s7 = .pointer (some ⟨g7, 0, none⟩))
    (b6 : Blk wf g6 40 #[.slice X r1.own.length x, .slice Y r1.inn.length y, .slice Z r1.gs.length z]) (b7 : Blk wf g7 90 #[.bool r2.done, .int .i64 r2.piece, .slice U r2.out.length u])
    (v6 : w4.heap.size ≤ g6 ∨ g6 < B0) (v7 : w4.heap.size ≤ g7 ∨ g7 < B0) (hf : ∀ b, b < w4.heap.size → b ≠ g6 → b ≠ g7 → wf.heap[b]? = w4.heap[b]?)
    (h : MRowO w4 B0 (.agg #[.slice X r1.own.length x, .slice Y r1.inn.length y, .slice Z r1.gs.length z]) r1 ∧ RRowO w4 B0 (.agg #[.bool r2.done, .int .i64 r2.piece, .slice U r2.out.length u]) r2) (hlo : wb.heap.size ≤ B0) (l6 : wb.heap.size ≤ g6) (l7 : wb.heap.size ≤ g7) (ne : g6 ≠ g7) (hb : Below wb.heap.size wb wf) :
    ∃ (g6 g7 : Nat) (X : Option Addr) (x : Nat) (Y : Option Addr) (y : Nat) (Z : Option Addr) (z : Nat) (U : Option Addr) (u : Nat), s6 = .pointer (some ⟨g6, 0, none⟩) ∧ s7 = .pointer (some ⟨g7, 0, none⟩) ∧ Blk wf g6 40 #[.slice X r1.own.length x, .slice Y r1.inn.length y, .slice Z r1.gs.length z] ∧ Blk wf g7 90 #[.bool r2.done, .int .i64 r2.piece, .slice U r2.out.length u] ∧
      (MRowO wf wb.heap.size (.agg #[.slice X r1.own.length x, .slice Y r1.inn.length y, .slice Z r1.gs.length z]) r1 ∧ RRowO wf wb.heap.size (.agg #[.bool r2.done, .int .i64 r2.piece, .slice U r2.out.length u]) r2) ∧ wb.heap.size ≤ g6 ∧ wb.heap.size ≤ g7 ∧ g6 ≠ g7 ∧ Below wb.heap.size wb wf :=
  ⟨g6, g7, X, x, Y, y, Z, z, U, u, e6, e7, b6, b7, closeRun h v6 v7 hf hlo, l6, l7, ne, hb⟩

/-- What a run of the model hands back. -/
def GotRunS (w : World) (r : Mc × List Rs) (ok : Bool) (e : Ending) (w' : World) : Prop :=
  ∃ v u, e = .returned (.tuple #[v, u, .bool ok]) ∧ MRowO w' w.heap.size v r.1 ∧ OwnQ w' w.heap.size w.heap.size u r.2 ∧ Below w.heap.size w w'
theorem runTo_small {m : Mc} (h : okM m = true) (L : List Ac) (k : Nat) : SmM (runTo m L k) := by
  have h1 := okM_iff.1 (runTo_ok h L k)
  have a := okP_len h1.1
  have b := okP_len h1.2.1
  have c := (okS_iff.1 h1.2.2).1
  unfold SmM
  omega

set_option maxRecDepth 100000 in
theorem specRunOf_no (v : Value) (m : Mc) (L : List Ac) (A : Option Addr) (c : Nat) (w : World) (hr : MRow w v m) (hl : SmM m) (hL : L.length ≤ 1048576) (h : runOk m L = false) :
    Calls Tryd.prog 54 #[v, .slice A L.length c] w (GotRunS w (noM, []) false) := by
  have KM := Lib.hid (fun W h => specMachineOk_any v m W h hl)
  have HR := Lib.hid hr
  obtain ⟨X, x, Y, y, Z, z, rfl, _, _, _⟩ := hr
  have hc : okM m = false ∨ (okM m = true ∧ (20 : Int) < (L.length : Int)) := by
    unfold runOk at h
    cases hm : okM m
    · exact .inl rfl
    · right
      rw [hm] at h
      simp at h
      exact ⟨rfl, by omega⟩
  have h63 : (L.length : Int) ≤ 1048576 := by omega
  clear h hl hL
  generalize L.length = N at *
  have R1 := Lib.hid (((Blk.new' (w := (w.alloc (.cells #[.slice X m.own.length x, .slice Y m.inn.length y, .slice Z m.gs.length z] 40))) (cs := #[.slice none 0 0, .slice none 0 0, .slice none 0 0]) (t := 40) (g := w.heap.size + 1) (by simp)).alloc (.cells #[] 90)))
  have HO : Hid (OwnQ (((w.alloc (.cells #[.slice X m.own.length x, .slice Y m.inn.length y, .slice Z m.gs.length z] 40)).alloc (.cells #[.slice none 0 0, .slice none 0 0, .slice none 0 0] 40)).alloc (.cells #[] 90)) w.heap.size (w.heap.size + 2) (.slice (some ⟨w.heap.size + 1 + 1, 0, none⟩) 0 0) []) := Lib.hid (by
    have := OwnQ.made (w := (w.alloc (.cells #[.slice X m.own.length x, .slice Y m.inn.length y, .slice Z m.gs.length z] 40)).alloc (.cells #[.slice none 0 0, .slice none 0 0, .slice none 0 0] 40)) (base := w.heap.size) (lo := w.heap.size + 2) (by simp; omega)
    simpa using this)
  rcases hc with hm | ⟨hm, hN⟩
  all_goals
    rw [hm] at KM
    clear hm
    go_enter Tryd.func54, Tryd.ntmps54
    go_wp2_with fail
    refine (KM.out _ (HR.out.below belo)).mono ?_
    rintro e w1 ⟨rfl, hb⟩
    have B1 : Below w.heap.size w w1 := Below.trans belo (hb.mono belo)
    have r1 := R1.out.kept hb
    have HO1 := Lib.hid (HO.out.kept hb)
    have n1 := r1.lt
    have c1 := fun i => r1.cell i
    have f1 := fun i => r1.frozen i
    clear hb
    go_wp2
    refine bodyPost_ret (v := .tuple #[nov, .slice (some ⟨w.heap.size + 1 + 1, 0, none⟩) 0 0, .bool false]) (by simp [results, Tryd.results54, go_sem, c1]) rfl ⟨_, _, rfl, ⟨⟨none, 0, none, 0, none, 0, rfl, Row.nil _ _ _, Row.nil _ _ _, GRow.nil _ _⟩, MO.none⟩, ?_, belo⟩
    have ho : ∀ j, (Value.slice (some ⟨w.heap.size + 1 + 1, 0, none⟩) 0 0).ownBlock = some j → j ≠ w.heap.size + 1 := fun j e => by have e2 : some (w.heap.size + 1 + 1) = some j := e; injection e2 with e2; omega
    obtain ⟨xs, q1, q2⟩ := ((HO1.out.far (k := 0) (u := .slice none 0 0) (g := w.heap.size + 1) (by omega) ho).far (k := 1) (u := .slice none 0 0) (g := w.heap.size + 1) (by omega) ho).far (k := 2) (u := .slice none 0 0) (g := w.heap.size + 1) (by omega) ho
    exact ⟨xs, q1, fun i hi => absurd hi (Nat.not_lt_zero i)⟩

set_option maxRecDepth 100000 in
set_option maxHeartbeats 12800000 in
theorem specRunOf_yes (v : Value) (m : Mc) (L : List Ac) (A : Option Addr) (c : Nat) (w : World) (hr : MRow w v m) (ha : ARow w A L) (hm : okM m = true) (hL : L.length ≤ 20) :
    Calls Tryd.prog 54 #[v, .slice A L.length c] w (GotRunS w (runTo m L L.length, cameTo m L L.length) true) := by
  have hl := runTo_small hm L 0
  have KM := Lib.hid (fun W h => specMachineOk_any v m W h hl)
  rw [hm] at KM
  have KC := Lib.hid (fun W h => l4Copy_any v m W h hm)
  have KA := Lib.hid (fun k u W h => specActed_any u (runTo m L k) (ac L k).d (ac L k).n W h (runTo_small hm L k))
  have HR := Lib.hid hr
  have HA := Lib.hid ha
  obtain ⟨X, x, Y, y, Z, z, rfl, _, _, _⟩ := hr
  have hL' : ¬ (20 : Int) < (L.length : Int) := by omega
  have R0 := Lib.hid (((Blk.new' (w := w) (cs := #[.slice X m.own.length x, .slice Y m.inn.length y, .slice Z m.gs.length z]) (t := 40) (g := w.heap.size) (by simp)).alloc (.cells #[.slice none 0 0, .slice none 0 0, .slice none 0 0] 40)).alloc (.cells #[] 90))
  have R1 := Lib.hid (((Blk.new' (w := (w.alloc (.cells #[.slice X m.own.length x, .slice Y m.inn.length y, .slice Z m.gs.length z] 40))) (cs := #[.slice none 0 0, .slice none 0 0, .slice none 0 0]) (t := 40) (g := w.heap.size + 1) (by simp)).alloc (.cells #[] 90)))
  have HO : Hid (OwnQ (((w.alloc (.cells #[.slice X m.own.length x, .slice Y m.inn.length y, .slice Z m.gs.length z] 40)).alloc (.cells #[.slice none 0 0, .slice none 0 0, .slice none 0 0] 40)).alloc (.cells #[] 90)) w.heap.size 0 (.slice (some ⟨w.heap.size + 1 + 1, 0, none⟩) 0 0) []) := Lib.hid (by
    have := OwnQ.made (w := (w.alloc (.cells #[.slice X m.own.length x, .slice Y m.inn.length y, .slice Z m.gs.length z] 40)).alloc (.cells #[.slice none 0 0, .slice none 0 0, .slice none 0 0] 40)) (base := w.heap.size) (lo := 0) (by simp; omega)
    simpa using this)
  clear hl hm ha
  go_enter Tryd.func54, Tryd.ntmps54
  go_wp2_with fail
  refine (KM.out _ (HR.out.below belo)).mono ?_
  rintro e w1 ⟨rfl, hb⟩
  have B1 : Below w.heap.size w w1 := Below.trans belo (hb.mono belo)
  have r0 := R0.out.kept hb
  have HRS := Lib.hid (And.intro r0 (R1.out.kept hb))
  have HO1 := Lib.hid (HO.out.kept hb)
  have n0 := r0.lt
  have c0 := fun i => r0.cell i
  have hz1 := B1.size
  have hz13 : w.heap.size + 3 ≤ w1.heap.size := by have := hb.size; simp at this; omega
  clear hb r0
  go_wp2_with fail
  refine (KC.out _ (HR.out.below belo)).mono ?_
  rintro e w2 ⟨v2, rfl, q, hb⟩
  have B2 : Below w.heap.size w w2 := Below.trans B1 (hb.mono hz1)
  have HRS2 := Lib.hid (And.intro (HRS.out.1.kept hb) (HRS.out.2.kept hb))
  have HO2 := Lib.hid (HO1.out.kept hb)
  have HM2 := Lib.hid (q.rowO hz13)
  have hz2 := B2.size
  have n1' := HRS2.out.2.lt
  clear hb n0 c0
  obtain ⟨ga, gb, gc, Ta, Tb, Tc, ca, cb, cc, rfl, _⟩ := q
  go_wp2_with fail
  have HO3 := Lib.hid (HO2.out.kept (w' := (w2.alloc (.cells #[.slice (some ⟨ga, 0, none⟩) m.own.length ca, .slice (some ⟨gb, 0, none⟩) m.inn.length cb, .slice (some ⟨gc, 0, none⟩) m.gs.length cc] 40))) belo)
  have HM3 := Lib.hid (HM2.out.kept (w' := (w2.alloc (.cells #[.slice (some ⟨ga, 0, none⟩) m.own.length ca, .slice (some ⟨gb, 0, none⟩) m.inn.length cb, .slice (some ⟨gc, 0, none⟩) m.gs.length cc] 40))) belo)
  have HR3 := Lib.hid (HRS2.out.2.alloc (.cells #[.slice (some ⟨ga, 0, none⟩) m.own.length ca, .slice (some ⟨gb, 0, none⟩) m.inn.length cb, .slice (some ⟨gc, 0, none⟩) m.gs.length cc] 40))
  have hg8 : w.heap.size + 1 + 1 < w2.heap.size := by have := ownBlock_lt HO2.out (w.heap.size + 1 + 1) rfl; omega
  have hL63 : (L.length : Int) ≤ 20 := by omega
  clear hL' KM KC HM2 HO2 HRS2 HRS HO1 n1' HO R0 R1
  go_loopg [7, 9] L.length (fun gk s7 s9 wx => ∃ (k : Nat) (P Q R : Option Addr) (p q r : Nat), s9 = .int .i64 k ∧ gk + k = L.length ∧ Blk wx w2.heap.size 40 #[.slice P (runTo m L k).own.length p, .slice Q (runTo m L k).inn.length q, .slice R (runTo m L k).gs.length r] ∧ Blk wx (w.heap.size + 1) 40 #[.slice none 0 0, .slice none 0 0, .slice none 0 0] ∧
    MRowO wx (w.heap.size + 3) (mcv P (runTo m L k).own.length p Q (runTo m L k).inn.length q R (runTo m L k).gs.length r) (runTo m L k) ∧ OwnQ wx w.heap.size (w2.heap.size + 1) s7 (cameTo m L k) ∧ (∀ j, s7.ownBlock = some j → j ≠ w2.heap.size ∧ j ≠ w.heap.size + 1) ∧ Below w.heap.size w wx)
  case atStart =>
    refine ⟨0, _, _, _, _, _, _, rfl, rfl, Blk.new' rfl, HR3.out, HM3.out, ?_, (fun j e => ?_), belo⟩
    · obtain ⟨xs, q1, q2⟩ := HO3.out
      exact ⟨xs, q1, fun i hi => absurd hi (Nat.not_lt_zero i)⟩
    · have e2 : some (w.heap.size + 1 + 1) = some j := e
      injection e2 with e2
      omega
  case round =>
    obtain ⟨k, P, Q, R, p, q, r, rfl, hgk, b8, b4, hm, ho, hne, hb⟩ := hrel
    clear HO3 HM3 HR3
    have HB8 := Lib.hid b8
    have HB4 := Lib.hid b4
    have HM := Lib.hid hm
    have HO := Lib.hid ho
    have HNE := Lib.hid hne
    have hz := hb.size
    have n8 := b8.lt
    have n4 := b4.lt
    have hol := ownBlock_lt ho
    have HOL := Lib.hid hol
    rename World => wk
    cases gk with
    | zero =>
      have hk : k = L.length := by omega
      subst hk
      have hkk : ¬ (L.length : Int) < (L.length : Int) := by omega
      obtain ⟨B, cap, rfl⟩ := ho.form
      have c8 := fun i => b8.cell i
      have f8 := fun i => b8.frozen i
      have c4 := fun i => b4.cell i
      have f4 := fun i => b4.frozen i
      have hn1 : w.heap.size + 1 ≠ w2.heap.size := by omega
      clear b8 b4 hm ho hne hol
      go_wp2
      refine bodyPost_ret (v := .tuple #[mcv P (runTo m L L.length).own.length p Q (runTo m L L.length).inn.length q R (runTo m L L.length).gs.length r, .slice B (cameTo m L L.length).length cap, .bool true]) (by simp [results, Tryd.results54, go_sem, c4]) rfl ⟨_, _, rfl, ?_, ?_, belo⟩
      · refine (HM.out.of_heap fun b _ h1 => ?_).mono (by omega)
        have hb1 : b ≠ w.heap.size + 1 := by omega
        rw [Below.heap_setCell _ _ _ _ hb1, Below.heap_setCell _ _ _ _ hb1, Below.heap_setCell _ _ _ _ hb1]
      · have hx := fun j e => (HNE.out j e).2
        exact ((((HO.out.far (by omega) hx).far (by omega) hx).far (by omega) hx).lower (by omega))
    | succ g0 =>
      have hk : k < L.length := by omega
      have hq' := HA.out.below hb
      obtain ⟨b, off, rfl⟩ := hq'.addr (by omega)
      obtain ⟨d1, d2⟩ := hq'.one k hk
      have hlb : b < wk.heap.size := World.block_lt_of_cell? wk _ d1
      obtain ⟨ar, har⟩ : ∃ ar, ar = actM (runTo m L k) (ac L k).d (ac L k).n := ⟨_, rfl⟩
      have HM1 : Hid (runTo m L (k + 1) = ar.1) := Lib.hid (by rw [har]; rfl)
      have HC1 : Hid (cameTo m L (k + 1) = cameTo m L k ++ [ar.2]) := Lib.hid (by rw [har]; rfl)
      have KAk : Hid (∀ u W, MRow W u (runTo m L k) → Calls Tryd.prog 67 #[u, .agg #[.int .i64 (ac L k).d, .int .i64 (ac L k).n]] W (GotAct W ar)) := Lib.hid (fun u W h => by rw [har]; exact KA.out k u W h)
      have HLK : Hid ((cameTo m L k).length = k) := Lib.hid (cameTo_length m L k)
      obtain ⟨m1, r1⟩ := ar
      clear har hq' hne hm
      obtain ⟨B, cap, rfl⟩ := ho.form
      dsimp only at HM1 HC1
      generalize runTo m L k = mk at *
      generalize cameTo m L k = Ck at *
      generalize (ac L k).d = dd at *
      generalize (ac L k).n = nn at *
      have HMR := Lib.hid HM.out.1
      have HD := Lib.hid (And.intro d1 d2)
      have hi0 : (0 : Int) ≤ (k : Int) := by omega
      have hi1 : (k : Int) < (L.length : Int) := by omega
      have hNk : wk.heap.size ≤ wk.heap.size := Nat.le_refl _
      clear ho d1 d2 b8 b4 hol
      go_upto_region 8 with fail
      go_cut [10, 11] from 31 to 39 (fun s10 s11 wx => ∃ (g10 g11 : Nat) (X : Option Addr) (x : Nat) (Y : Option Addr) (y : Nat) (Z : Option Addr) (z : Nat) (U : Option Addr) (u : Nat), s10 = .pointer (some ⟨g10, 0, none⟩) ∧ s11 = .pointer (some ⟨g11, 0, none⟩) ∧ Blk wx g10 40 #[.slice X m1.own.length x, .slice Y m1.inn.length y, .slice Z m1.gs.length z] ∧ Blk wx g11 90 #[.bool r1.done, .int .i64 r1.piece, .slice U r1.out.length u] ∧
        (MRowO wx wk.heap.size (mcv X m1.own.length x Y m1.inn.length y Z m1.gs.length z) m1 ∧ RRowO wx wk.heap.size (.agg #[.bool r1.done, .int .i64 r1.piece, .slice U r1.out.length u]) r1) ∧ wk.heap.size ≤ g10 ∧ wk.heap.size ≤ g11 ∧ g10 ≠ g11 ∧ Below wk.heap.size wk wx)
      case first =>
        clear HO HB4 HNE HOL HR HM
        go_region_held3 (fun w' => (∀ i : Nat, w'.cell? ⟨w2.heap.size, i, none⟩ = #[.slice P mk.own.length p, .slice Q mk.inn.length q, .slice R mk.gs.length r][i]?) ∧ w'.cell? ⟨b, off + k * 2, none⟩ = some (.int .i64 dd) ∧ w'.cell? ⟨b, off + k * 2 + 1, none⟩ = some (.int .i64 nn)) (first | ((try dsimp only); refine ⟨?_, ?_, ?_⟩; (intro i; exact (Below.cell (B := wk.heap.size) (w := wk) (p := ⟨w2.heap.size, i, none⟩) belo n8).trans (HB8.out.cell i)); exact (Below.cell (B := wk.heap.size) (w := wk) (p := ⟨b, off + k * 2, none⟩) belo hlb).trans HD.out.1; exact (Below.cell (B := wk.heap.size) (w := wk) (p := ⟨b, off + k * 2 + 1, none⟩) belo hlb).trans HD.out.2) | ((try dsimp only); first | (intro i; exact (Below.cell (B := wk.heap.size) (w := wk) (p := ⟨w2.heap.size, i, none⟩) belo n8).trans (HB8.out.cell i)) | exact (Below.cell (B := wk.heap.size) (w := wk) (p := ⟨b, off + k * 2, none⟩) belo hlb).trans HD.out.1 | exact (Below.cell (B := wk.heap.size) (w := wk) (p := ⟨b, off + k * 2 + 1, none⟩) belo hlb).trans HD.out.2))
          (first
            | (go_at_call 67; refine (KAk.out _ _ (HMR.out.below belo)).mono ?_; rintro e w5 ⟨v1, v2, rfl, q1, q2, b5⟩; have s5 : Below wk.heap.size wk w5 := Below.trans belo (b5.mono belo); obtain ⟨o5, f5⟩ := olds b5; have hz5 := s5.size; have hy5 := b5.size; have hmr := And.intro q1 q2; (try simp only [World.size_alloc, World.size_drew] at hy5); (try simp only [World.size_alloc, World.size_drew] at hmr); (try (have hx5 : wk.heap.size < w5.heap.size := (by omega))); (try (have hx5a : wk.heap.size + 1 < w5.heap.size := (by omega))); obtain ⟨⟨X, x, Y, y, Z, z, hv, _⟩, _⟩ := q1; subst hv; obtain ⟨U, u, hv, _⟩ := q2; subst hv; have HMO := Lib.hid hmr; clear hmr))
        all_goals
          go_wp2_with fail
          go_meet
          have hmo := HMO.out
          refine closeRunAll (w4 := w5) rfl rfl ?_ ?_ ?_ ?_ ?_ hmo (by omega) ?_ ?_ ?_ ?_
          · repeat' (first | (with_reducible exact Blk.new' rfl) | (with_reducible exact Blk.new' (by (repeat (first | rw [World.size_alloc] | rw [World.size_setCell] | rw [World.size_drew])))) | (with_reducible refine Blk.putMq ?_) | (with_reducible refine Blk.alloc ?_ _) | (with_reducible refine Blk.drew ?_) | (with_reducible refine Blk.setc ?_ (by omega)) | (refine Blk.kept ?_ b5))
          · repeat' (first | (with_reducible exact Blk.new' rfl) | (with_reducible exact Blk.new' (by (repeat (first | rw [World.size_alloc] | rw [World.size_setCell] | rw [World.size_drew])))) | (with_reducible refine Blk.putRq ?_) | (with_reducible refine Blk.alloc ?_ _) | (with_reducible refine Blk.drew ?_) | (with_reducible refine Blk.setc ?_ (by omega)) | (refine Blk.kept ?_ b5))
          · first | exact .inl (by omega) | exact .inr (by omega)
          · first | exact .inl (by omega) | exact .inr (by omega)
          · intro b hb h6 h7; repeat (first | rw [Below.heap_setCell _ _ _ _ h6] | rw [Below.heap_setCell _ _ _ _ h7] | rw [Below.heap_alloc _ _ _ (by first | omega | ((repeat (first | rw [World.size_alloc] | rw [World.size_setCell] | rw [World.size_drew])); omega))])
          · omega
          · omega
          · omega
          · exact belo
      case rest =>
        obtain ⟨wq, rfl⟩ : ∃ x : World, x = wc := ⟨_, rfl⟩
        obtain ⟨g10, g11, X, x, Y, y, Z, z, U, u, rfl, rfl, b10, b11, hmr, l10, l11, hne2, s⟩ := hcut
        have HMM := Lib.hid hmr
        have b8q := HB8.out.kept s
        have HB4q := Lib.hid (HB4.out.kept s)
        have HOq := Lib.hid (HO.out.kept s)
        have hzq := s.size
        have Bq : Below w.heap.size w wq := Below.trans hb (s.mono hz)
        have n10 := b10.lt
        have n11 := b11.lt
        have n8q := b8q.lt
        have c10 := fun i => b10.cell i
        have c11 := fun i => b11.cell i
        have c8 := fun i => b8q.cell i
        have f8 := fun i => b8q.frozen i
        have hs8 : ∀ b, b ≠ w2.heap.size → (((wq.setCell ⟨w2.heap.size, 0, none⟩ (.slice X m1.own.length x)).setCell ⟨w2.heap.size, 1, none⟩ (.slice Y m1.inn.length y)).setCell ⟨w2.heap.size, 2, none⟩ (.slice Z m1.gs.length z)).heap[b]? = wq.heap[b]? := fun b hb => by
          rw [Below.heap_setCell _ _ _ _ hb, Below.heap_setCell _ _ _ _ hb, Below.heap_setCell _ _ _ _ hb]
        have hz8 : (((wq.setCell ⟨w2.heap.size, 0, none⟩ (.slice X m1.own.length x)).setCell ⟨w2.heap.size, 1, none⟩ (.slice Y m1.inn.length y)).setCell ⟨w2.heap.size, 2, none⟩ (.slice Z m1.gs.length z)).heap.size = wq.heap.size := by simp [World.setCell]
        have HB8n : Hid (Blk (((wq.setCell ⟨w2.heap.size, 0, none⟩ (.slice X m1.own.length x)).setCell ⟨w2.heap.size, 1, none⟩ (.slice Y m1.inn.length y)).setCell ⟨w2.heap.size, 2, none⟩ (.slice Z m1.gs.length z)) w2.heap.size 40 #[.slice X m1.own.length x, .slice Y m1.inn.length y, .slice Z m1.gs.length z]) := Lib.hid b8q.put3q
        have HB4n : Hid (Blk (((wq.setCell ⟨w2.heap.size, 0, none⟩ (.slice X m1.own.length x)).setCell ⟨w2.heap.size, 1, none⟩ (.slice Y m1.inn.length y)).setCell ⟨w2.heap.size, 2, none⟩ (.slice Z m1.gs.length z)) (w.heap.size + 1) 40 #[.slice none 0 0, .slice none 0 0, .slice none 0 0]) := Lib.hid ((hs8 _ (by omega)).trans HB4q.out)
        have hx8 := fun j e => (HNE.out j e).1
        have HOn : Hid (OwnQ (((wq.setCell ⟨w2.heap.size, 0, none⟩ (.slice X m1.own.length x)).setCell ⟨w2.heap.size, 1, none⟩ (.slice Y m1.inn.length y)).setCell ⟨w2.heap.size, 2, none⟩ (.slice Z m1.gs.length z)) w.heap.size (w2.heap.size + 1) (.slice B Ck.length cap) Ck) := Lib.hid (((HOq.out.far (by omega) hx8).far (by omega) hx8).far (by omega) hx8)
        have HMn : Hid (MRowO (((wq.setCell ⟨w2.heap.size, 0, none⟩ (.slice X m1.own.length x)).setCell ⟨w2.heap.size, 1, none⟩ (.slice Y m1.inn.length y)).setCell ⟨w2.heap.size, 2, none⟩ (.slice Z m1.gs.length z)) wk.heap.size (mcv X m1.own.length x Y m1.inn.length y Z m1.gs.length z) m1 ∧ RRowO (((wq.setCell ⟨w2.heap.size, 0, none⟩ (.slice X m1.own.length x)).setCell ⟨w2.heap.size, 1, none⟩ (.slice Y m1.inn.length y)).setCell ⟨w2.heap.size, 2, none⟩ (.slice Z m1.gs.length z)) wk.heap.size (.agg #[.bool r1.done, .int .i64 r1.piece, .slice U r1.out.length u]) r1) := Lib.hid ⟨HMM.out.1.of_heap (fun b _ h1 => hs8 b (by omega)), HMM.out.2.of_heap (fun b _ h1 => hs8 b (by omega))⟩
        have Bn : Below w.heap.size w (((wq.setCell ⟨w2.heap.size, 0, none⟩ (.slice X m1.own.length x)).setCell ⟨w2.heap.size, 1, none⟩ (.slice Y m1.inn.length y)).setCell ⟨w2.heap.size, 2, none⟩ (.slice Z m1.gs.length z)) := belo
        have hckl : Ck.length ≤ 1000000 := by have := HLK.out; omega
        have HHz := Lib.hid hz8
        have HSZ := Lib.hid hs8
        clear b10 b11 b8q hmr hs8 hz8 hx8 HB8 HB4 HO HB4q HOq HMM
        have HOL2 : Hid (∀ j, (Value.slice B Ck.length cap).ownBlock = some j → j < wk.heap.size) := Lib.hid (fun j e => (HOL.out j e).2)
        have HU : Hid (Row .i64 (((wq.setCell ⟨w2.heap.size, 0, none⟩ (.slice X m1.own.length x)).setCell ⟨w2.heap.size, 1, none⟩ (.slice Y m1.inn.length y)).setCell ⟨w2.heap.size, 2, none⟩ (.slice Z m1.gs.length z)) U r1.out ∧ ∀ x, U = some x → wk.heap.size ≤ x.block) := Lib.hid (by
          obtain ⟨U', u', e, q1, q2⟩ := HMn.out.2
          injection e with e
          simp only [Array.mk.injEq, List.cons.injEq, Value.slice.injEq, and_true, true_and] at e
          obtain ⟨rfl, rfl⟩ := e
          exact ⟨q1, q2⟩)
        have HSA : Hid (((((wq.setCell ⟨w2.heap.size, 0, none⟩ (.slice X m1.own.length x)).setCell ⟨w2.heap.size, 1, none⟩ (.slice Y m1.inn.length y)).setCell ⟨w2.heap.size, 2, none⟩ (.slice Z m1.gs.length z)).alloc (.cells #[.bool r1.done, .int .i64 r1.piece, .slice U r1.out.length u] 90)).heap.size = wq.heap.size + 1) := Lib.hid (by rw [World.size_alloc, HHz.out])
        have HMA : Hid (MRowO ((((wq.setCell ⟨w2.heap.size, 0, none⟩ (.slice X m1.own.length x)).setCell ⟨w2.heap.size, 1, none⟩ (.slice Y m1.inn.length y)).setCell ⟨w2.heap.size, 2, none⟩ (.slice Z m1.gs.length z)).alloc (.cells #[.bool r1.done, .int .i64 r1.piece, .slice U r1.out.length u] 90)) wk.heap.size (mcv X m1.own.length x Y m1.inn.length y Z m1.gs.length z) m1) := Lib.hid (HMn.out.1.kept belo)
        have HB8A : Hid (Blk ((((wq.setCell ⟨w2.heap.size, 0, none⟩ (.slice X m1.own.length x)).setCell ⟨w2.heap.size, 1, none⟩ (.slice Y m1.inn.length y)).setCell ⟨w2.heap.size, 2, none⟩ (.slice Z m1.gs.length z)).alloc (.cells #[.bool r1.done, .int .i64 r1.piece, .slice U r1.out.length u] 90)) w2.heap.size 40 #[.slice X m1.own.length x, .slice Y m1.inn.length y, .slice Z m1.gs.length z]) := Lib.hid (HB8n.out.alloc _)
        have HB4A : Hid (Blk ((((wq.setCell ⟨w2.heap.size, 0, none⟩ (.slice X m1.own.length x)).setCell ⟨w2.heap.size, 1, none⟩ (.slice Y m1.inn.length y)).setCell ⟨w2.heap.size, 2, none⟩ (.slice Z m1.gs.length z)).alloc (.cells #[.bool r1.done, .int .i64 r1.piece, .slice U r1.out.length u] 90)) (w.heap.size + 1) 40 #[.slice none 0 0, .slice none 0 0, .slice none 0 0]) := Lib.hid (HB4n.out.alloc _)
        have HBA : Hid (Below w.heap.size w ((((wq.setCell ⟨w2.heap.size, 0, none⟩ (.slice X m1.own.length x)).setCell ⟨w2.heap.size, 1, none⟩ (.slice Y m1.inn.length y)).setCell ⟨w2.heap.size, 2, none⟩ (.slice Z m1.gs.length z)).alloc (.cells #[.bool r1.done, .int .i64 r1.piece, .slice U r1.out.length u] 90))) := Lib.hid belo
        have HNW : Hid (∀ j, (Value.slice B Ck.length cap).ownBlock = some j → j ≠ w2.heap.size ∧ j ≠ w.heap.size + 1) := HNE
        go_wp2_with (at_builtin; go_must (refine wpList_append_res _ rfl _ _ rfl w.heap.size (w2.heap.size + 1) (.slice B Ck.length cap) Ck rfl (HOn.out.kept belo) wq.heap.size 1 r1 U u rfl (Blk.new' (by simp [World.setCell])) (HU.out.1.below belo) (fun a ea h0 => ⟨by have := HU.out.2 a ea; omega, fun e => by have h1 := HU.out.2 a ea; have h2 := HOL2.out _ e.symm; omega⟩) (by simp [World.setCell]; omega) hckl ?_))
        intro v' w6 OW hat hb6 hf6
        have hne6 : ∀ b, wk.heap.size ≤ b → some b ≠ (Value.slice B Ck.length cap).ownBlock := fun b hb e => by have := HOL2.out _ e.symm; omega
        have HX1 : Hid (MRowO w6 (w.heap.size + 3) (mcv X m1.own.length x Y m1.inn.length y Z m1.gs.length z) m1) := Lib.hid ((HMA.out.of_heap fun b hl h1 => hf6 b (by rw [HSA.out] at hl; exact hl) (hne6 b h1)).mono (by omega))
        have HX2 : Hid (Blk w6 w2.heap.size 40 #[.slice X m1.own.length x, .slice Y m1.inn.length y, .slice Z m1.gs.length z]) := Lib.hid ((hf6 _ (by omega) (fun e => (HNW.out _ e.symm).1 rfl)).trans HB8A.out)
        have HX3 : Hid (Blk w6 (w.heap.size + 1) 40 #[.slice none 0 0, .slice none 0 0, .slice none 0 0]) := Lib.hid ((hf6 _ (by omega) (fun e => (HNW.out _ e.symm).2 rfl)).trans HB4A.out)
        have HX4 : Hid (∀ j, v'.ownBlock = some j → j ≠ w2.heap.size ∧ j ≠ w.heap.size + 1) := Lib.hid (fun j e => by
          rcases hat with h | h
          · exact HNW.out j (by rw [← h]; exact e)
          · rw [h] at e
            injection e with e
            have := HSA.out
            omega)
        have HX5 : Hid (Below w.heap.size w w6) := Lib.hid (Below.trans HBA.out hb6)
        have HX6 := Lib.hid OW
        clear OW hat hb6 hf6 hne6
        go_wp2
        go_roundg g0
        case measure => omega
        case rel => exact ⟨k + 1, X, Y, Z, x, y, z, by go_num, by omega, by rw [HM1.out]; exact HX2.out, HX3.out, by rw [HM1.out]; exact HX1.out, by rw [HC1.out]; exact HX6.out, HX4.out, HX5.out⟩
theorem specRunOf_any (v : Value) (m : Mc) (L : List Ac) (A : Option Addr) (c : Nat) (w : World) (hr : MRow w v m) (ha : ARow w A L) (hl : SmM m) (hL : L.length ≤ 1048576) :
    Calls Tryd.prog 54 #[v, .slice A L.length c] w (GotRunS w (runM m L) (runOk m L)) := by
  cases h : runOk m L
  · have e : runM m L = (noM, []) := by unfold runM; rw [if_neg (by rw [h]; exact Bool.false_ne_true)]
    rw [e]
    exact specRunOf_no v m L A c w hr hl hL h
  · have e : runM m L = (runTo m L L.length, cameTo m L L.length) := by unfold runM; rw [if_pos h]
    rw [e]
    unfold runOk at h
    simp only [Bool.and_eq_true, decide_eq_true_eq] at h
    exact specRunOf_yes v m L A c w hr ha h.1 h.2
end Go.Proofs.YtnoccmghclmpnaaDoor

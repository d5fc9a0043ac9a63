/- A slice of ints that the call itself builds by append. -/
import Derived.Test.YtenjpfjbdjgobaaDoorFind6
namespace Go.Proofs.YtenjpfjbdjgobaaDoor
open Go.RowKit Go.Maps

/-- The slice v owns a row that holds the ints of L. -/
def OwnI (w : World) (base : Nat) (v : Value) (L : List Int) : Prop := w.ownsRow base 3 1 v L.length (L.map (Value.int .i64))

theorem OwnI.nil (w : World) (base : Nat) : OwnI w base (.slice none 0 0) [] := World.ownsRow_nil w base _ _
theorem OwnI.kept {w w' : World} {base : Nat} {v : Value} {L : List Int} (h : OwnI w base v L) (hb : Below w.heap.size w w') : OwnI w' base v L :=
  World.ownsRow.kept h (grown_of_below hb none) (by cases v.ownBlock with
    | none => exact .inl rfl
    | some k => exact .inr (by simp))
theorem OwnI.form {w : World} {base : Nat} {v : Value} {L : List Int} (h : OwnI w base v L) : ∃ A cap, v = .slice A L.length cap := by
  rcases h.2 with ⟨rfl, h0⟩ | ⟨g, cap, cur, rfl, _⟩
  · exact ⟨none, 0, by rw [h0]⟩
  · exact ⟨_, _, rfl⟩
theorem OwnI.row {w : World} {base : Nat} {A : Option Addr} {n cap : Nat} {L : List Int} (h : OwnI w base (.slice A n cap) L) : Row .i64 w A L := by
  rcases h.2 with ⟨_, h0⟩ | ⟨g, cap', cur, hv, _, hg, _⟩
  · left
    exact List.length_eq_zero_iff.1 h0
  · injection hv with hv _ _
    subst hv
    refine .inr ⟨g, 0, rfl, fun i hi => ?_⟩
    have h1 := World.ownsRow.cells h (g := g) rfl i (.int .i64 (L.getD i 0)) (by simp [List.getElem?_eq_getElem hi, List.getD])
    have e1 : (⟨g, 0, none⟩ : Addr).add i = ⟨g, 0 + i, none⟩ := by
      unfold Addr.add
      by_cases h : i = 0 <;> simp [h]
    rw [e1] at h1
    exact h1
/-- The block of a row that is not empty. -/
theorem OwnI.blk {w : World} {base : Nat} {A : Option Addr} {n cap : Nat} {L : List Int} (h : OwnI w base (.slice A n cap) L) (hL : 0 < L.length) :
    ∃ g cur, A = some ⟨g, 0, none⟩ ∧ Blk w g 3 cur ∧ L.length ≤ cur.size ∧ base ≤ g := by
  rcases h.2 with ⟨_, h0⟩ | ⟨g, cap', cur, hv, hb, hg, h1, _, h3, _⟩
  · omega
  · injection hv with hv _ _
    exact ⟨g, cur, hv, hg, by omega, hb⟩

/-- A block of another kind is not the row's own. -/
theorem OwnI.ne {w : World} {base : Nat} {v : Value} {L : List Int} (h : OwnI w base v L) {g : Nat} (hg : ∀ cur, w.heap[g]? ≠ some (.cells cur 3 (0, 0))) : some g ≠ v.ownBlock := fun e => by
  rcases h.2 with ⟨rfl, _⟩ | ⟨g', cap, cur, rfl, _, hg', _⟩
  · simp [Value.ownBlock] at e
  · simp [Value.ownBlock] at e
    subst e
    exact hg cur hg'
theorem Blk.other_type {w : World} {g : Nat} {t : TypeId} {cs : Array Value} (h : Blk w g t cs) (ht : t ≠ 3) : ∀ cur, w.heap[g]? ≠ some (.cells cur 3 (0, 0)) := fun cur e => by
  unfold Blk at h
  rw [h] at e
  injection e with e
  injection e with _ e _
  exact ht e
theorem Memo.other_type {w : World} {p : Q4} {b n : Nat} (h : Memo w p b n) : ∀ cur, w.heap[b]? ≠ some (.cells cur 3 (0, 0)) := fun cur e => by
  obtain ⟨D, ⟨es, clock, hb, _⟩, _⟩ := h
  rw [hb] at e
  cases e
theorem OwnI.only {w w' : World} {base mb : Nat} {v : Value} {L : List Int} (h : OwnI w base v L) (ho : Only mb w w') (hm : ∀ cur, w.heap[mb]? ≠ some (.cells cur 3 (0, 0))) : OwnI w' base v L := by
  refine ⟨h.1, ?_⟩
  rcases h.2 with h0 | ⟨g, cap, cur, rfl, hb, hg, rest⟩
  · exact .inl h0
  · refine .inr ⟨g, cap, cur, rfl, hb, ?_, rest⟩
    have hne : g ≠ mb := fun e => by subst e; exact hm cur hg
    rw [ho.2.2 g hne (Array.getElem?_eq_some_iff.1 hg).1]
    exact hg

/-- 'list = append(list, x)'. -/
theorem wpList_append_int {ops : Array Oper} {rest : List Oper} {o : Oper} {a : Act} {Q : Exit → Act → World → Prop} (w : World) (hgd : o.guard = none) (s x : Operand)
    (ho : o.op = .call { callee := .builtin .append, args := #[s, x], argTypes := #[23, 23] }) (base : Nat) (v : Value) (L : List Int) (hs : a.eval s = v) (h : OwnI w base v L)
    (gx c : Nat) (y : Int) (hx : a.eval x = .slice (some ⟨gx, 0, none⟩) 1 c) (hcx : w.cell? ⟨gx, 0, none⟩ = some (.int .i64 y)) (hbase : base ≤ w.heap.size) (hlen : L.length ≤ 1000000)
    (hK : ∀ v' w', OwnI w' base v' (L ++ [y]) → w.grownBy w' v.ownBlock → Below base w w' → wpList Tryd.prog ops Q rest (a.put o.dst v') w') : wpList Tryd.prog ops Q (o :: rest) a w := by
  obtain ⟨i0, hi, hz0, hz1, hz2⟩ := info_parts infoInt
  refine wpList_append_own w hgd s x 23 ho base 3 i0 (.int .i64 0) 1 8 Tryd.underlying23 hi hz0 hz1 hz2 rfl (by omega) v L.length (L.map (Value.int .i64)) hs h ⟨gx, 0, none⟩ 1 c [.int .i64 y] hx rfl ?_ (by simp [Value.oneCell'])
    (by unfold maxLen; omega) (by omega) hbase ?_
  · intro j u hj
    match j, hj with
    | 0, hj => simp at hj; subst hj; simpa [Addr.add] using hcx
  · intro v' w' hown hgrow _
    refine hK v' w' ?_ hgrow ((Below.refl base w).grown hgrow hbase (fun k hk => (World.ownsRow.lt h k hk).1))
    unfold OwnI
    rw [List.length_append, List.map_append]
    exact hown

theorem Finder.row {w w' : World} {p : Q4} {mp mr mf mb n base : Nat} {v : Value} {L : List Int} (h : Finder w p mp mr mf mb n) (ho : OwnI w base v L) (hg : w.grownBy w' v.ownBlock) : Finder w' p mp mr mf mb n := by
  refine ⟨(hg.block mp h.1.lt (ho.ne (h.1.other_type (by decide)))).trans h.1, (hg.block mr h.2.1.lt (ho.ne (h.2.1.other_type (by decide)))).trans h.2.1, (hg.block mf h.2.2.1.lt (ho.ne (h.2.2.1.other_type (by decide)))).trans h.2.2.1, ?_⟩
  obtain ⟨D, k1, k2⟩ := h.2.2.2
  exact ⟨D, k1.kept hg (ho.ne h.2.2.2.other_type), k2⟩

/-- What comes back: a slice that owns the ints of L. -/
def GotInts (w : World) (L : List Int) (e : Ending) (w' : World) : Prop :=
  ∃ A cap, e = .returned (.slice A L.length cap) ∧ OwnI w' w.heap.size (.slice A L.length cap) L ∧ Below w.heap.size w w'

/-- The amounts below m that can be given out of a slice. -/
def givC (xs : List Int) (m : Nat) : List Int := ((List.range m).filter fun (i : Nat) => canR xs (i : Int)).map fun (i : Nat) => (i : Int)
theorem givC_yes {xs : List Int} {m : Nat} (h : canR xs m = true) : givC xs (m + 1) = givC xs m ++ [(m : Int)] := by
  simp [givC, List.range_succ, List.filter_append, h]
theorem givC_no {xs : List Int} {m : Nat} (h : canR xs m = false) : givC xs (m + 1) = givC xs m := by
  simp [givC, List.range_succ, List.filter_append, h]
theorem givC_length (xs : List Int) (m : Nat) : (givC xs m).length ≤ m := by
  rw [givC, List.length_map]
  exact Nat.le_trans (List.length_filter_le _ _) (by simp)
theorem mem_givC {xs : List Int} {m : Nat} {x : Int} : x ∈ givC xs m ↔ 0 ≤ x ∧ x < m ∧ canR xs x = true := by
  simp only [givC, List.mem_map, List.mem_filter, List.mem_range]
  constructor
  · rintro ⟨i, ⟨h1, h2⟩, rfl⟩; exact ⟨by omega, by omega, h2⟩
  · rintro ⟨h1, h2, h3⟩
    obtain ⟨i, rfl⟩ := Int.eq_ofNat_of_zero_le h1
    exact ⟨i, ⟨by omega, h3⟩, rfl⟩
theorem givC_rising (xs : List Int) : ∀ m : Nat, (givC xs m).Pairwise (fun a b => a < b)
  | 0 => List.Pairwise.nil
  | m + 1 => by
    cases h : canR xs m
    · rw [givC_no h]; exact givC_rising xs m
    · rw [givC_yes h, List.pairwise_append]
      refine ⟨givC_rising xs m, List.pairwise_singleton _ _, fun a ha b hb => ?_⟩
      rw [List.mem_singleton] at hb
      subst hb
      exact (mem_givC.1 ha).2.1
theorem canR_out {xs : List Int} {n : Int} (h : okN xs n = false) : canR xs n = false := by rw [canR, fewR_out h]; rfl
theorem canR_in {xs : List Int} {n : Int} (h : okN xs n = true) : canR xs n = can (q4 xs) n := by rw [canR, fewR_in h, can_few]
theorem givC_none {xs : List Int} (h : okP xs = false) (m : Nat) : givC xs m = [] := by
  cases e : givC xs m with
  | nil => rfl
  | cons x l =>
    have hx : x ∈ givC xs m := by rw [e]; exact List.mem_cons_self
    have := (mem_givC.1 hx).2.2
    rw [canR_out (by simp [okN, h])] at this
    cases this

/-- All amounts up to a number that can be given. -/
def givenR (xs : List Int) (m : Int) : List Int := if 0 ≤ m ∧ m ≤ 99 then givC xs (m + 1).toNat else []
theorem givenR_length (xs : List Int) (m : Int) : (givenR xs m).length ≤ 100 := by
  unfold givenR
  split
  · exact Nat.le_trans (givC_length _ _) (by omega)
  · simp
theorem givenR_out {xs : List Int} {m : Int} (h : okN xs m = false) : givenR xs m = [] := by
  unfold givenR
  split
  · rename_i hh
    cases ho : okP xs
    · exact givC_none ho _
    · rw [okN_iff.2 ⟨ho, hh.1, hh.2⟩] at h; cases h
  · rfl

end Go.Proofs.YtenjpfjbdjgobaaDoor

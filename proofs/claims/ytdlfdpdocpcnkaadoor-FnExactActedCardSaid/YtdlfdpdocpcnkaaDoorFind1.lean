/- What the finder of fewest coins remembers: a map from shares to gifts, each the right one. -/
import Derived.Test.YtdlfdpdocpcnkaaDoorPu
import Derived.Maps.OwnOps
import Derived.Maps.OwnSet
import Derived.Maps.Views
import Derived.DeepKeys4
import Derived.KernelRfl
namespace Go.Proofs.YtdlfdpdocpcnkaaDoor
open Go.RowKit Go.Maps

/-- A share as a value, and its key. -/
abbrev sv (k a : Int) : Value := .agg #[.int .i64 k, .int .i64 a]
def klit (k a : Int) : Lit := .string (keyBytes [.int .i64 k, .int .i64 a])
/-- A gift as a value. -/
def gv : Option Q4 → Value
  | none => .agg #[.int .i64 0, .int .i64 0, .int .i64 0, .int .i64 0, .bool false]
  | some v => .agg #[.int .i64 v.a, .int .i64 v.b, .int .i64 v.c, .int .i64 v.d, .bool true]
theorem gv_inj {r s : Option Q4} (h : gv r = gv s) : r = s := by
  cases r with
  | none =>
    cases s with
    | none => rfl
    | some v => simp [gv] at h
  | some u =>
    cases s with
    | none => simp [gv] at h
    | some v =>
      obtain ⟨a, b, c, d⟩ := u
      obtain ⟨x, y, z, t⟩ := v
      simp [gv] at h
      obtain ⟨h1, h2, h3, h4⟩ := h
      subst h1; subst h2; subst h3; subst h4
      rfl
/-- How a gift reads. -/
def encG : Option Q4 → DataW Unit
  | none => .lit (.bool false)
  | some v => .agg [.lit (.int .i64 v.a), .lit (.int .i64 v.b), .lit (.int .i64 v.c), .lit (.int .i64 v.d)]
theorem encG_inj {r s : Option Q4} (h : encG r = encG s) : r = s := by
  cases r with
  | none =>
    cases s with
    | none => rfl
    | some v => simp [encG] at h
  | some u =>
    cases s with
    | none => simp [encG] at h
    | some v =>
      obtain ⟨a, b, c, d⟩ := u
      obtain ⟨x, y, z, t⟩ := v
      simp [encG] at h
      obtain ⟨h1, h2, h3, h4⟩ := h
      subst h1; subst h2; subst h3; subst h4
      rfl
open Classical in
noncomputable def giftElem (v : Value) : Option (DataW Unit × List MemPlace) := if h : ∃ r, v = gv r then some (encG (Classical.choose h), []) else none
theorem giftElem_mk (r : Option Q4) : giftElem (gv r) = some (encG r, []) := by
  have h : ∃ s, gv r = gv s := ⟨r, rfl⟩
  rw [giftElem, dif_pos h]
  rw [← gv_inj (Classical.choose_spec h)]
theorem giftElem_inv {v : Value} {r : Option Q4} {ps : List MemPlace} (h : giftElem v = some (encG r, ps)) : v = gv r := by
  unfold giftElem at h
  split at h
  · rename_i hh
    injection h with h
    injection h with h _
    rw [← encG_inj h]
    exact Classical.choose_spec hh
  · cases h

theorem laidOutP : laidOutB Tryd.prog = true := by kernel_rfl
set_option maxRecDepth 100000 in
theorem rowShare : (165 : TypeId) < Tryd.prog.types.size := of_decide_eq_true (by kernel_rfl)
set_option maxRecDepth 100000 in
theorem wideShare : (match Tryd.prog.underlying 165 with | some (.array _ _) | some (.struct _) => true | _ => false) = true := by kernel_rfl
set_option maxRecDepth 100000 in
theorem lawShare : Keyed Tryd.prog 165 := Keyed.of_law (deep_law_laid laidOutP (m := 3) (by omega) rowShare (by kernel_rfl) wideShare)
theorem zeroGift (w : World) : (zeroValue 167).run Tryd.prog w = .ok (gv none) w := by kernel_rfl

set_option maxRecDepth 100000 in
theorem keyOf_share {k a : Int} (hk : (Lit.int .i64 k).wf = true) (ha : (Lit.int .i64 a).wf = true) : keyOf Tryd.prog 165 (sv k a) = some (klit k a) := by
  unfold keyOf
  rw [Tryd.underlying165]
  simp only
  rw [if_pos (by kernel_rfl)]
  have e : Tryd.prog.keyLits (Tryd.prog.types.size + 1) 165 (sv k a).cells.toList = some [.int .i64 k, .int .i64 a] := by
    show Tryd.prog.keyLits (_ + 1 + 1) 165 [.int .i64 k, .int .i64 a] = _
    unfold Program.keyLits
    rw [Tryd.underlying165]
    have e2 : ∀ (d : Nat) (x : Int), (Lit.int .i64 x).wf = true → Tryd.prog.keyLits (d + 1) 3 [.int .i64 x] = some [.int .i64 x] := fun d x hx => by
      unfold Program.keyLits
      rw [Tryd.underlying3]
      simp [hx]
    have c1 : Tryd.prog.cellsOf 165 = 2 := by kernel_rfl
    have c2 : Tryd.prog.cellsOf 3 = 1 := by kernel_rfl
    simp [c1, c2, e2 _ _ hk, e2 _ _ ha]
  rw [e]
  rfl

theorem klit_inj {k a k' a' : Int} (hk : (Lit.int .i64 k).wf = true) (ha : (Lit.int .i64 a).wf = true) (hk' : (Lit.int .i64 k').wf = true) (ha' : (Lit.int .i64 a').wf = true) (h : klit k a = klit k' a') : k = k' ∧ a = a' := by
  have h1 := keyOf_share hk ha
  have h2 := keyOf_share hk' ha'
  rw [← h] at h2
  have := lawShare.inj h1 h2
  simp at this
  exact this
theorem wf_small {n : Int} (h0 : 0 ≤ n) (h1 : n ≤ 1000) : (Lit.int .i64 n).wf = true := WalkArith.wf_i64 (by omega)

/-- Block b is a map of at most n entries, each of which holds what the function finds. -/
def Memo (w : World) (p : Q4) (b n : Nat) : Prop :=
  ∃ D : DataW Unit, w.ownsMap Tryd.prog 165 giftElem b n D ∧ IsMap D ∧ ∀ (k : Nat) (a : Int), k ≤ 4 → 0 ≤ a → a ≤ 99 → has D (klit k a) = true → ∀ z, D.atKey (klit k a) z = encG (fewest p k a)

theorem Memo.made (w : World) (p : Q4) : Memo (w.alloc (.map #[] 0)) p w.heap.size 0 :=
  ⟨.map [], World.ownsMap_made w _ _ _, ⟨[], rfl⟩, fun k a _ _ _ h => by simp [has] at h⟩
theorem Memo.lt {w : World} {p : Q4} {b n : Nat} (h : Memo w p b n) : b < w.heap.size := by obtain ⟨D, h, _⟩ := h; exact h.lt
theorem Memo.grown {w w' : World} {p : Q4} {b n : Nat} {row : Option Nat} (h : Memo w p b n) (hg : w.grownBy w' row) (hne : some b ≠ row) : Memo w' p b n := by
  obtain ⟨D, h1, h2⟩ := h
  exact ⟨D, h1.kept hg hne, h2⟩
theorem Memo.kept {w w' : World} {p : Q4} {b n : Nat} (h : Memo w p b n) (hb : Below w.heap.size w w') : Memo w' p b n := h.grown (grown_of_below hb none) (by simp)
theorem Memo.mono {w : World} {p : Q4} {b n n' : Nat} (h : Memo w p b n) (hn : n ≤ n') : Memo w p b n' := by
  obtain ⟨D, h1, h2⟩ := h
  exact ⟨D, h1.mono hn, h2⟩

/-- A look into what is remembered. -/
theorem Memo.look {w : World} {p : Q4} {b n : Nat} (h : Memo w p b n) {k : Nat} (hk : k ≤ 4) {a : Int} (h0 : 0 ≤ a) (h1 : a ≤ 99) :
    (Instr.lookup 162 (.map (some b)) (sv k a) true).run Tryd.prog w = .ok (.tuple #[gv none, .bool false]) w ∨
    (Instr.lookup 162 (.map (some b)) (sv k a) true).run Tryd.prog w = .ok (.tuple #[gv (fewest p k a), .bool true]) w := by
  obtain ⟨D, h2, h3, h4⟩ := h
  obtain ⟨v, ps, hrun, hv⟩ := h2.look_ok lawShare Tryd.underlying162 (zeroGift w) (giftElem_mk none) (keyOf_share (k := (k : Int)) (a := a) (wf_small (by omega) (by omega)) (wf_small h0 (by omega)))
  cases hh : has D (klit k a)
  · rw [atKey_of_not_has hh] at hv
    rw [hh, giftElem_inv hv] at hrun
    exact .inl hrun
  · rw [h4 k a hk h0 h1 hh] at hv
    rw [hh, giftElem_inv hv] at hrun
    exact .inr hrun

/-- 'remembered[s] = best' at the operation. -/
theorem wpList_memo {ops : Array Oper} {rest : List Oper} {o : Oper} {a : Act} {Q : Exit → Act → World → Prop} (w : World) (hg : o.guard = none) (m x v : Operand) (hop : o.op = Op.mapUpdate 162 m x v)
    (p : Q4) (b n : Nat) (hm : a.eval m = .map (some b)) (h : Memo w p b n) (hn : n < maxLen) (k : Nat) (hk : k ≤ 4) (c : Int) (h0 : 0 ≤ c) (h1 : c ≤ 99) (hx : a.eval x = sv k c) (hv : a.eval v = gv (fewest p k c))
    (hK : ∀ w', Memo w' p b (n + 1) → w.grownBy w' (some b) → wpList Tryd.prog ops Q rest (a.put o.dst undef) w') : wpList Tryd.prog ops Q (o :: rest) a w := by
  obtain ⟨D, h2, h3, h4⟩ := h
  have wk : (Lit.int .i64 (k : Int)).wf = true := wf_small (by omega) (by omega)
  have wc : (Lit.int .i64 c).wf = true := wf_small h0 (by omega)
  have hkey := keyOf_share wk wc
  refine wpList_mapUpdate_own w hg m x v 162 hop 165 167 lawShare Tryd.underlying162 giftElem b n D hm h2 hn _ _ (klit k c) hx hv hkey (encG (fewest p k c)) [] (giftElem_mk _) ?_
  intro w' h5 h6
  refine hK w' ⟨_, h5, h3.put _ _, fun k' c' hk' h0' h1' hh z => ?_⟩ h6
  by_cases e : klit k' c' = klit k c
  · obtain ⟨e1, e2⟩ := klit_inj (wf_small (by omega) (by omega)) (wf_small h0' (by omega)) wk wc e
    have e1' : k' = k := by omega
    subst e1'; subst e2
    exact atKey_put_same h3 (lawShare.key hkey) _ _
  · rw [atKey_put_other e]
    rw [has_put_other e] at hh
    exact h4 k' c' hk' h0' h1' hh z

end Go.Proofs.YtdlfdpdocpcnkaaDoor

/- Find1, Find2, in one text. -/
import Derived.Test.YtnoccmghclmpnaaDoorPu
import Derived.Maps.OwnOps
import Derived.Maps.OwnSet
import Derived.Maps.Views
import Derived.DeepKeys4
import Derived.KernelRfl
import Derived.Deep.LoopGhost
namespace Go.Proofs.YtnoccmghclmpnaaDoor
open Go.RowKit Go.Maps

/-- A share as a value, and its key. -/
abbrev sv (k a : Int) : Value := .agg #[.int .i64 k, .int .i64 a]
def klit (k a : Int) : Lit := .string (keyBytes [.int .i64 k, .int .i64 a])
/-- A gift as a value. -/
def gv : Option Q4 → Value
  | none => .agg #[.int .i64 0, .int .i64 0, .int .i64 0, .int .i64 0, .bool false]
  | some v => .agg #[.int .i64 v.a, .int .i64 v.b, .int .i64 v.c, .int .i64 v.d, .bool true]
theorem gv_inj {r s : Option Q4} (h : gv r = gv s) : r = s := by
  cases r with
  | none =>
    cases s with
    | none => rfl
    | some v => simp [gv] at h
  | some u =>
    cases s with
    | none => simp [gv] at h
    | some v =>
      obtain ⟨a, b, c, d⟩ := u
      obtain ⟨x, y, z, t⟩ := v
      simp [gv] at h
      obtain ⟨h1, h2, h3, h4⟩ := h
      subst h1; subst h2; subst h3; subst h4
      rfl
/-- How a gift reads. -/
def encG : Option Q4 → DataW Unit
  | none => .lit (.bool false)
  | some v => .agg [.lit (.int .i64 v.a), .lit (.int .i64 v.b), .lit (.int .i64 v.c), .lit (.int .i64 v.d)]
theorem encG_inj {r s : Option Q4} (h : encG r = encG s) : r = s := by
  cases r with
  | none =>
    cases s with
    | none => rfl
    | some v => simp [encG] at h
  | some u =>
    cases s with
    | none => simp [encG] at h
    | some v =>
      obtain ⟨a, b, c, d⟩ := u
      obtain ⟨x, y, z, t⟩ := v
      simp [encG] at h
      obtain ⟨h1, h2, h3, h4⟩ := h
      subst h1; subst h2; subst h3; subst h4
      rfl
open Classical in
noncomputable def giftElem (v : Value) : Option (DataW Unit × List MemPlace) := if h : ∃ r, v = gv r then some (encG (Classical.choose h), []) else none
theorem giftElem_mk (r : Option Q4) : giftElem (gv r) = some (encG r, []) := by
  have h : ∃ s, gv r = gv s := ⟨r, rfl⟩
  rw [giftElem, dif_pos h]
  rw [← gv_inj (Classical.choose_spec h)]
theorem giftElem_inv {v : Value} {r : Option Q4} {ps : List MemPlace} (h : giftElem v = some (encG r, ps)) : v = gv r := by
  unfold giftElem at h
  split at h
  · rename_i hh
    injection h with h
    injection h with h _
    rw [← encG_inj h]
    exact Classical.choose_spec hh
  · cases h

theorem laidOutP : laidOutB Tryd.prog = true := by kernel_rfl
set_option maxRecDepth 100000 in
theorem rowShare : (146 : TypeId) < Tryd.prog.types.size := of_decide_eq_true (by kernel_rfl)
set_option maxRecDepth 100000 in
theorem wideShare : (match Tryd.prog.underlying 146 with | some (.array _ _) | some (.struct _) => true | _ => false) = true := by kernel_rfl
set_option maxRecDepth 100000 in
theorem lawShare : Keyed Tryd.prog 146 := Keyed.of_law (deep_law_laid laidOutP (m := 3) (by omega) rowShare (by kernel_rfl) wideShare)
theorem zeroGift (w : World) : (zeroValue 148).run Tryd.prog w = .ok (gv none) w := by kernel_rfl

set_option maxRecDepth 100000 in
theorem keyOf_share {k a : Int} (hk : (Lit.int .i64 k).wf = true) (ha : (Lit.int .i64 a).wf = true) : keyOf Tryd.prog 146 (sv k a) = some (klit k a) := by
  unfold keyOf
  rw [Tryd.underlying146]
  simp only
  rw [if_pos (by kernel_rfl)]
  have e : Tryd.prog.keyLits (Tryd.prog.types.size + 1) 146 (sv k a).cells.toList = some [.int .i64 k, .int .i64 a] := by
    show Tryd.prog.keyLits (_ + 1 + 1) 146 [.int .i64 k, .int .i64 a] = _
    unfold Program.keyLits
    rw [Tryd.underlying146]
    have e2 : ∀ (d : Nat) (x : Int), (Lit.int .i64 x).wf = true → Tryd.prog.keyLits (d + 1) 3 [.int .i64 x] = some [.int .i64 x] := fun d x hx => by
      unfold Program.keyLits
      rw [Tryd.underlying3]
      simp [hx]
    have c1 : Tryd.prog.cellsOf 146 = 2 := by kernel_rfl
    have c2 : Tryd.prog.cellsOf 3 = 1 := by kernel_rfl
    simp [c1, c2, e2 _ _ hk, e2 _ _ ha]
  rw [e]
  rfl

theorem wf_small {n : Int} (h0 : 0 ≤ n) (h1 : n ≤ 1000) : (Lit.int .i64 n).wf = true := WalkArith.wf_i64 (by omega)

/-- Block b is a map of at most n entries, each of which holds what the function finds. -/
def Memo (w : World) (p : Q4) (b n : Nat) : Prop :=
  ∃ D : DataW Unit, w.ownsMap Tryd.prog 146 giftElem b n D ∧ IsMap D ∧ ∀ (k : Nat) (a : Int), k ≤ 4 → 0 ≤ a → a ≤ 99 → has D (klit k a) = true → ∀ z, D.atKey (klit k a) z = encG (fewest p k a)

theorem Memo.made (w : World) (p : Q4) : Memo (w.alloc (.map #[] 0)) p w.heap.size 0 :=
  ⟨.map [], World.ownsMap_made w _ _ _, ⟨[], rfl⟩, fun k a _ _ _ h => by simp [has] at h⟩
theorem Memo.lt {w : World} {p : Q4} {b n : Nat} (h : Memo w p b n) : b < w.heap.size := by obtain ⟨D, h, _⟩ := h; exact h.lt
theorem Memo.grown {w w' : World} {p : Q4} {b n : Nat} {row : Option Nat} (h : Memo w p b n) (hg : w.grownBy w' row) (hne : some b ≠ row) : Memo w' p b n := by
  obtain ⟨D, h1, h2⟩ := h
  exact ⟨D, h1.kept hg hne, h2⟩
theorem Memo.kept {w w' : World} {p : Q4} {b n : Nat} (h : Memo w p b n) (hb : Below w.heap.size w w') : Memo w' p b n := h.grown (grown_of_below hb none) (by simp)
theorem Memo.mono {w : World} {p : Q4} {b n n' : Nat} (h : Memo w p b n) (hn : n ≤ n') : Memo w p b n' := by
  obtain ⟨D, h1, h2⟩ := h
  exact ⟨D, h1.mono hn, h2⟩

/-- A look into what is remembered. -/
theorem Memo.look {w : World} {p : Q4} {b n : Nat} (h : Memo w p b n) {k : Nat} (hk : k ≤ 4) {a : Int} (h0 : 0 ≤ a) (h1 : a ≤ 99) :
    (Instr.lookup 143 (.map (some b)) (sv k a) true).run Tryd.prog w = .ok (.tuple #[gv none, .bool false]) w ∨
    (Instr.lookup 143 (.map (some b)) (sv k a) true).run Tryd.prog w = .ok (.tuple #[gv (fewest p k a), .bool true]) w := by
  obtain ⟨D, h2, h3, h4⟩ := h
  obtain ⟨v, ps, hrun, hv⟩ := h2.look_ok lawShare Tryd.underlying143 (zeroGift w) (giftElem_mk none) (keyOf_share (k := (k : Int)) (a := a) (wf_small (by omega) (by omega)) (wf_small h0 (by omega)))
  cases hh : has D (klit k a)
  · rw [atKey_of_not_has hh] at hv
    rw [hh, giftElem_inv hv] at hrun
    exact .inl hrun
  · rw [h4 k a hk h0 h1 hh] at hv
    rw [hh, giftElem_inv hv] at hrun
    exact .inr hrun

end Go.Proofs.YtnoccmghclmpnaaDoor

namespace Go.Proofs.YtnoccmghclmpnaaDoor
open Go.RowKit Go.Maps

set_option maxRecDepth 100000 in
theorem coins_any (a b c d : Int) (w : World) (ha : 0 ≤ a ∧ a ≤ 20) (hb : 0 ≤ b ∧ b ≤ 20) (hc : 0 ≤ c ∧ c ≤ 20) (hd : 0 ≤ d ∧ d ≤ 20) :
    Calls Tryd.prog 95 #[pv a b c d] w fun e w' => e = .returned (.int .i64 (a + b + c + d)) ∧ Below w.heap.size w w' := by
  have i0 := index0 a b c d
  have i1 := index1 a b c d
  have i2 := index2 a b c d
  have i3 := index3 a b c d
  obtain ⟨ha1, ha2⟩ := ha
  obtain ⟨hb1, hb2⟩ := hb
  obtain ⟨hc1, hc2⟩ := hc
  obtain ⟨hd1, hd2⟩ := hd
  go_enter Tryd.func95, Tryd.ntmps95
  go_wp2
  refine wp_loop_rounds 5 ?_
  rw [rounds_succ]
  go_wp2
  rw [rounds_succ]
  go_wp2
  rw [rounds_succ]
  go_wp2
  rw [rounds_succ]
  go_wp2
  rw [rounds_succ]
  go_wp2
  go_ret
  exact ⟨ret_int (by omega), (Below.refl _ _).alloc (Nat.le_refl _) _⟩

/-- The cells of a gift. -/
def gc : Option Q4 → Array Value
  | none => #[.int .i64 0, .int .i64 0, .int .i64 0, .int .i64 0, .bool false]
  | some v => #[.int .i64 v.a, .int .i64 v.b, .int .i64 v.c, .int .i64 v.d, .bool true]

/-- The blocks of a finder: the purse (mp), the variable that holds the map (mr), the finder's own variable (mf), the map (mb). -/
def Finder (w : World) (p : Q4) (mp mr mf mb n : Nat) : Prop :=
  Blk w mp 69 (qc p) ∧ Blk w mr 143 #[.map (some mb)] ∧
  Blk w mf 144 #[.func (.func 93) #[] #[.pointer (some ⟨mr, 0, none⟩), .pointer (some ⟨mp, 0, none⟩), .pointer (some ⟨mf, 0, none⟩)]] ∧ Memo w p mb n

theorem Memo.ne {w : World} {p : Q4} {b n g : Nat} {t : TypeId} {cs : Array Value} (h : Memo w p b n) (hg : Blk w g t cs) : g ≠ b := fun e => by
  subst e
  obtain ⟨D, ⟨es, clock, hb, _⟩, _⟩ := h
  unfold Blk at hg
  rw [hb] at hg
  cases hg
theorem Finder.kept {w w' : World} {p : Q4} {mp mr mf mb n : Nat} (h : Finder w p mp mr mf mb n) (hb : Below w.heap.size w w') : Finder w' p mp mr mf mb n :=
  ⟨h.1.kept hb, h.2.1.kept hb, h.2.2.1.kept hb, h.2.2.2.kept hb⟩
theorem Finder.far {w : World} {p : Q4} {mp mr mf mb n : Nat} (h : Finder w p mp mr mf mb n) {a : Addr} (h1 : mp ≠ a.block) (h2 : mr ≠ a.block) (h3 : mf ≠ a.block) (h4 : mb ≠ a.block) (v : Value) : Finder (w.setCell a v) p mp mr mf mb n := by
  refine ⟨h.1.far h1 v, h.2.1.far h2 v, h.2.2.1.far h3 v, ?_⟩
  obtain ⟨D, k1, k2⟩ := h.2.2.2
  exact ⟨D, k1.setCell h4 v, k2⟩
theorem Finder.alloc {w : World} {p : Q4} {mp mr mf mb n : Nat} (h : Finder w p mp mr mf mb n) (o : Obj) : Finder (w.alloc o) p mp mr mf mb n := h.kept belo
theorem Finder.drew {w : World} {p : Q4} {mp mr mf mb n : Nat} (h : Finder w p mp mr mf mb n) : Finder w.drew p mp mr mf mb n := h
theorem Finder.drewN {w : World} {p : Q4} {mp mr mf mb n : Nat} (h : Finder w p mp mr mf mb n) (k : Nat) : Finder (w.drewN k) p mp mr mf mb n := h.kept belo
theorem Finder.grown {w w' : World} {p : Q4} {mp mr mf mb n n' : Nat} (h : Finder w p mp mr mf mb n) (hg : w.grownBy w' (some mb)) (hM : Memo w' p mb n') : Finder w' p mp mr mf mb n' :=
  ⟨(hg.block mp h.1.lt (by have := h.2.2.2.ne h.1; simpa using this)).trans h.1, (hg.block mr h.2.1.lt (by have := h.2.2.2.ne h.2.1; simpa using this)).trans h.2.1, (hg.block mf h.2.2.1.lt (by have := h.2.2.2.ne h.2.2.1; simpa using this)).trans h.2.2.1, hM⟩
theorem Blk.grown {w w' : World} {g b : Nat} {t : TypeId} {cs : Array Value} (h : Blk w g t cs) (hg : w.grownBy w' (some b)) (hne : g ≠ b) : Blk w' g t cs := (hg.block g h.lt (by simpa using hne)).trans h
theorem Only.alloc {g : Nat} {w w' : World} (h : Only g w w') (h1 : g ≤ w'.heap.size) (o : Obj) : Only g w (w'.alloc o) :=
  ⟨Below.alloc h.1 h1 o, by have := h.2.1; simp; omega, fun g2 hne hl => (Below.heap_alloc _ _ g2 (by have := h.2.1; omega)).trans (h.2.2 g2 hne hl)⟩
theorem Only.drew {g : Nat} {w w' : World} (h : Only g w w') : Only g w w'.drew := ⟨h.1.drew, h.2.1, h.2.2⟩

theorem Only.worths {g : Nat} {w w' : World} (h : Only g w w') (hT : Worths w) (hg : 0 ≠ g) : Worths w' := by
  have hz : 0 < w.heap.size := World.block_lt_of_cell? w _ hT.1
  have e := h.2.2 0 hg hz
  exact ⟨(World.cell?_of_block e).trans hT.1, (World.cell?_of_block e).trans hT.2.1, (World.cell?_of_block e).trans hT.2.2.1, (World.cell?_of_block e).trans hT.2.2.2⟩
theorem Worths.ne {w : World} (hT : Worths w) {p : Q4} {b n : Nat} (h : Memo w p b n) : 0 ≠ b := fun e => by
  subst e
  obtain ⟨D, ⟨es, clock, hb, _⟩, _⟩ := h
  have := hT.1
  simp [World.cell?, hb] at this


end Go.Proofs.YtnoccmghclmpnaaDoor

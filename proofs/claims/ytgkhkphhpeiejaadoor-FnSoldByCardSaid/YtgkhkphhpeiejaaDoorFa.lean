/- Find1, Find2, in one text. -/
import Derived.Test.YtgkhkphhpeiejaaDoorPu
import Derived.Maps.OwnOps
import Derived.Maps.OwnSet
import Derived.Maps.Views
import Derived.DeepKeys4
import Derived.KernelRfl
import Derived.Deep.LoopGhost
namespace Go.Proofs.YtgkhkphhpeiejaaDoor
open Go.RowKit Go.Maps

/-- A share as a value, and its key. -/
abbrev sv (k a : Int) : Value := .agg #[.int .i64 k, .int .i64 a]
def klit (k a : Int) : Lit := .string (keyBytes [.int .i64 k, .int .i64 a])
/-- A gift as a value. -/
def gv : Option Q4 → Value
  | none => .agg #[.int .i64 0, .int .i64 0, .int .i64 0, .int .i64 0, .bool false]
  | some v => .agg #[.int .i64 v.a, .int .i64 v.b, .int .i64 v.c, .int .i64 v.d, .bool true]
theorem gv_inj {r s : Option Q4} (h : gv r = gv s) : r = s := by
  cases r with
  | none =>
    cases s with
    | none => rfl
    | some v => simp [gv] at h
  | some u =>
    cases s with
    | none => simp [gv] at h
    | some v =>
      obtain ⟨a, b, c, d⟩ := u
      obtain ⟨x, y, z, t⟩ := v
      simp [gv] at h
      obtain ⟨h1, h2, h3, h4⟩ := h
      subst h1; subst h2; subst h3; subst h4
      rfl
/-- How a gift reads. -/
def encG : Option Q4 → DataW Unit
  | none => .lit (.bool false)
  | some v => .agg [.lit (.int .i64 v.a), .lit (.int .i64 v.b), .lit (.int .i64 v.c), .lit (.int .i64 v.d)]
theorem encG_inj {r s : Option Q4} (h : encG r = encG s) : r = s := by
  cases r with
  | none =>
    cases s with
    | none => rfl
    | some v => simp [encG] at h
  | some u =>
    cases s with
    | none => simp [encG] at h
    | some v =>
      obtain ⟨a, b, c, d⟩ := u
      obtain ⟨x, y, z, t⟩ := v
      simp [encG] at h
      obtain ⟨h1, h2, h3, h4⟩ := h
      subst h1; subst h2; subst h3; subst h4
      rfl
open Classical in
noncomputable def giftElem (v : Value) : Option (DataW Unit × List MemPlace) := if h : ∃ r, v = gv r then some (encG (Classical.choose h), []) else none
theorem giftElem_mk (r : Option Q4) : giftElem (gv r) = some (encG r, []) := by
  have h : ∃ s, gv r = gv s := ⟨r, rfl⟩
  rw [giftElem, dif_pos h]
  rw [← gv_inj (Classical.choose_spec h)]
theorem giftElem_inv {v : Value} {r : Option Q4} {ps : List MemPlace} (h : giftElem v = some (encG r, ps)) : v = gv r := by
  unfold giftElem at h
  split at h
  · rename_i hh
    injection h with h
    injection h with h _
    rw [← encG_inj h]
    exact Classical.choose_spec hh
  · cases h

theorem laidOutP : laidOutB Tryd.prog = true := by kernel_rfl
set_option maxRecDepth 100000 in
theorem rowShare : (205 : TypeId) < Tryd.prog.types.size := of_decide_eq_true (by kernel_rfl)
set_option maxRecDepth 100000 in
theorem wideShare : (match Tryd.prog.underlying 205 with | some (.array _ _) | some (.struct _) => true | _ => false) = true := by kernel_rfl
set_option maxRecDepth 100000 in
theorem lawShare : Keyed Tryd.prog 205 := Keyed.of_law (deep_law_laid laidOutP (m := 3) (by omega) rowShare (by kernel_rfl) wideShare)
theorem zeroGift (w : World) : (zeroValue 207).run Tryd.prog w = .ok (gv none) w := by kernel_rfl

set_option maxRecDepth 100000 in
theorem keyOf_share {k a : Int} (hk : (Lit.int .i64 k).wf = true) (ha : (Lit.int .i64 a).wf = true) : keyOf Tryd.prog 205 (sv k a) = some (klit k a) := by
  unfold keyOf
  rw [Tryd.underlying205]
  simp only
  rw [if_pos (by kernel_rfl)]
  have e : Tryd.prog.keyLits (Tryd.prog.types.size + 1) 205 (sv k a).cells.toList = some [.int .i64 k, .int .i64 a] := by
    show Tryd.prog.keyLits (_ + 1 + 1) 205 [.int .i64 k, .int .i64 a] = _
    unfold Program.keyLits
    rw [Tryd.underlying205]
    have e2 : ∀ (d : Nat) (x : Int), (Lit.int .i64 x).wf = true → Tryd.prog.keyLits (d + 1) 3 [.int .i64 x] = some [.int .i64 x] := fun d x hx => by
      unfold Program.keyLits
      rw [Tryd.underlying3]
      simp [hx]
    have c1 : Tryd.prog.cellsOf 205 = 2 := by kernel_rfl
    have c2 : Tryd.prog.cellsOf 3 = 1 := by kernel_rfl
    simp [c1, c2, e2 _ _ hk, e2 _ _ ha]
  rw [e]
  rfl

theorem klit_inj {k a k' a' : Int} (hk : (Lit.int .i64 k).wf = true) (ha : (Lit.int .i64 a).wf = true) (hk' : (Lit.int .i64 k').wf = true) (ha' : (Lit.int .i64 a').wf = true) (h : klit k a = klit k' a') : k = k' ∧ a = a' := by
  have h1 := keyOf_share hk ha
  have h2 := keyOf_share hk' ha'
  rw [← h] at h2
  have := lawShare.inj h1 h2
  simp at this
  exact this
theorem wf_small {n : Int} (h0 : 0 ≤ n) (h1 : n ≤ 1000) : (Lit.int .i64 n).wf = true := WalkArith.wf_i64 (by omega)

/-- Block b is a map of at most n entries, each of which holds what the function finds. -/
def Memo (w : World) (p : Q4) (b n : Nat) : Prop :=
  ∃ D : DataW Unit, w.ownsMap Tryd.prog 205 giftElem b n D ∧ IsMap D ∧ ∀ (k : Nat) (a : Int), k ≤ 4 → 0 ≤ a → a ≤ 99 → has D (klit k a) = true → ∀ z, D.atKey (klit k a) z = encG (fewest p k a)

theorem Memo.made (w : World) (p : Q4) : Memo (w.alloc (.map #[] 0)) p w.heap.size 0 :=
  ⟨.map [], World.ownsMap_made w _ _ _, ⟨[], rfl⟩, fun k a _ _ _ h => by simp [has] at h⟩
theorem Memo.lt {w : World} {p : Q4} {b n : Nat} (h : Memo w p b n) : b < w.heap.size := by obtain ⟨D, h, _⟩ := h; exact h.lt
theorem Memo.grown {w w' : World} {p : Q4} {b n : Nat} {row : Option Nat} (h : Memo w p b n) (hg : w.grownBy w' row) (hne : some b ≠ row) : Memo w' p b n := by
  obtain ⟨D, h1, h2⟩ := h
  exact ⟨D, h1.kept hg hne, h2⟩
theorem Memo.kept {w w' : World} {p : Q4} {b n : Nat} (h : Memo w p b n) (hb : Below w.heap.size w w') : Memo w' p b n := h.grown (grown_of_below hb none) (by simp)
theorem Memo.mono {w : World} {p : Q4} {b n n' : Nat} (h : Memo w p b n) (hn : n ≤ n') : Memo w p b n' := by
  obtain ⟨D, h1, h2⟩ := h
  exact ⟨D, h1.mono hn, h2⟩

/-- A look into what is remembered. -/
theorem Memo.look {w : World} {p : Q4} {b n : Nat} (h : Memo w p b n) {k : Nat} (hk : k ≤ 4) {a : Int} (h0 : 0 ≤ a) (h1 : a ≤ 99) :
    (Instr.lookup 202 (.map (some b)) (sv k a) true).run Tryd.prog w = .ok (.tuple #[gv none, .bool false]) w ∨
    (Instr.lookup 202 (.map (some b)) (sv k a) true).run Tryd.prog w = .ok (.tuple #[gv (fewest p k a), .bool true]) w := by
  obtain ⟨D, h2, h3, h4⟩ := h
  obtain ⟨v, ps, hrun, hv⟩ := h2.look_ok lawShare Tryd.underlying202 (zeroGift w) (giftElem_mk none) (keyOf_share (k := (k : Int)) (a := a) (wf_small (by omega) (by omega)) (wf_small h0 (by omega)))
  cases hh : has D (klit k a)
  · rw [atKey_of_not_has hh] at hv
    rw [hh, giftElem_inv hv] at hrun
    exact .inl hrun
  · rw [h4 k a hk h0 h1 hh] at hv
    rw [hh, giftElem_inv hv] at hrun
    exact .inr hrun

/-- 'remembered[s] = best' at the operation. -/
theorem wpList_memo {ops : Array Oper} {rest : List Oper} {o : Oper} {a : Act} {Q : Exit → Act → World → Prop} (w : World) (hg : o.guard = none) (m x v : Operand) (hop : o.op = Op.mapUpdate 202 m x v)
    (p : Q4) (b n : Nat) (hm : a.eval m = .map (some b)) (h : Memo w p b n) (hn : n < maxLen) (k : Nat) (hk : k ≤ 4) (c : Int) (h0 : 0 ≤ c) (h1 : c ≤ 99) (hx : a.eval x = sv k c) (hv : a.eval v = gv (fewest p k c))
    (hK : ∀ w', Memo w' p b (n + 1) → w.grownBy w' (some b) → wpList Tryd.prog ops Q rest (a.put o.dst undef) w') : wpList Tryd.prog ops Q (o :: rest) a w := by
  obtain ⟨D, h2, h3, h4⟩ := h
  have wk : (Lit.int .i64 (k : Int)).wf = true := wf_small (by omega) (by omega)
  have wc : (Lit.int .i64 c).wf = true := wf_small h0 (by omega)
  have hkey := keyOf_share wk wc
  refine wpList_mapUpdate_own w hg m x v 202 hop 205 207 lawShare Tryd.underlying202 giftElem b n D hm h2 hn _ _ (klit k c) hx hv hkey (encG (fewest p k c)) [] (giftElem_mk _) ?_
  intro w' h5 h6
  refine hK w' ⟨_, h5, h3.put _ _, fun k' c' hk' h0' h1' hh z => ?_⟩ h6
  by_cases e : klit k' c' = klit k c
  · obtain ⟨e1, e2⟩ := klit_inj (wf_small (by omega) (by omega)) (wf_small h0' (by omega)) wk wc e
    have e1' : k' = k := by omega
    subst e1'; subst e2
    exact atKey_put_same h3 (lawShare.key hkey) _ _
  · rw [atKey_put_other e]
    rw [has_put_other e] at hh
    exact h4 k' c' hk' h0' h1' hh z

end Go.Proofs.YtgkhkphhpeiejaaDoor

namespace Go.Proofs.YtgkhkphhpeiejaaDoor
open Go.RowKit Go.Maps

set_option maxRecDepth 100000 in
theorem coins_any (a b c d : Int) (w : World) (ha : 0 ≤ a ∧ a ≤ 20) (hb : 0 ≤ b ∧ b ≤ 20) (hc : 0 ≤ c ∧ c ≤ 20) (hd : 0 ≤ d ∧ d ≤ 20) :
    Calls Tryd.prog 116 #[pv a b c d] w fun e w' => e = .returned (.int .i64 (a + b + c + d)) ∧ Below w.heap.size w w' := by
  have i0 := index0 a b c d
  have i1 := index1 a b c d
  have i2 := index2 a b c d
  have i3 := index3 a b c d
  obtain ⟨ha1, ha2⟩ := ha
  obtain ⟨hb1, hb2⟩ := hb
  obtain ⟨hc1, hc2⟩ := hc
  obtain ⟨hd1, hd2⟩ := hd
  go_enter Tryd.func116, Tryd.ntmps116
  go_wp2
  refine wp_loop_rounds 5 ?_
  rw [rounds_succ]
  go_wp2
  rw [rounds_succ]
  go_wp2
  rw [rounds_succ]
  go_wp2
  rw [rounds_succ]
  go_wp2
  rw [rounds_succ]
  go_wp2
  go_ret
  exact ⟨ret_int (by omega), (Below.refl _ _).alloc (Nat.le_refl _) _⟩

/-- The cells of a gift. -/
def gc : Option Q4 → Array Value
  | none => #[.int .i64 0, .int .i64 0, .int .i64 0, .int .i64 0, .bool false]
  | some v => #[.int .i64 v.a, .int .i64 v.b, .int .i64 v.c, .int .i64 v.d, .bool true]

/-- The blocks of a finder: the purse (mp), the variable that holds the map (mr), the finder's own variable (mf), the map (mb). -/
def Finder (w : World) (p : Q4) (mp mr mf mb n : Nat) : Prop :=
  Blk w mp 102 (qc p) ∧ Blk w mr 202 #[.map (some mb)] ∧
  Blk w mf 203 #[.func (.func 152) #[] #[.pointer (some ⟨mr, 0, none⟩), .pointer (some ⟨mp, 0, none⟩), .pointer (some ⟨mf, 0, none⟩)]] ∧ Memo w p mb n

theorem Memo.ne {w : World} {p : Q4} {b n g : Nat} {t : TypeId} {cs : Array Value} (h : Memo w p b n) (hg : Blk w g t cs) : g ≠ b := fun e => by
  subst e
  obtain ⟨D, ⟨es, clock, hb, _⟩, _⟩ := h
  unfold Blk at hg
  rw [hb] at hg
  cases hg
theorem Finder.kept {w w' : World} {p : Q4} {mp mr mf mb n : Nat} (h : Finder w p mp mr mf mb n) (hb : Below w.heap.size w w') : Finder w' p mp mr mf mb n :=
  ⟨h.1.kept hb, h.2.1.kept hb, h.2.2.1.kept hb, h.2.2.2.kept hb⟩
theorem Finder.far {w : World} {p : Q4} {mp mr mf mb n : Nat} (h : Finder w p mp mr mf mb n) {a : Addr} (h1 : mp ≠ a.block) (h2 : mr ≠ a.block) (h3 : mf ≠ a.block) (h4 : mb ≠ a.block) (v : Value) : Finder (w.setCell a v) p mp mr mf mb n := by
  refine ⟨h.1.far h1 v, h.2.1.far h2 v, h.2.2.1.far h3 v, ?_⟩
  obtain ⟨D, k1, k2⟩ := h.2.2.2
  exact ⟨D, k1.setCell h4 v, k2⟩
theorem Finder.lts {w : World} {p : Q4} {mp mr mf mb n : Nat} (h : Finder w p mp mr mf mb n) : mp < w.heap.size ∧ mr < w.heap.size ∧ mf < w.heap.size ∧ mb < w.heap.size :=
  ⟨h.1.lt, h.2.1.lt, h.2.2.1.lt, h.2.2.2.lt⟩

theorem Finder.alloc {w : World} {p : Q4} {mp mr mf mb n : Nat} (h : Finder w p mp mr mf mb n) (o : Obj) : Finder (w.alloc o) p mp mr mf mb n := h.kept belo
theorem Finder.drew {w : World} {p : Q4} {mp mr mf mb n : Nat} (h : Finder w p mp mr mf mb n) : Finder w.drew p mp mr mf mb n := h
theorem Finder.drewN {w : World} {p : Q4} {mp mr mf mb n : Nat} (h : Finder w p mp mr mf mb n) (k : Nat) : Finder (w.drewN k) p mp mr mf mb n := h.kept belo
theorem Finder.grown {w w' : World} {p : Q4} {mp mr mf mb n n' : Nat} (h : Finder w p mp mr mf mb n) (hg : w.grownBy w' (some mb)) (hM : Memo w' p mb n') : Finder w' p mp mr mf mb n' :=
  ⟨(hg.block mp h.1.lt (by have := h.2.2.2.ne h.1; simpa using this)).trans h.1, (hg.block mr h.2.1.lt (by have := h.2.2.2.ne h.2.1; simpa using this)).trans h.2.1, (hg.block mf h.2.2.1.lt (by have := h.2.2.2.ne h.2.2.1; simpa using this)).trans h.2.2.1, hM⟩
theorem Blk.grown {w w' : World} {g b : Nat} {t : TypeId} {cs : Array Value} (h : Blk w g t cs) (hg : w.grownBy w' (some b)) (hne : g ≠ b) : Blk w' g t cs := (hg.block g h.lt (by simpa using hne)).trans h
theorem Only.of_grown {g : Nat} {w w' : World} (h : w.grownBy w' (some g)) (hg : g ≤ w.heap.size) : Only g w w' :=
  ⟨(Below.refl g w).grown h hg (fun k hk => by injection hk with hk; omega), h.size, fun g2 hne hl => h.block g2 hl (by simpa using hne)⟩
theorem Only.setNew {g : Nat} {w w' : World} {a : Addr} (h : Only g w w') (h1 : g ≤ a.block) (h2 : w.heap.size ≤ a.block) (v : Value) : Only g w (w'.setCell a v) :=
  ⟨Below.setCell h.1 h1 v, by simpa [World.setCell] using h.2.1, fun g2 hne hl => (Below.heap_setCell _ _ _ g2 (by omega)).trans (h.2.2 g2 hne hl)⟩
theorem Only.alloc {g : Nat} {w w' : World} (h : Only g w w') (h1 : g ≤ w'.heap.size) (o : Obj) : Only g w (w'.alloc o) :=
  ⟨Below.alloc h.1 h1 o, by have := h.2.1; simp; omega, fun g2 hne hl => (Below.heap_alloc _ _ g2 (by have := h.2.1; omega)).trans (h.2.2 g2 hne hl)⟩
theorem Only.drew {g : Nat} {w w' : World} (h : Only g w w') : Only g w w'.drew := ⟨h.1.drew, h.2.1, h.2.2⟩

/-- How many entries a call can lay at most. -/
def tk : Nat → Nat
  | 0 => 0
  | k + 1 => 21 * tk k + 1

/-- What a call of the finder leaves. -/
def Found (w : World) (p : Q4) (mp mr mf mb n k : Nat) (a : Int) (e : Ending) (w' : World) : Prop :=
  e = .returned (gv (fewest p k a)) ∧ (∃ n', n' ≤ n + tk k ∧ Finder w' p mp mr mf mb n') ∧ Only mb w w'

/-- The contract of the finder at the shares of k kinds. -/
def FindAt (p : Q4) (k : Nat) : Prop := ∀ (mp mr mf mb n : Nat) (a : Int) (w : World), 0 ≤ a → a ≤ 99 → Finder w p mp mr mf mb n → Worths w → n + tk k ≤ 100000000 →
  Calls Tryd.prog 152 #[sv k a, .pointer (some ⟨mr, 0, none⟩), .pointer (some ⟨mp, 0, none⟩), .pointer (some ⟨mf, 0, none⟩)] w (Found w p mp mr mf mb n k a)

theorem Only.worths {g : Nat} {w w' : World} (h : Only g w w') (hT : Worths w) (hg : 0 ≠ g) : Worths w' := by
  have hz : 0 < w.heap.size := World.block_lt_of_cell? w _ hT.1
  have e := h.2.2 0 hg hz
  exact ⟨(World.cell?_of_block e).trans hT.1, (World.cell?_of_block e).trans hT.2.1, (World.cell?_of_block e).trans hT.2.2.1, (World.cell?_of_block e).trans hT.2.2.2⟩
theorem Worths.ne {w : World} (hT : Worths w) {p : Q4} {b n : Nat} (h : Memo w p b n) : 0 ≠ b := fun e => by
  subst e
  obtain ⟨D, ⟨es, clock, hb, _⟩, _⟩ := h
  have := hT.1
  simp [World.cell?, hb] at this

theorem fewest_zero (p : Q4) (a : Int) : fewest p 0 a = if a = 0 then some Q4.none4 else none := by
  unfold fewest ways
  by_cases h : a = 0
  · rw [if_pos h, if_pos h]; rfl
  · rw [if_neg h, if_neg h]; rfl
theorem fewest_in {p v : Q4} (hp : In20 p) {k : Nat} (hk : k ≤ 4) {a : Int} (h : fewest p k a = some v) : In20 v ∧ ∀ j, k ≤ j → v.get j = 0 := by
  have hm := (few_mem h).1
  obtain ⟨h1, h2, _⟩ := (mem_ways hk).1 hm
  have hb : ∀ j, 0 ≤ v.get j ∧ v.get j ≤ 20 := fun j => by
    by_cases hj : j < k
    · exact ⟨(h1 j hj).1, Int.le_trans (h1 j hj).2 (hp.get j).2⟩
    · rw [h2 j (by omega)]; exact ⟨Int.le_refl _, by decide⟩
  exact ⟨⟨hb 0, hb 1, hb 2, hb 3⟩, h2⟩

/-- A gift so far has counts in 0..20. -/
def BIn (B : Option Q4) : Prop := ∀ v, B = some v → In20 v

theorem find_0 (p : Q4) : FindAt p 0 := by
  intro mp mr mf mb n a w h0 h1 hF hT hn
  have hs := fewest_zero p a
  have hlt := hF.lts
  have HF := Lib.hid hF; clear hF
  by_cases ha : a = 0
  · subst ha
    rw [if_pos rfl] at hs
    have HS := Lib.hid hs; clear hs
    refine Calls.mono (R := fun e w' => e = .returned (gv (some Q4.none4)) ∧ Below w.heap.size w w') ?_ (fun e w' ⟨h1, h2⟩ => ⟨by rw [HS.out]; exact h1, ⟨n, by omega, HF.out.kept h2⟩, Only.of_below h2 (by omega)⟩)
    go_enter Tryd.func152, Tryd.ntmps152
    go_wp2
    exact bodyPost_ret (v := gv (some Q4.none4)) (by simp [results, Tryd.results152, go_sem, gv, Q4.none4]) rfl ⟨rfl, belo⟩
  · rw [if_neg ha] at hs
    have HS := Lib.hid hs
    have ha2 : (a == 0) = false := by simpa using ha
    clear hs ha
    refine Calls.mono (R := fun e w' => e = .returned (gv none) ∧ Below w.heap.size w w') ?_ (fun e w' ⟨h1, h2⟩ => ⟨by rw [HS.out]; exact h1, ⟨n, by omega, HF.out.kept h2⟩, Only.of_below h2 (by omega)⟩)
    go_enter Tryd.func152, Tryd.ntmps152
    go_wp2
    exact bodyPost_ret (v := gv none) (by simp [results, Tryd.results152, go_sem, gv]) rfl ⟨rfl, belo⟩

end Go.Proofs.YtgkhkphhpeiejaaDoor

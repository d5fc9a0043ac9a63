/- The finder of fewest coins: what it leads to, and its lemmas outside the walk. -/
import Derived.Test.YtdlfdpdocpcnkaaDoorFind1
import Derived.Test.YtdlfdpdocpcnkaaDoorPu
import Derived.Deep.LoopGhost
namespace Go.Proofs.YtdlfdpdocpcnkaaDoor
open Go.RowKit Go.Maps

/-- The cells of a gift. -/
def gc : Option Q4 → Array Value
  | none => #[.int .i64 0, .int .i64 0, .int .i64 0, .int .i64 0, .bool false]
  | some v => #[.int .i64 v.a, .int .i64 v.b, .int .i64 v.c, .int .i64 v.d, .bool true]

/-- The blocks of a finder: the purse (mp), the variable that holds the map (mr), the finder's own variable (mf), the map (mb). -/
def Finder (w : World) (p : Q4) (mp mr mf mb n : Nat) : Prop :=
  Blk w mp 96 (qc p) ∧ Blk w mr 162 #[.map (some mb)] ∧
  Blk w mf 163 #[.func (.func 128) #[] #[.pointer (some ⟨mr, 0, none⟩), .pointer (some ⟨mp, 0, none⟩), .pointer (some ⟨mf, 0, none⟩)]] ∧ Memo w p mb n

theorem Memo.ne {w : World} {p : Q4} {b n g : Nat} {t : TypeId} {cs : Array Value} (h : Memo w p b n) (hg : Blk w g t cs) : g ≠ b := fun e => by
  subst e
  obtain ⟨D, ⟨es, clock, hb, _⟩, _⟩ := h
  unfold Blk at hg
  rw [hb] at hg
  cases hg
theorem Finder.kept {w w' : World} {p : Q4} {mp mr mf mb n : Nat} (h : Finder w p mp mr mf mb n) (hb : Below w.heap.size w w') : Finder w' p mp mr mf mb n :=
  ⟨h.1.kept hb, h.2.1.kept hb, h.2.2.1.kept hb, h.2.2.2.kept hb⟩
theorem Finder.far {w : World} {p : Q4} {mp mr mf mb n : Nat} (h : Finder w p mp mr mf mb n) {a : Addr} (h1 : mp ≠ a.block) (h2 : mr ≠ a.block) (h3 : mf ≠ a.block) (h4 : mb ≠ a.block) (v : Value) : Finder (w.setCell a v) p mp mr mf mb n := by
  refine ⟨h.1.far h1 v, h.2.1.far h2 v, h.2.2.1.far h3 v, ?_⟩
  obtain ⟨D, k1, k2⟩ := h.2.2.2
  exact ⟨D, k1.setCell h4 v, k2⟩
theorem Finder.lts {w : World} {p : Q4} {mp mr mf mb n : Nat} (h : Finder w p mp mr mf mb n) : mp < w.heap.size ∧ mr < w.heap.size ∧ mf < w.heap.size ∧ mb < w.heap.size :=
  ⟨h.1.lt, h.2.1.lt, h.2.2.1.lt, h.2.2.2.lt⟩

theorem Finder.alloc {w : World} {p : Q4} {mp mr mf mb n : Nat} (h : Finder w p mp mr mf mb n) (o : Obj) : Finder (w.alloc o) p mp mr mf mb n := h.kept (by repeat' (first | with_reducible exact Below.refl _ _ | with_reducible assumption | with_reducible apply Below.drew | with_reducible apply below_drewN | (with_reducible refine Below.setCell ?_ ?_ _) | (with_reducible refine Below.alloc ?_ ?_ _) | with_reducible exact Nat.le_refl _ | with_reducible exact Below.size (by assumption) | (simp; done) | (simp; done) | omega | (simp; omega)))
theorem Finder.drew {w : World} {p : Q4} {mp mr mf mb n : Nat} (h : Finder w p mp mr mf mb n) : Finder w.drew p mp mr mf mb n := h
theorem Finder.drewN {w : World} {p : Q4} {mp mr mf mb n : Nat} (h : Finder w p mp mr mf mb n) (k : Nat) : Finder (w.drewN k) p mp mr mf mb n := h.kept (by repeat' (first | with_reducible exact Below.refl _ _ | with_reducible assumption | with_reducible apply Below.drew | with_reducible apply below_drewN | (with_reducible refine Below.setCell ?_ ?_ _) | (with_reducible refine Below.alloc ?_ ?_ _) | with_reducible exact Nat.le_refl _ | with_reducible exact Below.size (by assumption) | (simp; done) | (simp; done) | omega | (simp; omega)))
theorem Finder.grown {w w' : World} {p : Q4} {mp mr mf mb n n' : Nat} (h : Finder w p mp mr mf mb n) (hg : w.grownBy w' (some mb)) (hM : Memo w' p mb n') : Finder w' p mp mr mf mb n' :=
  ⟨(hg.block mp h.1.lt (by have := h.2.2.2.ne h.1; simpa using this)).trans h.1, (hg.block mr h.2.1.lt (by have := h.2.2.2.ne h.2.1; simpa using this)).trans h.2.1, (hg.block mf h.2.2.1.lt (by have := h.2.2.2.ne h.2.2.1; simpa using this)).trans h.2.2.1, hM⟩
theorem Blk.grown {w w' : World} {g b : Nat} {t : TypeId} {cs : Array Value} (h : Blk w g t cs) (hg : w.grownBy w' (some b)) (hne : g ≠ b) : Blk w' g t cs := (hg.block g h.lt (by simpa using hne)).trans h
theorem Only.of_grown {g : Nat} {w w' : World} (h : w.grownBy w' (some g)) (hg : g ≤ w.heap.size) : Only g w w' :=
  ⟨(Below.refl g w).grown h hg (fun k hk => by injection hk with hk; omega), h.size, fun g2 hne hl => h.block g2 hl (by simpa using hne)⟩
theorem Only.setNew {g : Nat} {w w' : World} {a : Addr} (h : Only g w w') (h1 : g ≤ a.block) (h2 : w.heap.size ≤ a.block) (v : Value) : Only g w (w'.setCell a v) :=
  ⟨Below.setCell h.1 h1 v, by simpa [World.setCell] using h.2.1, fun g2 hne hl => (Below.heap_setCell _ _ _ g2 (by omega)).trans (h.2.2 g2 hne hl)⟩
theorem Only.alloc {g : Nat} {w w' : World} (h : Only g w w') (h1 : g ≤ w'.heap.size) (o : Obj) : Only g w (w'.alloc o) :=
  ⟨Below.alloc h.1 h1 o, by have := h.2.1; simp; omega, fun g2 hne hl => (Below.heap_alloc _ _ g2 (by have := h.2.1; omega)).trans (h.2.2 g2 hne hl)⟩
theorem Only.drew {g : Nat} {w w' : World} (h : Only g w w') : Only g w w'.drew := ⟨h.1.drew, h.2.1, h.2.2⟩

/-- How many entries a call can lay at most. -/
def tk : Nat → Nat
  | 0 => 0
  | k + 1 => 21 * tk k + 1

/-- What a call of the finder leaves. -/
def Found (w : World) (p : Q4) (mp mr mf mb n k : Nat) (a : Int) (e : Ending) (w' : World) : Prop :=
  e = .returned (gv (fewest p k a)) ∧ (∃ n', n' ≤ n + tk k ∧ Finder w' p mp mr mf mb n') ∧ Only mb w w'

/-- The contract of the finder at the shares of k kinds. -/
def FindAt (p : Q4) (k : Nat) : Prop := ∀ (mp mr mf mb n : Nat) (a : Int) (w : World), 0 ≤ a → a ≤ 99 → Finder w p mp mr mf mb n → Worths w → n + tk k ≤ 100000000 →
  Calls Tryd.prog 128 #[sv k a, .pointer (some ⟨mr, 0, none⟩), .pointer (some ⟨mp, 0, none⟩), .pointer (some ⟨mf, 0, none⟩)] w (Found w p mp mr mf mb n k a)

theorem Only.worths {g : Nat} {w w' : World} (h : Only g w w') (hT : Worths w) (hg : 0 ≠ g) : Worths w' := by
  have hz : 0 < w.heap.size := World.block_lt_of_cell? w _ hT.1
  have e := h.2.2 0 hg hz
  exact ⟨(World.cell?_of_block e).trans hT.1, (World.cell?_of_block e).trans hT.2.1, (World.cell?_of_block e).trans hT.2.2.1, (World.cell?_of_block e).trans hT.2.2.2⟩
theorem Worths.ne {w : World} (hT : Worths w) {p : Q4} {b n : Nat} (h : Memo w p b n) : 0 ≠ b := fun e => by
  subst e
  obtain ⟨D, ⟨es, clock, hb, _⟩, _⟩ := h
  have := hT.1
  simp [World.cell?, hb] at this

theorem fewest_zero (p : Q4) (a : Int) : fewest p 0 a = if a = 0 then some Q4.none4 else none := by
  unfold fewest ways
  by_cases h : a = 0
  · rw [if_pos h, if_pos h]; rfl
  · rw [if_neg h, if_neg h]; rfl
theorem fewest_in {p v : Q4} (hp : In20 p) {k : Nat} (hk : k ≤ 4) {a : Int} (h : fewest p k a = some v) : In20 v ∧ ∀ j, k ≤ j → v.get j = 0 := by
  have hm := (few_mem h).1
  obtain ⟨h1, h2, _⟩ := (mem_ways hk).1 hm
  have hb : ∀ j, 0 ≤ v.get j ∧ v.get j ≤ 20 := fun j => by
    by_cases hj : j < k
    · exact ⟨(h1 j hj).1, Int.le_trans (h1 j hj).2 (hp.get j).2⟩
    · rw [h2 j (by omega)]; exact ⟨Int.le_refl _, by decide⟩
  exact ⟨⟨hb 0, hb 1, hb 2, hb 3⟩, h2⟩

/-- A gift so far has counts in 0..20. -/
def BIn (B : Option Q4) : Prop := ∀ v, B = some v → In20 v

theorem find_0 (p : Q4) : FindAt p 0 := by
  intro mp mr mf mb n a w h0 h1 hF hT hn
  have hs := fewest_zero p a
  have hlt := hF.lts
  have HF := Lib.hid hF; clear hF
  by_cases ha : a = 0
  · subst ha
    rw [if_pos rfl] at hs
    have HS := Lib.hid hs; clear hs
    refine Calls.mono (R := fun e w' => e = .returned (gv (some Q4.none4)) ∧ Below w.heap.size w w') ?_ (fun e w' ⟨h1, h2⟩ => ⟨by rw [HS.out]; exact h1, ⟨n, by omega, HF.out.kept h2⟩, Only.of_below h2 (by omega)⟩)
    go_enter Tryd.func128, Tryd.ntmps128
    go_wp2
    exact bodyPost_ret (v := gv (some Q4.none4)) (by simp [results, Tryd.results128, go_sem, gv, Q4.none4]) rfl ⟨rfl, (by repeat' (first | with_reducible exact Below.refl _ _ | with_reducible assumption | with_reducible apply Below.drew | with_reducible apply below_drewN | (with_reducible refine Below.setCell ?_ ?_ _) | (with_reducible refine Below.alloc ?_ ?_ _) | with_reducible exact Nat.le_refl _ | with_reducible exact Below.size (by assumption) | (simp; done) | (simp; done) | omega | (simp; omega)))⟩
  · rw [if_neg ha] at hs
    have HS := Lib.hid hs
    have ha2 : (a == 0) = false := by simpa using ha
    clear hs ha
    refine Calls.mono (R := fun e w' => e = .returned (gv none) ∧ Below w.heap.size w w') ?_ (fun e w' ⟨h1, h2⟩ => ⟨by rw [HS.out]; exact h1, ⟨n, by omega, HF.out.kept h2⟩, Only.of_below h2 (by omega)⟩)
    go_enter Tryd.func128, Tryd.ntmps128
    go_wp2
    exact bodyPost_ret (v := gv none) (by simp [results, Tryd.results128, go_sem, gv]) rfl ⟨rfl, (by repeat' (first | with_reducible exact Below.refl _ _ | with_reducible assumption | with_reducible apply Below.drew | with_reducible apply below_drewN | (with_reducible refine Below.setCell ?_ ?_ _) | (with_reducible refine Below.alloc ?_ ?_ _) | with_reducible exact Nat.le_refl _ | with_reducible exact Below.size (by assumption) | (simp; done) | (simp; done) | omega | (simp; omega)))⟩

end Go.Proofs.YtdlfdpdocpcnkaaDoor

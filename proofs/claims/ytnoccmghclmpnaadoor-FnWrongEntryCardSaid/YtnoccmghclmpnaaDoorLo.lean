/- Base, Bnw, Bsk, Worth, ArrEq, Purse, Purse2, Chg, Chg2, Help, Rsd, in one text. -/
import Derived.Test.YtnoccmghclmpnaaDoorProg
import Derived.WalkKit
import Derived.WalkLawsBesides
import Derived.WalkSpells
import Derived.Lib.Hide
import Derived.Deep.QuietTactic
import Derived.BigQuiet
import Derived.Deep.RegionHeld3
import Derived.Deep.OwnRows
namespace Go.Proofs.YtnoccmghclmpnaaDoor
open Go.RowKit

/-- What is below is laid by the facts at hand. -/
theorem belo {p : Prop} (h : p := by repeat' (first | with_reducible (first | exact Below.refl _ _ | assumption | apply Below.drew | apply below_drewN | refine Below.setCell ?_ ?_ _ | refine Below.alloc ?_ ?_ _ | exact Nat.le_refl _ | exact Below.size (by assumption)) | (simp; done) | omega | (simp; omega))) : p := h

theorem ret_int {k : IntKind} {a b : Int} (h : a = b) : Ending.returned (.int k a) = .returned (.int k b) := by rw [h]
theorem ret_bool {a b : Bool} (h : a = b) : Ending.returned (.bool a) = .returned (.bool b) := by rw [h]

/-- Behind a call that left all older blocks as they were: the old cells and marks, as rules for the walk. -/
theorem olds {W w1 : World} (hb : Below W.heap.size W w1) :
    (∀ b o, b < W.heap.size → w1.cell? ⟨b, o, none⟩ = W.cell? ⟨b, o, none⟩) ∧ (∀ b o, b < W.heap.size → w1.frozen? ⟨b, o, none⟩ = W.frozen? ⟨b, o, none⟩) :=
  ⟨fun _ _ h => hb.cell h, fun _ _ h => hb.frozen h⟩

/-- Block g is just the cells cs of element type t, none of them frozen. -/
def Blk (w : World) (g : Nat) (t : TypeId) (cs : Array Value) : Prop := w.heap[g]? = some (.cells cs t (0, 0))
theorem Blk.lt {w : World} {g : Nat} {t : TypeId} {cs : Array Value} (h : Blk w g t cs) : g < w.heap.size := by
  rcases Nat.lt_or_ge g w.heap.size with h1 | h1
  · exact h1
  · unfold Blk at h; rw [Array.getElem?_eq_none h1] at h; cases h
theorem Blk.cell {w : World} {g : Nat} {t : TypeId} {cs : Array Value} (h : Blk w g t cs) (i : Nat) : w.cell? ⟨g, i, none⟩ = cs[i]? := cell_of_row w g i cs t (0, 0) h
theorem Blk.frozen {w : World} {g : Nat} {t : TypeId} {cs : Array Value} (h : Blk w g t cs) (i : Nat) : w.frozen? ⟨g, i, none⟩ = false := by
  unfold Blk at h
  simp [World.frozen?, h]
theorem Blk.new (w : World) (t : TypeId) (cs : Array Value) : Blk (w.alloc (.cells cs t)) w.heap.size t cs := heap_alloc_new w _
theorem Blk.alloc {w : World} {g : Nat} {t : TypeId} {cs : Array Value} (h : Blk w g t cs) (o : Obj) : Blk (w.alloc o) g t cs := (Below.heap_alloc w o g h.lt).trans h
theorem Blk.drew {w : World} {g : Nat} {t : TypeId} {cs : Array Value} (h : Blk w g t cs) : Blk w.drew g t cs := h
theorem Blk.drewN {w : World} {g : Nat} {t : TypeId} {cs : Array Value} (h : Blk w g t cs) (n : Nat) : Blk (w.drewN n) g t cs := h
theorem Blk.below {w w' : World} {B g : Nat} {t : TypeId} {cs : Array Value} (h : Blk w g t cs) (hb : Below B w w') (hg : g < B) : Blk w' g t cs := (hb.block g hg).trans h
theorem Blk.kept {w w' : World} {g : Nat} {t : TypeId} {cs : Array Value} (h : Blk w g t cs) (hb : Below w.heap.size w w') : Blk w' g t cs := (hb.block g h.lt).trans h
theorem Blk.set_ {w : World} {g : Nat} {t : TypeId} {cs : Array Value} (h : Blk w g t cs) (i : Nat) (u : Value) : Blk (w.setCell ⟨g, i, none⟩ u) g t (cs.setIfInBounds i u) := by
  unfold Blk at h ⊢
  simp [World.setCell, Array.getElem?_modify, h]
theorem Blk.far {w : World} {g : Nat} {t : TypeId} {cs : Array Value} (h : Blk w g t cs) {p : Addr} (hp : g ≠ p.block) (u : Value) : Blk (w.setCell p u) g t cs := (Below.heap_setCell w p u g hp).trans h

/-- The slice value '.slice A xs.length c' reads as the integers xs of kind k in the world w. -/
def Row (k : IntKind) (w : World) (A : Option Addr) (xs : List Int) : Prop :=
  xs = [] ∨ ∃ b off, A = some ⟨b, off, none⟩ ∧ ∀ i, i < xs.length → w.cell? ⟨b, off + i, none⟩ = some (.int k (xs.getD i 0))

theorem Row.nil (k : IntKind) (w : World) (A : Option Addr) : Row k w A [] := .inl rfl

theorem Row.keep {k : IntKind} {w w' : World} {A : Option Addr} {xs : List Int} (h : Row k w A xs)
    (hk : ∀ p : Addr, p.block < w.heap.size → w'.cell? p = w.cell? p) : Row k w' A xs := by
  rcases h with h | ⟨b, off, rfl, hc⟩
  · exact .inl h
  · refine .inr ⟨b, off, rfl, fun i hi => ?_⟩
    have h1 := hc i hi
    rw [hk _ (World.block_lt_of_cell? w _ h1)]
    exact h1

theorem Row.lt {k : IntKind} {w : World} {g off : Nat} {xs : List Int} (h : Row k w (some ⟨g, off, none⟩) xs) (hn : 0 < xs.length) : g < w.heap.size := by
  rcases h with h | ⟨b, o, e, hc⟩
  · subst h; cases hn
  · injection e with e
    injection e with e1 _ _
    subst e1
    exact World.block_lt_of_cell? w _ (hc 0 hn)

theorem Row.below {k : IntKind} {w w' : World} {A : Option Addr} {xs : List Int} (h : Row k w A xs) (hb : Below w.heap.size w w') : Row k w' A xs :=
  h.keep fun _ hp => hb.cell hp

/-- Where the reading of an argument tells the cells one by one, its first ones read as a row. -/
theorem row_of_ints {k : IntKind} {w : World} {x : Addr} {len : Nat} {zs : List Int} (hl : len ≤ zs.length)
    (hcell : ∀ i, i < zs.length → w.cell? (x.add i) = some (.int k (zs.getD i 0))) : Row k w (some x) (zs.take len) := by
  rcases Nat.eq_zero_or_pos len with h0 | h0
  · subst h0; exact .inl (by simp)
  · obtain ⟨b, off, spot⟩ := x
    have hs : spot = none := by simpa [Addr.add] using World.cell?_spot (hcell 0 (by omega))
    subst hs
    refine .inr ⟨b, off, rfl, fun i hi => ?_⟩
    have hi' : i < len := by simp at hi; omega
    have h1 := hcell i (by omega)
    have e1 : (⟨b, off, none⟩ : Addr).add i = ⟨b, off + i, none⟩ := by
      unfold Addr.add
      by_cases h : i = 0 <;> simp [h]
    rw [e1] at h1
    rw [h1]
    simp [List.getD, hi']

end Go.Proofs.YtnoccmghclmpnaaDoor

namespace Go.Proofs.YtnoccmghclmpnaaDoor
open Go.RowKit
theorem Blk.new' {w : World} {t : TypeId} {cs : Array Value} {g : Nat} (h : g = w.heap.size) : Blk (w.alloc (.cells cs t)) g t cs := by subst h; exact Blk.new _ _ _
end Go.Proofs.YtnoccmghclmpnaaDoor

namespace Go.Proofs.YtnoccmghclmpnaaDoor

/-- A good: what a piece costs, and how many there are. -/
structure Gd where
  p : Int
  s : Int
namespace Gd
def none2 : Gd := ⟨0, 0⟩
def ok (g : Gd) : Bool := decide (1 ≤ g.p) && (decide (g.p ≤ 40) && (decide (0 ≤ g.s) && decide (g.s ≤ 5)))
end Gd
theorem Gd.ok_iff {g : Gd} : g.ok = true ↔ 1 ≤ g.p ∧ g.p ≤ 40 ∧ 0 ≤ g.s ∧ g.s ≤ 5 := by simp [Gd.ok]
theorem Gd.ok_false {g : Gd} : g.ok = false ↔ g.p < 1 ∨ 40 < g.p ∨ g.s < 0 ∨ 5 < g.s := by
  rw [← Bool.not_eq_true, Gd.ok_iff]; omega

/-- The list is shelves. -/
def okS (gs : List Gd) : Bool := decide (gs.length ≤ 3) && gs.all Gd.ok
theorem okS_iff {gs : List Gd} : okS gs = true ↔ gs.length ≤ 3 ∧ ∀ g ∈ gs, g.ok = true := by simp [okS]

/-- A basket: the number of pieces of each good. -/
structure Q3 where
  x : Int
  y : Int
  z : Int
namespace Q3
def zero : Q3 := ⟨0, 0, 0⟩
def cnt (q : Q3) : Int := q.x + q.y + q.z
end Q3

/-- Shelves: three goods, 0 and 0 behind the last one, and how many goods there are. -/
structure Sh where
  a : Gd
  b : Gd
  c : Gd
  m : Int
/-- What shelves can be. -/
structure Sh.In (S : Sh) : Prop where
  a0 : 0 ≤ S.a.p
  a1 : S.a.p ≤ 40
  a2 : 0 ≤ S.a.s
  a3 : S.a.s ≤ 5
  b0 : 0 ≤ S.b.p
  b1 : S.b.p ≤ 40
  b2 : 0 ≤ S.b.s
  b3 : S.b.s ≤ 5
  c0 : 0 ≤ S.c.p
  c1 : S.c.p ≤ 40
  c2 : 0 ≤ S.c.s
  c3 : S.c.s ≤ 5
  m0 : 0 ≤ S.m
  m1 : S.m ≤ 3

def gd (gs : List Gd) (i : Nat) : Gd := gs.getD i Gd.none2
/-- The shelves of a list. -/
def shOf (gs : List Gd) : Sh := ⟨gd gs 0, gd gs 1, gd gs 2, gs.length⟩
theorem gd_ok {gs : List Gd} (h : ∀ g ∈ gs, g.ok = true) (i : Nat) : 0 ≤ (gd gs i).p ∧ (gd gs i).p ≤ 40 ∧ 0 ≤ (gd gs i).s ∧ (gd gs i).s ≤ 5 := by
  unfold gd
  by_cases hi : i < gs.length
  · have := Gd.ok_iff.1 (h _ (List.getElem_mem hi))
    simp only [List.getD_eq_getElem?_getD, List.getElem?_eq_getElem hi, Option.getD_some]
    omega
  · simp only [List.getD_eq_getElem?_getD, List.getElem?_eq_none (Nat.le_of_not_lt hi), Option.getD_none, Gd.none2]
    omega
/-- What a basket costs. -/
def cost (S : Sh) (q : Q3) : Int := q.x * S.a.p + q.y * S.b.p + q.z * S.c.p
/-- The basket is one of the shelves. -/
structure Sh.Has (S : Sh) (q : Q3) : Prop where
  x0 : 0 ≤ q.x
  x1 : q.x ≤ S.a.s
  y0 : 0 ≤ q.y
  y1 : q.y ≤ S.b.s
  z0 : 0 ≤ q.z
  z1 : q.z ≤ S.c.s
/-- The basket behind another one. -/
def next (S : Sh) (q : Q3) : Option Q3 :=
  if q.z < S.c.s then some ⟨q.x, q.y, q.z + 1⟩ else if q.y < S.b.s then some ⟨q.x, q.y + 1, 0⟩ else if q.x < S.a.s then some ⟨q.x + 1, 0, 0⟩ else none
/-- The first one of the greatest rank. -/
def bestF (rk : Q3 → Int) (L : List Q3) (b : Q3) : Q3 := L.foldl (fun b q => if rk b < rk q then q else b) b
def best (rk : Q3 → Int) (L : List Q3) : Q3 := bestF rk L Q3.zero
end Go.Proofs.YtnoccmghclmpnaaDoor

namespace Go.Proofs.YtnoccmghclmpnaaDoor
open Go.RowKit

/-- What a coin is worth. -/
def worth (k : Int) : Int := if k = 0 then 1 else if k = 1 then 2 else if k = 2 then 5 else if k = 3 then 10 else -1

theorem worth_out {k : Int} (h : k < 0 ∨ 4 ≤ k) : worth k = -1 := by
  unfold worth
  rw [if_neg (by omega), if_neg (by omega), if_neg (by omega), if_neg (by omega)]

/-- The cells of the program's table of worths. -/
def Worths (w : World) : Prop :=
  w.cell? ⟨0, 0, none⟩ = some (.int .i64 1) ∧ w.cell? ⟨0, 1, none⟩ = some (.int .i64 2) ∧ w.cell? ⟨0, 2, none⟩ = some (.int .i64 5) ∧ w.cell? ⟨0, 3, none⟩ = some (.int .i64 10)

theorem Worths.below {w w' : World} {B : Nat} (h : Worths w) (hb : Below B w w') (hB : 0 < B) : Worths w' :=
  ⟨(hb.cell (by exact hB)).trans h.1, (hb.cell (by exact hB)).trans h.2.1, (hb.cell (by exact hB)).trans h.2.2.1, (hb.cell (by exact hB)).trans h.2.2.2⟩

theorem Worths.pos {w : World} (h : Worths w) : 0 < w.heap.size := World.block_lt_of_cell? w _ h.1
theorem Worths.keep {w w' : World} (h : Worths w) (hb : Below w.heap.size w w') : Worths w' := h.below hb h.pos

theorem l1In_yes (n lo hi : Int) (w : World) (h1 : lo ≤ n) (h2 : n ≤ hi) :
    Calls Tryd.prog 63 #[.int .i64 n, .int .i64 lo, .int .i64 hi] w fun e w' => e = .returned (.bool true) ∧ w = w' := by
  go_enter Tryd.func63, Tryd.ntmps63
  go_wp2
  go_ret
  exact ⟨rfl, rfl⟩

theorem l1In_no (n lo hi : Int) (w : World) (h : n < lo ∨ hi < n) :
    Calls Tryd.prog 63 #[.int .i64 n, .int .i64 lo, .int .i64 hi] w fun e w' => e = .returned (.bool false) ∧ w = w' := by
  by_cases h1 : n < lo
  · clear h
    go_enter Tryd.func63, Tryd.ntmps63
    go_wp2
    go_ret
    exact ⟨rfl, rfl⟩
  · have h2 : hi < n := by omega
    have h3 : lo ≤ n := by omega
    clear h h1
    go_enter Tryd.func63, Tryd.ntmps63
    go_wp2
    go_ret
    simp [h2]

theorem implWorth_any (k : Int) (w : World) (hw : Worths w) :
    Calls Tryd.prog 41 #[.int .i64 k] w fun e w' => e = .returned (.int .i64 (worth k)) ∧ w = w' := by
  obtain ⟨c0, c1, c2, c3⟩ := hw
  by_cases h : k < 0 ∨ 4 ≤ k
  · have hw := worth_out h
    rw [hw]; clear hw
    rcases h with h | h
    · go_enter Tryd.func41, Tryd.ntmps41
      go_wp2
      go_ret
      exact ⟨rfl, rfl⟩
    · have h' : 0 ≤ k := by omega
      go_enter Tryd.func41, Tryd.ntmps41
      go_wp2
      go_ret
      exact ⟨rfl, rfl⟩
  · have h4 : k = 0 ∨ k = 1 ∨ k = 2 ∨ k = 3 := by omega
    clear h
    rcases h4 with rfl | rfl | rfl | rfl
    all_goals
      go_enter Tryd.func41, Tryd.ntmps41
      go_wp2
      go_ret
      exact ⟨rfl, rfl⟩

theorem specWorth_any (k : Int) (w : World) :
    Calls Tryd.prog 42 #[.int .i64 k] w fun e w' => e = .returned (.int .i64 (worth k)) ∧ Below w.heap.size w w' := by
  by_cases h : k < 0 ∨ 4 ≤ k
  · have hw := worth_out h
    rw [hw]; clear hw
    go_enter Tryd.func42, Tryd.ntmps42
    go_wp2_with (go_at_call 63; refine (l1In_no _ _ _ _ (by omega)).mono ?_; rintro e w' ⟨rfl, rfl⟩)
    go_ret
    exact ⟨rfl, Below.refl _ _⟩
  · have h4 : k = 0 ∨ k = 1 ∨ k = 2 ∨ k = 3 := by omega
    clear h
    rcases h4 with rfl | rfl | rfl | rfl
    all_goals
      go_enter Tryd.func42, Tryd.ntmps42
      go_wp2
      go_ret
      exact ⟨rfl, (Below.refl _ _).alloc (Nat.le_refl _) _⟩

end Go.Proofs.YtnoccmghclmpnaaDoor

namespace Go.Proofs.YtnoccmghclmpnaaDoor
open Go.RowKit

theorem arr4_eq (d : Nat) (a b c e x y z u : Int) (w : World) :
    (Op.equalIn (d + 2) 69 (.agg #[.int .i64 a, .int .i64 b, .int .i64 c, .int .i64 e]) (.agg #[.int .i64 x, .int .i64 y, .int .i64 z, .int .i64 u])).run Tryd.prog w
      = .ok (a == x && (b == y && (c == z && e == u))) w := by
  have hs : ∀ w, (sizeOf 3).run Tryd.prog w = .ok 1 w := fun _ => by kernel_rfl
  have hg : ∀ w, (isAgg 3).run Tryd.prog w = .ok false w := fun _ => by kernel_rfl
  have he : ∀ (d : Nat) (p q : Int) (w : World), (Op.equalIn (d + 1) 3 (.int .i64 p) (.int .i64 q)).run Tryd.prog w = .ok (p == q) w := fun d p q w =>
    run_equalIn_int w d _ _ _ p q Tryd.underlying3
  have hp : ∀ (cs : Array Value) (i : Nat) (v : Value) (w : World), cs[i]? = some v → (part 3 cs i).run Tryd.prog w = .ok v w := fun cs i v w h => by
    simp [part, hg, h]
  have p0 : ∀ (p q r s : Int) (w : World), (part 3 #[.int .i64 p, .int .i64 q, .int .i64 r, .int .i64 s] 0).run Tryd.prog w = .ok (.int .i64 p) w := fun p q r s w => hp _ _ _ _ rfl
  have p1 : ∀ (p q r s : Int) (w : World), (part 3 #[.int .i64 p, .int .i64 q, .int .i64 r, .int .i64 s] 1).run Tryd.prog w = .ok (.int .i64 q) w := fun p q r s w => hp _ _ _ _ rfl
  have p2 : ∀ (p q r s : Int) (w : World), (part 3 #[.int .i64 p, .int .i64 q, .int .i64 r, .int .i64 s] 2).run Tryd.prog w = .ok (.int .i64 r) w := fun p q r s w => hp _ _ _ _ rfl
  have p3 : ∀ (p q r s : Int) (w : World), (part 3 #[.int .i64 p, .int .i64 q, .int .i64 r, .int .i64 s] 3).run Tryd.prog w = .ok (.int .i64 s) w := fun p q r s w => hp _ _ _ _ rfl
  rw [Op.equalIn]
  simp only [Sem.run_bind, run_underlying Tryd.underlying69, Result.andThen_ok, hs]
  simp only [Std.Legacy.Range.forIn_eq_forIn_range', Std.Legacy.Range.size]
  simp [List.range', p0, p1, p2, p3, he]
  by_cases h1 : a = x
  · by_cases h2 : b = y
    · by_cases h3 : c = z
      · by_cases h4 : e = u <;> simp [h1, h2, h3, h4]
      · simp [h1, h2, h3]
    · simp [h1, h2]
  · simp [h1]

end Go.Proofs.YtnoccmghclmpnaaDoor

namespace Go.Proofs.YtnoccmghclmpnaaDoor
open Go.RowKit

/-- A purse as a value: the array of its four counts. -/
abbrev pv (a b c d : Int) : Value := .agg #[.int .i64 a, .int .i64 b, .int .i64 c, .int .i64 d]

/-- All four counts are in 0..20. -/
def inB (a b c d : Int) : Bool := decide (0 ≤ a) && decide (a ≤ 20) && (decide (0 ≤ b) && decide (b ≤ 20)) && (decide (0 ≤ c) && decide (c ≤ 20)) && (decide (0 ≤ d) && decide (d ≤ 20))
theorem inB_iff {a b c d : Int} : inB a b c d = true ↔ (0 ≤ a ∧ a ≤ 20) ∧ (0 ≤ b ∧ b ≤ 20) ∧ (0 ≤ c ∧ c ≤ 20) ∧ (0 ≤ d ∧ d ≤ 20) := by
  simp [inB, and_assoc]

theorem index0 (a b c d : Int) (w : World) : (Instr.index 69 (pv a b c d) (.int .i64 0)).run Tryd.prog w = .ok (.int .i64 a) w := by kernel_rfl
theorem index1 (a b c d : Int) (w : World) : (Instr.index 69 (pv a b c d) (.int .i64 1)).run Tryd.prog w = .ok (.int .i64 b) w := by kernel_rfl
theorem index2 (a b c d : Int) (w : World) : (Instr.index 69 (pv a b c d) (.int .i64 2)).run Tryd.prog w = .ok (.int .i64 c) w := by kernel_rfl
theorem index3 (a b c d : Int) (w : World) : (Instr.index 69 (pv a b c d) (.int .i64 3)).run Tryd.prog w = .ok (.int .i64 d) w := by kernel_rfl


set_option maxRecDepth 100000 in
theorem inBounds_yes (a b c d : Int) (w : World) (h : inB a b c d = true) :
    Calls Tryd.prog 81 #[pv a b c d] w fun e w' => e = .returned (.bool true) ∧ Below w.heap.size w w' := by
  obtain ⟨⟨ha1, ha2⟩, ⟨hb1, hb2⟩, ⟨hc1, hc2⟩, hd1, hd2⟩ := inB_iff.1 h
  clear h
  have i0 := index0 a b c d
  have i1 := index1 a b c d
  have i2 := index2 a b c d
  have i3 := index3 a b c d
  go_enter Tryd.func81, Tryd.ntmps81
  go_wp2
  refine wp_loop_rounds 5 ?_
  rw [rounds_succ]
  go_wp2
  rw [rounds_succ]
  go_wp2
  rw [rounds_succ]
  go_wp2
  rw [rounds_succ]
  go_wp2
  rw [rounds_succ]
  go_wp2
  go_ret
  exact ⟨rfl, (Below.refl _ _).alloc (Nat.le_refl _) _⟩

/-- The first count that is none: which one, and on which side. -/
theorem inB_first {a b c d : Int} (h : inB a b c d = false) :
    a < 0 ∨ 20 < a ∨ (0 ≤ a ∧ a ≤ 20) ∧ (b < 0 ∨ 20 < b ∨ (0 ≤ b ∧ b ≤ 20) ∧ (c < 0 ∨ 20 < c ∨ (0 ≤ c ∧ c ≤ 20) ∧ (d < 0 ∨ 20 < d))) := by
  have h' : ¬ inB a b c d = true := by simp [h]
  rw [inB_iff] at h'
  omega

set_option maxRecDepth 100000 in
theorem inBounds_no (a b c d : Int) (w : World) (h : inB a b c d = false) :
    Calls Tryd.prog 81 #[pv a b c d] w fun e w' => e = .returned (.bool false) ∧ Below w.heap.size w w' := by
  have h' := inB_first h
  clear h
  have i0 := index0 a b c d
  have i1 := index1 a b c d
  have i2 := index2 a b c d
  have i3 := index3 a b c d
  rcases h' with h1 | h1 | ⟨⟨ha1, ha2⟩, h1 | h1 | ⟨⟨hb1, hb2⟩, h1 | h1 | ⟨⟨hc1, hc2⟩, h1 | h1⟩⟩⟩
  all_goals
    have h2 : 0 < 20 := by omega
    try (have h3 : 0 ≤ a := by omega)
    try (have h4 : 0 ≤ b := by omega)
    try (have h5 : 0 ≤ c := by omega)
    try (have h6 : 0 ≤ d := by omega)
    go_enter Tryd.func81, Tryd.ntmps81
    go_wp2
    refine wp_loop_rounds 5 ?_
    repeat (rw [rounds_succ]; go_wp2)
    go_ret
    exact ⟨rfl, (Below.refl _ _).alloc (Nat.le_refl _) _⟩



/-- The lesser one of two numbers (a name that the walk does not open). -/
def mn (a b : Int) : Int := min a b
theorem run_mn (t : TypeId) (ts : Array TypeId) (a b : Int) (w : World) : (Builtin.min_ ts t #[.int .i64 a, .int .i64 b]).run Tryd.prog w = .ok (.int .i64 (mn a b)) w := by
  unfold mn
  simp [Builtin.min_, Builtin.min2]
  omega


/-- A purse is within another one: count by count. -/
def inQ (a b c d x y z u : Int) : Bool := decide (a ≤ x) && (decide (b ≤ y) && (decide (c ≤ z) && decide (d ≤ u)))
theorem inQ_iff {a b c d x y z u : Int} : inQ a b c d x y z u = true ↔ a ≤ x ∧ b ≤ y ∧ c ≤ z ∧ d ≤ u := by
  simp [inQ]

/-- What purseFrom gives of a slice that is not of length 4: no purse. -/
theorem purseFrom_len (A : Option Addr) (n c : Nat) (w : World) (h4 : ((n : Int) != 4) = true) :
    Calls Tryd.prog 59 #[.slice A n c] w fun e w' => e = .returned (.tuple #[pv 0 0 0 0, .bool false]) ∧ Below w.heap.size w w' := by
  go_enter Tryd.func59, Tryd.ntmps59
  go_wp2
  exact bodyPost_ret (v := .tuple #[pv 0 0 0 0, .bool false]) (by simp [results, Tryd.results59, go_sem]) rfl ⟨rfl, belo⟩

/-- The copy of four counts into a new purse. -/
theorem copy4 (b off c : Nat) (a0 a1 a2 a3 : Int) (w : World)
    (h0 : w.cell? ⟨b, off, none⟩ = some (.int .i64 a0)) (h1 : w.cell? ⟨b, off + 1, none⟩ = some (.int .i64 a1)) (h2 : w.cell? ⟨b, off + 2, none⟩ = some (.int .i64 a2)) (h3 : w.cell? ⟨b, off + 3, none⟩ = some (.int .i64 a3)) :
    (Builtin.copy_ #[37, 37] 3 #[.slice (some ⟨w.heap.size + 1, 0, none⟩) 4 4, .slice (some ⟨b, off, none⟩) 4 c]).run Tryd.prog
        ((w.alloc (.cells #[.int .i64 0, .int .i64 0, .int .i64 0, .int .i64 0] 69)).alloc (.cells #[.int .i64 0, .int .i64 0, .int .i64 0, .int .i64 0] 69))
      = .ok (.int .i64 4) ((w.alloc (.cells #[.int .i64 0, .int .i64 0, .int .i64 0, .int .i64 0] 69)).alloc (.cells #[.int .i64 a0, .int .i64 a1, .int .i64 a2, .int .i64 a3] 69)) := by
  have hb : b < w.heap.size := World.block_lt_of_cell? w _ h0
  have hkeep : ∀ o, ((w.alloc (.cells #[.int .i64 0, .int .i64 0, .int .i64 0, .int .i64 0] 69)).alloc (.cells #[.int .i64 0, .int .i64 0, .int .i64 0, .int .i64 0] 69)).cell? ⟨b, o, none⟩ = w.cell? ⟨b, o, none⟩ := fun o => by
    rw [World.cell?_alloc_lt _ _ _ (by simp; omega), World.cell?_alloc_lt _ _ _ (by simpa using hb)]
  rw [run_copy_cells (P := Tryd.prog) _ 37 37 3 3 (w.heap.size + 1) 0 4 4 ⟨b, off, none⟩ 4 c [.int .i64 a0, .int .i64 a1, .int .i64 a2, .int .i64 a3] Tryd.underlying37 (by kernel_rfl) rfl
    (by
      intro j v hj
      match j, hj with
      | 0, hj => simp at hj; subst hj; simpa [Addr.add] using (hkeep off).trans h0
      | 1, hj => simp at hj; subst hj; simpa [Addr.add] using (hkeep (off + 1)).trans h1
      | 2, hj => simp at hj; subst hj; simpa [Addr.add] using (hkeep (off + 2)).trans h2
      | 3, hj => simp at hj; subst hj; simpa [Addr.add] using (hkeep (off + 3)).trans h3)
    (by
      intro j hj
      have : j < 4 := by simpa using hj
      match j, this with
      | 0, _ => go_simp
      | 1, _ => go_simp
      | 2, _ => go_simp
      | 3, _ => go_simp)
    (by
      intro j hj
      have : j < 4 := by simpa using hj
      match j, this with
      | 0, _ => go_simp
      | 1, _ => go_simp
      | 2, _ => go_simp
      | 3, _ => go_simp)
    (by intro v hv; simp at hv; rcases hv with rfl | rfl | rfl | rfl <;> rfl)]
  simp only [World.setCells]
  go_simp

theorem purseFrom_four (b off c : Nat) (a0 a1 a2 a3 : Int) (w : World) (r : Bool)
    (h0 : w.cell? ⟨b, off, none⟩ = some (.int .i64 a0)) (h1 : w.cell? ⟨b, off + 1, none⟩ = some (.int .i64 a1)) (h2 : w.cell? ⟨b, off + 2, none⟩ = some (.int .i64 a2)) (h3 : w.cell? ⟨b, off + 3, none⟩ = some (.int .i64 a3))
    (hr : ∀ W : World, Calls Tryd.prog 81 #[pv a0 a1 a2 a3] W fun e w' => e = .returned (.bool r) ∧ Below W.heap.size W w') :
    Calls Tryd.prog 59 #[.slice (some ⟨b, off, none⟩) 4 c] w fun e w' => e = .returned (.tuple #[pv a0 a1 a2 a3, .bool r]) ∧ Below w.heap.size w w' := by
  have hcp := copy4 b off c a0 a1 a2 a3 w h0 h1 h2 h3
  clear h0 h1 h2 h3
  have HR := Lib.hid hr; clear hr
  have hlt : w.heap.size < w.heap.size + 1 + 1 := by omega
  have hlt2 : w.heap.size < w.heap.size + 2 := by omega
  go_enter Tryd.func59, Tryd.ntmps59
  go_wp2
  go_region_held3 (fun w' => w'.cell? ⟨w.heap.size + 1, 0, none⟩ = some (.int .i64 a0) ∧ w'.cell? ⟨w.heap.size + 1, 1, none⟩ = some (.int .i64 a1) ∧ w'.cell? ⟨w.heap.size + 1, 2, none⟩ = some (.int .i64 a2) ∧ w'.cell? ⟨w.heap.size + 1, 3, none⟩ = some (.int .i64 a3)) (go_keep)
    (first | (go_at_call 81; refine (HR.out _).mono ?_; rintro e w1 ⟨rfl, hb1⟩; obtain ⟨hc1, hf1⟩ := olds hb1))
  have hbw : Below w.heap.size w w1 := Below.trans belo (hb1.mono (by simp; omega))
  go_wp2
  exact bodyPost_ret (v := .tuple #[pv a0 a1 a2 a3, .bool r]) (by simp [results, Tryd.results59, go_sem, hc1, hlt]) rfl ⟨rfl, belo⟩

end Go.Proofs.YtnoccmghclmpnaaDoor

namespace Go.Proofs.YtnoccmghclmpnaaDoor
open Go.RowKit

/-- The i-th count of a slice of length 4; 0 for other slices. -/
def nth (xs : List Int) (i : Nat) : Int := if xs.length = 4 then xs.getD i 0 else 0
/-- The slice is a purse: four counts, each in 0..20. -/
def okP (xs : List Int) : Bool := xs.length == 4 && inB (nth xs 0) (nth xs 1) (nth xs 2) (nth xs 3)

theorem okP_iff {xs : List Int} : okP xs = true ↔ xs.length = 4 ∧ inB (nth xs 0) (nth xs 1) (nth xs 2) (nth xs 3) = true := by
  simp [okP]
theorem okP_inB {xs : List Int} (h : okP xs = true) : inB (nth xs 0) (nth xs 1) (nth xs 2) (nth xs 3) = true := (okP_iff.1 h).2
theorem okP_len {xs : List Int} (h : okP xs = true) : xs.length = 4 := (okP_iff.1 h).1
theorem okP_bnd {xs : List Int} (h : okP xs = true) : (0 ≤ nth xs 0 ∧ nth xs 0 ≤ 20) ∧ (0 ≤ nth xs 1 ∧ nth xs 1 ≤ 20) ∧ (0 ≤ nth xs 2 ∧ nth xs 2 ≤ 20) ∧ (0 ≤ nth xs 3 ∧ nth xs 3 ≤ 20) := inB_iff.1 (okP_inB h)

/-- The four cells of a row of length 4. -/
theorem Row.four {w : World} {A : Option Addr} {xs : List Int} (h : Row .i64 w A xs) (h4 : xs.length = 4) :
    ∃ b off, A = some ⟨b, off, none⟩ ∧ w.cell? ⟨b, off, none⟩ = some (.int .i64 (nth xs 0)) ∧ w.cell? ⟨b, off + 1, none⟩ = some (.int .i64 (nth xs 1)) ∧ w.cell? ⟨b, off + 2, none⟩ = some (.int .i64 (nth xs 2)) ∧ w.cell? ⟨b, off + 3, none⟩ = some (.int .i64 (nth xs 3)) := by
  rcases h with h | ⟨b, off, rfl, hc⟩
  · subst h; cases h4
  · have e : ∀ i, nth xs i = xs.getD i 0 := fun i => by simp [nth, h4]
    refine ⟨b, off, rfl, ?_, ?_, ?_, ?_⟩ <;> rw [e]
    · simpa using hc 0 (by omega)
    · exact hc 1 (by omega)
    · exact hc 2 (by omega)
    · exact hc 3 (by omega)

theorem purseFrom_any (A : Option Addr) (xs : List Int) (c : Nat) (w : World) (hr : Row .i64 w A xs) :
    Calls Tryd.prog 59 #[.slice A xs.length c] w fun e w' => e = .returned (.tuple #[pv (nth xs 0) (nth xs 1) (nth xs 2) (nth xs 3), .bool (okP xs)]) ∧ Below w.heap.size w w' := by
  by_cases h4 : xs.length = 4
  · obtain ⟨b, off, rfl, c0, c1, c2, c3⟩ := hr.four h4
    have e : okP xs = inB (nth xs 0) (nth xs 1) (nth xs 2) (nth xs 3) := by simp [okP, h4]
    rw [h4]
    refine purseFrom_four b off c _ _ _ _ w _ c0 c1 c2 c3 fun W => ?_
    cases hb : inB (nth xs 0) (nth xs 1) (nth xs 2) (nth xs 3)
    · rw [e, hb]; exact inBounds_no _ _ _ _ _ hb
    · rw [e, hb]; exact inBounds_yes _ _ _ _ _ hb
  · have e : okP xs = false := by simp [okP, h4]
    have z : ∀ i, nth xs i = 0 := fun i => by simp [nth, h4]
    rw [e, z, z, z, z]
    exact purseFrom_len A xs.length c w (by rw [bne_iff_ne]; omega)

/-- Of two slices that are purses the first is within the second. -/
def okQ (xs ys : List Int) : Bool := (okP xs && okP ys) && inQ (nth xs 0) (nth xs 1) (nth xs 2) (nth xs 3) (nth ys 0) (nth ys 1) (nth ys 2) (nth ys 3)


set_option maxHeartbeats 1600000 in
/-- Two purses out of two slices: both told, and whether both are purses. -/
theorem pursesFrom_any (A B : Option Addr) (xs ys : List Int) (c d : Nat) (w : World) (hr : Row .i64 w A xs) (hq : Row .i64 w B ys) :
    Calls Tryd.prog 69 #[.slice A xs.length c, .slice B ys.length d] w fun e w' =>
      e = .returned (.tuple #[pv (nth xs 0) (nth xs 1) (nth xs 2) (nth xs 3), pv (nth ys 0) (nth ys 1) (nth ys 2) (nth ys 3), .bool (okP xs && okP ys)]) ∧ Below w.heap.size w w' := by
  cases hx : okP xs <;> cases hy : okP ys
  all_goals
    have H1 := purseFrom_any A xs c
    have H2 := purseFrom_any B ys d
    rw [hx] at H1
    rw [hy] at H2
    clear hx hy
    generalize nth xs 0 = a0 at *
    generalize nth xs 1 = a1 at *
    generalize nth xs 2 = a2 at *
    generalize nth xs 3 = a3 at *
    generalize nth ys 0 = b0 at *
    generalize nth ys 1 = b1 at *
    generalize nth ys 2 = b2 at *
    generalize nth ys 3 = b3 at *
    have K1 := Lib.hid H1; clear H1
    have K2 := Lib.hid H2; clear H2
    go_enter Tryd.func69, Tryd.ntmps69
    go_wp2_with fail
    refine (K1.out _ (hr.below belo)).mono ?_
    rintro e w1 ⟨rfl, hb1⟩
    have hB1 : Below w.heap.size w w1 := Below.trans belo (hb1.mono (by simp; omega))
    have qA := ((Blk.new w 69 #[.int .i64 0, .int .i64 0, .int .i64 0, .int .i64 0]).alloc _).kept hb1
    have qB := (Blk.new (w.alloc _) 69 #[.int .i64 0, .int .i64 0, .int .i64 0, .int .i64 0]).kept hb1
    simp only [World.size_alloc] at qB
    have hz1 := hb1.size
    simp at hz1
    clear hb1
    go_wp2_with fail
    refine (K2.out _ (hq.below belo)).mono ?_
    rintro e w2 ⟨rfl, hb2⟩
    have qC := (Blk.new w1 69 #[.int .i64 a0, .int .i64 a1, .int .i64 a2, .int .i64 a3]).kept hb2
    have qA2 := (qA.alloc _).kept hb2
    have qB2 := (qB.alloc _).kept hb2
    have hB2 : Below w.heap.size w w2 := Below.trans belo (hb2.mono (by simp; omega))
    have hz2 := hb2.size
    simp at hz2
    clear hb2 qA qB
    have cA := fun i => qA2.cell i
    have fA := fun i => qA2.frozen i
    have cB := fun i => qB2.cell i
    have fB := fun i => qB2.frozen i
    have cC := fun i => qC.cell i
    have n1 : w.heap.size < w2.heap.size := by omega
    have n2 : w.heap.size + 1 < w2.heap.size := by omega
    have n3 : w1.heap.size < w2.heap.size := by omega
    have n4 : w.heap.size ≠ w1.heap.size := by omega
    have n5 : w.heap.size + 1 ≠ w1.heap.size := by omega
    have n6 : w.heap.size ≠ w2.heap.size := by omega
    have n7 : w.heap.size + 1 ≠ w2.heap.size := by omega
    have n8 : w1.heap.size ≠ w2.heap.size := by omega
    go_wp2
    go_region
    go_wp2
    first
      | exact bodyPost_ret (v := .tuple #[pv a0 a1 a2 a3, pv b0 b1 b2 b3, .bool false]) (by simp [results, Tryd.results69, go_sem, cA, cB, n1, n2]) rfl ⟨rfl, belo⟩
      | exact bodyPost_ret (v := .tuple #[pv a0 a1 a2 a3, pv b0 b1 b2 b3, .bool true]) (by simp [results, Tryd.results69, go_sem, cA, cB, n1, n2]) rfl ⟨rfl, belo⟩

end Go.Proofs.YtnoccmghclmpnaaDoor

namespace Go.Proofs.YtnoccmghclmpnaaDoor

/-- Four counts. -/
structure Q4 where
  a : Int
  b : Int
  c : Int
  d : Int

namespace Q4
def get (v : Q4) : Nat → Int
  | 0 => v.a
  | 1 => v.b
  | 2 => v.c
  | 3 => v.d
  | _ => 0
def set (v : Q4) : Nat → Int → Q4
  | 0, x => ⟨x, v.b, v.c, v.d⟩
  | 1, x => ⟨v.a, x, v.c, v.d⟩
  | 2, x => ⟨v.a, v.b, x, v.d⟩
  | 3, x => ⟨v.a, v.b, v.c, x⟩
  | _, _ => v
def none4 : Q4 := ⟨0, 0, 0, 0⟩
/-- What they are worth. -/
def val (v : Q4) : Int := v.a + 2 * v.b + 5 * v.c + 10 * v.d
/-- How many coins they are. -/
def cnt (v : Q4) : Int := v.a + v.b + v.c + v.d
end Q4

/-- What a coin of a kind is worth. -/
def wt : Nat → Int
  | 0 => 1
  | 1 => 2
  | 2 => 5
  | _ => 10

theorem wt_pos (k : Nat) : 1 ≤ wt k := by
  match k with
  | 0 => decide
  | 1 => decide
  | 2 => decide
  | k + 3 => show (1 : Int) ≤ 10; decide
theorem lt4 {k : Nat} (h : k < 4) : k = 0 ∨ k = 1 ∨ k = 2 ∨ k = 3 := by omega

theorem get_set (v : Q4) {k : Nat} (hk : k < 4) (x : Int) (j : Nat) : (v.set k x).get j = if j = k then x else v.get j := by
  rcases lt4 hk with rfl | rfl | rfl | rfl
  all_goals
    match j with
    | 0 => rfl
    | 1 => rfl
    | 2 => rfl
    | 3 => rfl
    | j + 4 => first | rfl | (rw [if_neg (by omega)]; rfl)
theorem get_set_same (v : Q4) {k : Nat} (hk : k < 4) (x : Int) : (v.set k x).get k = x := by rw [get_set v hk, if_pos rfl]
theorem get_set_other (v : Q4) {k : Nat} (hk : k < 4) (x : Int) {j : Nat} (hj : j ≠ k) : (v.set k x).get j = v.get j := by rw [get_set v hk, if_neg hj]
theorem ext4 {u v : Q4} (h : ∀ j, u.get j = v.get j) : u = v := by
  obtain ⟨a, b, c, d⟩ := u
  obtain ⟨x, y, z, t⟩ := v
  have h0 : a = x := h 0
  have h1 : b = y := h 1
  have h2 : c = z := h 2
  have h3 : d = t := h 3
  subst h0; subst h1; subst h2; subst h3
  rfl
theorem get_none4 (j : Nat) : Q4.none4.get j = 0 := by
  match j with
  | 0 => rfl
  | 1 => rfl
  | 2 => rfl
  | 3 => rfl
  | j + 4 => rfl
theorem val_set (v : Q4) {k : Nat} (hk : k < 4) (x : Int) : (v.set k x).val = v.val + (x - v.get k) * wt k := by
  rcases lt4 hk with rfl | rfl | rfl | rfl <;> simp [Q4.val, Q4.set, Q4.get, wt] <;> omega

/-- What the kinds below k are worth. -/
def valTo (v : Q4) : Nat → Int
  | 0 => 0
  | k + 1 => valTo v k + v.get k * wt k
theorem val_eq (v : Q4) : v.val = valTo v 4 := by
  simp [valTo, Q4.val, Q4.get, wt]; omega
theorem valTo_congr {u v : Q4} {k : Nat} (h : ∀ j, j < k → u.get j = v.get j) : valTo u k = valTo v k := by
  induction k with
  | zero => rfl
  | succ k ih => rw [valTo, valTo, ih (fun j hj => h j (by omega)), h k (by omega)]
theorem valTo_nonneg {v : Q4} {k : Nat} (h : ∀ j, j < k → 0 ≤ v.get j) : 0 ≤ valTo v k := by
  induction k with
  | zero => exact Int.le_refl _
  | succ k ih =>
    rw [valTo]
    have h1 := ih (fun j hj => h j (by omega))
    have h2 := Int.mul_nonneg (h k (by omega)) (show 0 ≤ wt k by have := wt_pos k; omega)
    omega
/-- x, x - 1, .., 0. -/
def dnN : Nat → List Int
  | 0 => []
  | m + 1 => (m : Int) :: dnN m
def dn (x : Int) : List Int := dnN (x + 1).toNat
theorem dn_neg {x : Int} (h : x < 0) : dn x = [] := by
  have : (x + 1).toNat = 0 := by omega
  rw [dn, this]; rfl
theorem dn_cons {x : Int} (h : 0 ≤ x) : dn x = x :: dn (x - 1) := by
  obtain ⟨m, rfl⟩ : ∃ m : Nat, x = m := ⟨x.toNat, by omega⟩
  have e1 : ((m : Int) + 1).toNat = m + 1 := by omega
  have e2 : ((m : Int) - 1 + 1).toNat = m := by omega
  rw [dn, dn, e1, e2, dnN]
theorem mem_dnN {q : Int} : ∀ {m : Nat}, q ∈ dnN m ↔ 0 ≤ q ∧ q < m
  | 0 => by simp [dnN]
  | m + 1 => by
    rw [dnN, List.mem_cons, mem_dnN]
    constructor
    · rintro (h | h) <;> omega
    · intro h; by_cases hq : q = m
      · exact .inl hq
      · exact .inr (by omega)
theorem mem_dn {q x : Int} : q ∈ dn x ↔ 0 ≤ q ∧ q ≤ x := by
  rw [dn, mem_dnN]; omega
/-- How many coins of a kind can be given at most. -/
def most (p : Q4) (k : Nat) (n : Int) : Int := min (p.get k) (n / wt k)

/-- All ways to give the amount n out of p with the kinds below k alone: more coins of the greater kinds first. -/
def ways (p : Q4) : Nat → Int → List Q4
  | 0, n => if n = 0 then [Q4.none4] else []
  | k + 1, n => (dn (most p k n)).flatMap fun q => (ways p k (n - q * wt k)).map fun v => v.set k q

theorem most_le_div {p : Q4} {k : Nat} {n q : Int} (h : q ≤ most p k n) : q * wt k ≤ n := by
  unfold most at h
  have h1 : q ≤ n / wt k := by omega
  have := (Int.le_ediv_iff_mul_le (by have := wt_pos k; omega)).1 h1
  exact this
theorem le_most {p : Q4} {k : Nat} {n q : Int} (h : q ≤ p.get k) (h2 : q * wt k ≤ n) : q ≤ most p k n := by
  have := (Int.le_ediv_iff_mul_le (c := wt k) (a := q) (b := n) (by have := wt_pos k; omega)).2 h2
  unfold most; omega
theorem most_le {p : Q4} {k : Nat} {n : Int} : most p k n ≤ p.get k := by unfold most; omega

theorem mem_ways {p v : Q4} {k : Nat} (hk : k ≤ 4) {n : Int} :
    v ∈ ways p k n ↔ (∀ j, j < k → 0 ≤ v.get j ∧ v.get j ≤ p.get j) ∧ (∀ j, k ≤ j → v.get j = 0) ∧ valTo v k = n := by
  induction k generalizing v n with
  | zero =>
    rw [ways]
    constructor
    · intro h
      by_cases hn : n = 0
      · rw [if_pos hn, List.mem_singleton] at h
        subst h
        exact ⟨fun j hj => by omega, fun j _ => get_none4 j, hn.symm⟩
      · rw [if_neg hn] at h; cases h
    · rintro ⟨_, h2, h3⟩
      have hn : n = 0 := h3.symm
      rw [if_pos hn, List.mem_singleton]
      exact ext4 fun j => by rw [h2 j (Nat.zero_le _), get_none4]
  | succ k ih =>
    have hk4 : k < 4 := by omega
    rw [ways, List.mem_flatMap]
    constructor
    · rintro ⟨q, hq, hv⟩
      obtain ⟨hq0, hq1⟩ := mem_dn.1 hq
      obtain ⟨u, hu, rfl⟩ := List.mem_map.1 hv
      obtain ⟨u1, u2, u3⟩ := (ih (by omega)).1 hu
      refine ⟨fun j hj => ?_, fun j hj => ?_, ?_⟩
      · by_cases e : j = k
        · subst e; rw [get_set_same u hk4]; exact ⟨hq0, Int.le_trans hq1 most_le⟩
        · rw [get_set_other u hk4 q e]; exact u1 j (by omega)
      · rw [get_set_other u hk4 q (by omega)]; exact u2 j (by omega)
      · rw [valTo, get_set_same u hk4, valTo_congr (v := u) (fun j hj => get_set_other u hk4 q (by omega)), u3]; omega
    · rintro ⟨h1, h2, h3⟩
      rw [valTo] at h3
      have hnn := valTo_nonneg (v := v) (k := k) (fun j hj => (h1 j (by omega)).1)
      refine ⟨v.get k, mem_dn.2 ⟨(h1 k (by omega)).1, le_most (h1 k (by omega)).2 (by omega)⟩, List.mem_map.2 ⟨v.set k 0, ?_, ?_⟩⟩
      · refine (ih (by omega)).2 ⟨fun j hj => ?_, fun j hj => ?_, ?_⟩
        · rw [get_set_other v hk4 0 (by omega)]; exact h1 j (by omega)
        · by_cases e : j = k
          · subst e; exact get_set_same v hk4 0
          · rw [get_set_other v hk4 0 e]; exact h2 j (by omega)
        · rw [valTo_congr (v := v) (fun j hj => get_set_other v hk4 0 (by omega))]; omega
      · refine ext4 fun j => ?_
        rw [get_set _ hk4]
        by_cases e : j = k
        · rw [if_pos e, e]
        · rw [if_neg e, get_set_other v hk4 0 e]

/-- The least kind alone: at most one way. -/
theorem ways_one (p : Q4) (n : Int) (h : 0 ≤ n) : ways p 1 n = if n ≤ p.a then [⟨n, 0, 0, 0⟩] else [] := by
  have e : ∀ x : Int, x < n → ((dn x).flatMap fun q => (ways p 0 (n - q * wt 0)).map fun v => v.set 0 q) = [] := by
    intro x hx
    rw [List.flatMap_eq_nil_iff]
    intro q hq
    have := (mem_dn.1 hq).2
    rw [ways, if_neg (by show ¬ n - q * 1 = 0; omega)]; rfl
  rw [ways]
  have hm : most p 0 n = min p.a n := by show min p.a (n / 1) = _; rw [Int.ediv_one]
  rw [hm]
  by_cases hle : n ≤ p.a
  · rw [if_pos hle, Int.min_eq_right hle, dn_cons h, List.flatMap_cons, e (n - 1) (by omega), List.append_nil, ways, if_pos (by show n - n * 1 = 0; omega)]
    rfl
  · rw [if_neg hle]
    exact e _ (by omega)

/-! ### Greedy change -/

/-- What is given greedily with the kinds below k, and what is left. -/
def greedy (p : Q4) : Nat → Int → Q4 × Int
  | 0, n => (Q4.none4, n)
  | k + 1, n => ((greedy p k (n - most p k n * wt k)).1.set k (most p k n), (greedy p k (n - most p k n * wt k)).2)

/-! ### The first way with fewest coins -/

/-- The first one of two, unless the second one has fewer coins. -/
def comb : Option Q4 → Option Q4 → Option Q4
  | none, y => y
  | some b, none => some b
  | some b, some y => if y.cnt < b.cnt then some y else some b
theorem comb_none (x : Option Q4) : comb x none = x := by cases x <;> rfl
theorem comb_assoc (x y z : Option Q4) : comb (comb x y) z = comb x (comb y z) := by
  cases x with
  | none => rfl
  | some x =>
    cases y with
    | none => rfl
    | some y =>
      cases z with
      | none => rw [comb_none, comb_none]
      | some z =>
        simp only [comb]
        by_cases h1 : y.cnt < x.cnt <;> by_cases h2 : z.cnt < y.cnt
        · rw [if_pos h1, if_pos h2]; simp only; rw [if_pos h2, if_pos (by omega)]
        · rw [if_pos h1, if_neg h2]; simp only; rw [if_neg h2, if_pos h1]
        · rw [if_neg h1, if_pos h2]
        · rw [if_neg h1, if_neg h2]; simp only; rw [if_neg h1, if_neg (by omega)]

/-- The first one with fewest coins. -/
def few (l : List Q4) : Option Q4 := l.foldl (fun b v => comb b (some v)) none
theorem few_from (b : Option Q4) (l : List Q4) : l.foldl (fun b v => comb b (some v)) b = comb b (few l) := by
  induction l generalizing b with
  | nil => exact (comb_none b).symm
  | cons v l ih =>
    have e : few (v :: l) = comb (some v) (few l) := ih (some v)
    rw [List.foldl_cons, ih, e, comb_assoc]
theorem few_append (l m : List Q4) : few (l ++ m) = comb (few l) (few m) := by
  rw [few, List.foldl_append, few_from]; rfl
theorem few_cons (v : Q4) (l : List Q4) : few (v :: l) = comb (some v) (few l) := by
  rw [few, List.foldl_cons, few_from]; rfl
theorem few_snoc (l : List Q4) (v : Q4) : few (l ++ [v]) = comb (few l) (some v) := few_append l [v]

theorem few_mem {l : List Q4} {v : Q4} (h : few l = some v) : v ∈ l ∧ ∀ u ∈ l, v.cnt ≤ u.cnt := by
  induction l generalizing v with
  | nil => cases h
  | cons x l ih =>
    rw [few_cons] at h
    cases e : few l with
    | none =>
      rw [e, comb_none] at h
      injection h with h
      subst h
      have hl : l = [] := by
        cases l with
        | nil => rfl
        | cons y l =>
          rw [few_cons] at e
          cases e2 : few l with
          | none => rw [e2] at e; cases e
          | some z => rw [e2] at e; simp only [comb] at e; split at e <;> cases e
      subst hl
      exact ⟨List.mem_cons_self, fun u hu => by rw [List.mem_singleton] at hu; subst hu; exact Int.le_refl _⟩
    | some y =>
      obtain ⟨i1, i2⟩ := ih e
      rw [e] at h
      simp only [comb] at h
      by_cases hlt : y.cnt < x.cnt
      · rw [if_pos hlt] at h
        injection h with h
        subst h
        refine ⟨List.mem_cons_of_mem _ i1, fun u hu => ?_⟩
        rcases List.mem_cons.1 hu with rfl | hu
        · omega
        · exact i2 u hu
      · rw [if_neg hlt] at h
        injection h with h
        subst h
        refine ⟨List.mem_cons_self, fun u hu => ?_⟩
        rcases List.mem_cons.1 hu with rfl | hu
        · exact Int.le_refl _
        · have := i2 u hu; omega
theorem few_none {l : List Q4} : few l = none ↔ l = [] := by
  constructor
  · intro h
    cases l with
    | nil => rfl
    | cons v l =>
      rw [few_cons] at h
      cases e : few l with
      | none => rw [e] at h; cases h
      | some y => rw [e] at h; simp only [comb] at h; split at h <;> cases h
  · rintro rfl; rfl

/-- The first way with fewest coins to give n out of p with the kinds below k. -/
def fewest (p : Q4) (k : Nat) (n : Int) : Option Q4 := few (ways p k n)

end Go.Proofs.YtnoccmghclmpnaaDoor

namespace Go.Proofs.YtnoccmghclmpnaaDoor

/-! ### As many ways for the rest -/

/-! ### How many there can be -/

theorem flat_le {α β : Type} {l : List α} {f : α → List β} {b : Nat} (h : ∀ x ∈ l, (f x).length ≤ b) : (l.flatMap f).length ≤ l.length * b := by
  induction l with
  | nil => simp
  | cons x l ih =>
    rw [List.flatMap_cons, List.length_append, List.length_cons, Nat.add_mul, Nat.one_mul]
    have h1 := h x List.mem_cons_self
    have h2 := ih fun y hy => h y (List.mem_cons_of_mem _ hy)
    omega
theorem dnN_length : ∀ m : Nat, (dnN m).length = m
  | 0 => rfl
  | m + 1 => by rw [dnN, List.length_cons, dnN_length m]
theorem dn_length_le {x : Int} (h : x ≤ 20) : (dn x).length ≤ 21 := by rw [dn, dnN_length]; omega
theorem ways_length {p : Q4} (hp : ∀ j, p.get j ≤ 20) (k : Nat) (n : Int) : (ways p k n).length ≤ 21 ^ k := by
  induction k generalizing n with
  | zero => rw [ways]; split <;> simp
  | succ k ih =>
    rw [ways]
    have h1 := flat_le (l := dn (most p k n)) (f := fun q => (ways p k (n - q * wt k)).map fun v => v.set k q) (b := 21 ^ k) (fun q _ => by rw [List.length_map]; exact ih _)
    have h2 := dn_length_le (x := most p k n) (Int.le_trans most_le (hp k))
    have h3 := Nat.mul_le_mul_right (21 ^ k) h2
    rw [Nat.pow_succ]
    omega
theorem ways_length4 {p : Q4} (hp : ∀ j, p.get j ≤ 20) (n : Int) : (ways p 4 n).length ≤ 194481 := ways_length hp 4 n

/-! ### The ways as nested loops -/

/-- The counts d, c, b of the greater kinds are told: one way, or none. -/
def leaf (p : Q4) (n d c b : Int) : List Q4 := if n - 10 * d - 5 * c - 2 * b ≤ p.a then [⟨n - 10 * d - 5 * c - 2 * b, b, c, d⟩] else []
def loopB (p : Q4) (n d c b : Int) : List Q4 := (dn b).flatMap fun b => leaf p n d c b
def topB (p : Q4) (n d c : Int) : Int := min p.b ((n - 10 * d - 5 * c) / 2)
def loopC (p : Q4) (n d c : Int) : List Q4 := (dn c).flatMap fun c => loopB p n d c (topB p n d c)
def topC (p : Q4) (n d : Int) : Int := min p.c ((n - 10 * d) / 5)
def loopD (p : Q4) (n d : Int) : List Q4 := (dn d).flatMap fun d => loopC p n d (topC p n d)
def topD (p : Q4) (n : Int) : Int := min p.d (n / 10)
theorem loopB_neg {p : Q4} {n d c b : Int} (h : b < 0) : loopB p n d c b = [] := by rw [loopB, dn_neg h]; rfl
theorem loopC_neg {p : Q4} {n d c : Int} (h : c < 0) : loopC p n d c = [] := by rw [loopC, dn_neg h]; rfl
theorem loopD_neg {p : Q4} {n d : Int} (h : d < 0) : loopD p n d = [] := by rw [loopD, dn_neg h]; rfl
theorem loopB_step {p : Q4} {n d c b : Int} (h : 0 ≤ b) : loopB p n d c b = leaf p n d c b ++ loopB p n d c (b - 1) := by rw [loopB, dn_cons h]; rfl
theorem loopC_step {p : Q4} {n d c : Int} (h : 0 ≤ c) : loopC p n d c = loopB p n d c (topB p n d c) ++ loopC p n d (c - 1) := by rw [loopC, dn_cons h]; rfl
theorem loopD_step {p : Q4} {n d : Int} (h : 0 ≤ d) : loopD p n d = loopC p n d (topC p n d) ++ loopD p n (d - 1) := by rw [loopD, dn_cons h]; rfl

theorem flat_congr {α β : Type} {l : List α} {f g : α → List β} (h : ∀ x ∈ l, f x = g x) : l.flatMap f = l.flatMap g := by
  induction l with
  | nil => rfl
  | cons x l ih => rw [List.flatMap_cons, List.flatMap_cons, h x List.mem_cons_self, ih fun y hy => h y (List.mem_cons_of_mem _ hy)]

theorem ways_two (p : Q4) (n d c : Int) : ((ways p 2 (n - 10 * d - 5 * c)).map fun v => v.set 2 c).map (fun v => v.set 3 d) = loopB p n d c (topB p n d c) := by
  rw [ways, loopB, List.map_flatMap, List.map_flatMap]
  refine flat_congr fun q hq => ?_
  have hq1 := most_le_div (p := p) (k := 1) (mem_dn.1 hq).2
  have e : wt 1 = 2 := rfl
  rw [e] at hq1 ⊢
  rw [ways_one _ _ (by omega), leaf]
  have e2 : n - 10 * d - 5 * c - q * 2 = n - 10 * d - 5 * c - 2 * q := by omega
  rw [e2]
  split <;> rfl
theorem ways_three (p : Q4) (n d : Int) : (ways p 3 (n - 10 * d)).map (fun v => v.set 3 d) = loopC p n d (topC p n d) := by
  rw [ways, loopC, List.map_flatMap]
  refine flat_congr fun q _ => ?_
  have e : wt 2 = 5 := rfl
  have e2 : n - 10 * d - q * 5 = n - 10 * d - 5 * q := by omega
  rw [e, e2]
  exact ways_two p n d q
theorem ways_loops (p : Q4) (n : Int) : loopD p n (topD p n) = ways p 4 n := by
  rw [ways, loopD]
  refine flat_congr fun q _ => ?_
  have e : wt 3 = 10 := rfl
  have e2 : n - q * 10 = n - 10 * q := by omega
  rw [e, e2]
  exact (ways_three p n q).symm

/-! ### The ways as lists that grow kind by kind -/

/-- The counts from c down that leave no more than the lesser kinds are worth. -/
def steps (k : Nat) (left lesser c : Int) : List Int := (dn c).takeWhile fun q => decide (left - q * wt k ≤ lesser)
theorem mem_steps {k : Nat} {left lesser c q : Int} (h : q ∈ steps k left lesser c) : 0 ≤ q ∧ q ≤ c ∧ left - q * wt k ≤ lesser := by
  have h1 := mem_dn.1 (List.takeWhile_sublist _ |>.subset h)
  have h2 := List.all_takeWhile (l := dn c) (p := fun q => decide (left - q * wt k ≤ lesser))
  rw [List.all_eq_true] at h2
  exact ⟨h1.1, h1.2, by simpa using h2 q h⟩
/-- One way with all numbers of coins of the kind k from c down. -/
def longer1 (k : Nat) (left lesser c : Int) (v : Q4) : List Q4 := (steps k left lesser c).map fun q => v.set k q
/-- All ways of a list with one kind more. -/
def longer (p : Q4) (n : Int) (k : Nat) (lesser : Int) (L : List Q4) : List Q4 := L.flatMap fun v => longer1 k (n - v.val) lesser (most p k (n - v.val)) v

/-- The ways of a list are begun with the kinds from k on. -/
def Begun (p : Q4) (n : Int) (k : Nat) (L : List Q4) : Prop := ∀ v ∈ L, (∀ j, j < k → v.get j = 0) ∧ (∀ j, 0 ≤ v.get j ∧ v.get j ≤ p.get j) ∧ v.val ≤ n

theorem Begun.longer {p : Q4} {n : Int} {k : Nat} (hk : k < 4) {lesser : Int} {L : List Q4} (h : Begun p n (k + 1) L) : Begun p n k (longer p n k lesser L) := by
  intro u hu
  obtain ⟨v, hv, hu⟩ := List.mem_flatMap.1 hu
  obtain ⟨q, hq, rfl⟩ := List.mem_map.1 hu
  obtain ⟨h1, h2, h3⟩ := h v hv
  obtain ⟨q0, q1, _⟩ := mem_steps hq
  refine ⟨fun j hj => ?_, fun j => ?_, ?_⟩
  · rw [get_set_other v hk q (by omega)]; exact h1 j (by omega)
  · rw [get_set v hk]
    by_cases e : j = k
    · rw [if_pos e, e]; exact ⟨q0, Int.le_trans q1 most_le⟩
    · rw [if_neg e]; exact h2 j
  · rw [val_set v hk, h1 k (by omega), Int.sub_zero]
    have := most_le_div q1
    omega

/-- The counts below k of one way, the others of another one. -/
def over : Nat → Q4 → Q4 → Q4
  | 0, _, v => v
  | k + 1, u, v => (over k u v).set k (u.get k)
/-- What the program builds kind by kind are all ways. -/
def grown (p : Q4) (n : Int) : Nat → List Q4
  | 0 => [Q4.none4]
  | 1 => longer p n 3 (valTo p 3) [Q4.none4]
  | 2 => longer p n 2 (valTo p 2) (longer p n 3 (valTo p 3) [Q4.none4])
  | 3 => longer p n 1 (valTo p 1) (longer p n 2 (valTo p 2) (longer p n 3 (valTo p 3) [Q4.none4]))
  | _ => longer p n 0 (valTo p 0) (longer p n 1 (valTo p 1) (longer p n 2 (valTo p 2) (longer p n 3 (valTo p 3) [Q4.none4])))
/-! ### Which amounts can be given, and which ones greed misses -/

/-- The amount can be given. -/
def can (p : Q4) (n : Int) : Bool := !(ways p 4 n).isEmpty
theorem can_few {p : Q4} {n : Int} : can p n = (fewest p 4 n).isSome := by
  unfold can fewest
  cases e : few (ways p 4 n) with
  | none => rw [few_none.1 e]; rfl
  | some v =>
    have := (few_mem e).1
    cases h : ways p 4 n with
    | nil => rw [h] at this; cases this
    | cons u l => rfl
end Go.Proofs.YtnoccmghclmpnaaDoor

namespace Go.Proofs.YtnoccmghclmpnaaDoor
open Go.RowKit

/-- The cells of a list of ints. -/
def cellsOf (xs : List Int) : Array Value := (xs.map (Value.int .i64)).toArray
theorem cellsOf_get {xs : List Int} {i : Nat} (h : i < xs.length) : (cellsOf xs)[i]? = some (.int .i64 (xs.getD i 0)) := by
  simp [cellsOf, h]
theorem cellsOf_size (xs : List Int) : (cellsOf xs).size = xs.length := by simp [cellsOf]

theorem Blk.row {w : World} {g : Nat} {t : TypeId} {xs : List Int} (h : Blk w g t (cellsOf xs)) : Row .i64 w (some ⟨g, 0, none⟩) xs :=
  .inr ⟨g, 0, rfl, fun i hi => by rw [Nat.zero_add, h.cell i, cellsOf_get hi]⟩

/-- The first k numbers of xs, the rest 0. -/
def fore (xs : List Int) (k : Nat) : List Int := (List.range xs.length).map fun i => if i < k then xs.getD i 0 else 0
theorem fore_length (xs : List Int) (k : Nat) : (fore xs k).length = xs.length := by simp [fore]
theorem fore_all (xs : List Int) : fore xs xs.length = xs := by
  apply List.ext_getElem (by simp [fore])
  intro i h1 h2
  simp [fore, h2]
theorem cellsOf_get? (xs : List Int) (i : Nat) : (cellsOf xs)[i]? = (xs[i]?).map (Value.int .i64) := by
  simp [cellsOf]
theorem fore_get? (xs : List Int) (k i : Nat) : (fore xs k)[i]? = if i < xs.length then some (if i < k then xs.getD i 0 else 0) else none := by
  simp only [fore, List.getElem?_map]
  by_cases h : i < xs.length
  · rw [List.getElem?_range h, if_pos h]; rfl
  · rw [if_neg h, List.getElem?_eq_none (by simp; omega)]; rfl
theorem fore_set (xs : List Int) (k : Nat) (hk : k < xs.length) : (cellsOf (fore xs k)).setIfInBounds k (.int .i64 (xs.getD k 0)) = cellsOf (fore xs (k + 1)) := by
  apply Array.ext_getElem?
  intro i
  rw [Array.getElem?_setIfInBounds, cellsOf_get?, cellsOf_get?, fore_get?, fore_get?, cellsOf_size, fore_length]
  by_cases hik : k = i
  · subst hik; simp [hk]
  · rw [if_neg hik]
    have e : (if i < k then xs.getD i 0 else 0) = (if i < k + 1 then xs.getD i 0 else 0) := by
      by_cases h3 : i < k
      · rw [if_pos h3, if_pos (by omega)]
      · rw [if_neg h3, if_neg (by omega)]
    rw [e]

theorem fore_zero (xs : List Int) : cellsOf (fore xs 0) = madeCells #[.int .i64 0] xs.length := by
  apply Array.ext_getElem?
  intro i
  rw [cellsOf_get?, fore_get?]
  by_cases h : i < xs.length
  · simp [madeCells, h, Nat.mod_one]
  · rw [if_neg h, Array.getElem?_eq_none (by simp [madeCells]; omega)]; rfl



/-- The marks 1, 2, .., n. -/
def marks (n : Nat) : List Int := (List.range n).map fun (i : Nat) => 1 + (i : Int)
theorem marks_length (n : Nat) : (marks n).length = n := by simp [marks]
theorem marks_get {n i : Nat} (h : i < n) : (marks n).getD i 0 = 1 + (i : Int) := by
  simp [marks, List.getD, h]

/-- The first k cells of a block bear the marks s, s + 1, ..; it is as long as it was. -/
def MarkedTo (s : Int) (old : Array Value) (k : Nat) (cs : Array Value) : Prop :=
  cs.size = old.size ∧ ∀ i, i < k → cs[i]? = some (.int .i64 (s + (i : Int)))

theorem MarkedTo.row {old cs : Array Value} {n g : Nat} {t : TypeId} {w : World} (h : MarkedTo 1 old n cs) (hg : Blk w g t cs) : Row .i64 w (some ⟨g, 0, none⟩) (marks n) :=
  .inr ⟨g, 0, rfl, fun i hi => by
    rw [marks_length] at hi
    rw [Nat.zero_add, hg.cell i, h.2 i hi, marks_get hi]⟩

theorem MarkedTo.step {s : Int} {old cs : Array Value} {k : Nat} (h : MarkedTo s old k cs) (hk : k < old.size) : MarkedTo s old (k + 1) (cs.setIfInBounds k (.int .i64 (s + (k : Int)))) := by
  refine ⟨by simpa using h.1, fun i hi => ?_⟩
  rw [Array.getElem?_setIfInBounds]
  by_cases hik : k = i
  · subst hik
    rw [if_pos rfl, if_pos (by rw [h.1]; exact hk)]
  · rw [if_neg hik]
    exact h.2 i (by omega)





/-- A row is as it was where another block alone has turned. -/
theorem Row.other {k : IntKind} {w w' : World} {g off g1 : Nat} {xs : List Int} (h : Row k w (some ⟨g, off, none⟩) xs) (ho : ∀ g2, g2 ≠ g1 → w'.heap[g2]? = w.heap[g2]?) (hne : g ≠ g1) :
    Row k w' (some ⟨g, off, none⟩) xs := by
  rcases h with h | ⟨b, o, e, hc⟩
  · exact .inl h
  · injection e with e
    injection e with e1 e2 _
    subst e1; subst e2
    exact .inr ⟨g, off, rfl, fun i hi => (World.cell?_of_block (ho g hne)).trans (hc i hi)⟩
theorem Blk.other {w w' : World} {g g1 : Nat} {t : TypeId} {cs : Array Value} (h : Blk w g t cs) (ho : ∀ g2, g2 ≠ g1 → w'.heap[g2]? = w.heap[g2]?) (hne : g ≠ g1) : Blk w' g t cs :=
  (ho g hne).trans h

end Go.Proofs.YtnoccmghclmpnaaDoor

namespace Go.Proofs.YtnoccmghclmpnaaDoor
open Go.RowKit

/-- What came of an act; an act. -/
structure Rs where
  done : Bool
  piece : Int
  out : List Int
def noR : Rs := ⟨false, 0, []⟩
structure Ac where
  d : Int
  n : Int
def noA : Ac := ⟨0, 0⟩
def rs (L : List Rs) (i : Nat) : Rs := L.getD i noR
def ac (L : List Ac) (i : Nat) : Ac := L.getD i noA
theorem rs_eq {L : List Rs} {i : Nat} (h : i < L.length) : rs L i = L[i] := by unfold rs; simp [List.getD, h]
theorem ac_eq {L : List Ac} {i : Nat} (h : i < L.length) : ac L i = L[i] := by unfold ac; simp [List.getD, h]

/-- The slice reads as a list of acts: two cells each. -/
def ARow (w : World) (A : Option Addr) (L : List Ac) : Prop :=
  L = [] ∨ ∃ b off, A = some ⟨b, off, none⟩ ∧ ∀ i, i < L.length → w.cell? ⟨b, off + i * 2, none⟩ = some (.int .i64 (ac L i).d) ∧ w.cell? ⟨b, off + i * 2 + 1, none⟩ = some (.int .i64 (ac L i).n)
theorem ARow.nil (w : World) (A : Option Addr) : ARow w A [] := .inl rfl
theorem ARow.keep {w w' : World} {A : Option Addr} {L : List Ac} (h : ARow w A L) (hk : ∀ p : Addr, p.block < w.heap.size → w'.cell? p = w.cell? p) : ARow w' A L := by
  rcases h with h | ⟨b, off, rfl, hc⟩
  · exact .inl h
  · refine .inr ⟨b, off, rfl, fun i hi => ?_⟩
    have h1 := hc i hi
    rw [hk _ (World.block_lt_of_cell? w _ h1.1), hk _ (World.block_lt_of_cell? w _ h1.2)]
    exact h1
theorem ARow.below {w w' : World} {A : Option Addr} {L : List Ac} (h : ARow w A L) (hb : Below w.heap.size w w') : ARow w' A L := h.keep fun _ hp => hb.cell hp
theorem ARow.addr {w : World} {A : Option Addr} {L : List Ac} (h : ARow w A L) (hn : 0 < L.length) : ∃ b off, A = some ⟨b, off, none⟩ := by
  rcases h with h | ⟨b, off, rfl, _⟩
  · subst h; cases hn
  · exact ⟨b, off, rfl⟩
theorem ARow.one {w : World} {b off : Nat} {L : List Ac} (h : ARow w (some ⟨b, off, none⟩) L) (i : Nat) (hi : i < L.length) : w.cell? ⟨b, off + i * 2, none⟩ = some (.int .i64 (ac L i).d) ∧ w.cell? ⟨b, off + i * 2 + 1, none⟩ = some (.int .i64 (ac L i).n) := by
  rcases h with h | ⟨b', off', e, hc⟩
  · subst h; cases hi
  · injection e with e
    injection e with e1 e2 _
    subst e1; subst e2
    exact hc i hi

/-- The slice reads as a list of results: three cells each, the third a slice of ints. -/
def QRow (w : World) (A : Option Addr) (L : List Rs) : Prop :=
  L = [] ∨ ∃ b off, A = some ⟨b, off, none⟩ ∧ ∀ i, i < L.length → w.cell? ⟨b, off + i * 3, none⟩ = some (.bool (rs L i).done) ∧ w.cell? ⟨b, off + i * 3 + 1, none⟩ = some (.int .i64 (rs L i).piece) ∧
    ∃ B c, w.cell? ⟨b, off + i * 3 + 2, none⟩ = some (.slice B (rs L i).out.length c) ∧ Row .i64 w B (rs L i).out
theorem QRow.nil (w : World) (A : Option Addr) : QRow w A [] := .inl rfl
theorem QRow.keep {w w' : World} {A : Option Addr} {L : List Rs} (h : QRow w A L) (hk : ∀ p : Addr, p.block < w.heap.size → w'.cell? p = w.cell? p) : QRow w' A L := by
  rcases h with h | ⟨b, off, rfl, hc⟩
  · exact .inl h
  · refine .inr ⟨b, off, rfl, fun i hi => ?_⟩
    obtain ⟨h1, h2, B, c, h3, h4⟩ := hc i hi
    rw [hk _ (World.block_lt_of_cell? w _ h1), hk _ (World.block_lt_of_cell? w _ h2), hk _ (World.block_lt_of_cell? w _ h3)]
    exact ⟨h1, h2, B, c, h3, h4.keep hk⟩
theorem QRow.below {w w' : World} {A : Option Addr} {L : List Rs} (h : QRow w A L) (hb : Below w.heap.size w w') : QRow w' A L := h.keep fun _ hp => hb.cell hp
theorem QRow.addr {w : World} {A : Option Addr} {L : List Rs} (h : QRow w A L) (hn : 0 < L.length) : ∃ b off, A = some ⟨b, off, none⟩ := by
  rcases h with h | ⟨b, off, rfl, _⟩
  · subst h; cases hn
  · exact ⟨b, off, rfl⟩
theorem QRow.one {w : World} {b off : Nat} {L : List Rs} (h : QRow w (some ⟨b, off, none⟩) L) (i : Nat) (hi : i < L.length) : w.cell? ⟨b, off + i * 3, none⟩ = some (.bool (rs L i).done) ∧ w.cell? ⟨b, off + i * 3 + 1, none⟩ = some (.int .i64 (rs L i).piece) ∧
    ∃ B c, w.cell? ⟨b, off + i * 3 + 2, none⟩ = some (.slice B (rs L i).out.length c) ∧ Row .i64 w B (rs L i).out := by
  rcases h with h | ⟨b', off', e, hc⟩
  · subst h; cases hi
  · injection e with e
    injection e with e1 e2 _
    subst e1; subst e2
    exact hc i hi

/-- How many cells the coins of the first k results take; all of a list. -/
def outTo (L : List Rs) : Nat → Nat
  | 0 => 0
  | k + 1 => outTo L k + (rs L k).out.length
def SmallQ (L : List Rs) (n : Nat) : Prop := L.length + outTo L L.length ≤ n
theorem outTo_mono {L : List Rs} {k m : Nat} (h : k ≤ m) : outTo L k ≤ outTo L m := by
  induction m with
  | zero => obtain rfl : k = 0 := by omega
            exact Nat.le_refl _
  | succ m ih =>
    by_cases e : k = m + 1
    · subst e; exact Nat.le_refl _
    · exact Nat.le_trans (ih (by omega)) (Nat.le_add_right _ _)
theorem outTo_one {L : List Rs} {k : Nat} (h : k < L.length) : (rs L k).out.length ≤ outTo L L.length := by
  have h1 : outTo L k + (rs L k).out.length ≤ outTo L L.length := outTo_mono (L := L) (show k + 1 ≤ L.length by omega)
  omega
theorem SmallQ.one {L : List Rs} {n k : Nat} (h : SmallQ L n) (hk : k < L.length) : (rs L k).out.length ≤ n := by
  have := outTo_one hk
  unfold SmallQ at h
  omega
theorem SmallQ.len {L : List Rs} {n : Nat} (h : SmallQ L n) : L.length ≤ n := by unfold SmallQ at h; omega

/-- What a marking leaves as it was. -/
def Out (lo hi : Nat) (w w' : World) : Prop := Below lo w w' ∧ ∀ g, hi ≤ g → g < w.heap.size → w'.heap[g]? = w.heap[g]?
theorem Out.refl (lo hi : Nat) (w : World) : Out lo hi w w := ⟨Below.refl _ _, fun _ _ _ => rfl⟩
theorem Out.of_below {lo hi : Nat} {w w' : World} (h : Below w.heap.size w w') (hl : lo ≤ w.heap.size) : Out lo hi w w' := ⟨h.mono hl, fun g _ hg => h.block g hg⟩
theorem Out.trans {lo hi : Nat} {a b c : World} (h : Out lo hi a b) (k : Out lo hi b c) : Out lo hi a c := ⟨Below.trans h.1 k.1, fun g h1 h2 => (k.2 g h1 (Nat.lt_of_lt_of_le h2 h.1.size)).trans (h.2 g h1 h2)⟩

/-- Numbers at the head of a block. -/
def NumAt (w : World) (g : Nat) (T : TypeId) (xs : List Int) : Prop := ∃ cs, Blk w g T cs ∧ ∀ j, j < xs.length → cs[j]? = some (.int .i64 (xs.getD j 0))
theorem NumAt.of_heap {w w' : World} {g : Nat} {T : TypeId} {xs : List Int} (h : NumAt w g T xs) (he : w'.heap[g]? = w.heap[g]?) : NumAt w' g T xs := by obtain ⟨cs, h, k⟩ := h; exact ⟨cs, he.trans h, k⟩
theorem NumAt.row {w : World} {g : Nat} {T : TypeId} {xs : List Int} (h : NumAt w g T xs) : Row .i64 w (some ⟨g, 0, none⟩) xs := by
  obtain ⟨cs, h, k⟩ := h
  exact .inr ⟨g, 0, rfl, fun i hi => by rw [Nat.zero_add, h.cell]; exact k i hi⟩
theorem NumAt.lt {w : World} {g : Nat} {T : TypeId} {xs : List Int} (h : NumAt w g T xs) : g < w.heap.size := by obtain ⟨cs, h, _⟩ := h; exact h.lt

/-- A slice of numbers in a block of its own, from lo on and below hi, or an empty one. -/
def SAt (w : World) (lo hi f : Nat) (v : Value) (xs : List Int) : Prop :=
  ∃ A c, v = .slice A xs.length c ∧ (xs = [] ∨ (A = some ⟨f, 0, none⟩ ∧ (∃ T, NumAt w f T xs) ∧ lo ≤ f ∧ f < hi))
theorem SAt.same {w w' : World} {lo hi hi' f : Nat} {v : Value} {xs : List Int} (h : SAt w lo hi f v xs) (he : xs ≠ [] → w'.heap[f]? = w.heap[f]?) (hh : hi ≤ hi') : SAt w' lo hi' f v xs := by
  obtain ⟨A, c, rfl, h⟩ := h
  rcases h with h | ⟨rfl, ⟨T, h1⟩, h2, h3⟩
  · exact ⟨A, c, rfl, .inl h⟩
  · by_cases h0 : xs = []
    · exact ⟨_, c, rfl, .inl h0⟩
    · exact ⟨_, c, rfl, .inr ⟨rfl, ⟨T, h1.of_heap (he h0)⟩, h2, by omega⟩⟩
theorem SAt.row {w : World} {lo hi f : Nat} {v : Value} {xs : List Int} (h : SAt w lo hi f v xs) : ∃ A c, v = .slice A xs.length c ∧ Row .i64 w A xs := by
  obtain ⟨A, c, rfl, h⟩ := h
  rcases h with h | ⟨rfl, ⟨T, h1⟩, _⟩
  · exact ⟨A, c, rfl, .inl h⟩
  · exact ⟨_, c, rfl, h1.row⟩
theorem SAt.lt {w : World} {lo hi f : Nat} {v : Value} {xs : List Int} (h : SAt w lo hi f v xs) (h0 : xs ≠ []) : lo ≤ f ∧ f < hi := by
  obtain ⟨A, c, rfl, h⟩ := h
  rcases h with h | ⟨_, _, h2, h3⟩
  · exact absurd h h0
  · exact ⟨h2, h3⟩

/-- The first k results of L, in the cells cs of block g, each slice in a block of its own. -/
def QTo (w : World) (lo hi g : Nat) (cs : Array Value) (f : Nat → Nat) (L : List Rs) (k : Nat) : Prop :=
  ∀ i, i < k → cs[i * 3]? = some (.bool (rs L i).done) ∧ cs[i * 3 + 1]? = some (.int .i64 (rs L i).piece) ∧ (∃ v, cs[i * 3 + 2]? = some v ∧ SAt w lo hi (f i) v (rs L i).out) ∧
    ((rs L i).out ≠ [] → f i ≠ g ∧ ∀ j, j < i → (rs L j).out ≠ [] → f j ≠ f i)
theorem QTo.zero (w : World) (lo hi g : Nat) (cs : Array Value) (f : Nat → Nat) (L : List Rs) : QTo w lo hi g cs f L 0 := fun i hi => by omega
def put3 (cs : Array Value) (k : Nat) (a b c : Value) : Array Value := ((cs.setIfInBounds (k * 3) a).setIfInBounds (k * 3 + 1) b).setIfInBounds (k * 3 + 2) c
theorem put3_size (cs : Array Value) (k : Nat) (a b c : Value) : (put3 cs k a b c).size = cs.size := by simp [put3]
theorem put3_same {cs : Array Value} {k : Nat} (hk : k * 3 + 2 < cs.size) (a b c : Value) : (put3 cs k a b c)[k * 3]? = some a ∧ (put3 cs k a b c)[k * 3 + 1]? = some b ∧ (put3 cs k a b c)[k * 3 + 2]? = some c := by
  unfold put3
  simp only [Array.getElem?_setIfInBounds, Array.size_setIfInBounds]
  refine ⟨?_, ?_, ?_⟩
  · rw [if_neg (by omega), if_neg (by omega), if_pos trivial, if_pos (by omega)]
  · rw [if_neg (by omega), if_pos trivial, if_pos (by omega)]
  · rw [if_pos trivial, if_pos (by omega)]
theorem put3_far {cs : Array Value} {k i : Nat} (h : i < k * 3 ∨ k * 3 + 2 < i) (a b c : Value) : (put3 cs k a b c)[i]? = cs[i]? := by
  unfold put3
  simp only [Array.getElem?_setIfInBounds, Array.size_setIfInBounds]
  rw [if_neg (by omega), if_neg (by omega), if_neg (by omega)]
theorem QTo.step {w w' : World} {lo hi hi' g f1 k : Nat} {cs : Array Value} {f : Nat → Nat} {L : List Rs} (h : QTo w lo hi g cs f L k) (hk : k * 3 + 2 < cs.size)
    (hkeep : ∀ b, lo ≤ b → b < hi → b ≠ g → w'.heap[b]? = w.heap[b]?) (hh : hi ≤ hi') {v : Value} (hv : SAt w' lo hi' f1 v (rs L k).out) (hf : (rs L k).out ≠ [] → hi ≤ f1) (hg : (rs L k).out ≠ [] → f1 ≠ g) :
    QTo w' lo hi' g (put3 cs k (.bool (rs L k).done) (.int .i64 (rs L k).piece) v) (fun i => if i = k then f1 else f i) L (k + 1) := by
  intro i hi1
  by_cases e : i = k
  · subst e
    obtain ⟨p1, p2, p3⟩ := put3_same hk (.bool (rs L i).done) (.int .i64 (rs L i).piece) v
    refine ⟨p1, p2, ⟨v, p3, by simpa using hv⟩, fun h0 => ⟨by simpa using hg h0, fun j hj hj0 => ?_⟩⟩
    dsimp only
    rw [if_neg (by omega), if_pos rfl]
    obtain ⟨_, _, ⟨u, _, h4⟩, _⟩ := h j hj
    have := (h4.lt hj0).2
    have := hf h0
    omega
  · obtain ⟨h1, h2, ⟨u, h3, h4⟩, h5⟩ := h i (by omega)
    rw [put3_far (by omega), put3_far (by omega), put3_far (by omega)]
    dsimp only
    rw [if_neg e]
    refine ⟨h1, h2, ⟨u, h3, h4.same (fun h0 => hkeep _ (h4.lt h0).1 (h4.lt h0).2 (h5 h0).1) hh⟩, fun h0 => ⟨(h5 h0).1, fun j hj hj0 => ?_⟩⟩
    rw [if_neg (by omega)]
    exact (h5 h0).2 j hj hj0

/-- A list of results in block g, from lo on and below hi, each slice in a block of its own there. -/
def QAt (w : World) (lo hi g : Nat) (T : TypeId) (L : List Rs) : Prop :=
  ∃ cs f, Blk w g T cs ∧ L.length * 3 ≤ cs.size ∧ lo ≤ g ∧ g < hi ∧ QTo w lo hi g cs f L L.length
theorem QAt.row {w : World} {lo hi g : Nat} {T : TypeId} {L : List Rs} (h : QAt w lo hi g T L) : QRow w (some ⟨g, 0, none⟩) L := by
  obtain ⟨cs, f, h1, _, _, _, h2⟩ := h
  refine .inr ⟨g, 0, rfl, fun i hi => ?_⟩
  obtain ⟨k1, k2, ⟨v, k3, k4⟩, _⟩ := h2 i hi
  obtain ⟨A, c, rfl, hr⟩ := k4.row
  rw [Nat.zero_add, h1.cell, h1.cell, h1.cell]
  exact ⟨k1, k2, A, c, k3, hr⟩
theorem QAt.same {w w' : World} {lo hi lo' hi' g : Nat} {T : TypeId} {L : List Rs} (h : QAt w lo hi g T L) (hs : ∀ b, lo ≤ b → b < hi → w'.heap[b]? = w.heap[b]?) (hl : lo' ≤ lo) (hh : hi ≤ hi') : QAt w' lo' hi' g T L := by
  obtain ⟨cs, f, h1, h2, h3, h4, h5⟩ := h
  refine ⟨cs, f, (hs g h3 h4).trans h1, h2, by omega, by omega, fun i hi => ?_⟩
  obtain ⟨k1, k2, ⟨v, k3, k4⟩, k5⟩ := h5 i hi
  refine ⟨k1, k2, ⟨v, k3, ?_⟩, k5⟩
  obtain ⟨A, c, rfl, k⟩ := k4
  refine ⟨A, c, rfl, ?_⟩
  rcases k with k | ⟨ka, ⟨T', kb⟩, kc, kd⟩
  · exact .inl k
  · exact .inr ⟨ka, ⟨T', kb.of_heap (hs _ kc kd)⟩, by omega, by omega⟩
theorem QAt.kept {w w' : World} {lo hi g : Nat} {T : TypeId} {L : List Rs} (h : QAt w lo hi g T L) (hb : Below w.heap.size w w') (hh : hi ≤ w.heap.size) : QAt w' lo hi g T L :=
  h.same (fun b _ h2 => hb.block b (by omega)) (Nat.le_refl _) (Nat.le_refl _)
theorem QAt.lt {w : World} {lo hi g : Nat} {T : TypeId} {L : List Rs} (h : QAt w lo hi g T L) : g < w.heap.size := by obtain ⟨cs, f, h1, _⟩ := h; exact h1.lt

/-- A list of acts in block g. -/
def AAt (w : World) (g : Nat) (T : TypeId) (L : List Ac) : Prop :=
  ∃ cs, Blk w g T cs ∧ L.length * 2 ≤ cs.size ∧ ∀ i, i < L.length → cs[i * 2]? = some (.int .i64 (ac L i).d) ∧ cs[i * 2 + 1]? = some (.int .i64 (ac L i).n)
theorem AAt.row {w : World} {g : Nat} {T : TypeId} {L : List Ac} (h : AAt w g T L) : ARow w (some ⟨g, 0, none⟩) L := by
  obtain ⟨cs, h1, _, h2⟩ := h
  refine .inr ⟨g, 0, rfl, fun i hi => ?_⟩
  rw [Nat.zero_add, h1.cell, h1.cell]
  exact h2 i hi
theorem AAt.of_heap {w w' : World} {g : Nat} {T : TypeId} {L : List Ac} (h : AAt w g T L) (he : w'.heap[g]? = w.heap[g]?) : AAt w' g T L := by obtain ⟨cs, h, k⟩ := h; exact ⟨cs, he.trans h, k⟩
theorem AAt.kept {w w' : World} {g : Nat} {T : TypeId} {L : List Ac} (h : AAt w g T L) (hb : Below w.heap.size w w') : AAt w' g T L := by obtain ⟨cs, h, k⟩ := h; exact ⟨cs, h.kept hb, k⟩
theorem AAt.lt {w : World} {g : Nat} {T : TypeId} {L : List Ac} (h : AAt w g T L) : g < w.heap.size := by obtain ⟨cs, h, _⟩ := h; exact h.lt

/-- What is counted over acts and results. -/
def doneTo (L : List Rs) : Nat → Int
  | 0 => 0
  | k + 1 => doneTo L k + (if (rs L k).done = true then 1 else 0)
theorem doneTo_bnd (L : List Rs) (k : Nat) : 0 ≤ doneTo L k ∧ doneTo L k ≤ (k : Int) := by
  induction k with
  | zero => exact ⟨Int.le_refl _, Int.le_refl _⟩
  | succ k ih => unfold doneTo; split <;> omega
/-- The pieces of the good i that come out by the first k results. -/
def soldAt (L : List Rs) (i : Nat) : Nat → Int
  | 0 => 0
  | k + 1 => soldAt L i k + (if (rs L k).piece = (i : Int) + 1 then 1 else 0)
theorem soldAt_bnd (L : List Rs) (i k : Nat) : 0 ≤ soldAt L i k ∧ soldAt L i k ≤ (k : Int) := by
  induction k with
  | zero => exact ⟨Int.le_refl _, Int.le_refl _⟩
  | succ k ih => unfold soldAt; split <;> omega
def soldOk (n : Nat) (L : List Rs) : Prop := ∀ i, i < L.length → 0 ≤ (rs L i).piece ∧ (rs L i).piece ≤ (n : Int)
instance (n : Nat) (L : List Rs) : Decidable (soldOk n L) := by unfold soldOk; infer_instance
def soldTo (n : Nat) (L : List Rs) (k : Nat) : List Int := (List.range n).map fun i => soldAt L i k
theorem soldTo_length (n : Nat) (L : List Rs) (k : Nat) : (soldTo n L k).length = n := by simp [soldTo]
theorem soldTo_get {n i : Nat} (h : i < n) (L : List Rs) (k : Nat) : (soldTo n L k).getD i 0 = soldAt L i k := by simp [soldTo, List.getD, h]
theorem soldTo_none {n : Nat} {L : List Rs} {k : Nat} (h : (rs L k).piece = 0) : soldTo n L (k + 1) = soldTo n L k := by
  unfold soldTo
  refine List.map_congr_left fun i _ => ?_
  show soldAt L i k + _ = _
  rw [if_neg (by omega), Int.add_zero]
theorem soldTo_some {n p : Nat} {L : List Rs} {k : Nat} (h : (rs L k).piece = (p : Int) + 1) (hp : p < n) : soldTo n L (k + 1) = (soldTo n L k).set p (soldAt L p k + 1) := by
  apply List.ext_getElem (by simp [soldTo])
  intro i h1 h2
  rw [soldTo_length] at h1
  have e1 : (soldTo n L (k + 1))[i]'(by rw [soldTo_length]; exact h1) = soldAt L i (k + 1) := by simp [soldTo]
  have e2 : (soldTo n L k)[i]'(by rw [soldTo_length]; exact h1) = soldAt L i k := by simp [soldTo]
  rw [e1, List.getElem_set]
  show soldAt L i k + _ = _
  by_cases e : i = p
  · subst e; rw [if_pos h, if_pos rfl]
  · rw [if_neg (by omega), if_neg (by omega), e2, Int.add_zero]
def soldM (n : Int) (L : List Rs) : List Int := if (0 ≤ n ∧ n ≤ 3) ∧ soldOk n.toNat L then soldTo n.toNat L L.length else []

end Go.Proofs.YtnoccmghclmpnaaDoor

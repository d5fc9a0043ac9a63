/- Shelves and baskets as values of the program, and what the helpers over them return: inBounds, pieces, cost, all, next, without, row, list. -/
import Derived.Test.YtfoohenmlagfjaaDoorBase
import Derived.Test.YtfoohenmlagfjaaDoorBsk
import Derived.Deep.QuietTactic
import Derived.BigQuiet
import Derived.Deep.RegionHeld3
namespace Go.Proofs.YtfoohenmlagfjaaDoor
open Go.RowKit

/-- The cells of a basket, of a good, of shelves. -/
def bc (q : Q3) : Array Value := #[.int .i64 q.x, .int .i64 q.y, .int .i64 q.z]
abbrev bv (q : Q3) : Value := .agg #[.int .i64 q.x, .int .i64 q.y, .int .i64 q.z]
abbrev gdv (g : Gd) : Value := .agg #[.int .i64 g.p, .int .i64 g.s]
def sc (S : Sh) : Array Value := #[.int .i64 S.a.p, .int .i64 S.a.s, .int .i64 S.b.p, .int .i64 S.b.s, .int .i64 S.c.p, .int .i64 S.c.s, .int .i64 S.m]
abbrev shv (S : Sh) : Value := .agg #[.int .i64 S.a.p, .int .i64 S.a.s, .int .i64 S.b.p, .int .i64 S.b.s, .int .i64 S.c.p, .int .i64 S.c.s, .int .i64 S.m]

theorem Blk.new' {w : World} {t : TypeId} {cs : Array Value} {g : Nat} (h : g = w.heap.size) : Blk (w.alloc (.cells cs t)) g t cs := by subst h; exact Blk.new _ _ _

theorem bindex0 (x y z : Int) (w : World) : (Instr.index 162 (.agg #[.int .i64 x, .int .i64 y, .int .i64 z]) (.int .i64 0)).run Tryd.prog w = .ok (.int .i64 x) w := by kernel_rfl
theorem bindex1 (x y z : Int) (w : World) : (Instr.index 162 (.agg #[.int .i64 x, .int .i64 y, .int .i64 z]) (.int .i64 1)).run Tryd.prog w = .ok (.int .i64 y) w := by kernel_rfl
theorem bindex2 (x y z : Int) (w : World) : (Instr.index 162 (.agg #[.int .i64 x, .int .i64 y, .int .i64 z]) (.int .i64 2)).run Tryd.prog w = .ok (.int .i64 z) w := by kernel_rfl

theorem inBoundsG_any (g : Gd) (w : World) :
    Calls Tryd.prog 97 #[gdv g] w fun e w' => e = .returned (.bool g.ok) ∧ Below w.heap.size w w' := by
  obtain ⟨p, s⟩ := g
  cases h : Gd.ok ⟨p, s⟩
  · have h' := Gd.ok_false.1 h
    clear h
    dsimp only at h'
    have h2 : p < 1 ∨ (1 ≤ p ∧ 40 < p) ∨ ((1 ≤ p ∧ p ≤ 40) ∧ s < 0) ∨ ((1 ≤ p ∧ p ≤ 40) ∧ 0 ≤ s ∧ 5 < s) := by omega
    clear h'
    rcases h2 with h1 | ⟨h1, h2⟩ | ⟨⟨h1, h2⟩, h3⟩ | ⟨⟨h1, h2⟩, h3, h4⟩
    all_goals
      go_enter Tryd.func97, Tryd.ntmps97
      go_wp2
      go_ret
      exact ⟨by first | with_reducible rfl | exact ret_bool (by simp; omega) | rfl, (by repeat' (first | with_reducible exact Below.refl _ _ | with_reducible assumption | with_reducible apply Below.drew | with_reducible apply below_drewN | (with_reducible refine Below.setCell ?_ ?_ _) | (with_reducible refine Below.alloc ?_ ?_ _) | with_reducible exact Nat.le_refl _ | with_reducible exact Below.size (by assumption) | (simp; done) | (simp; done) | omega | (simp; omega)))⟩
  · obtain ⟨h1, h2, h3, h4⟩ := Gd.ok_iff.1 h
    clear h
    dsimp only at h1 h2 h3 h4
    go_enter Tryd.func97, Tryd.ntmps97
    go_wp2
    go_ret
    exact ⟨rfl, (by repeat' (first | with_reducible exact Below.refl _ _ | with_reducible assumption | with_reducible apply Below.drew | with_reducible apply below_drewN | (with_reducible refine Below.setCell ?_ ?_ _) | (with_reducible refine Below.alloc ?_ ?_ _) | with_reducible exact Nat.le_refl _ | with_reducible exact Below.size (by assumption) | (simp; done) | (simp; done) | omega | (simp; omega)))⟩





/-- The list of shelves is a new block. -/
def GotList (w : World) (S : Sh) (e : Ending) (w' : World) : Prop :=
  ∃ g, e = .returned (.slice (some ⟨g, 0, none⟩) S.m.toNat S.m.toNat) ∧ Blk w' g 79 (sc S) ∧ w.heap.size ≤ g ∧ Below w.heap.size w w'
theorem list_any (S : Sh) (w : World) (m0 : 0 ≤ S.m) (m1 : S.m ≤ 3) :
    Calls Tryd.prog 88 #[shv S] w (GotList w S) := by
  obtain ⟨⟨p0, s0⟩, ⟨p1, s1⟩, ⟨p2, s2⟩, m⟩ := S
  dsimp only at *
  go_enter Tryd.func88, Tryd.ntmps88
  go_wp2
  go_ret
  exact ⟨_, rfl, Blk.new' (by simp), by simp, (by repeat' (first | with_reducible exact Below.refl _ _ | with_reducible assumption | with_reducible apply Below.drew | with_reducible apply below_drewN | (with_reducible refine Below.setCell ?_ ?_ _) | (with_reducible refine Below.alloc ?_ ?_ _) | with_reducible exact Nat.le_refl _ | with_reducible exact Below.size (by assumption) | (simp; done) | (simp; done) | omega | (simp; omega)))⟩



end Go.Proofs.YtfoohenmlagfjaaDoor

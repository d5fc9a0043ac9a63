/- Gds, Shv, Shv2, Shv3, Shv4, Sps, Sps2, Aft, RowsB, HelpG, HelpR, HelpA, OpenG, Own, GdA, Cpy, in one text. -/
import Derived.Test.YtnoccmghclmpnaaDoorLo
import Derived.Deep.QuietTactic
import Derived.BigQuiet
import Derived.Deep.RegionHeld3
import Derived.Deep.AppendLies
import Derived.OwnWalk
import Derived.Laws.AppendOwn
import Derived.Deep.SlicePairs
import Derived.ChangeArms
import Derived.Laws.AppendOwnNone
namespace Go.Proofs.YtnoccmghclmpnaaDoor
open Go.RowKit

/-- The cells of a basket, of a good, of shelves. -/
def bc (q : Q3) : Array Value := #[.int .i64 q.x, .int .i64 q.y, .int .i64 q.z]
abbrev bv (q : Q3) : Value := .agg #[.int .i64 q.x, .int .i64 q.y, .int .i64 q.z]
abbrev gdv (g : Gd) : Value := .agg #[.int .i64 g.p, .int .i64 g.s]
def sc (S : Sh) : Array Value := #[.int .i64 S.a.p, .int .i64 S.a.s, .int .i64 S.b.p, .int .i64 S.b.s, .int .i64 S.c.p, .int .i64 S.c.s, .int .i64 S.m]
abbrev shv (S : Sh) : Value := .agg #[.int .i64 S.a.p, .int .i64 S.a.s, .int .i64 S.b.p, .int .i64 S.b.s, .int .i64 S.c.p, .int .i64 S.c.s, .int .i64 S.m]


theorem inBoundsG_any (g : Gd) (w : World) :
    Calls Tryd.prog 84 #[gdv g] w fun e w' => e = .returned (.bool g.ok) ∧ Below w.heap.size w w' := by
  obtain ⟨p, s⟩ := g
  cases h : Gd.ok ⟨p, s⟩
  · have h' := Gd.ok_false.1 h
    clear h
    dsimp only at h'
    have h2 : p < 1 ∨ (1 ≤ p ∧ 40 < p) ∨ ((1 ≤ p ∧ p ≤ 40) ∧ s < 0) ∨ ((1 ≤ p ∧ p ≤ 40) ∧ 0 ≤ s ∧ 5 < s) := by omega
    clear h'
    rcases h2 with h1 | ⟨h1, h2⟩ | ⟨⟨h1, h2⟩, h3⟩ | ⟨⟨h1, h2⟩, h3, h4⟩
    all_goals
      go_enter Tryd.func84, Tryd.ntmps84
      go_wp2
      go_ret
      exact ⟨by first | with_reducible rfl | exact ret_bool (by simp; omega) | rfl, belo⟩
  · obtain ⟨h1, h2, h3, h4⟩ := Gd.ok_iff.1 h
    clear h
    dsimp only at h1 h2 h3 h4
    go_enter Tryd.func84, Tryd.ntmps84
    go_wp2
    go_ret
    exact ⟨rfl, belo⟩





/-- The list of shelves is a new block. -/
def GotList (w : World) (S : Sh) (e : Ending) (w' : World) : Prop :=
  ∃ g, e = .returned (.slice (some ⟨g, 0, none⟩) S.m.toNat S.m.toNat) ∧ Blk w' g 74 (sc S) ∧ w.heap.size ≤ g ∧ Below w.heap.size w w'
theorem list_any (S : Sh) (w : World) (m0 : 0 ≤ S.m) (m1 : S.m ≤ 3) :
    Calls Tryd.prog 74 #[shv S] w (GotList w S) := by
  obtain ⟨⟨p0, s0⟩, ⟨p1, s1⟩, ⟨p2, s2⟩, m⟩ := S
  dsimp only at *
  go_enter Tryd.func74, Tryd.ntmps74
  go_wp2
  go_ret
  exact ⟨_, rfl, Blk.new' (by simp), by simp, belo⟩



end Go.Proofs.YtnoccmghclmpnaaDoor

namespace Go.Proofs.YtnoccmghclmpnaaDoor
open Go.RowKit

/-- The slice reads as a list of goods: two cells each. -/
def GRow (w : World) (A : Option Addr) (gs : List Gd) : Prop :=
  gs = [] ∨ ∃ b off, A = some ⟨b, off, none⟩ ∧ ∀ i, i < gs.length → w.cell? ⟨b, off + i * 2, none⟩ = some (.int .i64 (gd gs i).p) ∧ w.cell? ⟨b, off + i * 2 + 1, none⟩ = some (.int .i64 (gd gs i).s)

theorem GRow.nil (w : World) (A : Option Addr) : GRow w A [] := .inl rfl
theorem GRow.keep {w w' : World} {A : Option Addr} {gs : List Gd} (h : GRow w A gs) (hk : ∀ p : Addr, p.block < w.heap.size → w'.cell? p = w.cell? p) : GRow w' A gs := by
  rcases h with h | ⟨b, off, rfl, hc⟩
  · exact .inl h
  · refine .inr ⟨b, off, rfl, fun i hi => ?_⟩
    have h1 := hc i hi
    rw [hk _ (World.block_lt_of_cell? w _ h1.1), hk _ (World.block_lt_of_cell? w _ h1.2)]
    exact h1
theorem GRow.below {w w' : World} {A : Option Addr} {gs : List Gd} (h : GRow w A gs) (hb : Below w.heap.size w w') : GRow w' A gs := h.keep fun _ hp => hb.cell hp

theorem gd_eq {gs : List Gd} {i : Nat} (h : i < gs.length) : gd gs i = gs[i] := by
  unfold gd; simp [List.getD, h]
theorem sizeGood : (Tryd.prog.info? 71).map (·.size) = some 2 := by kernel_rfl
/-- The copy of goods: two cells each. -/
theorem run_copyG (w : World) (ty : TypeId) (g b off n c : Nat) (cs : List Value) (hn : cs.length = n * 2) (hn3 : n ≤ 3)
    (hsrc : ∀ j v, cs[j]? = some v → w.cell? ⟨b, off + j, none⟩ = some v) (hc : ∀ j, j < cs.length → (w.cell? ⟨g, j, none⟩).isSome = true) (hf : ∀ j, j < cs.length → w.frozen? ⟨g, j, none⟩ = false) (h1 : ∀ v ∈ cs, v.oneCell' = true) :
    (Builtin.copy_ #[38, 38] ty #[.slice (some ⟨g, 0, none⟩) 3 3, .slice (some ⟨b, off, none⟩) n c]).run Tryd.prog w = .ok (goInt n) (w.setCells g 0 cs) := by
  have e : ∀ j, (⟨b, off, none⟩ : Addr).add j = ⟨b, off + j, none⟩ := fun j => by
    unfold Addr.add
    by_cases h : j = 0 <;> simp [h]
  have hl := run_loadCells_list (P := Tryd.prog) w ⟨b, off, none⟩ cs (fun j v hj => by rw [e]; exact hsrc j v hj)
  have hst := run_storeCells_cells (P := Tryd.prog) g 0 cs 0 w (by simpa using hc) (by simpa using hf) h1
  have hs := sizeGood
  have hmin : Nat.min n 3 = n := Nat.min_eq_left hn3
  cases hq : Tryd.prog.info? 71 with
  | none => simp [hq] at hs
  | some i =>
    have hi : i.size = 2 := by simpa [hq] using hs
    rw [hn] at hl
    simp [Builtin.copy_, run_underlying Tryd.underlying38, Builtin.lenOf, Builtin.firstCells, sizeOf, typeInfo, hq, hi, hmin, hl, hst]
theorem run_copyG0 (w : World) (ty : TypeId) (g c : Nat) (A : Option Addr) :
    (Builtin.copy_ #[38, 38] ty #[.slice (some ⟨g, 0, none⟩) 3 3, .slice A 0 c]).run Tryd.prog w = .ok (goInt 0) w := by
  have hs := sizeGood
  cases hq : Tryd.prog.info? 71 with
  | none => simp [hq] at hs
  | some i =>
    cases A <;> simp [Builtin.copy_, run_underlying Tryd.underlying38, Builtin.lenOf, Builtin.firstCells, sizeOf, typeInfo, hq, loadCells, loadCellsFrom, storeCells, goInt]

def Sh.zero : Sh := ⟨Gd.none2, Gd.none2, Gd.none2, 0⟩
theorem inBoundsG_yes (g : Gd) (w : World) (h : g.ok = true) :
    Calls Tryd.prog 84 #[gdv g] w fun e w' => e = .returned (.bool true) ∧ Below w.heap.size w w' := by
  rw [← h]; exact inBoundsG_any g w
theorem inBoundsG_no (g : Gd) (w : World) (h : g.ok = false) :
    Calls Tryd.prog 84 #[gdv g] w fun e w' => e = .returned (.bool false) ∧ Below w.heap.size w w' := by
  rw [← h]; exact inBoundsG_any g w

/-- What shelvesFrom gives. -/
def ShFrom (gs : List Gd) (w : World) (e : Ending) (w' : World) : Prop :=
  e = .returned (if okS gs = true then .tuple #[shv (shOf gs), .bool true] else .tuple #[shv Sh.zero, .bool false]) ∧ Below w.heap.size w w'
theorem shelvesFrom_long (A : Option Addr) (n c : Nat) (w : World) (h : 3 < n) :
    Calls Tryd.prog 70 #[.slice A n c] w fun e w' => e = .returned (.tuple #[shv Sh.zero, .bool false]) ∧ Below w.heap.size w w' := by
  go_enter Tryd.func70, Tryd.ntmps70
  go_wp2
  exact bodyPost_ret (v := .tuple #[shv Sh.zero, .bool false]) (by simp [results, Tryd.results70, go_sem, Sh.zero, Gd.none2]) rfl ⟨rfl, belo⟩

theorem shelvesFrom_0 (A : Option Addr) (c : Nat) (w : World) :
    Calls Tryd.prog 70 #[.slice A 0 c] w fun e w' => e = .returned (.tuple #[shv Sh.zero, .bool true]) ∧ Below w.heap.size w w' := by
  have hcp := fun ty g W => run_copyG0 W ty g c A
  go_enter Tryd.func70, Tryd.ntmps70
  go_wp2
  refine wp_loop_rounds 1 ?_
  rw [rounds_succ]
  go_wp2
  exact bodyPost_ret (v := .tuple #[shv Sh.zero, .bool true]) (by simp [results, Tryd.results70, go_sem, Sh.zero, Gd.none2]) rfl ⟨rfl, belo⟩

theorem copied1 (b off c : Nat) (g0 : Gd) (w : World) (c0 : w.cell? ⟨b, off, none⟩ = some (.int .i64 g0.p)) (c1 : w.cell? ⟨b, off + 1, none⟩ = some (.int .i64 g0.s)) (ty : TypeId) :
    (Builtin.copy_ #[38, 38] ty #[.slice (some ⟨w.heap.size + 1, 0, none⟩) 3 3, .slice (some ⟨b, off, none⟩) 1 c]).run Tryd.prog ((w.alloc (.cells (sc Sh.zero) 74)).alloc (.cells (sc { Sh.zero with m := 1 }) 74))
      = .ok (goInt 1) ((w.alloc (.cells (sc Sh.zero) 74)).alloc (.cells (sc (shOf [g0])) 74)) := by
  have hb : b < w.heap.size := World.block_lt_of_cell? w _ c0
  have hk : ∀ o (X Y : Obj), ((w.alloc X).alloc Y).cell? ⟨b, o, none⟩ = w.cell? ⟨b, o, none⟩ := fun o X Y => by
    rw [World.cell?_alloc_lt _ _ _ (by simp; omega), World.cell?_alloc_lt _ _ _ (by simpa using hb)]
  rw [run_copyG _ ty (w.heap.size + 1) b off 1 c [.int .i64 g0.p, .int .i64 g0.s] rfl (by omega)
    (by
      intro j v hj
      match j, hj with
      | 0, hj => simp at hj; subst hj; exact (hk _ _ _).trans c0
      | 1, hj => simp at hj; subst hj; exact (hk _ _ _).trans c1)
    (by
      intro j hj
      have : j < 2 := by simpa using hj
      match j, this with
      | 0, _ => unfold sc; go_simp
      | 1, _ => unfold sc; go_simp)
    (by
      intro j hj
      have : j < 2 := by simpa using hj
      match j, this with
      | 0, _ => unfold sc; go_simp
      | 1, _ => unfold sc; go_simp)
    (by intro v hv; simp at hv; rcases hv with rfl | rfl <;> rfl)]
  simp only [World.setCells]
  unfold sc
  go_simp
  rfl

end Go.Proofs.YtnoccmghclmpnaaDoor

namespace Go.Proofs.YtnoccmghclmpnaaDoor
open Go.RowKit

set_option maxRecDepth 100000 in
theorem shelvesFrom_1bad0 (b off c : Nat) (g0 : Gd) (w : World) (c0 : w.cell? ⟨b, off, none⟩ = some (.int .i64 g0.p)) (c1 : w.cell? ⟨b, off + 1, none⟩ = some (.int .i64 g0.s))  (kb : g0.ok = false) :
    Calls Tryd.prog 70 #[.slice (some ⟨b, off, none⟩) 1 c] w fun e w' => e = .returned (.tuple #[shv Sh.zero, .bool false]) ∧ Below w.heap.size w w' := by
  obtain ⟨p0, s0⟩ := g0
  have K0 := Lib.hid (fun W => inBoundsG_no ⟨p0, s0⟩ W kb)
  clear kb
  have hcp : ∀ ty, (Builtin.copy_ #[38, 38] ty #[.slice (some ⟨w.heap.size + 1, 0, none⟩) 3 3, .slice (some ⟨b, off, none⟩) 1 c]).run Tryd.prog ((w.alloc (.cells #[.int .i64 0, .int .i64 0, .int .i64 0, .int .i64 0, .int .i64 0, .int .i64 0, .int .i64 0] 74)).alloc (.cells #[.int .i64 0, .int .i64 0, .int .i64 0, .int .i64 0, .int .i64 0, .int .i64 0, .int .i64 1] 74))
      = .ok (goInt 1) ((w.alloc (.cells #[.int .i64 0, .int .i64 0, .int .i64 0, .int .i64 0, .int .i64 0, .int .i64 0, .int .i64 0] 74)).alloc (.cells #[.int .i64 p0, .int .i64 s0, .int .i64 0, .int .i64 0, .int .i64 0, .int .i64 0, .int .i64 1] 74)) := fun ty => copied1 b off c ⟨p0, s0⟩ w c0 c1 ty
  dsimp only at c0 c1
  have hbw : b < w.heap.size := World.block_lt_of_cell? w _ c0
  go_enter Tryd.func70, Tryd.ntmps70
  go_wp2_with fail
  refine wp_loop_rounds 2 ?_
  rw [rounds_succ]
  go_wp2_with fail
  refine (K0.out _).mono ?_
  rintro e w1 ⟨rfl, hb1⟩
  have R1 : Blk w1 w.heap.size 74 #[.int .i64 0, .int .i64 0, .int .i64 0, .int .i64 0, .int .i64 0, .int .i64 0, .int .i64 0] := (((Blk.new w _ _).alloc _).alloc _).kept hb1
  have S1 : Blk w1 (w.heap.size + 1) 74 #[.int .i64 p0, .int .i64 s0, .int .i64 0, .int .i64 0, .int .i64 0, .int .i64 0, .int .i64 1] := ((Blk.new' (by simp)).alloc _).kept hb1
  have B1 : Below w.heap.size w w1 := Below.trans belo (hb1.mono (by simp; omega))
  have z1 := B1.size
  have d1_0 := (B1.cell (p := ⟨b, off, none⟩) hbw).trans c0
  have d1_1 := (B1.cell (p := ⟨b, off + 1, none⟩) hbw).trans c1
  clear hb1
  have cR := fun i => R1.cell i
  have fR := fun i => R1.frozen i
  have cS := fun i => S1.cell i
  have fS := fun i => S1.frozen i
  go_wp2
  exact bodyPost_ret (v := .tuple #[shv Sh.zero, .bool false]) (by simp [results, Tryd.results70, go_sem, cR, Sh.zero, Gd.none2]) rfl ⟨rfl, belo⟩

set_option maxRecDepth 100000 in
theorem shelvesFrom_1ok (b off c : Nat) (g0 : Gd) (w : World) (c0 : w.cell? ⟨b, off, none⟩ = some (.int .i64 g0.p)) (c1 : w.cell? ⟨b, off + 1, none⟩ = some (.int .i64 g0.s)) (k0 : g0.ok = true)  :
    Calls Tryd.prog 70 #[.slice (some ⟨b, off, none⟩) 1 c] w fun e w' => e = .returned (.tuple #[shv (shOf [g0]), .bool true]) ∧ Below w.heap.size w w' := by
  obtain ⟨p0, s0⟩ := g0
  have K0 := Lib.hid (fun W => inBoundsG_yes ⟨p0, s0⟩ W k0)
  clear k0
  have hcp : ∀ ty, (Builtin.copy_ #[38, 38] ty #[.slice (some ⟨w.heap.size + 1, 0, none⟩) 3 3, .slice (some ⟨b, off, none⟩) 1 c]).run Tryd.prog ((w.alloc (.cells #[.int .i64 0, .int .i64 0, .int .i64 0, .int .i64 0, .int .i64 0, .int .i64 0, .int .i64 0] 74)).alloc (.cells #[.int .i64 0, .int .i64 0, .int .i64 0, .int .i64 0, .int .i64 0, .int .i64 0, .int .i64 1] 74))
      = .ok (goInt 1) ((w.alloc (.cells #[.int .i64 0, .int .i64 0, .int .i64 0, .int .i64 0, .int .i64 0, .int .i64 0, .int .i64 0] 74)).alloc (.cells #[.int .i64 p0, .int .i64 s0, .int .i64 0, .int .i64 0, .int .i64 0, .int .i64 0, .int .i64 1] 74)) := fun ty => copied1 b off c ⟨p0, s0⟩ w c0 c1 ty
  dsimp only at c0 c1
  have hbw : b < w.heap.size := World.block_lt_of_cell? w _ c0
  go_enter Tryd.func70, Tryd.ntmps70
  go_wp2_with fail
  refine wp_loop_rounds 2 ?_
  rw [rounds_succ]
  go_wp2_with fail
  refine (K0.out _).mono ?_
  rintro e w1 ⟨rfl, hb1⟩
  have R1 : Blk w1 w.heap.size 74 #[.int .i64 0, .int .i64 0, .int .i64 0, .int .i64 0, .int .i64 0, .int .i64 0, .int .i64 0] := (((Blk.new w _ _).alloc _).alloc _).kept hb1
  have S1 : Blk w1 (w.heap.size + 1) 74 #[.int .i64 p0, .int .i64 s0, .int .i64 0, .int .i64 0, .int .i64 0, .int .i64 0, .int .i64 1] := ((Blk.new' (by simp)).alloc _).kept hb1
  have B1 : Below w.heap.size w w1 := Below.trans belo (hb1.mono (by simp; omega))
  have z1 := B1.size
  have d1_0 := (B1.cell (p := ⟨b, off, none⟩) hbw).trans c0
  have d1_1 := (B1.cell (p := ⟨b, off + 1, none⟩) hbw).trans c1
  clear hb1
  have cR := fun i => R1.cell i
  have fR := fun i => R1.frozen i
  have cS := fun i => S1.cell i
  have fS := fun i => S1.frozen i
  go_wp2
  rw [rounds_succ]
  go_wp2
  exact bodyPost_ret (v := .tuple #[shv (shOf [⟨p0, s0⟩]), .bool true]) (by simp [results, Tryd.results70, go_sem, cR, shOf, gd, Gd.none2]) rfl ⟨rfl, belo⟩

theorem copied2 (b off c : Nat) (g0 g1 : Gd) (w : World) (c0 : w.cell? ⟨b, off, none⟩ = some (.int .i64 g0.p)) (c1 : w.cell? ⟨b, off + 1, none⟩ = some (.int .i64 g0.s)) (c2 : w.cell? ⟨b, off + 2, none⟩ = some (.int .i64 g1.p)) (c3 : w.cell? ⟨b, off + 3, none⟩ = some (.int .i64 g1.s)) (ty : TypeId) :
    (Builtin.copy_ #[38, 38] ty #[.slice (some ⟨w.heap.size + 1, 0, none⟩) 3 3, .slice (some ⟨b, off, none⟩) 2 c]).run Tryd.prog ((w.alloc (.cells (sc Sh.zero) 74)).alloc (.cells (sc { Sh.zero with m := 2 }) 74))
      = .ok (goInt 2) ((w.alloc (.cells (sc Sh.zero) 74)).alloc (.cells (sc (shOf [g0, g1])) 74)) := by
  have hb : b < w.heap.size := World.block_lt_of_cell? w _ c0
  have hk : ∀ o (X Y : Obj), ((w.alloc X).alloc Y).cell? ⟨b, o, none⟩ = w.cell? ⟨b, o, none⟩ := fun o X Y => by
    rw [World.cell?_alloc_lt _ _ _ (by simp; omega), World.cell?_alloc_lt _ _ _ (by simpa using hb)]
  rw [run_copyG _ ty (w.heap.size + 1) b off 2 c [.int .i64 g0.p, .int .i64 g0.s, .int .i64 g1.p, .int .i64 g1.s] rfl (by omega)
    (by
      intro j v hj
      match j, hj with
      | 0, hj => simp at hj; subst hj; exact (hk _ _ _).trans c0
      | 1, hj => simp at hj; subst hj; exact (hk _ _ _).trans c1
      | 2, hj => simp at hj; subst hj; exact (hk _ _ _).trans c2
      | 3, hj => simp at hj; subst hj; exact (hk _ _ _).trans c3)
    (by
      intro j hj
      have : j < 4 := by simpa using hj
      match j, this with
      | 0, _ => unfold sc; go_simp
      | 1, _ => unfold sc; go_simp
      | 2, _ => unfold sc; go_simp
      | 3, _ => unfold sc; go_simp)
    (by
      intro j hj
      have : j < 4 := by simpa using hj
      match j, this with
      | 0, _ => unfold sc; go_simp
      | 1, _ => unfold sc; go_simp
      | 2, _ => unfold sc; go_simp
      | 3, _ => unfold sc; go_simp)
    (by intro v hv; simp at hv; rcases hv with rfl | rfl | rfl | rfl <;> rfl)]
  simp only [World.setCells]
  unfold sc
  go_simp
  rfl

set_option maxRecDepth 100000 in
theorem shelvesFrom_2bad0 (b off c : Nat) (g0 g1 : Gd) (w : World) (c0 : w.cell? ⟨b, off, none⟩ = some (.int .i64 g0.p)) (c1 : w.cell? ⟨b, off + 1, none⟩ = some (.int .i64 g0.s)) (c2 : w.cell? ⟨b, off + 2, none⟩ = some (.int .i64 g1.p)) (c3 : w.cell? ⟨b, off + 3, none⟩ = some (.int .i64 g1.s))  (kb : g0.ok = false) :
    Calls Tryd.prog 70 #[.slice (some ⟨b, off, none⟩) 2 c] w fun e w' => e = .returned (.tuple #[shv Sh.zero, .bool false]) ∧ Below w.heap.size w w' := by
  obtain ⟨p0, s0⟩ := g0
  obtain ⟨p1, s1⟩ := g1
  have K0 := Lib.hid (fun W => inBoundsG_no ⟨p0, s0⟩ W kb)
  clear kb
  have hcp : ∀ ty, (Builtin.copy_ #[38, 38] ty #[.slice (some ⟨w.heap.size + 1, 0, none⟩) 3 3, .slice (some ⟨b, off, none⟩) 2 c]).run Tryd.prog ((w.alloc (.cells #[.int .i64 0, .int .i64 0, .int .i64 0, .int .i64 0, .int .i64 0, .int .i64 0, .int .i64 0] 74)).alloc (.cells #[.int .i64 0, .int .i64 0, .int .i64 0, .int .i64 0, .int .i64 0, .int .i64 0, .int .i64 2] 74))
      = .ok (goInt 2) ((w.alloc (.cells #[.int .i64 0, .int .i64 0, .int .i64 0, .int .i64 0, .int .i64 0, .int .i64 0, .int .i64 0] 74)).alloc (.cells #[.int .i64 p0, .int .i64 s0, .int .i64 p1, .int .i64 s1, .int .i64 0, .int .i64 0, .int .i64 2] 74)) := fun ty => copied2 b off c ⟨p0, s0⟩ ⟨p1, s1⟩ w c0 c1 c2 c3 ty
  dsimp only at c0 c1 c2 c3
  have hbw : b < w.heap.size := World.block_lt_of_cell? w _ c0
  go_enter Tryd.func70, Tryd.ntmps70
  go_wp2_with fail
  refine wp_loop_rounds 2 ?_
  rw [rounds_succ]
  go_wp2_with fail
  refine (K0.out _).mono ?_
  rintro e w1 ⟨rfl, hb1⟩
  have R1 : Blk w1 w.heap.size 74 #[.int .i64 0, .int .i64 0, .int .i64 0, .int .i64 0, .int .i64 0, .int .i64 0, .int .i64 0] := (((Blk.new w _ _).alloc _).alloc _).kept hb1
  have S1 : Blk w1 (w.heap.size + 1) 74 #[.int .i64 p0, .int .i64 s0, .int .i64 p1, .int .i64 s1, .int .i64 0, .int .i64 0, .int .i64 2] := ((Blk.new' (by simp)).alloc _).kept hb1
  have B1 : Below w.heap.size w w1 := Below.trans belo (hb1.mono (by simp; omega))
  have z1 := B1.size
  have d1_0 := (B1.cell (p := ⟨b, off, none⟩) hbw).trans c0
  have d1_1 := (B1.cell (p := ⟨b, off + 1, none⟩) hbw).trans c1
  have d1_2 := (B1.cell (p := ⟨b, off + 2, none⟩) hbw).trans c2
  have d1_3 := (B1.cell (p := ⟨b, off + 3, none⟩) hbw).trans c3
  clear hb1
  have cR := fun i => R1.cell i
  have fR := fun i => R1.frozen i
  have cS := fun i => S1.cell i
  have fS := fun i => S1.frozen i
  go_wp2
  exact bodyPost_ret (v := .tuple #[shv Sh.zero, .bool false]) (by simp [results, Tryd.results70, go_sem, cR, Sh.zero, Gd.none2]) rfl ⟨rfl, belo⟩

set_option maxRecDepth 100000 in
theorem shelvesFrom_2bad1 (b off c : Nat) (g0 g1 : Gd) (w : World) (c0 : w.cell? ⟨b, off, none⟩ = some (.int .i64 g0.p)) (c1 : w.cell? ⟨b, off + 1, none⟩ = some (.int .i64 g0.s)) (c2 : w.cell? ⟨b, off + 2, none⟩ = some (.int .i64 g1.p)) (c3 : w.cell? ⟨b, off + 3, none⟩ = some (.int .i64 g1.s)) (k0 : g0.ok = true) (kb : g1.ok = false) :
    Calls Tryd.prog 70 #[.slice (some ⟨b, off, none⟩) 2 c] w fun e w' => e = .returned (.tuple #[shv Sh.zero, .bool false]) ∧ Below w.heap.size w w' := by
  obtain ⟨p0, s0⟩ := g0
  obtain ⟨p1, s1⟩ := g1
  have K0 := Lib.hid (fun W => inBoundsG_yes ⟨p0, s0⟩ W k0)
  have K1 := Lib.hid (fun W => inBoundsG_no ⟨p1, s1⟩ W kb)
  clear k0 kb
  have hcp : ∀ ty, (Builtin.copy_ #[38, 38] ty #[.slice (some ⟨w.heap.size + 1, 0, none⟩) 3 3, .slice (some ⟨b, off, none⟩) 2 c]).run Tryd.prog ((w.alloc (.cells #[.int .i64 0, .int .i64 0, .int .i64 0, .int .i64 0, .int .i64 0, .int .i64 0, .int .i64 0] 74)).alloc (.cells #[.int .i64 0, .int .i64 0, .int .i64 0, .int .i64 0, .int .i64 0, .int .i64 0, .int .i64 2] 74))
      = .ok (goInt 2) ((w.alloc (.cells #[.int .i64 0, .int .i64 0, .int .i64 0, .int .i64 0, .int .i64 0, .int .i64 0, .int .i64 0] 74)).alloc (.cells #[.int .i64 p0, .int .i64 s0, .int .i64 p1, .int .i64 s1, .int .i64 0, .int .i64 0, .int .i64 2] 74)) := fun ty => copied2 b off c ⟨p0, s0⟩ ⟨p1, s1⟩ w c0 c1 c2 c3 ty
  dsimp only at c0 c1 c2 c3
  have hbw : b < w.heap.size := World.block_lt_of_cell? w _ c0
  go_enter Tryd.func70, Tryd.ntmps70
  go_wp2_with fail
  refine wp_loop_rounds 3 ?_
  rw [rounds_succ]
  go_wp2_with fail
  refine (K0.out _).mono ?_
  rintro e w1 ⟨rfl, hb1⟩
  have R1 : Blk w1 w.heap.size 74 #[.int .i64 0, .int .i64 0, .int .i64 0, .int .i64 0, .int .i64 0, .int .i64 0, .int .i64 0] := (((Blk.new w _ _).alloc _).alloc _).kept hb1
  have S1 : Blk w1 (w.heap.size + 1) 74 #[.int .i64 p0, .int .i64 s0, .int .i64 p1, .int .i64 s1, .int .i64 0, .int .i64 0, .int .i64 2] := ((Blk.new' (by simp)).alloc _).kept hb1
  have B1 : Below w.heap.size w w1 := Below.trans belo (hb1.mono (by simp; omega))
  have z1 := B1.size
  have d1_0 := (B1.cell (p := ⟨b, off, none⟩) hbw).trans c0
  have d1_1 := (B1.cell (p := ⟨b, off + 1, none⟩) hbw).trans c1
  have d1_2 := (B1.cell (p := ⟨b, off + 2, none⟩) hbw).trans c2
  have d1_3 := (B1.cell (p := ⟨b, off + 3, none⟩) hbw).trans c3
  clear hb1
  go_wp2
  rw [rounds_succ]
  go_wp2_with fail
  refine (K1.out _).mono ?_
  rintro e w2 ⟨rfl, hb2⟩
  have R2 := (R1.alloc _).kept hb2
  have S2 := (S1.alloc _).kept hb2
  have B2 : Below w.heap.size w w2 := Below.trans B1 (Below.trans belo (hb2.mono (by simp; omega)))
  clear R1 S1
  have z2 := B2.size
  have d2_0 := (B2.cell (p := ⟨b, off, none⟩) hbw).trans c0
  have d2_1 := (B2.cell (p := ⟨b, off + 1, none⟩) hbw).trans c1
  have d2_2 := (B2.cell (p := ⟨b, off + 2, none⟩) hbw).trans c2
  have d2_3 := (B2.cell (p := ⟨b, off + 3, none⟩) hbw).trans c3
  clear hb2
  have cR := fun i => R2.cell i
  have fR := fun i => R2.frozen i
  have cS := fun i => S2.cell i
  have fS := fun i => S2.frozen i
  go_wp2
  exact bodyPost_ret (v := .tuple #[shv Sh.zero, .bool false]) (by simp [results, Tryd.results70, go_sem, cR, Sh.zero, Gd.none2]) rfl ⟨rfl, belo⟩

set_option maxRecDepth 100000 in
theorem shelvesFrom_2ok (b off c : Nat) (g0 g1 : Gd) (w : World) (c0 : w.cell? ⟨b, off, none⟩ = some (.int .i64 g0.p)) (c1 : w.cell? ⟨b, off + 1, none⟩ = some (.int .i64 g0.s)) (c2 : w.cell? ⟨b, off + 2, none⟩ = some (.int .i64 g1.p)) (c3 : w.cell? ⟨b, off + 3, none⟩ = some (.int .i64 g1.s)) (k0 : g0.ok = true) (k1 : g1.ok = true)  :
    Calls Tryd.prog 70 #[.slice (some ⟨b, off, none⟩) 2 c] w fun e w' => e = .returned (.tuple #[shv (shOf [g0, g1]), .bool true]) ∧ Below w.heap.size w w' := by
  obtain ⟨p0, s0⟩ := g0
  obtain ⟨p1, s1⟩ := g1
  have K0 := Lib.hid (fun W => inBoundsG_yes ⟨p0, s0⟩ W k0)
  have K1 := Lib.hid (fun W => inBoundsG_yes ⟨p1, s1⟩ W k1)
  clear k0 k1
  have hcp : ∀ ty, (Builtin.copy_ #[38, 38] ty #[.slice (some ⟨w.heap.size + 1, 0, none⟩) 3 3, .slice (some ⟨b, off, none⟩) 2 c]).run Tryd.prog ((w.alloc (.cells #[.int .i64 0, .int .i64 0, .int .i64 0, .int .i64 0, .int .i64 0, .int .i64 0, .int .i64 0] 74)).alloc (.cells #[.int .i64 0, .int .i64 0, .int .i64 0, .int .i64 0, .int .i64 0, .int .i64 0, .int .i64 2] 74))
      = .ok (goInt 2) ((w.alloc (.cells #[.int .i64 0, .int .i64 0, .int .i64 0, .int .i64 0, .int .i64 0, .int .i64 0, .int .i64 0] 74)).alloc (.cells #[.int .i64 p0, .int .i64 s0, .int .i64 p1, .int .i64 s1, .int .i64 0, .int .i64 0, .int .i64 2] 74)) := fun ty => copied2 b off c ⟨p0, s0⟩ ⟨p1, s1⟩ w c0 c1 c2 c3 ty
  dsimp only at c0 c1 c2 c3
  have hbw : b < w.heap.size := World.block_lt_of_cell? w _ c0
  go_enter Tryd.func70, Tryd.ntmps70
  go_wp2_with fail
  refine wp_loop_rounds 3 ?_
  rw [rounds_succ]
  go_wp2_with fail
  refine (K0.out _).mono ?_
  rintro e w1 ⟨rfl, hb1⟩
  have R1 : Blk w1 w.heap.size 74 #[.int .i64 0, .int .i64 0, .int .i64 0, .int .i64 0, .int .i64 0, .int .i64 0, .int .i64 0] := (((Blk.new w _ _).alloc _).alloc _).kept hb1
  have S1 : Blk w1 (w.heap.size + 1) 74 #[.int .i64 p0, .int .i64 s0, .int .i64 p1, .int .i64 s1, .int .i64 0, .int .i64 0, .int .i64 2] := ((Blk.new' (by simp)).alloc _).kept hb1
  have B1 : Below w.heap.size w w1 := Below.trans belo (hb1.mono (by simp; omega))
  have z1 := B1.size
  have d1_0 := (B1.cell (p := ⟨b, off, none⟩) hbw).trans c0
  have d1_1 := (B1.cell (p := ⟨b, off + 1, none⟩) hbw).trans c1
  have d1_2 := (B1.cell (p := ⟨b, off + 2, none⟩) hbw).trans c2
  have d1_3 := (B1.cell (p := ⟨b, off + 3, none⟩) hbw).trans c3
  clear hb1
  go_wp2
  rw [rounds_succ]
  go_wp2_with fail
  refine (K1.out _).mono ?_
  rintro e w2 ⟨rfl, hb2⟩
  have R2 := (R1.alloc _).kept hb2
  have S2 := (S1.alloc _).kept hb2
  have B2 : Below w.heap.size w w2 := Below.trans B1 (Below.trans belo (hb2.mono (by simp; omega)))
  clear R1 S1
  have z2 := B2.size
  have d2_0 := (B2.cell (p := ⟨b, off, none⟩) hbw).trans c0
  have d2_1 := (B2.cell (p := ⟨b, off + 1, none⟩) hbw).trans c1
  have d2_2 := (B2.cell (p := ⟨b, off + 2, none⟩) hbw).trans c2
  have d2_3 := (B2.cell (p := ⟨b, off + 3, none⟩) hbw).trans c3
  clear hb2
  have cR := fun i => R2.cell i
  have fR := fun i => R2.frozen i
  have cS := fun i => S2.cell i
  have fS := fun i => S2.frozen i
  go_wp2
  rw [rounds_succ]
  go_wp2
  exact bodyPost_ret (v := .tuple #[shv (shOf [⟨p0, s0⟩, ⟨p1, s1⟩]), .bool true]) (by simp [results, Tryd.results70, go_sem, cR, shOf, gd, Gd.none2]) rfl ⟨rfl, belo⟩

theorem copied3 (b off c : Nat) (g0 g1 g2 : Gd) (w : World) (c0 : w.cell? ⟨b, off, none⟩ = some (.int .i64 g0.p)) (c1 : w.cell? ⟨b, off + 1, none⟩ = some (.int .i64 g0.s)) (c2 : w.cell? ⟨b, off + 2, none⟩ = some (.int .i64 g1.p)) (c3 : w.cell? ⟨b, off + 3, none⟩ = some (.int .i64 g1.s)) (c4 : w.cell? ⟨b, off + 4, none⟩ = some (.int .i64 g2.p)) (c5 : w.cell? ⟨b, off + 5, none⟩ = some (.int .i64 g2.s)) (ty : TypeId) :
    (Builtin.copy_ #[38, 38] ty #[.slice (some ⟨w.heap.size + 1, 0, none⟩) 3 3, .slice (some ⟨b, off, none⟩) 3 c]).run Tryd.prog ((w.alloc (.cells (sc Sh.zero) 74)).alloc (.cells (sc { Sh.zero with m := 3 }) 74))
      = .ok (goInt 3) ((w.alloc (.cells (sc Sh.zero) 74)).alloc (.cells (sc (shOf [g0, g1, g2])) 74)) := by
  have hb : b < w.heap.size := World.block_lt_of_cell? w _ c0
  have hk : ∀ o (X Y : Obj), ((w.alloc X).alloc Y).cell? ⟨b, o, none⟩ = w.cell? ⟨b, o, none⟩ := fun o X Y => by
    rw [World.cell?_alloc_lt _ _ _ (by simp; omega), World.cell?_alloc_lt _ _ _ (by simpa using hb)]
  rw [run_copyG _ ty (w.heap.size + 1) b off 3 c [.int .i64 g0.p, .int .i64 g0.s, .int .i64 g1.p, .int .i64 g1.s, .int .i64 g2.p, .int .i64 g2.s] rfl (by omega)
    (by
      intro j v hj
      match j, hj with
      | 0, hj => simp at hj; subst hj; exact (hk _ _ _).trans c0
      | 1, hj => simp at hj; subst hj; exact (hk _ _ _).trans c1
      | 2, hj => simp at hj; subst hj; exact (hk _ _ _).trans c2
      | 3, hj => simp at hj; subst hj; exact (hk _ _ _).trans c3
      | 4, hj => simp at hj; subst hj; exact (hk _ _ _).trans c4
      | 5, hj => simp at hj; subst hj; exact (hk _ _ _).trans c5)
    (by
      intro j hj
      have : j < 6 := by simpa using hj
      match j, this with
      | 0, _ => unfold sc; go_simp
      | 1, _ => unfold sc; go_simp
      | 2, _ => unfold sc; go_simp
      | 3, _ => unfold sc; go_simp
      | 4, _ => unfold sc; go_simp
      | 5, _ => unfold sc; go_simp)
    (by
      intro j hj
      have : j < 6 := by simpa using hj
      match j, this with
      | 0, _ => unfold sc; go_simp
      | 1, _ => unfold sc; go_simp
      | 2, _ => unfold sc; go_simp
      | 3, _ => unfold sc; go_simp
      | 4, _ => unfold sc; go_simp
      | 5, _ => unfold sc; go_simp)
    (by intro v hv; simp at hv; rcases hv with rfl | rfl | rfl | rfl | rfl | rfl <;> rfl)]
  simp only [World.setCells]
  unfold sc
  go_simp
  rfl

set_option maxRecDepth 100000 in
theorem shelvesFrom_3bad0 (b off c : Nat) (g0 g1 g2 : Gd) (w : World) (c0 : w.cell? ⟨b, off, none⟩ = some (.int .i64 g0.p)) (c1 : w.cell? ⟨b, off + 1, none⟩ = some (.int .i64 g0.s)) (c2 : w.cell? ⟨b, off + 2, none⟩ = some (.int .i64 g1.p)) (c3 : w.cell? ⟨b, off + 3, none⟩ = some (.int .i64 g1.s)) (c4 : w.cell? ⟨b, off + 4, none⟩ = some (.int .i64 g2.p)) (c5 : w.cell? ⟨b, off + 5, none⟩ = some (.int .i64 g2.s))  (kb : g0.ok = false) :
    Calls Tryd.prog 70 #[.slice (some ⟨b, off, none⟩) 3 c] w fun e w' => e = .returned (.tuple #[shv Sh.zero, .bool false]) ∧ Below w.heap.size w w' := by
  obtain ⟨p0, s0⟩ := g0
  obtain ⟨p1, s1⟩ := g1
  obtain ⟨p2, s2⟩ := g2
  have K0 := Lib.hid (fun W => inBoundsG_no ⟨p0, s0⟩ W kb)
  clear kb
  have hcp : ∀ ty, (Builtin.copy_ #[38, 38] ty #[.slice (some ⟨w.heap.size + 1, 0, none⟩) 3 3, .slice (some ⟨b, off, none⟩) 3 c]).run Tryd.prog ((w.alloc (.cells #[.int .i64 0, .int .i64 0, .int .i64 0, .int .i64 0, .int .i64 0, .int .i64 0, .int .i64 0] 74)).alloc (.cells #[.int .i64 0, .int .i64 0, .int .i64 0, .int .i64 0, .int .i64 0, .int .i64 0, .int .i64 3] 74))
      = .ok (goInt 3) ((w.alloc (.cells #[.int .i64 0, .int .i64 0, .int .i64 0, .int .i64 0, .int .i64 0, .int .i64 0, .int .i64 0] 74)).alloc (.cells #[.int .i64 p0, .int .i64 s0, .int .i64 p1, .int .i64 s1, .int .i64 p2, .int .i64 s2, .int .i64 3] 74)) := fun ty => copied3 b off c ⟨p0, s0⟩ ⟨p1, s1⟩ ⟨p2, s2⟩ w c0 c1 c2 c3 c4 c5 ty
  dsimp only at c0 c1 c2 c3 c4 c5
  have hbw : b < w.heap.size := World.block_lt_of_cell? w _ c0
  go_enter Tryd.func70, Tryd.ntmps70
  go_wp2_with fail
  refine wp_loop_rounds 2 ?_
  rw [rounds_succ]
  go_wp2_with fail
  refine (K0.out _).mono ?_
  rintro e w1 ⟨rfl, hb1⟩
  have R1 : Blk w1 w.heap.size 74 #[.int .i64 0, .int .i64 0, .int .i64 0, .int .i64 0, .int .i64 0, .int .i64 0, .int .i64 0] := (((Blk.new w _ _).alloc _).alloc _).kept hb1
  have S1 : Blk w1 (w.heap.size + 1) 74 #[.int .i64 p0, .int .i64 s0, .int .i64 p1, .int .i64 s1, .int .i64 p2, .int .i64 s2, .int .i64 3] := ((Blk.new' (by simp)).alloc _).kept hb1
  have B1 : Below w.heap.size w w1 := Below.trans belo (hb1.mono (by simp; omega))
  have z1 := B1.size
  have d1_0 := (B1.cell (p := ⟨b, off, none⟩) hbw).trans c0
  have d1_1 := (B1.cell (p := ⟨b, off + 1, none⟩) hbw).trans c1
  have d1_2 := (B1.cell (p := ⟨b, off + 2, none⟩) hbw).trans c2
  have d1_3 := (B1.cell (p := ⟨b, off + 3, none⟩) hbw).trans c3
  have d1_4 := (B1.cell (p := ⟨b, off + 4, none⟩) hbw).trans c4
  have d1_5 := (B1.cell (p := ⟨b, off + 5, none⟩) hbw).trans c5
  clear hb1
  have cR := fun i => R1.cell i
  have fR := fun i => R1.frozen i
  have cS := fun i => S1.cell i
  have fS := fun i => S1.frozen i
  go_wp2
  exact bodyPost_ret (v := .tuple #[shv Sh.zero, .bool false]) (by simp [results, Tryd.results70, go_sem, cR, Sh.zero, Gd.none2]) rfl ⟨rfl, belo⟩

set_option maxRecDepth 100000 in
theorem shelvesFrom_3bad1 (b off c : Nat) (g0 g1 g2 : Gd) (w : World) (c0 : w.cell? ⟨b, off, none⟩ = some (.int .i64 g0.p)) (c1 : w.cell? ⟨b, off + 1, none⟩ = some (.int .i64 g0.s)) (c2 : w.cell? ⟨b, off + 2, none⟩ = some (.int .i64 g1.p)) (c3 : w.cell? ⟨b, off + 3, none⟩ = some (.int .i64 g1.s)) (c4 : w.cell? ⟨b, off + 4, none⟩ = some (.int .i64 g2.p)) (c5 : w.cell? ⟨b, off + 5, none⟩ = some (.int .i64 g2.s)) (k0 : g0.ok = true) (kb : g1.ok = false) :
    Calls Tryd.prog 70 #[.slice (some ⟨b, off, none⟩) 3 c] w fun e w' => e = .returned (.tuple #[shv Sh.zero, .bool false]) ∧ Below w.heap.size w w' := by
  obtain ⟨p0, s0⟩ := g0
  obtain ⟨p1, s1⟩ := g1
  obtain ⟨p2, s2⟩ := g2
  have K0 := Lib.hid (fun W => inBoundsG_yes ⟨p0, s0⟩ W k0)
  have K1 := Lib.hid (fun W => inBoundsG_no ⟨p1, s1⟩ W kb)
  clear k0 kb
  have hcp : ∀ ty, (Builtin.copy_ #[38, 38] ty #[.slice (some ⟨w.heap.size + 1, 0, none⟩) 3 3, .slice (some ⟨b, off, none⟩) 3 c]).run Tryd.prog ((w.alloc (.cells #[.int .i64 0, .int .i64 0, .int .i64 0, .int .i64 0, .int .i64 0, .int .i64 0, .int .i64 0] 74)).alloc (.cells #[.int .i64 0, .int .i64 0, .int .i64 0, .int .i64 0, .int .i64 0, .int .i64 0, .int .i64 3] 74))
      = .ok (goInt 3) ((w.alloc (.cells #[.int .i64 0, .int .i64 0, .int .i64 0, .int .i64 0, .int .i64 0, .int .i64 0, .int .i64 0] 74)).alloc (.cells #[.int .i64 p0, .int .i64 s0, .int .i64 p1, .int .i64 s1, .int .i64 p2, .int .i64 s2, .int .i64 3] 74)) := fun ty => copied3 b off c ⟨p0, s0⟩ ⟨p1, s1⟩ ⟨p2, s2⟩ w c0 c1 c2 c3 c4 c5 ty
  dsimp only at c0 c1 c2 c3 c4 c5
  have hbw : b < w.heap.size := World.block_lt_of_cell? w _ c0
  go_enter Tryd.func70, Tryd.ntmps70
  go_wp2_with fail
  refine wp_loop_rounds 3 ?_
  rw [rounds_succ]
  go_wp2_with fail
  refine (K0.out _).mono ?_
  rintro e w1 ⟨rfl, hb1⟩
  have R1 : Blk w1 w.heap.size 74 #[.int .i64 0, .int .i64 0, .int .i64 0, .int .i64 0, .int .i64 0, .int .i64 0, .int .i64 0] := (((Blk.new w _ _).alloc _).alloc _).kept hb1
  have S1 : Blk w1 (w.heap.size + 1) 74 #[.int .i64 p0, .int .i64 s0, .int .i64 p1, .int .i64 s1, .int .i64 p2, .int .i64 s2, .int .i64 3] := ((Blk.new' (by simp)).alloc _).kept hb1
  have B1 : Below w.heap.size w w1 := Below.trans belo (hb1.mono (by simp; omega))
  have z1 := B1.size
  have d1_0 := (B1.cell (p := ⟨b, off, none⟩) hbw).trans c0
  have d1_1 := (B1.cell (p := ⟨b, off + 1, none⟩) hbw).trans c1
  have d1_2 := (B1.cell (p := ⟨b, off + 2, none⟩) hbw).trans c2
  have d1_3 := (B1.cell (p := ⟨b, off + 3, none⟩) hbw).trans c3
  have d1_4 := (B1.cell (p := ⟨b, off + 4, none⟩) hbw).trans c4
  have d1_5 := (B1.cell (p := ⟨b, off + 5, none⟩) hbw).trans c5
  clear hb1
  go_wp2
  rw [rounds_succ]
  go_wp2_with fail
  refine (K1.out _).mono ?_
  rintro e w2 ⟨rfl, hb2⟩
  have R2 := (R1.alloc _).kept hb2
  have S2 := (S1.alloc _).kept hb2
  have B2 : Below w.heap.size w w2 := Below.trans B1 (Below.trans belo (hb2.mono (by simp; omega)))
  clear R1 S1
  have z2 := B2.size
  have d2_0 := (B2.cell (p := ⟨b, off, none⟩) hbw).trans c0
  have d2_1 := (B2.cell (p := ⟨b, off + 1, none⟩) hbw).trans c1
  have d2_2 := (B2.cell (p := ⟨b, off + 2, none⟩) hbw).trans c2
  have d2_3 := (B2.cell (p := ⟨b, off + 3, none⟩) hbw).trans c3
  have d2_4 := (B2.cell (p := ⟨b, off + 4, none⟩) hbw).trans c4
  have d2_5 := (B2.cell (p := ⟨b, off + 5, none⟩) hbw).trans c5
  clear hb2
  have cR := fun i => R2.cell i
  have fR := fun i => R2.frozen i
  have cS := fun i => S2.cell i
  have fS := fun i => S2.frozen i
  go_wp2
  exact bodyPost_ret (v := .tuple #[shv Sh.zero, .bool false]) (by simp [results, Tryd.results70, go_sem, cR, Sh.zero, Gd.none2]) rfl ⟨rfl, belo⟩

set_option maxRecDepth 100000 in
theorem shelvesFrom_3bad2 (b off c : Nat) (g0 g1 g2 : Gd) (w : World) (c0 : w.cell? ⟨b, off, none⟩ = some (.int .i64 g0.p)) (c1 : w.cell? ⟨b, off + 1, none⟩ = some (.int .i64 g0.s)) (c2 : w.cell? ⟨b, off + 2, none⟩ = some (.int .i64 g1.p)) (c3 : w.cell? ⟨b, off + 3, none⟩ = some (.int .i64 g1.s)) (c4 : w.cell? ⟨b, off + 4, none⟩ = some (.int .i64 g2.p)) (c5 : w.cell? ⟨b, off + 5, none⟩ = some (.int .i64 g2.s)) (k0 : g0.ok = true) (k1 : g1.ok = true) (kb : g2.ok = false) :
    Calls Tryd.prog 70 #[.slice (some ⟨b, off, none⟩) 3 c] w fun e w' => e = .returned (.tuple #[shv Sh.zero, .bool false]) ∧ Below w.heap.size w w' := by
  obtain ⟨p0, s0⟩ := g0
  obtain ⟨p1, s1⟩ := g1
  obtain ⟨p2, s2⟩ := g2
  have K0 := Lib.hid (fun W => inBoundsG_yes ⟨p0, s0⟩ W k0)
  have K1 := Lib.hid (fun W => inBoundsG_yes ⟨p1, s1⟩ W k1)
  have K2 := Lib.hid (fun W => inBoundsG_no ⟨p2, s2⟩ W kb)
  clear k0 k1 kb
  have hcp : ∀ ty, (Builtin.copy_ #[38, 38] ty #[.slice (some ⟨w.heap.size + 1, 0, none⟩) 3 3, .slice (some ⟨b, off, none⟩) 3 c]).run Tryd.prog ((w.alloc (.cells #[.int .i64 0, .int .i64 0, .int .i64 0, .int .i64 0, .int .i64 0, .int .i64 0, .int .i64 0] 74)).alloc (.cells #[.int .i64 0, .int .i64 0, .int .i64 0, .int .i64 0, .int .i64 0, .int .i64 0, .int .i64 3] 74))
      = .ok (goInt 3) ((w.alloc (.cells #[.int .i64 0, .int .i64 0, .int .i64 0, .int .i64 0, .int .i64 0, .int .i64 0, .int .i64 0] 74)).alloc (.cells #[.int .i64 p0, .int .i64 s0, .int .i64 p1, .int .i64 s1, .int .i64 p2, .int .i64 s2, .int .i64 3] 74)) := fun ty => copied3 b off c ⟨p0, s0⟩ ⟨p1, s1⟩ ⟨p2, s2⟩ w c0 c1 c2 c3 c4 c5 ty
  dsimp only at c0 c1 c2 c3 c4 c5
  have hbw : b < w.heap.size := World.block_lt_of_cell? w _ c0
  go_enter Tryd.func70, Tryd.ntmps70
  go_wp2_with fail
  refine wp_loop_rounds 4 ?_
  rw [rounds_succ]
  go_wp2_with fail
  refine (K0.out _).mono ?_
  rintro e w1 ⟨rfl, hb1⟩
  have R1 : Blk w1 w.heap.size 74 #[.int .i64 0, .int .i64 0, .int .i64 0, .int .i64 0, .int .i64 0, .int .i64 0, .int .i64 0] := (((Blk.new w _ _).alloc _).alloc _).kept hb1
  have S1 : Blk w1 (w.heap.size + 1) 74 #[.int .i64 p0, .int .i64 s0, .int .i64 p1, .int .i64 s1, .int .i64 p2, .int .i64 s2, .int .i64 3] := ((Blk.new' (by simp)).alloc _).kept hb1
  have B1 : Below w.heap.size w w1 := Below.trans belo (hb1.mono (by simp; omega))
  have z1 := B1.size
  have d1_0 := (B1.cell (p := ⟨b, off, none⟩) hbw).trans c0
  have d1_1 := (B1.cell (p := ⟨b, off + 1, none⟩) hbw).trans c1
  have d1_2 := (B1.cell (p := ⟨b, off + 2, none⟩) hbw).trans c2
  have d1_3 := (B1.cell (p := ⟨b, off + 3, none⟩) hbw).trans c3
  have d1_4 := (B1.cell (p := ⟨b, off + 4, none⟩) hbw).trans c4
  have d1_5 := (B1.cell (p := ⟨b, off + 5, none⟩) hbw).trans c5
  clear hb1
  go_wp2
  rw [rounds_succ]
  go_wp2_with fail
  refine (K1.out _).mono ?_
  rintro e w2 ⟨rfl, hb2⟩
  have R2 := (R1.alloc _).kept hb2
  have S2 := (S1.alloc _).kept hb2
  have B2 : Below w.heap.size w w2 := Below.trans B1 (Below.trans belo (hb2.mono (by simp; omega)))
  clear R1 S1
  have z2 := B2.size
  have d2_0 := (B2.cell (p := ⟨b, off, none⟩) hbw).trans c0
  have d2_1 := (B2.cell (p := ⟨b, off + 1, none⟩) hbw).trans c1
  have d2_2 := (B2.cell (p := ⟨b, off + 2, none⟩) hbw).trans c2
  have d2_3 := (B2.cell (p := ⟨b, off + 3, none⟩) hbw).trans c3
  have d2_4 := (B2.cell (p := ⟨b, off + 4, none⟩) hbw).trans c4
  have d2_5 := (B2.cell (p := ⟨b, off + 5, none⟩) hbw).trans c5
  clear hb2
  go_wp2
  rw [rounds_succ]
  go_wp2_with fail
  refine (K2.out _).mono ?_
  rintro e w3 ⟨rfl, hb3⟩
  have R3 := (R2.alloc _).kept hb3
  have S3 := (S2.alloc _).kept hb3
  have B3 : Below w.heap.size w w3 := Below.trans B2 (Below.trans belo (hb3.mono (by simp; omega)))
  clear R2 S2
  have z3 := B3.size
  have d3_0 := (B3.cell (p := ⟨b, off, none⟩) hbw).trans c0
  have d3_1 := (B3.cell (p := ⟨b, off + 1, none⟩) hbw).trans c1
  have d3_2 := (B3.cell (p := ⟨b, off + 2, none⟩) hbw).trans c2
  have d3_3 := (B3.cell (p := ⟨b, off + 3, none⟩) hbw).trans c3
  have d3_4 := (B3.cell (p := ⟨b, off + 4, none⟩) hbw).trans c4
  have d3_5 := (B3.cell (p := ⟨b, off + 5, none⟩) hbw).trans c5
  clear hb3
  have cR := fun i => R3.cell i
  have fR := fun i => R3.frozen i
  have cS := fun i => S3.cell i
  have fS := fun i => S3.frozen i
  go_wp2
  exact bodyPost_ret (v := .tuple #[shv Sh.zero, .bool false]) (by simp [results, Tryd.results70, go_sem, cR, Sh.zero, Gd.none2]) rfl ⟨rfl, belo⟩

set_option maxRecDepth 100000 in
theorem shelvesFrom_3ok (b off c : Nat) (g0 g1 g2 : Gd) (w : World) (c0 : w.cell? ⟨b, off, none⟩ = some (.int .i64 g0.p)) (c1 : w.cell? ⟨b, off + 1, none⟩ = some (.int .i64 g0.s)) (c2 : w.cell? ⟨b, off + 2, none⟩ = some (.int .i64 g1.p)) (c3 : w.cell? ⟨b, off + 3, none⟩ = some (.int .i64 g1.s)) (c4 : w.cell? ⟨b, off + 4, none⟩ = some (.int .i64 g2.p)) (c5 : w.cell? ⟨b, off + 5, none⟩ = some (.int .i64 g2.s)) (k0 : g0.ok = true) (k1 : g1.ok = true) (k2 : g2.ok = true)  :
    Calls Tryd.prog 70 #[.slice (some ⟨b, off, none⟩) 3 c] w fun e w' => e = .returned (.tuple #[shv (shOf [g0, g1, g2]), .bool true]) ∧ Below w.heap.size w w' := by
  obtain ⟨p0, s0⟩ := g0
  obtain ⟨p1, s1⟩ := g1
  obtain ⟨p2, s2⟩ := g2
  have K0 := Lib.hid (fun W => inBoundsG_yes ⟨p0, s0⟩ W k0)
  have K1 := Lib.hid (fun W => inBoundsG_yes ⟨p1, s1⟩ W k1)
  have K2 := Lib.hid (fun W => inBoundsG_yes ⟨p2, s2⟩ W k2)
  clear k0 k1 k2
  have hcp : ∀ ty, (Builtin.copy_ #[38, 38] ty #[.slice (some ⟨w.heap.size + 1, 0, none⟩) 3 3, .slice (some ⟨b, off, none⟩) 3 c]).run Tryd.prog ((w.alloc (.cells #[.int .i64 0, .int .i64 0, .int .i64 0, .int .i64 0, .int .i64 0, .int .i64 0, .int .i64 0] 74)).alloc (.cells #[.int .i64 0, .int .i64 0, .int .i64 0, .int .i64 0, .int .i64 0, .int .i64 0, .int .i64 3] 74))
      = .ok (goInt 3) ((w.alloc (.cells #[.int .i64 0, .int .i64 0, .int .i64 0, .int .i64 0, .int .i64 0, .int .i64 0, .int .i64 0] 74)).alloc (.cells #[.int .i64 p0, .int .i64 s0, .int .i64 p1, .int .i64 s1, .int .i64 p2, .int .i64 s2, .int .i64 3] 74)) := fun ty => copied3 b off c ⟨p0, s0⟩ ⟨p1, s1⟩ ⟨p2, s2⟩ w c0 c1 c2 c3 c4 c5 ty
  dsimp only at c0 c1 c2 c3 c4 c5
  have hbw : b < w.heap.size := World.block_lt_of_cell? w _ c0
  go_enter Tryd.func70, Tryd.ntmps70
  go_wp2_with fail
  refine wp_loop_rounds 4 ?_
  rw [rounds_succ]
  go_wp2_with fail
  refine (K0.out _).mono ?_
  rintro e w1 ⟨rfl, hb1⟩
  have R1 : Blk w1 w.heap.size 74 #[.int .i64 0, .int .i64 0, .int .i64 0, .int .i64 0, .int .i64 0, .int .i64 0, .int .i64 0] := (((Blk.new w _ _).alloc _).alloc _).kept hb1
  have S1 : Blk w1 (w.heap.size + 1) 74 #[.int .i64 p0, .int .i64 s0, .int .i64 p1, .int .i64 s1, .int .i64 p2, .int .i64 s2, .int .i64 3] := ((Blk.new' (by simp)).alloc _).kept hb1
  have B1 : Below w.heap.size w w1 := Below.trans belo (hb1.mono (by simp; omega))
  have z1 := B1.size
  have d1_0 := (B1.cell (p := ⟨b, off, none⟩) hbw).trans c0
  have d1_1 := (B1.cell (p := ⟨b, off + 1, none⟩) hbw).trans c1
  have d1_2 := (B1.cell (p := ⟨b, off + 2, none⟩) hbw).trans c2
  have d1_3 := (B1.cell (p := ⟨b, off + 3, none⟩) hbw).trans c3
  have d1_4 := (B1.cell (p := ⟨b, off + 4, none⟩) hbw).trans c4
  have d1_5 := (B1.cell (p := ⟨b, off + 5, none⟩) hbw).trans c5
  clear hb1
  go_wp2
  rw [rounds_succ]
  go_wp2_with fail
  refine (K1.out _).mono ?_
  rintro e w2 ⟨rfl, hb2⟩
  have R2 := (R1.alloc _).kept hb2
  have S2 := (S1.alloc _).kept hb2
  have B2 : Below w.heap.size w w2 := Below.trans B1 (Below.trans belo (hb2.mono (by simp; omega)))
  clear R1 S1
  have z2 := B2.size
  have d2_0 := (B2.cell (p := ⟨b, off, none⟩) hbw).trans c0
  have d2_1 := (B2.cell (p := ⟨b, off + 1, none⟩) hbw).trans c1
  have d2_2 := (B2.cell (p := ⟨b, off + 2, none⟩) hbw).trans c2
  have d2_3 := (B2.cell (p := ⟨b, off + 3, none⟩) hbw).trans c3
  have d2_4 := (B2.cell (p := ⟨b, off + 4, none⟩) hbw).trans c4
  have d2_5 := (B2.cell (p := ⟨b, off + 5, none⟩) hbw).trans c5
  clear hb2
  go_wp2
  rw [rounds_succ]
  go_wp2_with fail
  refine (K2.out _).mono ?_
  rintro e w3 ⟨rfl, hb3⟩
  have R3 := (R2.alloc _).kept hb3
  have S3 := (S2.alloc _).kept hb3
  have B3 : Below w.heap.size w w3 := Below.trans B2 (Below.trans belo (hb3.mono (by simp; omega)))
  clear R2 S2
  have z3 := B3.size
  have d3_0 := (B3.cell (p := ⟨b, off, none⟩) hbw).trans c0
  have d3_1 := (B3.cell (p := ⟨b, off + 1, none⟩) hbw).trans c1
  have d3_2 := (B3.cell (p := ⟨b, off + 2, none⟩) hbw).trans c2
  have d3_3 := (B3.cell (p := ⟨b, off + 3, none⟩) hbw).trans c3
  have d3_4 := (B3.cell (p := ⟨b, off + 4, none⟩) hbw).trans c4
  have d3_5 := (B3.cell (p := ⟨b, off + 5, none⟩) hbw).trans c5
  clear hb3
  have cR := fun i => R3.cell i
  have fR := fun i => R3.frozen i
  have cS := fun i => S3.cell i
  have fS := fun i => S3.frozen i
  go_wp2
  rw [rounds_succ]
  go_wp2
  exact bodyPost_ret (v := .tuple #[shv (shOf [⟨p0, s0⟩, ⟨p1, s1⟩, ⟨p2, s2⟩]), .bool true]) (by simp [results, Tryd.results70, go_sem, cR, shOf, gd]) rfl ⟨rfl, belo⟩

theorem GRow.one {w : World} {b off : Nat} {gs : List Gd} (h : GRow w (some ⟨b, off, none⟩) gs) (h0 : 0 < gs.length) :
    ∀ i, i < gs.length → w.cell? ⟨b, off + i * 2, none⟩ = some (.int .i64 (gd gs i).p) ∧ w.cell? ⟨b, off + i * 2 + 1, none⟩ = some (.int .i64 (gd gs i).s) := by
  rcases h with h | ⟨b', off', e, hc⟩
  · subst h; cases h0
  · injection e with e
    injection e with e1 e2 _
    subst e1; subst e2
    exact hc
theorem GRow.addr {w : World} {A : Option Addr} {gs : List Gd} (h : GRow w A gs) (h0 : 0 < gs.length) : ∃ b off, A = some ⟨b, off, none⟩ := by
  rcases h with h | ⟨b, off, e, _⟩
  · subst h; cases h0
  · exact ⟨b, off, e⟩

theorem shelvesFrom_any (A : Option Addr) (gs : List Gd) (c : Nat) (w : World) (hr : GRow w A gs) :
    Calls Tryd.prog 70 #[.slice A gs.length c] w (ShFrom gs w) := by
  unfold ShFrom
  match gs, hr with
  | [], _ => rw [if_pos (by decide)]; exact shelvesFrom_0 A c w
  | [g0], hr =>
    obtain ⟨b, off, rfl⟩ := hr.addr (by simp)
    have h := hr.one (by simp)
    have h0 := h 0 (by simp)
    cases k0 : g0.ok
    · rw [if_neg (by simp [okS, k0])]; exact shelvesFrom_1bad0 b off c g0 w h0.1 h0.2 k0
    · rw [if_pos (by simp [okS, k0])]; exact shelvesFrom_1ok b off c g0 w h0.1 h0.2 k0
  | [g0, g1], hr =>
    obtain ⟨b, off, rfl⟩ := hr.addr (by simp)
    have h := hr.one (by simp)
    have h0 := h 0 (by simp)
    have h1 := h 1 (by simp)
    cases k0 : g0.ok
    · rw [if_neg (by simp [okS, k0])]; exact shelvesFrom_2bad0 b off c g0 g1 w h0.1 h0.2 h1.1 h1.2 k0
    · cases k1 : g1.ok
      · rw [if_neg (by simp [okS, k1])]; exact shelvesFrom_2bad1 b off c g0 g1 w h0.1 h0.2 h1.1 h1.2 k0 k1
      · rw [if_pos (by simp [okS, k0, k1])]; exact shelvesFrom_2ok b off c g0 g1 w h0.1 h0.2 h1.1 h1.2 k0 k1
  | [g0, g1, g2], hr =>
    obtain ⟨b, off, rfl⟩ := hr.addr (by simp)
    have h := hr.one (by simp)
    have h0 := h 0 (by simp)
    have h1 := h 1 (by simp)
    have h2 := h 2 (by simp)
    cases k0 : g0.ok
    · rw [if_neg (by simp [okS, k0])]; exact shelvesFrom_3bad0 b off c g0 g1 g2 w h0.1 h0.2 h1.1 h1.2 h2.1 h2.2 k0
    · cases k1 : g1.ok
      · rw [if_neg (by simp [okS, k1])]; exact shelvesFrom_3bad1 b off c g0 g1 g2 w h0.1 h0.2 h1.1 h1.2 h2.1 h2.2 k0 k1
      · cases k2 : g2.ok
        · rw [if_neg (by simp [okS, k2])]; exact shelvesFrom_3bad2 b off c g0 g1 g2 w h0.1 h0.2 h1.1 h1.2 h2.1 h2.2 k0 k1 k2
        · rw [if_pos (by simp [okS, k0, k1, k2])]; exact shelvesFrom_3ok b off c g0 g1 g2 w h0.1 h0.2 h1.1 h1.2 h2.1 h2.2 k0 k1 k2
  | g0 :: g1 :: g2 :: g3 :: gs, _ =>
    rw [if_neg (by simp [okS])]
    exact shelvesFrom_long A _ c w (by simp)
theorem shelvesFrom_yes (A : Option Addr) (gs : List Gd) (c : Nat) (w : World) (hr : GRow w A gs) (h : okS gs = true) :
    Calls Tryd.prog 70 #[.slice A gs.length c] w fun e w' => e = .returned (.tuple #[shv (shOf gs), .bool true]) ∧ Below w.heap.size w w' := by
  have := shelvesFrom_any A gs c w hr
  unfold ShFrom at this
  rwa [if_pos h] at this
theorem shelvesFrom_no (A : Option Addr) (gs : List Gd) (c : Nat) (w : World) (hr : GRow w A gs) (h : okS gs = false) :
    Calls Tryd.prog 70 #[.slice A gs.length c] w fun e w' => e = .returned (.tuple #[shv Sh.zero, .bool false]) ∧ Below w.heap.size w w' := by
  have := shelvesFrom_any A gs c w hr
  unfold ShFrom at this
  rwa [if_neg (by simp [h])] at this

end Go.Proofs.YtnoccmghclmpnaaDoor

namespace Go.Proofs.YtnoccmghclmpnaaDoor
open Go.RowKit

/-- The basket that a row tells. -/
def q3 (xs : List Int) : Q3 := ⟨xs.getD 0 0, xs.getD 1 0, xs.getD 2 0⟩

theorem Row.cells {w : World} {b off : Nat} {xs : List Int} (h : Row .i64 w (some ⟨b, off, none⟩) xs) : ∀ i, i < xs.length → w.cell? ⟨b, off + i, none⟩ = some (.int .i64 (xs.getD i 0)) := by
  rcases h with h | ⟨b', off', e, hc⟩
  · subst h; intro i hi; cases hi
  · injection e with e
    injection e with e1 e2 _
    subst e1; subst e2
    exact hc
theorem Row.addr {w : World} {A : Option Addr} {xs : List Int} (h : Row .i64 w A xs) (h0 : 0 < xs.length) : ∃ b off, A = some ⟨b, off, none⟩ := by
  rcases h with h | ⟨b, off, e, _⟩
  · subst h; cases h0
  · exact ⟨b, off, e⟩

end Go.Proofs.YtnoccmghclmpnaaDoor

namespace Go.Proofs.YtnoccmghclmpnaaDoor
open Go.RowKit



theorem Sh.In.all {S : Sh} (h : S.In) : S.Has ⟨S.a.s, S.b.s, S.c.s⟩ := ⟨h.a2, Int.le_refl _, h.b2, Int.le_refl _, h.c2, Int.le_refl _⟩
def Sh.minus (S : Sh) (q : Q3) : Sh := ⟨⟨S.a.p, S.a.s - q.x⟩, ⟨S.b.p, S.b.s - q.y⟩, ⟨S.c.p, S.c.s - q.z⟩, S.m⟩




end Go.Proofs.YtnoccmghclmpnaaDoor

namespace Go.Proofs.YtnoccmghclmpnaaDoor
open Go.RowKit

def GoodTo (gs : List Gd) (k : Nat) : Prop := ∀ j, j < k → (gd gs j).ok = true
theorem okS_good {gs : List Gd} (h : GoodTo gs gs.length) : okS gs = decide (gs.length ≤ 3) := by
  unfold okS
  have : gs.all Gd.ok = true := by
    rw [List.all_eq_true]
    intro g hg
    obtain ⟨i, hi, rfl⟩ := List.mem_iff_getElem.1 hg
    have := h i hi
    rwa [gd_eq hi] at this
  rw [this, Bool.and_true]
theorem okS_bad {gs : List Gd} {k : Nat} (hk : k < gs.length) (h : (gd gs k).ok = false) : okS gs = false := by
  cases hc : okS gs
  · rfl
  · have := (okS_iff.1 hc).2 _ (List.getElem_mem hk)
    rw [gd_eq hk] at h
    rw [h] at this; cases this

set_option maxHeartbeats 800000 in
theorem specShelvesOk_any (A : Option Addr) (gs : List Gd) (c : Nat) (w : World) (hr : GRow w A gs) (hl : gs.length ≤ 2097152) :
    Calls Tryd.prog 82 #[.slice A gs.length c] w fun e w' => e = .returned (.bool (okS gs)) ∧ w = w' := by
  go_enter Tryd.func82, Tryd.ntmps82
  go_wp2
  go_loop [3] (fun i => ∃ k : Nat, k ≤ gs.length ∧ i = .int .i64 k ∧ GoodTo gs k) (fun i => gs.length - (intOf i).toNat)
  case atStart => exact ⟨0, Nat.zero_le _, rfl, fun j hj => by omega⟩
  case round =>
    obtain ⟨k, hk, rfl, hg⟩ := hrel
    by_cases hlt : k < gs.length
    · rcases hr with h0 | ⟨b, off, rfl, hc⟩
      · subst h0; simp at hlt
      · obtain ⟨p, hp⟩ : ∃ p, p = (gd gs k).p := ⟨_, rfl⟩
        obtain ⟨s, hs⟩ : ∃ s, s = (gd gs k).s := ⟨_, rfl⟩
        obtain ⟨c1, c2⟩ := hc k hlt
        rw [← hp] at c1
        rw [← hs] at c2
        have E : Hid (gd gs k = ⟨p, s⟩) := Lib.hid (by rw [hp, hs])
        have HG := Lib.hid hg
        have hi0 : (0 : Int) ≤ (k : Int) := by omega
        have hi1 : (k : Int) < (gs.length : Int) := by omega
        clear hc hp hs hg
        by_cases hp : 1 ≤ p ∧ p ≤ 40
        · obtain ⟨p1, p2⟩ := hp
          by_cases hs : 0 ≤ s ∧ s ≤ 5
          · obtain ⟨s1, s2⟩ := hs
            have K1 := Lib.hid (fun W => l1In_yes p 1 40 W p1 p2)
            have K2 := Lib.hid (fun W => l1In_yes s 0 5 W s1 s2)
            go_wp2_with fail
            refine (K1.out _).mono ?_
            rintro e w1 ⟨rfl, rfl⟩
            go_wp2_with fail
            refine (K2.out _).mono ?_
            rintro e w1 ⟨rfl, rfl⟩
            go_wp2
            go_round
            case rel =>
              refine ⟨k + 1, by omega, by go_num, fun j hj => ?_⟩
              by_cases hjk : j = k
              · subst hjk; rw [E.out]; exact Gd.ok_iff.2 ⟨p1, p2, s1, s2⟩
              · exact HG.out j (by omega)
            case measure => simp [intOf]; omega
          · have hs' : s < 0 ∨ 5 < s := by omega
            have K1 := Lib.hid (fun W => l1In_yes p 1 40 W p1 p2)
            have K2 := Lib.hid (fun W => l1In_no s 0 5 W hs')
            clear hs
            go_wp2_with fail
            refine (K1.out _).mono ?_
            rintro e w1 ⟨rfl, rfl⟩
            go_wp2_with fail
            refine (K2.out _).mono ?_
            rintro e w1 ⟨rfl, rfl⟩
            go_wp2
            go_ret
            exact ⟨ret_bool (okS_bad hlt (by rw [E.out]; exact Gd.ok_false.2 (by simp only; omega))).symm, rfl⟩
        · have hp' : p < 1 ∨ 40 < p := by omega
          have K1 := Lib.hid (fun W => l1In_no p 1 40 W hp')
          clear hp
          go_wp2_with fail
          refine (K1.out _).mono ?_
          rintro e w1 ⟨rfl, rfl⟩
          go_wp2
          go_ret
          exact ⟨ret_bool (okS_bad hlt (by rw [E.out]; exact Gd.ok_false.2 (by simp only; omega))).symm, rfl⟩
    · have hkl : gs.length ≤ k := by omega
      have HG := Lib.hid hg
      clear hg hlt
      go_wp2
      go_ret
      have e : k = gs.length := by omega
      subst e
      exact ⟨ret_bool (by rw [okS_good HG.out, Bool.eq_iff_iff]; simp; omega), rfl⟩

theorem l1In_yesq (n lo hi : Int) (w : World) (d : Nat) (h1 : lo ≤ n) (h2 : n ≤ hi) :
    Calls Tryd.prog 63 #[.int .i64 n, .int .i64 lo, .int .i64 hi] (w.drewN d) fun e w'' => e = .returned (.bool true) ∧ ∃ m, w'' = w.drewN m :=
  Calls.quiet_of_same ((l1In_yes n lo hi _ h1 h2).mono fun _ _ ⟨a, b⟩ => ⟨a, b.symm⟩)
theorem l1In_noq (n lo hi : Int) (w : World) (d : Nat) (h : n < lo ∨ hi < n) :
    Calls Tryd.prog 63 #[.int .i64 n, .int .i64 lo, .int .i64 hi] (w.drewN d) fun e w'' => e = .returned (.bool false) ∧ ∃ m, w'' = w.drewN m :=
  Calls.quiet_of_same ((l1In_no n lo hi _ h).mono fun _ _ ⟨a, b⟩ => ⟨a, b.symm⟩)


end Go.Proofs.YtnoccmghclmpnaaDoor

namespace Go.Proofs.YtnoccmghclmpnaaDoor
open Go.RowKit



end Go.Proofs.YtnoccmghclmpnaaDoor

namespace Go.Proofs.YtnoccmghclmpnaaDoor
open Go.RowKit

/-- What is left of a good; of the first k goods. -/
def leftG (gs : List Gd) (xs : List Int) (i : Nat) : Gd := ⟨(gd gs i).p, (gd gs i).s - xs.getD i 0⟩
def leftTo (gs : List Gd) (xs : List Int) (k : Nat) : List Gd := (List.range k).map (leftG gs xs)
theorem leftTo_length (gs : List Gd) (xs : List Int) (k : Nat) : (leftTo gs xs k).length = k := by simp [leftTo]
/-- The cells of a list of goods. -/
def gcl : List Gd → List Value
  | [] => []
  | g :: gs => .int .i64 g.p :: .int .i64 g.s :: gcl gs
theorem gcl_append (a b : List Gd) : gcl (a ++ b) = gcl a ++ gcl b := by
  induction a with
  | nil => rfl
  | cons g a ih => simp [gcl, ih]
theorem gcl_length (gs : List Gd) : (gcl gs).length = gs.length * 2 := by
  induction gs with
  | nil => rfl
  | cons g a ih => simp [gcl, ih]; omega
theorem gcl_get : ∀ (gs : List Gd) (i : Nat), i < gs.length → (gcl gs)[i * 2]? = some (.int .i64 (gd gs i).p) ∧ (gcl gs)[i * 2 + 1]? = some (.int .i64 (gd gs i).s)
  | [], i, h => by cases h
  | g :: gs, 0, _ => ⟨rfl, rfl⟩
  | g :: gs, i + 1, h => by
    have := gcl_get gs i (by simpa using h)
    have e : (i + 1) * 2 = i * 2 + 2 := by omega
    rw [e]
    have e2 : gd (g :: gs) (i + 1) = gd gs i := rfl
    rw [e2]
    exact this

/-- The slice v owns the goods gs. -/
def OwnG (w : World) (base : Nat) (v : Value) (gs : List Gd) : Prop := w.ownsRow base 71 2 v gs.length (gcl gs)
theorem OwnG.grow {w : World} {base : Nat} {A : Option Addr} {n cap : Nat} {gs : List Gd} (h : OwnG w base (.slice A n cap) gs) : GRow w A gs := by
  rcases h.2 with ⟨hv, h0⟩ | ⟨g, cap', cur, hv, _⟩
  · exact .inl (List.eq_nil_of_length_eq_zero h0)
  · injection hv with hv _ _
    subst hv
    refine .inr ⟨g, 0, rfl, fun i hi => ?_⟩
    have e : ∀ j, (⟨g, 0, none⟩ : Addr).add j = ⟨g, j, none⟩ := fun j => by
      unfold Addr.add
      by_cases h : j = 0 <;> simp [h]
    have c1 := World.ownsRow.cells h (g := g) rfl (i * 2) _ (gcl_get gs i hi).1
    have c2 := World.ownsRow.cells h (g := g) rfl (i * 2 + 1) _ (gcl_get gs i hi).2
    rw [e] at c1 c2
    rw [Nat.zero_add]
    exact ⟨c1, c2⟩
theorem OwnG.form {w : World} {base : Nat} {v : Value} {gs : List Gd} (h : OwnG w base v gs) : ∃ A cap, v = .slice A gs.length cap := by
  rcases h.2 with ⟨rfl, h0⟩ | ⟨g, cap, cur, rfl, _⟩
  · exact ⟨none, 0, by rw [h0]⟩
  · exact ⟨_, _, rfl⟩
theorem OwnG.kept {w w' : World} {base : Nat} {v : Value} {gs : List Gd} (h : OwnG w base v gs) (hb : Below w.heap.size w w') : OwnG w' base v gs :=
  ⟨h.1, by
    rcases h.2 with h0 | ⟨g, cap, cur, hv, k1, k2, k3⟩
    · exact .inl h0
    · exact .inr ⟨g, cap, cur, hv, k1, (hb.block g (Array.getElem?_eq_some_iff.1 k2).1).trans k2, k3⟩⟩
theorem infoGood : (Tryd.prog.info? 71).map (fun i => (i.zero, i.size, i.bytes)) = some (some (.agg #[.int .i64 0, .int .i64 0]), 2, 16) := by kernel_rfl


end Go.Proofs.YtnoccmghclmpnaaDoor

namespace Go.Proofs.YtnoccmghclmpnaaDoor
open Go.RowKit

/-- Block g holds the numbers xs at its beginning. -/
def RowAt (w : World) (g : Nat) (T : TypeId) (xs : List Int) : Prop := ∃ cs, Blk w g T cs ∧ ∀ j, j < xs.length → cs[j]? = some (.int .i64 (xs.getD j 0))
theorem RowAt.lt {w : World} {g : Nat} {T : TypeId} {xs : List Int} (h : RowAt w g T xs) : g < w.heap.size := by obtain ⟨cs, h, _⟩ := h; exact h.lt
theorem RowAt.kept {w w' : World} {g : Nat} {T : TypeId} {xs : List Int} (h : RowAt w g T xs) (hb : Below w.heap.size w w') : RowAt w' g T xs := by obtain ⟨cs, h, k⟩ := h; exact ⟨cs, h.kept hb, k⟩
theorem RowAt.of_heap {w w' : World} {g : Nat} {T : TypeId} {xs : List Int} (h : RowAt w g T xs) (he : w'.heap[g]? = w.heap[g]?) : RowAt w' g T xs := by obtain ⟨cs, h, k⟩ := h; exact ⟨cs, he.trans h, k⟩
theorem RowAt.row {w : World} {g : Nat} {T : TypeId} {xs : List Int} (h : RowAt w g T xs) : Row .i64 w (some ⟨g, 0, none⟩) xs := by
  obtain ⟨cs, h, k⟩ := h
  exact .inr ⟨g, 0, rfl, fun i hi => by rw [Nat.zero_add, h.cell i, k i hi]⟩

/-- The cells of a slice of rows: each a slice over a block, of length n. -/
def rowCellsB (n : Nat) (rs : List (Nat × Nat)) : List Value := rs.map fun r => .slice (some ⟨r.1, 0, none⟩) n r.2

/-- The slice v owns (from base on) a row of slices of length n: those of L, in order; the rows' blocks lie from rb on, below m, each behind the one before. -/
def RowsC (w : World) (base rb : Nat) (v : Value) (T : TypeId) (n : Nat) (L : List (List Int)) (m : Nat) : Prop :=
  ∃ rs : List (Nat × Nat), rs.length = L.length ∧ w.ownsRow base 37 1 v L.length (rowCellsB n rs) ∧ (∀ (i : Nat) (r : Nat × Nat) (xs : List Int), rs[i]? = some r → L[i]? = some xs → xs.length = n ∧ RowAt w r.1 T xs) ∧ rs.Pairwise (fun a b => a.1 < b.1) ∧ ∀ r ∈ rs, rb ≤ r.1 ∧ r.1 < m
abbrev RowsB (w : World) (base : Nat) (v : Value) (T : TypeId) (n : Nat) (L : List (List Int)) (m : Nat) : Prop := RowsC w base base v T n L m

theorem grownOf {w w' : World} (h : Below w.heap.size w w') (row : Option Nat) : w.grownBy w' row := ⟨h.os, h.tape, h.output, h.size, fun k hk _ => h.block k hk⟩
theorem RowsC.nil {w : World} {base rb : Nat} {v : Value} {T : TypeId} {n m : Nat} (h : w.ownsRow base 37 1 v 0 []) : RowsC w base rb v T n [] m :=
  ⟨[], rfl, h, fun i g q hg _ => by simp at hg, List.Pairwise.nil, fun g hg => by cases hg⟩
theorem RowsC.kept {w w' : World} {base rb : Nat} {v : Value} {T : TypeId} {n : Nat} {L : List (List Int)} {m : Nat} (h : RowsC w base rb v T n L m) (hb : Below w.heap.size w w') : RowsC w' base rb v T n L m := by
  obtain ⟨rs, h1, h2, h3, h4, h5⟩ := h
  refine ⟨rs, h1, h2.kept (grownOf hb none) ?_, fun i r xs hg hq => ⟨(h3 i r xs hg hq).1, (h3 i r xs hg hq).2.kept hb⟩, h4, h5⟩
  cases v.ownBlock with
  | none => exact .inl rfl
  | some k => exact .inr (by simp)
theorem RowsC.mono {w : World} {base rb : Nat} {v : Value} {T : TypeId} {n : Nat} {L : List (List Int)} {m m' : Nat} (h : RowsC w base rb v T n L m) (hm : m ≤ m') : RowsC w base rb v T n L m' := by
  obtain ⟨rs, h1, h2, h3, h4, h5⟩ := h
  exact ⟨rs, h1, h2, h3, h4, fun g hg => ⟨(h5 g hg).1, Nat.lt_of_lt_of_le (h5 g hg).2 hm⟩⟩
theorem RowsC.base {w : World} {base base' rb rb' : Nat} {v : Value} {T : TypeId} {n : Nat} {L : List (List Int)} {m : Nat} (h : RowsC w base rb v T n L m) (hm : base' ≤ base) (hr : rb' ≤ rb) : RowsC w base' rb' v T n L m := by
  obtain ⟨rs, h1, h2, h3, h4, h5⟩ := h
  refine ⟨rs, h1, ⟨h2.1, ?_⟩, h3, h4, fun g hg => ⟨Nat.le_trans hr (h5 g hg).1, (h5 g hg).2⟩⟩
  rcases h2.2 with h0 | ⟨g, cap, cur, hv, k1, k2⟩
  · exact .inl h0
  · exact .inr ⟨g, cap, cur, hv, Nat.le_trans hm k1, k2⟩
theorem RowsC.form {w : World} {base rb : Nat} {v : Value} {T : TypeId} {n : Nat} {L : List (List Int)} {m : Nat} (h : RowsC w base rb v T n L m) : ∃ A cap, v = .slice A L.length cap := by
  obtain ⟨rs, h1, h2, _⟩ := h
  rcases h2.2 with ⟨rfl, h0⟩ | ⟨g, cap, cur, rfl, _⟩
  · exact ⟨none, 0, by rw [h0]⟩
  · exact ⟨_, _, rfl⟩
theorem RowsC.own {w : World} {base rb : Nat} {v : Value} {T : TypeId} {n : Nat} {L : List (List Int)} {m : Nat} (h : RowsC w base rb v T n L m) : ∀ k, v.ownBlock = some k → base ≤ k ∧ k < w.heap.size := by
  obtain ⟨rs, _, h2, _⟩ := h
  exact h2.lt
theorem RowsC.len {w : World} {base rb : Nat} {v : Value} {T : TypeId} {n : Nat} {L : List (List Int)} {m : Nat} (h : RowsC w base rb v T n L m) {i : Nat} (hi : i < L.length) : L[i].length = n := by
  obtain ⟨rs, h1, _, h3, _⟩ := h
  exact (h3 i _ _ (List.getElem?_eq_getElem (by omega : i < rs.length)) (List.getElem?_eq_getElem hi)).1

/-- One row: where it lies, and what it holds. -/
theorem RowsC.at {w : World} {base rb : Nat} {A : Option Addr} {k cap : Nat} {T : TypeId} {n : Nat} {L : List (List Int)} {m : Nat} (h : RowsC w base rb (.slice A k cap) T n L m) {i : Nat} (hi : i < L.length) :
    ∃ g b c, A = some ⟨g, 0, none⟩ ∧ w.cell? ⟨g, i, none⟩ = some (.slice (some ⟨b, 0, none⟩) n c) ∧ RowAt w b T L[i] ∧ L[i].length = n ∧ rb ≤ b ∧ b < m ∧ base ≤ g := by
  obtain ⟨rs, h1, h2, h3, _, h5⟩ := h
  have hi' : i < rs.length := by omega
  rcases h2.2 with ⟨_, h0⟩ | ⟨g, cap', cur, hv, hbase, hg, _⟩
  · omega
  · injection hv with hv _ _
    subst hv
    have hc := h2.cells (g := g) rfl i (.slice (some ⟨rs[i].1, 0, none⟩) n rs[i].2) (by simp [rowCellsB, hi'])
    have e1 : (⟨g, 0, none⟩ : Addr).add i = ⟨g, i, none⟩ := by
      unfold Addr.add
      by_cases h : i = 0 <;> simp [h]
    rw [e1] at hc
    have h6 := h3 i _ _ (List.getElem?_eq_getElem hi') (List.getElem?_eq_getElem hi)
    exact ⟨g, rs[i].1, rs[i].2, rfl, hc, h6.2, h6.1, (h5 _ (List.getElem_mem hi')).1, (h5 _ (List.getElem_mem hi')).2, hbase⟩

/-- All rows at once: where they lie, in ascending order. -/
theorem RowsC.blocks {w : World} {base rb : Nat} {A : Option Addr} {k cap : Nat} {T : TypeId} {n : Nat} {L : List (List Int)} {m : Nat} (h : RowsC w base rb (.slice A k cap) T n L m) :
    ∃ (g : Nat) (f : Nat → Nat × Nat), (0 < L.length → A = some ⟨g, 0, none⟩) ∧ (∀ i, i < L.length → w.cell? ⟨g, i, none⟩ = some (.slice (some ⟨(f i).1, 0, none⟩) n (f i).2) ∧ RowAt w (f i).1 T (L.getD i []) ∧ (L.getD i []).length = n ∧ rb ≤ (f i).1 ∧ (f i).1 < m) ∧ ∀ i j, i < j → j < L.length → (f i).1 < (f j).1 := by
  have hat := fun i hi => h.at (i := i) hi
  obtain ⟨rs, h1, h2, h3, h4, h5⟩ := h
  have key : ∃ g, 0 < L.length → A = some ⟨g, 0, none⟩ := by
    by_cases h0 : 0 < L.length
    · obtain ⟨g, _, _, e, _⟩ := hat 0 h0
      exact ⟨g, fun _ => e⟩
    · exact ⟨0, fun h => absurd h h0⟩
  obtain ⟨g, hg⟩ := key
  refine ⟨g, fun i => rs.getD i (0, 0), hg, fun i hi => ?_, fun i j hij hj => ?_⟩
  · have hi' : i < rs.length := by omega
    have e1 : rs.getD i (0, 0) = rs[i] := by simp [List.getD, hi']
    have e2 : L.getD i [] = L[i] := by simp [List.getD, hi]
    obtain ⟨g', b, c, e, hc, hr, hl, h6, h7, _⟩ := hat i hi
    have hg' := hg (by omega)
    rw [e] at hg'
    injection hg' with hg'
    injection hg' with hg' _ _
    have hcc := h2.cells (g := g') (by rw [e]; rfl) i (.slice (some ⟨rs[i].1, 0, none⟩) n rs[i].2) (by simp [rowCellsB, hi'])
    have e3 : (⟨g', 0, none⟩ : Addr).add i = ⟨g', i, none⟩ := by
      unfold Addr.add
      by_cases h : i = 0 <;> simp [h]
    rw [e3, hg'] at hcc
    obtain ⟨k1, k2⟩ := h3 i _ _ (List.getElem?_eq_getElem hi') (List.getElem?_eq_getElem hi)
    dsimp only
    rw [e1, e2]
    exact ⟨hcc, k2, k1, (h5 _ (List.getElem_mem hi')).1, (h5 _ (List.getElem_mem hi')).2⟩
  · have hi' : i < rs.length := by omega
    have hj' : j < rs.length := by omega
    have := List.pairwise_iff_getElem.1 h4 i j hi' hj' hij
    simpa [List.getD, hi', hj'] using this

theorem infoRowB : (Tryd.prog.info? 37).map (fun i => (i.zero, i.size, i.bytes)) = some (some (.slice none 0 0), 1, 24) := by kernel_rfl

/-- 'list = append(list, row)', the row over a block of its own that is newer than all others. -/
theorem wpList_append_rowsB {ops : Array Oper} {rest : List Oper} {o : Oper} {a : Act} {Q : Exit → Act → World → Prop} (w : World) (hgd : o.guard = none) (s x : Operand)
    (ho : o.op = .call { callee := .builtin .append, args := #[s, x], argTypes := #[156, 156] }) (base rb : Nat) (v : Value) (T : TypeId) (hT : T ≠ 37) (n : Nat) (L : List (List Int)) (m : Nat) (hs : a.eval s = v) (h : RowsC w base rb v T n L m)
    (g gx c cx : Nat) (xs : List Int) (hx : a.eval x = .slice (some ⟨gx, 0, none⟩) 1 c) (hcx : w.cell? ⟨gx, 0, none⟩ = some (.slice (some ⟨g, 0, none⟩) n cx)) (hq : RowAt w g T xs) (hl : xs.length = n) (hm : m ≤ g) (hbm : rb ≤ m) (hbs : base ≤ w.heap.size) (hlen : L.length ≤ 1000000)
    (hK : ∀ v' w', RowsC w' base rb v' T n (L ++ [xs]) (g + 1) → Below base w w' → w.grownBy w' v.ownBlock → wpList Tryd.prog ops Q rest (a.put o.dst v') w') : wpList Tryd.prog ops Q (o :: rest) a w := by
  have h' := h
  obtain ⟨rs, h1, h2, h3, h4, h5⟩ := h'
  obtain ⟨i0, hi, hz0, hz1, hz2⟩ := info_parts infoRowB
  have hgl := hq.lt
  refine wpList_append_own w hgd s x 156 ho base 37 i0 (.slice none 0 0) 1 24 Tryd.underlying156 hi hz0 hz1 hz2 rfl (by omega) v L.length (rowCellsB n rs) hs h2 ⟨gx, 0, none⟩ 1 c [.slice (some ⟨g, 0, none⟩) n cx] hx rfl ?_ (by simp [Value.oneCell'])
    (by unfold maxLen; omega) (by omega) (by omega) ?_
  · intro j u hj
    match j, hj with
    | 0, hj => simp at hj; subst hj; simpa [Addr.add] using hcx
  · intro v' w' hown hgrow _
    have hb : Below base w w' := (Below.refl base w).grown hgrow (by omega) (fun k hk => (h2.lt k hk).1)
    refine hK v' w' ?_ hb hgrow
    have hne : ∀ g2 q2, RowAt w g2 T q2 → some g2 ≠ v.ownBlock := fun g2 q2 hb e => by
      obtain ⟨cs, hb, _⟩ := hb
      rcases h2.2 with ⟨rfl, _⟩ | ⟨g', cap, cur, rfl, _, hg, _⟩
      · simp [Value.ownBlock] at e
      · simp [Value.ownBlock] at e
        subst e
        unfold Blk at hb
        rw [hb] at hg
        injection hg with hg
        injection hg with _ hg _
        exact hT hg
    have hlen2 : (L ++ [xs]).length = L.length + 1 := by simp
    refine ⟨rs ++ [(g, cx)], by simp [h1], ?_, ?_, ?_, ?_⟩
    · rw [hlen2]; simpa [rowCellsB] using hown
    · intro i r2 q2 hg2 hq2
      by_cases hlt : i < rs.length
      · rw [List.getElem?_append_left hlt] at hg2
        rw [List.getElem?_append_left (by omega)] at hq2
        obtain ⟨hl2, hb2⟩ := h3 i r2 q2 hg2 hq2
        exact ⟨hl2, hb2.of_heap (hgrow.block r2.1 hb2.lt (hne r2.1 q2 hb2))⟩
      · by_cases heq : i = rs.length
        · subst heq
          simp at hg2
          rw [h1] at hq2
          simp at hq2
          subst hg2; subst hq2
          exact ⟨hl, hq.of_heap (hgrow.block g hq.lt (hne g _ hq))⟩
        · rw [List.getElem?_eq_none (by simp; omega)] at hg2; cases hg2
    · rw [List.pairwise_append]
      refine ⟨h4, List.pairwise_singleton _ _, fun x hx y hy => ?_⟩
      rw [List.mem_singleton] at hy
      subst hy
      exact Nat.lt_of_lt_of_le (h5 x hx).2 hm
    · intro r2 hg2
      rcases List.mem_append.1 hg2 with hg2 | hg2
      · exact ⟨(h5 r2 hg2).1, by have := (h5 r2 hg2).2; omega⟩
      · rw [List.mem_singleton] at hg2
        subst hg2
        exact ⟨by omega, by omega⟩

/-- What lies below a bound stays. -/
theorem RowsC.below {w w' : World} {base rb : Nat} {v : Value} {T : TypeId} {n : Nat} {L : List (List Int)} {m B : Nat} (h : RowsC w base rb v T n L m) (hb : Below B w w') (hm : m ≤ B) (hs : ∀ k, v.ownBlock = some k → k < B) : RowsC w' base rb v T n L m := by
  obtain ⟨rs, h1, h2, h3, h4, h5⟩ := h
  refine ⟨rs, h1, ⟨h2.1, ?_⟩, fun i r xs hg hq => ⟨(h3 i r xs hg hq).1, (h3 i r xs hg hq).2.of_heap (hb.block r.1 (Nat.lt_of_lt_of_le (h5 r (List.mem_of_getElem? hg)).2 hm))⟩, h4, h5⟩
  rcases h2.2 with h0 | ⟨g, cap, cur, rfl, k1, k2, rest⟩
  · exact .inl h0
  · exact .inr ⟨g, cap, cur, rfl, k1, (hb.block g (hs g rfl)).trans k2, rest⟩
/-- Another block that is older turns. -/
theorem RowsC.other {w w' : World} {base rb : Nat} {v : Value} {T : TypeId} {n : Nat} {L : List (List Int)} {m g1 : Nat} (h : RowsC w base rb v T n L m) (ho : ∀ g2, g2 ≠ g1 → w'.heap[g2]? = w.heap[g2]?) (hlt : g1 < base) (hlt2 : g1 < rb) : RowsC w' base rb v T n L m := by
  obtain ⟨rs, h1, h2, h3, h4, h5⟩ := h
  refine ⟨rs, h1, ⟨h2.1, ?_⟩, fun i r xs hg hq => ⟨(h3 i r xs hg hq).1, (h3 i r xs hg hq).2.of_heap (ho r.1 (by have := (h5 r (List.mem_of_getElem? hg)).1; omega))⟩, h4, h5⟩
  rcases h2.2 with h0 | ⟨g, cap, cur, rfl, k1, k2, rest⟩
  · exact .inl h0
  · exact .inr ⟨g, cap, cur, rfl, k1, (ho g (by omega)).trans k2, rest⟩
/-- One row turns. -/
theorem RowsC.turn {w w' : World} {base rb : Nat} {A : Option Addr} {k cap : Nat} {T : TypeId} (hT : T ≠ 37) {n : Nat} {L : List (List Int)} {m : Nat} (h : RowsC w base rb (.slice A k cap) T n L m) {i : Nat} (hi : i < L.length) {g b c : Nat} (hA : A = some ⟨g, 0, none⟩)
    (hc : w.cell? ⟨g, i, none⟩ = some (.slice (some ⟨b, 0, none⟩) n c)) {xs : List Int} (hl : xs.length = n) (ho : ∀ g2, g2 ≠ b → w'.heap[g2]? = w.heap[g2]?) (hq : RowAt w' b T xs) : RowsC w' base rb (.slice A k cap) T n (L.set i xs) m := by
  obtain ⟨rs, h1, h2, h3, h4, h5⟩ := h
  have hi' : i < rs.length := by omega
  have hbi : ∃ cc, rs[i]? = some (b, cc) := by
    have hcc := h2.cells (g := g) (by rw [hA]; rfl) i (.slice (some ⟨rs[i].1, 0, none⟩) n rs[i].2) (by simp [rowCellsB, hi'])
    have e1 : (⟨g, 0, none⟩ : Addr).add i = ⟨g, i, none⟩ := by
      unfold Addr.add
      by_cases h : i = 0 <;> simp [h]
    rw [e1, hc] at hcc
    simp at hcc
    exact ⟨rs[i].2, by rw [List.getElem?_eq_getElem hi']; rw [hcc.1]⟩
  obtain ⟨cc, hbi⟩ := hbi
  refine ⟨rs, by rw [List.length_set]; exact h1, ?_, ?_, h4, h5⟩
  · rw [List.length_set]
    refine ⟨h2.1, ?_⟩
    rcases h2.2 with h0 | ⟨g', cap', cur, hv, k1, k2, rest⟩
    · exact .inl h0
    · refine .inr ⟨g', cap', cur, hv, k1, (ho g' (fun e => ?_)).trans k2, rest⟩
      subst e
      obtain ⟨cs, hb, _⟩ := (h3 i _ _ hbi (List.getElem?_eq_getElem hi)).2
      unfold Blk at hb
      rw [hb] at k2
      injection k2 with k2
      injection k2 with _ k2 _
      exact hT k2
  · intro j r2 q2 hg2 hq2
    by_cases hj : j = i
    · subst hj
      rw [hbi] at hg2
      injection hg2 with hg2
      subst hg2
      rw [List.getElem?_set_self hi] at hq2
      injection hq2 with hq2
      subst hq2
      exact ⟨hl, hq⟩
    · rw [List.getElem?_set_ne (fun e => hj e.symm)] at hq2
      have hne : r2.1 ≠ b := fun e => by
        obtain ⟨hj', ej⟩ := List.getElem?_eq_some_iff.1 hg2
        obtain ⟨hi2, ei⟩ := List.getElem?_eq_some_iff.1 hbi
        have hp := List.pairwise_iff_getElem.1 h4
        rcases Nat.lt_or_gt_of_ne hj with hlt | hlt
        · have := hp j i hj' hi2 hlt; rw [ej, ei] at this; simp at this; omega
        · have := hp i j hi2 hj' hlt; rw [ej, ei] at this; simp at this; omega
      obtain ⟨k1, k2⟩ := h3 j r2 q2 hg2 hq2
      exact ⟨k1, k2.of_heap (ho r2.1 hne)⟩

end Go.Proofs.YtnoccmghclmpnaaDoor

namespace Go.Proofs.YtnoccmghclmpnaaDoor
open Go.RowKit

/-- The first k pairs of cells are the goods f. -/
def PairTo (cs : Array Value) (f : Nat → Gd) (k : Nat) : Prop := ∀ i, i < k → cs[i * 2]? = some (.int .i64 (f i).p) ∧ cs[i * 2 + 1]? = some (.int .i64 (f i).s)
theorem PairTo.step {cs : Array Value} {f : Nat → Gd} {k : Nat} (h : PairTo cs f k) (hk : k * 2 + 1 < cs.size) : PairTo ((cs.setIfInBounds (k * 2) (.int .i64 (f k).p)).setIfInBounds (k * 2 + 1) (.int .i64 (f k).s)) f (k + 1) := by
  intro i hi
  simp only [Array.getElem?_setIfInBounds, Array.size_setIfInBounds]
  by_cases hik : i = k
  · subst hik
    refine ⟨?_, ?_⟩
    · rw [if_neg (by omega), if_pos rfl, if_pos (by omega)]
    · rw [if_pos rfl, if_pos (by omega)]
  · have h1 := h i (by omega)
    refine ⟨?_, ?_⟩
    · rw [if_neg (by omega), if_neg (by omega)]; exact h1.1
    · rw [if_neg (by omega), if_neg (by omega)]; exact h1.2
theorem PairTo.row {w : World} {g : Nat} {t : TypeId} {cs : Array Value} {gs : List Gd} (h : PairTo cs (gd gs) gs.length) (hg : Blk w g t cs) : GRow w (some ⟨g, 0, none⟩) gs :=
  .inr ⟨g, 0, rfl, fun i hi => by
    rw [Nat.zero_add]
    exact ⟨(hg.cell _).trans (h i hi).1, (hg.cell _).trans (h i hi).2⟩⟩

/-- A new block that holds the goods gs. -/
def GCopy (w : World) (g : Nat) (gs : List Gd) : Prop := ∃ cs, Blk w g 71 cs ∧ cs.size = gs.length * 2 ∧ PairTo cs (gd gs) gs.length
theorem GCopy.kept {w w' : World} {g : Nat} {gs : List Gd} (h : GCopy w g gs) (hb : Below w.heap.size w w') : GCopy w' g gs := by obtain ⟨cs, h1, h2⟩ := h; exact ⟨cs, h1.kept hb, h2⟩
theorem GCopy.row {w : World} {g : Nat} {gs : List Gd} (h : GCopy w g gs) : GRow w (some ⟨g, 0, none⟩) gs := by obtain ⟨cs, h1, _, h2⟩ := h; exact h2.row h1
theorem GCopy.lt {w : World} {g : Nat} {gs : List Gd} (h : GCopy w g gs) : g < w.heap.size := by obtain ⟨cs, h1, _⟩ := h; exact h1.lt

theorem int_eqG {a b : Int} (h : a = b) : Value.int .i64 a = Value.int .i64 b := by rw [h]






/-- The goods that the marks 1, 2, .. make. -/
def gmarks (n : Nat) : List Gd := (List.range n).map fun (i : Nat) => ⟨1 + 2 * (i : Int), 1 + 2 * (i : Int) + 1⟩
theorem gmarks_length (n : Nat) : (gmarks n).length = n := by simp [gmarks]
theorem gmarks_get {n i : Nat} (h : i < n) : gd (gmarks n) i = ⟨1 + 2 * (i : Int), 1 + 2 * (i : Int) + 1⟩ := by
  simp [gd, gmarks, List.getD, h]
theorem MarkedTo.goods {old cs : Array Value} {n g : Nat} {t : TypeId} {w : World} (h : MarkedTo 1 old (n * 2) cs) (hg : Blk w g t cs) : GRow w (some ⟨g, 0, none⟩) (gmarks n) :=
  .inr ⟨g, 0, rfl, fun i hi => by
    rw [gmarks_length] at hi
    rw [Nat.zero_add, gmarks_get hi]
    refine ⟨(hg.cell _).trans ((h.2 _ (by omega)).trans ?_), (hg.cell _).trans ((h.2 _ (by omega)).trans ?_)⟩
    · exact congrArg some (int_eqG (by show _ = 1 + 2 * (i : Int); omega))
    · exact congrArg some (int_eqG (by show _ = 1 + 2 * (i : Int) + 1; omega))⟩



end Go.Proofs.YtnoccmghclmpnaaDoor

namespace Go.Proofs.YtnoccmghclmpnaaDoor
open Go.RowKit

theorem GCopy.other {w w' : World} {g g1 : Nat} {gs : List Gd} (h : GCopy w g gs) (ho : ∀ g2, g2 ≠ g1 → w'.heap[g2]? = w.heap[g2]?) (hne : g ≠ g1) : GCopy w' g gs := by obtain ⟨cs, h1, h2⟩ := h; exact ⟨cs, h1.other ho hne, h2⟩
theorem RowAt.other {w w' : World} {g g1 : Nat} {T : TypeId} {xs : List Int} (h : RowAt w g T xs) (ho : ∀ g2, g2 ≠ g1 → w'.heap[g2]? = w.heap[g2]?) (hne : g ≠ g1) : RowAt w' g T xs := h.of_heap (ho g hne)
theorem RowAt.size {w : World} {g : Nat} {T : TypeId} {xs : List Int} {n : Nat} (h : RowAt w g T xs) (hn : xs.length = n) : ∃ cs, Blk w g T cs ∧ n ≤ cs.size ∧ ∀ j, j < n → cs[j]? = some (.int .i64 (xs.getD j 0)) := by
  subst hn
  obtain ⟨cs, h1, h2⟩ := h
  refine ⟨cs, h1, ?_, h2⟩
  by_cases h0 : xs.length = 0
  · omega
  · have := h2 (xs.length - 1) (by omega)
    have := (Array.getElem?_eq_some_iff.1 this).1
    omega


end Go.Proofs.YtnoccmghclmpnaaDoor

namespace Go.Proofs.YtnoccmghclmpnaaDoor
open Go.RowKit

/-- What lies below a bound stays. -/
theorem OwnG.below {w w' : World} {base : Nat} {v : Value} {gs : List Gd} {B : Nat} (h : OwnG w base v gs) (hb : Below B w w') (hs : ∀ k, v.ownBlock = some k → k < B) : OwnG w' base v gs :=
  ⟨h.1, by
    rcases h.2 with h0 | ⟨g, cap, cur, rfl, k1, k2, k3⟩
    · exact .inl h0
    · exact .inr ⟨g, cap, cur, rfl, k1, (hb.block g (hs g rfl)).trans k2, k3⟩⟩

/-- Block g begins with the goods ls. -/
def GAt (w : World) (g : Nat) (T : TypeId) (ls : List Gd) : Prop := ∃ cs, Blk w g T cs ∧ ls.length * 2 ≤ cs.size ∧ PairTo cs (gd ls) ls.length
theorem GAt.kept {w w' : World} {g : Nat} {T : TypeId} {ls : List Gd} (h : GAt w g T ls) (hb : Below w.heap.size w w') : GAt w' g T ls := by obtain ⟨cs, h1, h2⟩ := h; exact ⟨cs, h1.kept hb, h2⟩
theorem GAt.other {w w' : World} {g g1 : Nat} {T : TypeId} {ls : List Gd} (h : GAt w g T ls) (ho : ∀ g2, g2 ≠ g1 → w'.heap[g2]? = w.heap[g2]?) (hne : g ≠ g1) : GAt w' g T ls := by obtain ⟨cs, h1, h2⟩ := h; exact ⟨cs, h1.other ho hne, h2⟩
theorem GAt.row {w : World} {g : Nat} {T : TypeId} {ls : List Gd} (h : GAt w g T ls) : GRow w (some ⟨g, 0, none⟩) ls := by obtain ⟨cs, h1, _, h2⟩ := h; exact h2.row h1
theorem GAt.lt {w : World} {g : Nat} {T : TypeId} {ls : List Gd} (h : GAt w g T ls) : g < w.heap.size := by obtain ⟨cs, h1, _⟩ := h; exact h1.lt

/-- The goods that the program hands back beside true. -/
def GotGoodsP (w : World) (n : Nat) (ls : List Gd) (e : Ending) (w' : World) : Prop :=
  ∃ g, e = .returned (.tuple #[.slice (some ⟨g, 0, none⟩) n n, .bool true]) ∧ GAt w' g 74 ls ∧ w.heap.size ≤ g ∧ Below w.heap.size w w'

theorem left_pairs {gs : List Gd} (h : gs.length ≤ 3) (xs : List Int) : PairTo (sc ((shOf gs).minus (q3 xs))) (gd (leftTo gs xs gs.length)) (leftTo gs xs gs.length).length := by
  intro i hi
  rw [leftTo_length] at hi
  have e : gd (leftTo gs xs gs.length) i = leftG gs xs i := by simp [gd, leftTo, List.getD, hi]
  rw [e]
  have h3 : i < 3 := by omega
  match i, h3 with
  | 0, _ => exact ⟨rfl, rfl⟩
  | 1, _ => exact ⟨rfl, rfl⟩
  | 2, _ => exact ⟨rfl, rfl⟩


end Go.Proofs.YtnoccmghclmpnaaDoor

namespace Go.Proofs.YtnoccmghclmpnaaDoor
open Go.RowKit

end Go.Proofs.YtnoccmghclmpnaaDoor

namespace Go.Proofs.YtnoccmghclmpnaaDoor
open Go.RowKit

/-- The slice v owns the numbers L. -/
def OwnN (w : World) (base : Nat) (v : Value) (L : List Int) : Prop := w.ownsRow base 3 1 v L.length (L.map (Value.int .i64))
theorem infoIntB : (Tryd.prog.info? 3).map (fun i => (i.zero, i.size, i.bytes)) = some (some (.int .i64 0), 1, 8) := by kernel_rfl
theorem OwnN.rowAt {w : World} {base : Nat} {v : Value} {L : List Int} (h : OwnN w base v L) (h0 : 0 < L.length) : ∃ g cap, v = .slice (some ⟨g, 0, none⟩) L.length cap ∧ RowAt w g 3 L ∧ base ≤ g := by
  rcases h.2 with ⟨_, h1⟩ | ⟨g, cap, cur, rfl, hb, hg, _, _, _, ht⟩
  · omega
  · refine ⟨g, cap, rfl, ⟨cur, hg, fun j hj => ?_⟩, hb⟩
    have : cur.toList[j]? = (L.map (Value.int .i64))[j]? := by
      rw [← ht, List.getElem?_take, if_pos (by omega)]
    rw [Array.getElem?_toList] at this
    rw [this]
    simp [List.getD, hj]
theorem OwnN.kept {w w' : World} {base : Nat} {v : Value} {L : List Int} (h : OwnN w base v L) (hb : Below w.heap.size w w') : OwnN w' base v L :=
  ⟨h.1, by
    rcases h.2 with h0 | ⟨g, cap, cur, hv, k1, k2, k3⟩
    · exact .inl h0
    · exact .inr ⟨g, cap, cur, hv, k1, (hb.block g (Array.getElem?_eq_some_iff.1 k2).1).trans k2, k3⟩⟩
set_option maxRecDepth 100000 in
/-- 'append(list, row...)'. -/
theorem wpList_append_ints {ops : Array Oper} {rest : List Oper} {o : Oper} {a : Act} {Q : Exit → Act → World → Prop} (w : World) (hgd : o.guard = none) (s x : Operand)
    (ho : o.op = .call { callee := .builtin .append, args := #[s, x], argTypes := #[37, 37] }) (base : Nat) (v : Value) (L : List Int) (hs : a.eval s = v) (h : OwnN w base v L)
    (b off m c : Nat) (ys : List Int) (hm : ys.length = m) (hx : a.eval x = .slice (some ⟨b, off, none⟩) m c) (hr : Row .i64 w (some ⟨b, off, none⟩) ys) (hbase : base ≤ w.heap.size) (hlen : L.length + m ≤ 1000000)
    (hK : ∀ v' w', OwnN w' base v' (L ++ ys) → Below base w w' → wpList Tryd.prog ops Q rest (a.put o.dst v') w') : wpList Tryd.prog ops Q (o :: rest) a w := by
  subst hm
  obtain ⟨i0, hi, hz0, hz1, hz2⟩ := info_parts infoIntB
  refine wpList_append_own w hgd s x 37 ho base 3 i0 (.int .i64 0) 1 8 Tryd.underlying37 hi hz0 hz1 hz2 rfl (by omega) v L.length (L.map (Value.int .i64)) hs h ⟨b, off, none⟩ ys.length c (ys.map (Value.int .i64)) hx (by simp) ?_ (by simp [Value.oneCell'])
    (by unfold maxLen; omega) (by omega) hbase ?_
  · intro j u hj
    rw [List.getElem?_map] at hj
    by_cases hlt : j < ys.length
    · rw [List.getElem?_eq_getElem hlt] at hj
      injection hj with hj
      rcases hr with h0 | ⟨b', off', e, hc⟩
      · subst h0; cases hlt
      · injection e with e
        injection e with e1 e2 _
        subst e1; subst e2
        have := hc j hlt
        have e1 : (⟨b, off, none⟩ : Addr).add j = ⟨b, off + j, none⟩ := by
          unfold Addr.add
          by_cases h : j = 0 <;> simp [h]
        rw [e1, this, ← hj]
        simp [List.getD, List.getElem?_eq_getElem hlt]
    · rw [List.getElem?_eq_none (by omega)] at hj; cases hj
  · intro v' w' hown hgrow _
    refine hK v' w' ?_ ((Below.refl base w).grown hgrow hbase (fun k hk => (World.ownsRow.lt h k hk).1))
    unfold OwnN
    rw [List.length_append, List.map_append]
    exact hown

end Go.Proofs.YtnoccmghclmpnaaDoor

namespace Go.Proofs.YtnoccmghclmpnaaDoor
open Go.RowKit

theorem gcl_get2 (gs : List Gd) (j : Nat) : (gcl gs)[j]? = if j < gs.length * 2 then some (.int .i64 (if j % 2 = 0 then (gd gs (j / 2)).p else (gd gs (j / 2)).s)) else none := by
  by_cases h : j < gs.length * 2
  · rw [if_pos h]
    have h1 := gcl_get gs (j / 2) (by omega)
    by_cases h2 : j % 2 = 0
    · rw [if_pos h2]
      have e : j / 2 * 2 = j := by omega
      rw [e] at h1
      exact h1.1
    · rw [if_neg h2]
      have e : j / 2 * 2 + 1 = j := by omega
      rw [e] at h1
      exact h1.2
  · rw [if_neg h, List.getElem?_eq_none (by rw [gcl_length]; omega)]

theorem gcl_one (gs : List Gd) : ∀ u ∈ gcl gs, u.oneCell' = true := by
  induction gs with
  | nil => intro u hu; cases hu
  | cons g a ih =>
    intro u hu
    simp only [gcl, List.mem_cons] at hu
    rcases hu with rfl | rfl | hu
    · rfl
    · rfl
    · exact ih u hu

set_option maxRecDepth 100000 in
/-- 'append(list, goods...)'. -/
theorem wpList_append_goods {ops : Array Oper} {rest : List Oper} {o : Oper} {a : Act} {Q : Exit → Act → World → Prop} (w : World) (hgd : o.guard = none) (s x : Operand)
    (ho : o.op = .call { callee := .builtin .append, args := #[s, x], argTypes := #[38, 38] }) (base : Nat) (v : Value) (L : List Gd) (hs : a.eval s = v) (h : OwnG w base v L)
    (b off m c : Nat) (ys : List Gd) (hm : ys.length = m) (hx : a.eval x = .slice (some ⟨b, off, none⟩) m c) (hr : GRow w (some ⟨b, off, none⟩) ys) (hbase : base ≤ w.heap.size) (hlen : L.length + m ≤ 1000000)
    (hK : ∀ v' w', OwnG w' base v' (L ++ ys) → Below base w w' → wpList Tryd.prog ops Q rest (a.put o.dst v') w') : wpList Tryd.prog ops Q (o :: rest) a w := by
  subst hm
  obtain ⟨i0, hi, hz0, hz1, hz2⟩ := info_parts infoGood
  refine wpList_append_own w hgd s x 38 ho base 71 i0 (.agg #[.int .i64 0, .int .i64 0]) 2 16 Tryd.underlying38 hi hz0 hz1 hz2 rfl (by omega) v L.length (gcl L) hs h ⟨b, off, none⟩ ys.length c (gcl ys) hx (gcl_length ys) ?_ (gcl_one ys)
    (by unfold maxLen; omega) (by omega) hbase ?_
  · intro j u hj
    rw [gcl_get2] at hj
    by_cases hlt : j < ys.length * 2
    · rw [if_pos hlt] at hj
      injection hj with hj
      rcases hr with h0 | ⟨b', off', e, hc⟩
      · subst h0; simp at hlt
      · injection e with e
        injection e with e1 e2 _
        subst e1; subst e2
        have h1 := hc (j / 2) (by omega)
        have e1 : (⟨b, off, none⟩ : Addr).add j = ⟨b, off + j, none⟩ := by
          unfold Addr.add
          by_cases h : j = 0 <;> simp [h]
        rw [e1, ← hj]
        by_cases h2 : j % 2 = 0
        · rw [if_pos h2]
          have e : off + j / 2 * 2 = off + j := by omega
          rw [e] at h1
          exact h1.1
        · rw [if_neg h2]
          have e : off + j / 2 * 2 + 1 = off + j := by omega
          rw [e] at h1
          exact h1.2
    · rw [if_neg hlt] at hj; cases hj
  · intro v' w' hown hgrow _
    refine hK v' w' ?_ ((Below.refl base w).grown hgrow hbase (fun k hk => (World.ownsRow.lt h k hk).1))
    unfold OwnG
    rw [List.length_append, gcl_append]
    exact hown

end Go.Proofs.YtnoccmghclmpnaaDoor

namespace Go.Proofs.YtnoccmghclmpnaaDoor
open Go.RowKit

theorem run_append_nothing {P : Program} (w : World) (t ty e : TypeId) (i : TypeInfo) (ht : P.underlying t = some (.slice e)) (hi : P.info? e = some i) (g : Nat) (A : Option Addr) (c : Nat) :
    (Builtin.append_ #[t, t] ty #[.slice (some ⟨g, 0, none⟩) 0 0, .slice A 0 c]).run P w = .ok (.slice (some ⟨g, 0, none⟩) 0 0) w := by
  have hf : (Builtin.firstCells i.size 0 (.slice A 0 c)).run P w = .ok #[] w := by
    cases A with
    | none => exact run_firstCells_none w _ _ _ _
    | some a => exact run_firstCells_some (P := P) w i.size 0 a 0 c [] (by simp) (by simp)
  simp [Builtin.append_, run_underlying ht, sizeOf, typeInfo, hi, Builtin.lenOf, hf, storeCells]

/-- What a copy's block holds. -/
def Cpy (cs : Array Value) (cap size m : Nat) (news : List Value) : Prop := m ≤ cap ∧ cap ≤ maxLen ∧ cs.size = cap * size ∧ cs.toList.take (m * size) = news

theorem run_append_new {P : Program} (w : World) (t ty e : TypeId) (i : TypeInfo) (z : Value) (size bytes : Nat) (ht : P.underlying t = some (.slice e)) (hi : P.info? e = some i) (hz : i.zero = some z)
    (hsize : i.size = size) (hby : i.bytes = bytes) (hzs : z.cells.size = size) (hb16 : bytes ≤ 16)
    (g : Nat) (a : Addr) (m c : Nat) (news : List Value) (hl : news.length = m * size) (hnews : ∀ j u, news[j]? = some u → w.cell? (a.add j) = some u) (h0 : 0 < m) (h1 : m ≤ 1000000) :
    ∃ cap cs, (Builtin.append_ #[t, t] ty #[.slice (some ⟨g, 0, none⟩) 0 0, .slice (some a) m c]).run P w = .ok (.slice (some ⟨w.heap.size, 0, none⟩) m cap) (w.drew.alloc (.cells cs e)) ∧ Cpy cs cap size m news := by
  subst hsize; subst hby
  have hb : (0 + m) * i.bytes ≤ 140737488355328 := by
    have := Nat.mul_le_mul h1 hb16
    rw [Nat.zero_add]
    omega
  have hr := run_append_grow (P := P) w t ty e i z ht hi hz ⟨g, 0, none⟩ 0 0 [] (by simp) (by simp) a m c news hl hnews (by omega) (by omega) (growslice_fits (by omega) hb)
  simp only [Nat.zero_add] at hr
  have hm : m ≤ maxLen := by unfold maxLen; omega
  refine ⟨_, _, hr, grownCap_ge w m 0 e, grownCap_le_maxLen w m 0 e hm, ?_, ?_⟩
  · have hge := grownCap_ge w m 0 e
    simp only [Array.size_append, List.size_toArray, size_zeroCells, hzs, hl, List.length_nil, Nat.zero_add, ← Nat.add_mul]
    congr 1
    omega
  · simp only [Array.toList_append, List.nil_append]
    rw [← hl]
    simp

theorem step_append_nothing {P : Program} {ops : Array Oper} {o : Oper} {a : Act} {K : Act → World → Prop} {Q : Exit → Act → World → Prop} {E : Prop} (w : World) (hgd : o.guard = none) (s x : Operand) (t : TypeId)
    (ho : o.op = .call { callee := .builtin .append, args := #[s, x], argTypes := #[t, t] }) (e : TypeId) (i : TypeInfo) (ht : P.underlying t = some (.slice e)) (hi : P.info? e = some i)
    (g : Nat) (hs : a.eval s = .slice (some ⟨g, 0, none⟩) 0 0) (A : Option Addr) (c : Nat) (hx : a.eval x = .slice A 0 c) (h : K (a.put o.dst (.slice (some ⟨g, 0, none⟩) 0 0)) w) :
    if Region.wanted o (yielded ops a.tmps) = true then Oper.wp P o a w K Q else E := by
  have hw : Region.wanted o (yielded ops a.tmps) = true := by simp [Region.wanted, hgd]
  rw [if_pos hw]
  have hr := run_append_nothing (P := P) w t o.type e i ht hi g A c
  unfold Oper.wp execOp
  simp only [ho, resolve, invoke, builtin, Sem.run_bind, Sem.run_pure, Result.andThen_ok, List.map_toArray, List.map_cons, List.map_nil, hs, hx, hr]
  exact h

theorem step_append_new {P : Program} {ops : Array Oper} {o : Oper} {a : Act} {K : Act → World → Prop} {Q : Exit → Act → World → Prop} {E : Prop} (w : World) (hgd : o.guard = none) (s x : Operand) (t : TypeId)
    (ho : o.op = .call { callee := .builtin .append, args := #[s, x], argTypes := #[t, t] }) (e : TypeId) (i : TypeInfo) (z : Value) (size bytes : Nat) (ht : P.underlying t = some (.slice e)) (hi : P.info? e = some i) (hz : i.zero = some z)
    (hsize : i.size = size) (hby : i.bytes = bytes) (hzs : z.cells.size = size) (hb16 : bytes ≤ 16)
    (g : Nat) (hs : a.eval s = .slice (some ⟨g, 0, none⟩) 0 0) (ad : Addr) (m c : Nat) (news : List Value) (hx : a.eval x = .slice (some ad) m c) (hl : news.length = m * size) (hnews : ∀ j u, news[j]? = some u → w.cell? (ad.add j) = some u)
    (h0 : 0 < m) (h1 : m ≤ 1000000) (H : Nat) (hH : w.heap.size = H)
    (h : ∀ cap cs, Cpy cs cap size m news → K (a.put o.dst (.slice (some ⟨H, 0, none⟩) m cap)) (w.drew.alloc (.cells cs e))) :
    if Region.wanted o (yielded ops a.tmps) = true then Oper.wp P o a w K Q else E := by
  have hw : Region.wanted o (yielded ops a.tmps) = true := by simp [Region.wanted, hgd]
  rw [if_pos hw]
  subst hH
  obtain ⟨cap, cs, hr, hc⟩ := run_append_new (P := P) w t o.type e i z size bytes ht hi hz hsize hby hzs hb16 g ad m c news hl hnews h0 h1
  unfold Oper.wp execOp
  simp only [ho, resolve, invoke, builtin, Sem.run_bind, Sem.run_pure, Result.andThen_ok, List.map_toArray, List.map_cons, List.map_nil, hs, hx, hr]
  exact h cap cs hc

theorem Row.new {w w' : World} {b off : Nat} {ys : List Int} (h : Row .i64 w (some ⟨b, off, none⟩) ys) (hb : Below w.heap.size w w') : ∀ j u, (ys.map (Value.int .i64))[j]? = some u → w'.cell? ((⟨b, off, none⟩ : Addr).add j) = some u := by
  intro j u hj
  rw [List.getElem?_map] at hj
  by_cases hlt : j < ys.length
  · rw [List.getElem?_eq_getElem hlt] at hj
    injection hj with hj
    have := (h.below hb).cells j hlt
    have e1 : (⟨b, off, none⟩ : Addr).add j = ⟨b, off + j, none⟩ := by
      unfold Addr.add
      by_cases h : j = 0 <;> simp [h]
    rw [e1, this, ← hj]
    simp [List.getD, List.getElem?_eq_getElem hlt]
  · rw [List.getElem?_eq_none (by omega)] at hj; cases hj
theorem GRow.new {w w' : World} {b off : Nat} {ys : List Gd} (h : GRow w (some ⟨b, off, none⟩) ys) (h0 : 0 < ys.length) (hb : Below w.heap.size w w') : ∀ j u, (gcl ys)[j]? = some u → w'.cell? ((⟨b, off, none⟩ : Addr).add j) = some u := by
  intro j u hj
  rw [gcl_get2] at hj
  by_cases hlt : j < ys.length * 2
  · rw [if_pos hlt] at hj
    injection hj with hj
    have h1 := (h.below hb).one h0 (j / 2) (by omega)
    have e1 : (⟨b, off, none⟩ : Addr).add j = ⟨b, off + j, none⟩ := by
      unfold Addr.add
      by_cases h : j = 0 <;> simp [h]
    rw [e1, ← hj]
    by_cases h2 : j % 2 = 0
    · rw [if_pos h2]
      have e : off + j / 2 * 2 = off + j := by omega
      rw [e] at h1
      exact h1.1
    · rw [if_neg h2]
      have e : off + j / 2 * 2 + 1 = off + j := by omega
      rw [e] at h1
      exact h1.2
  · rw [if_neg hlt] at hj; cases hj
/-- A copy of a row of ints, of goods. -/
theorem Cpy.row {w : World} {g : Nat} {T : TypeId} {cs : Array Value} {cap m : Nat} {ys : List Int} (h : Cpy cs cap 1 m (ys.map (Value.int .i64))) (hb : Blk w g T cs) (hm : ys.length = m) : RowAt w g T ys :=
  ⟨cs, hb, fun j hj => by
    have : cs.toList[j]? = (ys.map (Value.int .i64))[j]? := by
      rw [← h.2.2.2, List.getElem?_take, if_pos (by omega)]
    rw [Array.getElem?_toList] at this
    rw [this]
    simp [List.getD, hj]⟩
theorem Cpy.own {w : World} {base g : Nat} {cs : Array Value} {cap m : Nat} {ys : List Gd} (h : Cpy cs cap 2 m (gcl ys)) (hb : Blk w g 71 cs) (hm : ys.length = m) (hbase : base ≤ g) : OwnG w base (.slice (some ⟨g, 0, none⟩) m cap) ys := by
  subst hm
  exact ⟨gcl_length ys, .inr ⟨g, cap, cs, rfl, hbase, hb, h.1, h.2.1, h.2.2.1, h.2.2.2⟩⟩

end Go.Proofs.YtnoccmghclmpnaaDoor

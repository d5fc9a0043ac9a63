/- Shelves, baskets and purchases out of slices: shelvesFrom, basketFrom, purchaseFrom, at every slice of goods and of ints. -/
import Derived.Test.YtfoohenmlagfjaaDoorGds
namespace Go.Proofs.YtfoohenmlagfjaaDoor
open Go.RowKit

/-- The slice reads as a list of goods: two cells each. -/
def GRow (w : World) (A : Option Addr) (gs : List Gd) : Prop :=
  gs = [] ∨ ∃ b off, A = some ⟨b, off, none⟩ ∧ ∀ i, i < gs.length → w.cell? ⟨b, off + i * 2, none⟩ = some (.int .i64 (gd gs i).p) ∧ w.cell? ⟨b, off + i * 2 + 1, none⟩ = some (.int .i64 (gd gs i).s)

theorem GRow.nil (w : World) (A : Option Addr) : GRow w A [] := .inl rfl
theorem GRow.keep {w w' : World} {A : Option Addr} {gs : List Gd} (h : GRow w A gs) (hk : ∀ p : Addr, p.block < w.heap.size → w'.cell? p = w.cell? p) : GRow w' A gs := by
  rcases h with h | ⟨b, off, rfl, hc⟩
  · exact .inl h
  · refine .inr ⟨b, off, rfl, fun i hi => ?_⟩
    have h1 := hc i hi
    rw [hk _ (World.block_lt_of_cell? w _ h1.1), hk _ (World.block_lt_of_cell? w _ h1.2)]
    exact h1
theorem GRow.below {w w' : World} {A : Option Addr} {gs : List Gd} (h : GRow w A gs) (hb : Below w.heap.size w w') : GRow w' A gs := h.keep fun _ hp => hb.cell hp

theorem gd_eq {gs : List Gd} {i : Nat} (h : i < gs.length) : gd gs i = gs[i] := by
  unfold gd; simp [List.getD, h]
theorem gd_out {gs : List Gd} {i : Nat} (h : gs.length ≤ i) : gd gs i = Gd.none2 := by
  unfold gd; simp [List.getD, List.getElem?_eq_none h]

theorem sizeGood : (Tryd.prog.info? 50).map (·.size) = some 2 := by kernel_rfl
/-- The copy of goods: two cells each. -/
theorem run_copyG (w : World) (ty : TypeId) (g b off n c : Nat) (cs : List Value) (hn : cs.length = n * 2) (hn3 : n ≤ 3)
    (hsrc : ∀ j v, cs[j]? = some v → w.cell? ⟨b, off + j, none⟩ = some v) (hc : ∀ j, j < cs.length → (w.cell? ⟨g, j, none⟩).isSome = true) (hf : ∀ j, j < cs.length → w.frozen? ⟨g, j, none⟩ = false) (h1 : ∀ v ∈ cs, v.oneCell' = true) :
    (Builtin.copy_ #[24, 24] ty #[.slice (some ⟨g, 0, none⟩) 3 3, .slice (some ⟨b, off, none⟩) n c]).run Tryd.prog w = .ok (goInt n) (w.setCells g 0 cs) := by
  have e : ∀ j, (⟨b, off, none⟩ : Addr).add j = ⟨b, off + j, none⟩ := fun j => by
    unfold Addr.add
    by_cases h : j = 0 <;> simp [h]
  have hl := run_loadCells_list (P := Tryd.prog) w ⟨b, off, none⟩ cs (fun j v hj => by rw [e]; exact hsrc j v hj)
  have hst := run_storeCells_cells (P := Tryd.prog) g 0 cs 0 w (by simpa using hc) (by simpa using hf) h1
  have hs := sizeGood
  have hmin : Nat.min n 3 = n := Nat.min_eq_left hn3
  cases hq : Tryd.prog.info? 50 with
  | none => simp [hq] at hs
  | some i =>
    have hi : i.size = 2 := by simpa [hq] using hs
    rw [hn] at hl
    simp [Builtin.copy_, run_underlying Tryd.underlying24, Builtin.lenOf, Builtin.firstCells, sizeOf, typeInfo, hq, hi, hmin, hl, hst]
theorem run_copyG0 (w : World) (ty : TypeId) (g c : Nat) (A : Option Addr) :
    (Builtin.copy_ #[24, 24] ty #[.slice (some ⟨g, 0, none⟩) 3 3, .slice A 0 c]).run Tryd.prog w = .ok (goInt 0) w := by
  have hs := sizeGood
  cases hq : Tryd.prog.info? 50 with
  | none => simp [hq] at hs
  | some i =>
    cases A <;> simp [Builtin.copy_, run_underlying Tryd.underlying24, Builtin.lenOf, Builtin.firstCells, sizeOf, typeInfo, hq, loadCells, loadCellsFrom, storeCells, goInt]

def Sh.zero : Sh := ⟨Gd.none2, Gd.none2, Gd.none2, 0⟩
theorem inBoundsG_yes (g : Gd) (w : World) (h : g.ok = true) :
    Calls Tryd.prog 97 #[gdv g] w fun e w' => e = .returned (.bool true) ∧ Below w.heap.size w w' := by
  rw [← h]; exact inBoundsG_any g w
theorem inBoundsG_no (g : Gd) (w : World) (h : g.ok = false) :
    Calls Tryd.prog 97 #[gdv g] w fun e w' => e = .returned (.bool false) ∧ Below w.heap.size w w' := by
  rw [← h]; exact inBoundsG_any g w

/-- What shelvesFrom gives. -/
def ShFrom (gs : List Gd) (w : World) (e : Ending) (w' : World) : Prop :=
  e = .returned (if okS gs = true then .tuple #[shv (shOf gs), .bool true] else .tuple #[shv Sh.zero, .bool false]) ∧ Below w.heap.size w w'
theorem okS_long {gs : List Gd} (h : 3 < gs.length) : okS gs = false := by
  simp [okS]; omega

theorem shelvesFrom_long (A : Option Addr) (n c : Nat) (w : World) (h : 3 < n) :
    Calls Tryd.prog 86 #[.slice A n c] w fun e w' => e = .returned (.tuple #[shv Sh.zero, .bool false]) ∧ Below w.heap.size w w' := by
  go_enter Tryd.func86, Tryd.ntmps86
  go_wp2
  exact bodyPost_ret (v := .tuple #[shv Sh.zero, .bool false]) (by simp [results, Tryd.results86, go_sem, Sh.zero, Gd.none2]) rfl ⟨rfl, (by repeat' (first | with_reducible exact Below.refl _ _ | with_reducible assumption | with_reducible apply Below.drew | with_reducible apply below_drewN | (with_reducible refine Below.setCell ?_ ?_ _) | (with_reducible refine Below.alloc ?_ ?_ _) | with_reducible exact Nat.le_refl _ | with_reducible exact Below.size (by assumption) | (simp; done) | (simp; done) | omega | (simp; omega)))⟩

theorem shelvesFrom_0 (A : Option Addr) (c : Nat) (w : World) :
    Calls Tryd.prog 86 #[.slice A 0 c] w fun e w' => e = .returned (.tuple #[shv Sh.zero, .bool true]) ∧ Below w.heap.size w w' := by
  have hcp := fun ty g W => run_copyG0 W ty g c A
  go_enter Tryd.func86, Tryd.ntmps86
  go_wp2
  refine wp_loop_rounds 1 ?_
  rw [rounds_succ]
  go_wp2
  exact bodyPost_ret (v := .tuple #[shv Sh.zero, .bool true]) (by simp [results, Tryd.results86, go_sem, Sh.zero, Gd.none2]) rfl ⟨rfl, (by repeat' (first | with_reducible exact Below.refl _ _ | with_reducible assumption | with_reducible apply Below.drew | with_reducible apply below_drewN | (with_reducible refine Below.setCell ?_ ?_ _) | (with_reducible refine Below.alloc ?_ ?_ _) | with_reducible exact Nat.le_refl _ | with_reducible exact Below.size (by assumption) | (simp; done) | (simp; done) | omega | (simp; omega)))⟩

theorem copied1 (b off c : Nat) (g0 : Gd) (w : World) (c0 : w.cell? ⟨b, off, none⟩ = some (.int .i64 g0.p)) (c1 : w.cell? ⟨b, off + 1, none⟩ = some (.int .i64 g0.s)) (ty : TypeId) :
    (Builtin.copy_ #[24, 24] ty #[.slice (some ⟨w.heap.size + 1, 0, none⟩) 3 3, .slice (some ⟨b, off, none⟩) 1 c]).run Tryd.prog ((w.alloc (.cells (sc Sh.zero) 79)).alloc (.cells (sc { Sh.zero with m := 1 }) 79))
      = .ok (goInt 1) ((w.alloc (.cells (sc Sh.zero) 79)).alloc (.cells (sc (shOf [g0])) 79)) := by
  have hb : b < w.heap.size := World.block_lt_of_cell? w _ c0
  have hk : ∀ o (X Y : Obj), ((w.alloc X).alloc Y).cell? ⟨b, o, none⟩ = w.cell? ⟨b, o, none⟩ := fun o X Y => by
    rw [World.cell?_alloc_lt _ _ _ (by simp; omega), World.cell?_alloc_lt _ _ _ (by simpa using hb)]
  rw [run_copyG _ ty (w.heap.size + 1) b off 1 c [.int .i64 g0.p, .int .i64 g0.s] rfl (by omega)
    (by
      intro j v hj
      match j, hj with
      | 0, hj => simp at hj; subst hj; exact (hk _ _ _).trans c0
      | 1, hj => simp at hj; subst hj; exact (hk _ _ _).trans c1)
    (by
      intro j hj
      have : j < 2 := by simpa using hj
      match j, this with
      | 0, _ => unfold sc; go_simp
      | 1, _ => unfold sc; go_simp)
    (by
      intro j hj
      have : j < 2 := by simpa using hj
      match j, this with
      | 0, _ => unfold sc; go_simp
      | 1, _ => unfold sc; go_simp)
    (by intro v hv; simp at hv; rcases hv with rfl | rfl <;> rfl)]
  simp only [World.setCells]
  unfold sc
  go_simp
  rfl

end Go.Proofs.YtfoohenmlagfjaaDoor

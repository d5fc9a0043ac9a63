/- The program's MostFor and DearestFor, at every slice of goods and every amount. -/
import Derived.Test.YtemhikgdbmmnjaaDoorBest
namespace Go.Proofs.YtemhikgdbmmnjaaDoor
open Go.RowKit

theorem amountOkG_yes (n : Int) (w : World) (h0 : 0 ≤ n) (h1 : n ≤ 99) : Calls Tryd.prog 45 #[.int .i64 n] w fun e w' => e = .returned (.bool true) ∧ w = w' := by
  go_enter Tryd.func45, Tryd.ntmps45
  go_wp2
  go_ret
  exact ⟨rfl, rfl⟩
theorem amountOkG_no (n : Int) (w : World) (h : n < 0 ∨ 99 < n) : Calls Tryd.prog 45 #[.int .i64 n] w fun e w' => e = .returned (.bool false) ∧ w = w' := by
  by_cases h1 : n < 0
  · clear h
    go_enter Tryd.func45, Tryd.ntmps45
    go_wp2
    go_ret
    exact ⟨rfl, rfl⟩
  · have h2 : 99 < n := by omega
    have h3 : 0 ≤ n := by omega
    clear h h1
    go_enter Tryd.func45, Tryd.ntmps45
    go_wp2
    go_ret
    exact ⟨ret_bool (by simp; omega), rfl⟩

/-- The list is shelves, and the amount may be asked. -/
def okSN (gs : List Gd) (n : Int) : Bool := okS gs && (decide (0 ≤ n) && decide (n ≤ 99))
theorem okSN_iff {gs : List Gd} {n : Int} : okSN gs n = true ↔ okS gs = true ∧ 0 ≤ n ∧ n ≤ 99 := by simp [okSN]
theorem okSN_no {gs : List Gd} {n : Int} (h : okSN gs n = false) : okS gs = false ∨ (okS gs = true ∧ (n < 0 ∨ 99 < n)) := by
  cases hg : okS gs
  · exact .inl rfl
  · refine .inr ⟨rfl, ?_⟩
    have h' : ¬ okSN gs n = true := by simp [h]
    have h2 : ¬ (0 ≤ n ∧ n ≤ 99) := fun hh => h' (okSN_iff.2 ⟨hg, hh⟩)
    omega

/-- A row handed back beside true: a basket in new memory. -/
def GotBasket (w : World) (S : Sh) (q : Q3) (e : Ending) (w' : World) : Prop :=
  ∃ g, e = .returned (.tuple #[.slice (some ⟨g, 0, none⟩) S.m.toNat S.m.toNat, .bool true]) ∧ Blk w' g 58 (bc q) ∧ w.heap.size ≤ g ∧ Below w.heap.size w w'

/- MORE -/
theorem implMostFor_no (A : Option Addr) (gs : List Gd) (c : Nat) (n : Int) (w : World) (hr : GRow w A gs) (h : okSN gs n = false) :
    Calls Tryd.prog 23 #[.slice A gs.length c, .int .i64 n] w fun e w' => e = .returned (.tuple #[.slice none 0 0, .bool false]) ∧ Below w.heap.size w w' := by
  rcases okSN_no h with h | ⟨h, hn⟩
  · have K := Lib.hid (fun W (hW : GRow W A gs) => shelvesFrom_no A gs c W hW h)
    clear h
    dsimp only [shv, Sh.zero, Gd.none2] at K
    go_enter Tryd.func23, Tryd.ntmps23
    go_wp2_with fail
    refine (K.out _ (hr.below (by repeat' (first | with_reducible exact Below.refl _ _ | with_reducible assumption | with_reducible apply Below.drew | with_reducible apply below_drewN | (with_reducible refine Below.setCell ?_ ?_ _) | (with_reducible refine Below.alloc ?_ ?_ _) | with_reducible exact Nat.le_refl _ | with_reducible exact Below.size (by assumption) | (simp; done) | (simp; done) | omega | (simp; omega))))).mono ?_
    rintro e w1 ⟨rfl, hb1⟩
    have z1 := hb1.size
    go_wp2
    go_ret2
    exact ⟨rfl, (by repeat' (first | with_reducible exact Below.refl _ _ | with_reducible assumption | with_reducible apply Below.drew | with_reducible apply below_drewN | (with_reducible refine Below.setCell ?_ ?_ _) | (with_reducible refine Below.alloc ?_ ?_ _) | with_reducible exact Nat.le_refl _ | with_reducible exact Below.size (by assumption) | (simp; done) | (simp; done) | omega | (simp; omega)))⟩
  · have K := Lib.hid (fun W (hW : GRow W A gs) => shelvesFrom_yes A gs c W hW h)
    have KA := Lib.hid (fun W => amountOkG_no n W hn)
    clear h hn
    generalize shOf gs = S at *
    obtain ⟨⟨p0, s0⟩, ⟨p1, s1⟩, ⟨p2, s2⟩, m⟩ := S
    dsimp only [shv] at K
    go_enter Tryd.func23, Tryd.ntmps23
    go_wp2_with fail
    refine (K.out _ (hr.below (by repeat' (first | with_reducible exact Below.refl _ _ | with_reducible assumption | with_reducible apply Below.drew | with_reducible apply below_drewN | (with_reducible refine Below.setCell ?_ ?_ _) | (with_reducible refine Below.alloc ?_ ?_ _) | with_reducible exact Nat.le_refl _ | with_reducible exact Below.size (by assumption) | (simp; done) | (simp; done) | omega | (simp; omega))))).mono ?_
    rintro e w1 ⟨rfl, hb1⟩
    have z1 := hb1.size
    go_wp2_with fail
    refine (KA.out _).mono ?_
    rintro e w2 ⟨rfl, rfl⟩
    go_wp2
    go_ret2
    exact ⟨rfl, (by repeat' (first | with_reducible exact Below.refl _ _ | with_reducible assumption | with_reducible apply Below.drew | with_reducible apply below_drewN | (with_reducible refine Below.setCell ?_ ?_ _) | (with_reducible refine Below.alloc ?_ ?_ _) | with_reducible exact Nat.le_refl _ | with_reducible exact Below.size (by assumption) | (simp; done) | (simp; done) | omega | (simp; omega)))⟩

set_option maxHeartbeats 1600000 in
theorem implMostFor_yes (A : Option Addr) (gs : List Gd) (c : Nat) (n : Int) (w : World) (hr : GRow w A gs) (h : okSN gs n = true) (S : Sh) (hS : S = shOf gs) :
    Calls Tryd.prog 23 #[.slice A gs.length c, .int .i64 n] w (GotBasket w S (best Q3.cnt (bsk S n))) := by
  obtain ⟨hg, h0, h1⟩ := okSN_iff.1 h
  have hin := shOf_in hg
  rw [← hS] at hin
  have K := Lib.hid (fun W (hW : GRow W A gs) => shelvesFrom_yes A gs c W hW hg)
  rw [← hS] at K
  have KA := Lib.hid (fun W => amountOkG_yes n W h0 h1)
  have KB := Lib.hid (fun W => best_most S n hin W)
  generalize best Q3.cnt (bsk S n) = v at *
  have KR := Lib.hid (fun W => row_any S v W hin)
  clear h hg h0 h1 hin hS
  go_enter Tryd.func23, Tryd.ntmps23
  go_wp2_with fail
  refine (K.out _ (hr.below (by repeat' (first | with_reducible exact Below.refl _ _ | with_reducible assumption | with_reducible apply Below.drew | with_reducible apply below_drewN | (with_reducible refine Below.setCell ?_ ?_ _) | (with_reducible refine Below.alloc ?_ ?_ _) | with_reducible exact Nat.le_refl _ | with_reducible exact Below.size (by assumption) | (simp; done) | (simp; done) | omega | (simp; omega))))).mono ?_
  rintro e w1 ⟨rfl, hb1⟩
  have z1 := hb1.size
  go_wp2_with fail
  refine (KA.out _).mono ?_
  rintro e w2 ⟨rfl, rfl⟩
  go_wp2_with fail
  go_region_held3 (fun w' => w'.cell? ⟨w1.heap.size, 0, none⟩ = some (.int .i64 S.a.p) ∧ w'.cell? ⟨w1.heap.size, 1, none⟩ = some (.int .i64 S.a.s) ∧ w'.cell? ⟨w1.heap.size, 2, none⟩ = some (.int .i64 S.b.p) ∧ w'.cell? ⟨w1.heap.size, 3, none⟩ = some (.int .i64 S.b.s) ∧ w'.cell? ⟨w1.heap.size, 4, none⟩ = some (.int .i64 S.c.p) ∧ w'.cell? ⟨w1.heap.size, 5, none⟩ = some (.int .i64 S.c.s) ∧ w'.cell? ⟨w1.heap.size, 6, none⟩ = some (.int .i64 S.m)) (go_keep)
    (first
      | (go_at_call 48; refine (KB.out _).mono ?_; rintro e w3 ⟨rfl, hb3⟩; have n3 : w1.heap.size < w3.heap.size := (by have := hb3.size; simp at this; omega); have B3 : Below w.heap.size w w3 := Below.trans hb1 (Below.trans (by repeat' (first | with_reducible exact Below.refl _ _ | with_reducible assumption | with_reducible apply Below.drew | with_reducible apply below_drewN | (with_reducible refine Below.setCell ?_ ?_ _) | (with_reducible refine Below.alloc ?_ ?_ _) | with_reducible exact Nat.le_refl _ | with_reducible exact Below.size (by assumption) | (simp; done) | (simp; done) | omega | (simp; omega))) (hb3.mono (by simp; omega))); obtain ⟨hc3, hf3⟩ := olds hb3)
      | (go_at_call 47; refine (KR.out _).mono ?_; rintro e w4 ⟨g, rfl, k4, l4, hb4⟩; obtain ⟨hc4, hf4⟩ := olds hb4))
  have B4 : Below w.heap.size w w4 := Below.trans B3 (hb4.mono B3.size)
  have z3 := B3.size
  have K4 := Lib.hid k4
  clear k4 hb4 hb3 hb1 hc3 hc4
  go_wp2
  go_ret2
  exact ⟨g, rfl, K4.out, by omega, B4⟩

theorem implDearestFor_no (A : Option Addr) (gs : List Gd) (c : Nat) (n : Int) (w : World) (hr : GRow w A gs) (h : okSN gs n = false) :
    Calls Tryd.prog 27 #[.slice A gs.length c, .int .i64 n] w fun e w' => e = .returned (.tuple #[.slice none 0 0, .bool false]) ∧ Below w.heap.size w w' := by
  rcases okSN_no h with h | ⟨h, hn⟩
  · have K := Lib.hid (fun W (hW : GRow W A gs) => shelvesFrom_no A gs c W hW h)
    clear h
    dsimp only [shv, Sh.zero, Gd.none2] at K
    go_enter Tryd.func27, Tryd.ntmps27
    go_wp2_with fail
    refine (K.out _ (hr.below (by repeat' (first | with_reducible exact Below.refl _ _ | with_reducible assumption | with_reducible apply Below.drew | with_reducible apply below_drewN | (with_reducible refine Below.setCell ?_ ?_ _) | (with_reducible refine Below.alloc ?_ ?_ _) | with_reducible exact Nat.le_refl _ | with_reducible exact Below.size (by assumption) | (simp; done) | (simp; done) | omega | (simp; omega))))).mono ?_
    rintro e w1 ⟨rfl, hb1⟩
    have z1 := hb1.size
    go_wp2
    go_ret2
    exact ⟨rfl, (by repeat' (first | with_reducible exact Below.refl _ _ | with_reducible assumption | with_reducible apply Below.drew | with_reducible apply below_drewN | (with_reducible refine Below.setCell ?_ ?_ _) | (with_reducible refine Below.alloc ?_ ?_ _) | with_reducible exact Nat.le_refl _ | with_reducible exact Below.size (by assumption) | (simp; done) | (simp; done) | omega | (simp; omega)))⟩
  · have K := Lib.hid (fun W (hW : GRow W A gs) => shelvesFrom_yes A gs c W hW h)
    have KA := Lib.hid (fun W => amountOkG_no n W hn)
    clear h hn
    generalize shOf gs = S at *
    obtain ⟨⟨p0, s0⟩, ⟨p1, s1⟩, ⟨p2, s2⟩, m⟩ := S
    dsimp only [shv] at K
    go_enter Tryd.func27, Tryd.ntmps27
    go_wp2_with fail
    refine (K.out _ (hr.below (by repeat' (first | with_reducible exact Below.refl _ _ | with_reducible assumption | with_reducible apply Below.drew | with_reducible apply below_drewN | (with_reducible refine Below.setCell ?_ ?_ _) | (with_reducible refine Below.alloc ?_ ?_ _) | with_reducible exact Nat.le_refl _ | with_reducible exact Below.size (by assumption) | (simp; done) | (simp; done) | omega | (simp; omega))))).mono ?_
    rintro e w1 ⟨rfl, hb1⟩
    have z1 := hb1.size
    go_wp2_with fail
    refine (KA.out _).mono ?_
    rintro e w2 ⟨rfl, rfl⟩
    go_wp2
    go_ret2
    exact ⟨rfl, (by repeat' (first | with_reducible exact Below.refl _ _ | with_reducible assumption | with_reducible apply Below.drew | with_reducible apply below_drewN | (with_reducible refine Below.setCell ?_ ?_ _) | (with_reducible refine Below.alloc ?_ ?_ _) | with_reducible exact Nat.le_refl _ | with_reducible exact Below.size (by assumption) | (simp; done) | (simp; done) | omega | (simp; omega)))⟩

set_option maxHeartbeats 1600000 in
theorem implDearestFor_yes (A : Option Addr) (gs : List Gd) (c : Nat) (n : Int) (w : World) (hr : GRow w A gs) (h : okSN gs n = true) (S : Sh) (hS : S = shOf gs) :
    Calls Tryd.prog 27 #[.slice A gs.length c, .int .i64 n] w (GotBasket w S (best (cost S) (bsk S n))) := by
  obtain ⟨hg, h0, h1⟩ := okSN_iff.1 h
  have hin := shOf_in hg
  rw [← hS] at hin
  have K := Lib.hid (fun W (hW : GRow W A gs) => shelvesFrom_yes A gs c W hW hg)
  rw [← hS] at K
  have KA := Lib.hid (fun W => amountOkG_yes n W h0 h1)
  have KB := Lib.hid (fun W => best_dear S n hin W)
  generalize best (cost S) (bsk S n) = v at *
  have KR := Lib.hid (fun W => row_any S v W hin)
  clear h hg h0 h1 hin hS
  have hmf : ∀ (fn : Fn) (first cap : Array Value) (w : World), (Instr.makeFunc fn first cap).run Tryd.prog w = .ok (.func fn first cap) w := fun _ _ _ _ => rfl
  go_enter Tryd.func27, Tryd.ntmps27
  go_wp2_with fail
  refine (K.out _ (hr.below (by repeat' (first | with_reducible exact Below.refl _ _ | with_reducible assumption | with_reducible apply Below.drew | with_reducible apply below_drewN | (with_reducible refine Below.setCell ?_ ?_ _) | (with_reducible refine Below.alloc ?_ ?_ _) | with_reducible exact Nat.le_refl _ | with_reducible exact Below.size (by assumption) | (simp; done) | (simp; done) | omega | (simp; omega))))).mono ?_
  rintro e w1 ⟨rfl, hb1⟩
  have z1 := hb1.size
  go_wp2_with fail
  refine (KA.out _).mono ?_
  rintro e w2 ⟨rfl, rfl⟩
  go_wp2_with fail
  go_region_held3 (fun w' => w'.cell? ⟨w1.heap.size, 0, none⟩ = some (.int .i64 S.a.p) ∧ w'.cell? ⟨w1.heap.size, 1, none⟩ = some (.int .i64 S.a.s) ∧ w'.cell? ⟨w1.heap.size, 2, none⟩ = some (.int .i64 S.b.p) ∧ w'.cell? ⟨w1.heap.size, 3, none⟩ = some (.int .i64 S.b.s) ∧ w'.cell? ⟨w1.heap.size, 4, none⟩ = some (.int .i64 S.c.p) ∧ w'.cell? ⟨w1.heap.size, 5, none⟩ = some (.int .i64 S.c.s) ∧ w'.cell? ⟨w1.heap.size, 6, none⟩ = some (.int .i64 S.m)) (go_keep)
    (first
      | (go_at_call 48; refine (KB.out _).mono ?_; rintro e w3 ⟨rfl, hb3⟩; have n3 : w1.heap.size < w3.heap.size := (by have := hb3.size; simp at this; omega); have B3 : Below w.heap.size w w3 := Below.trans hb1 (Below.trans (by repeat' (first | with_reducible exact Below.refl _ _ | with_reducible assumption | with_reducible apply Below.drew | with_reducible apply below_drewN | (with_reducible refine Below.setCell ?_ ?_ _) | (with_reducible refine Below.alloc ?_ ?_ _) | with_reducible exact Nat.le_refl _ | with_reducible exact Below.size (by assumption) | (simp; done) | (simp; done) | omega | (simp; omega))) (hb3.mono (by simp; omega))); obtain ⟨hc3, hf3⟩ := olds hb3)
      | (go_at_call 47; refine (KR.out _).mono ?_; rintro e w4 ⟨g, rfl, k4, l4, hb4⟩; obtain ⟨hc4, hf4⟩ := olds hb4))
  have B4 : Below w.heap.size w w4 := Below.trans B3 (hb4.mono B3.size)
  have z3 := B3.size
  have K4 := Lib.hid k4
  clear k4 hb4 hb3 hb1 hc3 hc4
  go_wp2
  go_ret2
  exact ⟨g, rfl, K4.out, by omega, B4⟩

end Go.Proofs.YtemhikgdbmmnjaaDoor

/- The program's purchaseFrom, ShelvesOk, CostOf, StockWorth, AfterBasket, at every slice of goods and of ints. -/
import Derived.Test.YtemhikgdbmmnjaaDoorShv3
namespace Go.Proofs.YtemhikgdbmmnjaaDoor
open Go.RowKit

set_option maxRecDepth 100000 in
theorem purchaseFrom_shelves (A B : Option Addr) (gs : List Gd) (xs : List Int) (c d : Nat) (w : World) (hr : GRow w A gs) (h : okS gs = false) :
    Calls Tryd.prog 42 #[.slice A gs.length c, .slice B xs.length d] w fun e w' => e = .returned (.tuple #[shv Sh.zero, bv Q3.zero, .bool false]) ∧ Below w.heap.size w w' := by
  have K := Lib.hid (fun W (hW : GRow W A gs) => shelvesFrom_no A gs c W hW h)
  have HR := Lib.hid hr
  clear h hr
  go_enter Tryd.func42, Tryd.ntmps42
  go_wp2_with fail
  refine (K.out _ (HR.out.below (by repeat' (first | with_reducible exact Below.refl _ _ | with_reducible assumption | with_reducible apply Below.drew | with_reducible apply below_drewN | (with_reducible refine Below.setCell ?_ ?_ _) | (with_reducible refine Below.alloc ?_ ?_ _) | with_reducible exact Nat.le_refl _ | with_reducible exact Below.size (by assumption) | (simp; done) | (simp; done) | omega | (simp; omega))))).mono ?_
  rintro e w1 ⟨rfl, hb1⟩
  have R1 := ((Blk.new w 52 #[.int .i64 0, .int .i64 0, .int .i64 0, .int .i64 0, .int .i64 0, .int .i64 0, .int .i64 0]).alloc (.cells #[.int .i64 0, .int .i64 0, .int .i64 0] 58)).kept hb1
  have S1 : Blk w1 (w.heap.size + 1) 58 #[.int .i64 0, .int .i64 0, .int .i64 0] := (Blk.new' (by simp)).kept hb1
  have B1 : Below w.heap.size w w1 := Below.trans (by repeat' (first | with_reducible exact Below.refl _ _ | with_reducible assumption | with_reducible apply Below.drew | with_reducible apply below_drewN | (with_reducible refine Below.setCell ?_ ?_ _) | (with_reducible refine Below.alloc ?_ ?_ _) | with_reducible exact Nat.le_refl _ | with_reducible exact Below.size (by assumption) | (simp; done) | (simp; done) | omega | (simp; omega))) (hb1.mono (by simp; omega))
  have z1 := hb1.size
  simp at z1
  have n1 : w.heap.size < w1.heap.size := by omega
  have n2 : w.heap.size + 1 < w1.heap.size := by omega
  have n3 : w.heap.size ≠ w1.heap.size := by omega
  have n4 : w.heap.size + 1 ≠ w1.heap.size := by omega
  have cR := fun i => R1.cell i
  have fR := fun i => R1.frozen i
  have cS := fun i => S1.cell i
  have fS := fun i => S1.frozen i
  clear hb1 R1 S1
  go_wp2
  exact bodyPost_ret (v := .tuple #[shv Sh.zero, bv Q3.zero, .bool false]) (by simp [results, Tryd.results42, go_sem, cR, cS, n1, n2, Sh.zero, Gd.none2, Q3.zero]) rfl ⟨rfl, (by repeat' (first | with_reducible exact Below.refl _ _ | with_reducible assumption | with_reducible apply Below.drew | with_reducible apply below_drewN | (with_reducible refine Below.setCell ?_ ?_ _) | (with_reducible refine Below.alloc ?_ ?_ _) | with_reducible exact Nat.le_refl _ | with_reducible exact Below.size (by assumption) | (simp; done) | (simp; done) | omega | (simp; omega)))⟩

set_option maxRecDepth 100000 in
theorem purchaseFrom_any (A B : Option Addr) (gs : List Gd) (xs : List Int) (c d : Nat) (w : World) (hr : GRow w A gs) (hq : Row .i64 w B xs) (h : okS gs = true) (r : Bool) (q : Q3)
    (hK : ∀ W, Row .i64 W B xs → Calls Tryd.prog 59 #[shv (shOf gs), .slice B xs.length d] W fun e w' => e = .returned (.tuple #[bv q, .bool r]) ∧ Below W.heap.size W w') :
    Calls Tryd.prog 42 #[.slice A gs.length c, .slice B xs.length d] w fun e w' => e = .returned (.tuple #[shv (shOf gs), bv q, .bool r]) ∧ Below w.heap.size w w' := by
  have K := Lib.hid (fun W (hW : GRow W A gs) => shelvesFrom_yes A gs c W hW h)
  have K2 := Lib.hid hK
  have HR := Lib.hid hr
  have HQ := Lib.hid hq
  clear h hr hK hq
  generalize shOf gs = S at *
  obtain ⟨⟨p0, s0⟩, ⟨p1, s1⟩, ⟨p2, s2⟩, m⟩ := S
  obtain ⟨x, y, z⟩ := q
  dsimp only [shv, bv] at *
  go_enter Tryd.func42, Tryd.ntmps42
  go_wp2_with fail
  refine (K.out _ (HR.out.below (by repeat' (first | with_reducible exact Below.refl _ _ | with_reducible assumption | with_reducible apply Below.drew | with_reducible apply below_drewN | (with_reducible refine Below.setCell ?_ ?_ _) | (with_reducible refine Below.alloc ?_ ?_ _) | with_reducible exact Nat.le_refl _ | with_reducible exact Below.size (by assumption) | (simp; done) | (simp; done) | omega | (simp; omega))))).mono ?_
  rintro e w1 ⟨rfl, hb1⟩
  have R1 := ((Blk.new w 52 #[.int .i64 0, .int .i64 0, .int .i64 0, .int .i64 0, .int .i64 0, .int .i64 0, .int .i64 0]).alloc (.cells #[.int .i64 0, .int .i64 0, .int .i64 0] 58)).kept hb1
  have S1 : Blk w1 (w.heap.size + 1) 58 #[.int .i64 0, .int .i64 0, .int .i64 0] := (Blk.new' (by simp)).kept hb1
  have B1 : Below w.heap.size w w1 := Below.trans (by repeat' (first | with_reducible exact Below.refl _ _ | with_reducible assumption | with_reducible apply Below.drew | with_reducible apply below_drewN | (with_reducible refine Below.setCell ?_ ?_ _) | (with_reducible refine Below.alloc ?_ ?_ _) | with_reducible exact Nat.le_refl _ | with_reducible exact Below.size (by assumption) | (simp; done) | (simp; done) | omega | (simp; omega))) (hb1.mono (by simp; omega))
  have z1 := hb1.size
  simp at z1
  clear hb1
  go_wp2_with fail
  refine (K2.out _ (HQ.out.below (B1.trans (by repeat' (first | with_reducible exact Below.refl _ _ | with_reducible assumption | with_reducible apply Below.drew | with_reducible apply below_drewN | (with_reducible refine Below.setCell ?_ ?_ _) | (with_reducible refine Below.alloc ?_ ?_ _) | with_reducible exact Nat.le_refl _ | with_reducible exact Below.size (by assumption) | (simp; done) | (simp; done) | omega | (simp; omega)))))).mono ?_
  rintro e w2 ⟨rfl, hb2⟩
  have R2 := (R1.alloc _).kept hb2
  have S2 := (S1.alloc _).kept hb2
  have T2 := (Blk.new w1 52 #[.int .i64 p0, .int .i64 s0, .int .i64 p1, .int .i64 s1, .int .i64 p2, .int .i64 s2, .int .i64 m]).kept hb2
  have B2 : Below w.heap.size w w2 := Below.trans B1 (Below.trans (by repeat' (first | with_reducible exact Below.refl _ _ | with_reducible assumption | with_reducible apply Below.drew | with_reducible apply below_drewN | (with_reducible refine Below.setCell ?_ ?_ _) | (with_reducible refine Below.alloc ?_ ?_ _) | with_reducible exact Nat.le_refl _ | with_reducible exact Below.size (by assumption) | (simp; done) | (simp; done) | omega | (simp; omega))) (hb2.mono (by simp; omega)))
  have z2 := hb2.size
  simp at z2
  clear hb2 R1 S1
  have cR := fun i => R2.cell i
  have fR := fun i => R2.frozen i
  have cS := fun i => S2.cell i
  have fS := fun i => S2.frozen i
  have cT := fun i => T2.cell i
  have n1 : w.heap.size < w2.heap.size := by omega
  have n2 : w.heap.size + 1 < w2.heap.size := by omega
  have n3 : w1.heap.size < w2.heap.size := by omega
  have n4 : w.heap.size ≠ w1.heap.size := by omega
  have n5 : w.heap.size + 1 ≠ w1.heap.size := by omega
  have n6 : w.heap.size ≠ w2.heap.size := by omega
  have n7 : w.heap.size + 1 ≠ w2.heap.size := by omega
  have n8 : w1.heap.size ≠ w2.heap.size := by omega
  clear R2 S2 T2
  go_wp2
  go_region
  go_wp2
  exact bodyPost_ret (v := .tuple #[.agg #[.int .i64 p0, .int .i64 s0, .int .i64 p1, .int .i64 s1, .int .i64 p2, .int .i64 s2, .int .i64 m], .agg #[.int .i64 x, .int .i64 y, .int .i64 z], .bool r]) (by simp [results, Tryd.results42, go_sem, cR, cS, n1, n2]) rfl ⟨rfl, (by repeat' (first | with_reducible exact Below.refl _ _ | with_reducible assumption | with_reducible apply Below.drew | with_reducible apply below_drewN | (with_reducible refine Below.setCell ?_ ?_ _) | (with_reducible refine Below.alloc ?_ ?_ _) | with_reducible exact Nat.le_refl _ | with_reducible exact Below.size (by assumption) | (simp; done) | (simp; done) | omega | (simp; omega)))⟩

theorem implShelvesOk_any (A : Option Addr) (gs : List Gd) (c : Nat) (w : World) (hr : GRow w A gs) :
    Calls Tryd.prog 11 #[.slice A gs.length c] w fun e w' => e = .returned (.bool (okS gs)) ∧ Below w.heap.size w w' := by
  cases h : okS gs
  · have K := Lib.hid (fun W (hW : GRow W A gs) => shelvesFrom_no A gs c W hW h)
    clear h
    go_enter Tryd.func11, Tryd.ntmps11
    go_wp2_with fail
    refine (K.out _ (hr.below (by repeat' (first | with_reducible exact Below.refl _ _ | with_reducible assumption | with_reducible apply Below.drew | with_reducible apply below_drewN | (with_reducible refine Below.setCell ?_ ?_ _) | (with_reducible refine Below.alloc ?_ ?_ _) | with_reducible exact Nat.le_refl _ | with_reducible exact Below.size (by assumption) | (simp; done) | (simp; done) | omega | (simp; omega))))).mono ?_
    rintro e w1 ⟨rfl, hb1⟩
    go_wp2
    go_ret
    exact ⟨rfl, (by repeat' (first | with_reducible exact Below.refl _ _ | with_reducible assumption | with_reducible apply Below.drew | with_reducible apply below_drewN | (with_reducible refine Below.setCell ?_ ?_ _) | (with_reducible refine Below.alloc ?_ ?_ _) | with_reducible exact Nat.le_refl _ | with_reducible exact Below.size (by assumption) | (simp; done) | (simp; done) | omega | (simp; omega)))⟩
  · have K := Lib.hid (fun W (hW : GRow W A gs) => shelvesFrom_yes A gs c W hW h)
    clear h
    go_enter Tryd.func11, Tryd.ntmps11
    go_wp2_with fail
    refine (K.out _ (hr.below (by repeat' (first | with_reducible exact Below.refl _ _ | with_reducible assumption | with_reducible apply Below.drew | with_reducible apply below_drewN | (with_reducible refine Below.setCell ?_ ?_ _) | (with_reducible refine Below.alloc ?_ ?_ _) | with_reducible exact Nat.le_refl _ | with_reducible exact Below.size (by assumption) | (simp; done) | (simp; done) | omega | (simp; omega))))).mono ?_
    rintro e w1 ⟨rfl, hb1⟩
    go_wp2
    go_ret
    exact ⟨rfl, (by repeat' (first | with_reducible exact Below.refl _ _ | with_reducible assumption | with_reducible apply Below.drew | with_reducible apply below_drewN | (with_reducible refine Below.setCell ?_ ?_ _) | (with_reducible refine Below.alloc ?_ ?_ _) | with_reducible exact Nat.le_refl _ | with_reducible exact Below.size (by assumption) | (simp; done) | (simp; done) | omega | (simp; omega)))⟩

/-- What a basket of a list costs; -1 where one of the two is none. -/
def costV (gs : List Gd) (xs : List Int) : Int := if (okS gs && bOk (shOf gs) xs) = true then cost (shOf gs) (q3 xs) else -1
/-- What all pieces of a list cost. -/
def worthV (gs : List Gd) : Int := if okS gs = true then cost (shOf gs) ⟨(shOf gs).a.s, (shOf gs).b.s, (shOf gs).c.s⟩ else -1
theorem Sh.In.all {S : Sh} (h : S.In) : S.Has ⟨S.a.s, S.b.s, S.c.s⟩ := ⟨h.a2, Int.le_refl _, h.b2, Int.le_refl _, h.c2, Int.le_refl _⟩
def Sh.minus (S : Sh) (q : Q3) : Sh := ⟨⟨S.a.p, S.a.s - q.x⟩, ⟨S.b.p, S.b.s - q.y⟩, ⟨S.c.p, S.c.s - q.z⟩, S.m⟩

theorem implCostOf_any (A B : Option Addr) (gs : List Gd) (xs : List Int) (c d : Nat) (w : World) (hr : GRow w A gs) (hq : Row .i64 w B xs) :
    Calls Tryd.prog 15 #[.slice A gs.length c, .slice B xs.length d] w fun e w' => e = .returned (.int .i64 (costV gs xs)) ∧ Below w.heap.size w w' := by
  unfold costV
  cases h : okS gs
  · have K := Lib.hid (fun W (hW : GRow W A gs) => purchaseFrom_shelves A B gs xs c d W hW h)
    rw [if_neg (by simp)]
    clear h
    go_enter Tryd.func15, Tryd.ntmps15
    go_wp2_with fail
    refine (K.out _ (hr.below (by repeat' (first | with_reducible exact Below.refl _ _ | with_reducible assumption | with_reducible apply Below.drew | with_reducible apply below_drewN | (with_reducible refine Below.setCell ?_ ?_ _) | (with_reducible refine Below.alloc ?_ ?_ _) | with_reducible exact Nat.le_refl _ | with_reducible exact Below.size (by assumption) | (simp; done) | (simp; done) | omega | (simp; omega))))).mono ?_
    rintro e w1 ⟨rfl, hb1⟩
    have z1 := hb1.size
    go_wp2
    go_ret
    exact ⟨rfl, (by repeat' (first | with_reducible exact Below.refl _ _ | with_reducible assumption | with_reducible apply Below.drew | with_reducible apply below_drewN | (with_reducible refine Below.setCell ?_ ?_ _) | (with_reducible refine Below.alloc ?_ ?_ _) | with_reducible exact Nat.le_refl _ | with_reducible exact Below.size (by assumption) | (simp; done) | (simp; done) | omega | (simp; omega)))⟩
  · have hS := shOf_in h
    cases h2 : bOk (shOf gs) xs
    · have K := Lib.hid (fun W (hW : GRow W A gs) (hX : Row .i64 W B xs) => purchaseFrom_any A B gs xs c d W hW hX h false Q3.zero (fun W' hW' => basketFrom_no _ B xs d W' hS hW' h2))
      rw [if_neg (by simp)]
      clear h h2 hS
      generalize shOf gs = S at *
      obtain ⟨⟨p0, s0⟩, ⟨p1, s1⟩, ⟨p2, s2⟩, m⟩ := S
      dsimp only [shv, bv, Q3.zero] at K
      go_enter Tryd.func15, Tryd.ntmps15
      go_wp2_with fail
      refine (K.out _ (hr.below (by repeat' (first | with_reducible exact Below.refl _ _ | with_reducible assumption | with_reducible apply Below.drew | with_reducible apply below_drewN | (with_reducible refine Below.setCell ?_ ?_ _) | (with_reducible refine Below.alloc ?_ ?_ _) | with_reducible exact Nat.le_refl _ | with_reducible exact Below.size (by assumption) | (simp; done) | (simp; done) | omega | (simp; omega)))) (hq.below (by repeat' (first | with_reducible exact Below.refl _ _ | with_reducible assumption | with_reducible apply Below.drew | with_reducible apply below_drewN | (with_reducible refine Below.setCell ?_ ?_ _) | (with_reducible refine Below.alloc ?_ ?_ _) | with_reducible exact Nat.le_refl _ | with_reducible exact Below.size (by assumption) | (simp; done) | (simp; done) | omega | (simp; omega))))).mono ?_
      rintro e w1 ⟨rfl, hb1⟩
      have z1 := hb1.size
      go_wp2
      go_ret
      exact ⟨rfl, (by repeat' (first | with_reducible exact Below.refl _ _ | with_reducible assumption | with_reducible apply Below.drew | with_reducible apply below_drewN | (with_reducible refine Below.setCell ?_ ?_ _) | (with_reducible refine Below.alloc ?_ ?_ _) | with_reducible exact Nat.le_refl _ | with_reducible exact Below.size (by assumption) | (simp; done) | (simp; done) | omega | (simp; omega)))⟩
    · have K := Lib.hid (fun W (hW : GRow W A gs) (hX : Row .i64 W B xs) => purchaseFrom_any A B gs xs c d W hW hX h true (q3 xs) (fun W' hW' => basketFrom_yes _ B xs d W' hS hW' h2))
      have hH := (bOk_iff.1 h2).2
      have KC := Lib.hid (fun W => cost_any (shOf gs) (q3 xs) W hS hH)
      rw [if_pos (by simp)]
      clear h h2 hS hH
      generalize cost (shOf gs) (q3 xs) = v at *
      generalize shOf gs = S at *
      generalize q3 xs = q at *
      obtain ⟨⟨p0, s0⟩, ⟨p1, s1⟩, ⟨p2, s2⟩, m⟩ := S
      obtain ⟨x, y, z⟩ := q
      dsimp only [shv, bv] at K KC
      go_enter Tryd.func15, Tryd.ntmps15
      go_wp2_with fail
      refine (K.out _ (hr.below (by repeat' (first | with_reducible exact Below.refl _ _ | with_reducible assumption | with_reducible apply Below.drew | with_reducible apply below_drewN | (with_reducible refine Below.setCell ?_ ?_ _) | (with_reducible refine Below.alloc ?_ ?_ _) | with_reducible exact Nat.le_refl _ | with_reducible exact Below.size (by assumption) | (simp; done) | (simp; done) | omega | (simp; omega)))) (hq.below (by repeat' (first | with_reducible exact Below.refl _ _ | with_reducible assumption | with_reducible apply Below.drew | with_reducible apply below_drewN | (with_reducible refine Below.setCell ?_ ?_ _) | (with_reducible refine Below.alloc ?_ ?_ _) | with_reducible exact Nat.le_refl _ | with_reducible exact Below.size (by assumption) | (simp; done) | (simp; done) | omega | (simp; omega))))).mono ?_
      rintro e w1 ⟨rfl, hb1⟩
      have z1 := hb1.size
      go_wp2_with fail
      refine (KC.out _).mono ?_
      rintro e w2 ⟨rfl, hb2⟩
      have B2 : Below w.heap.size w w2 := Below.trans hb1 (Below.trans (by repeat' (first | with_reducible exact Below.refl _ _ | with_reducible assumption | with_reducible apply Below.drew | with_reducible apply below_drewN | (with_reducible refine Below.setCell ?_ ?_ _) | (with_reducible refine Below.alloc ?_ ?_ _) | with_reducible exact Nat.le_refl _ | with_reducible exact Below.size (by assumption) | (simp; done) | (simp; done) | omega | (simp; omega))) (hb2.mono (by simp; omega)))
      go_wp2
      go_ret
      exact ⟨rfl, B2⟩

theorem implStockWorth_any (A : Option Addr) (gs : List Gd) (c : Nat) (w : World) (hr : GRow w A gs) :
    Calls Tryd.prog 29 #[.slice A gs.length c] w fun e w' => e = .returned (.int .i64 (worthV gs)) ∧ Below w.heap.size w w' := by
  unfold worthV
  cases h : okS gs
  · have K := Lib.hid (fun W (hW : GRow W A gs) => shelvesFrom_no A gs c W hW h)
    rw [if_neg (by simp)]
    clear h
    dsimp only [shv, Sh.zero, Gd.none2] at K
    go_enter Tryd.func29, Tryd.ntmps29
    go_wp2_with fail
    refine (K.out _ (hr.below (by repeat' (first | with_reducible exact Below.refl _ _ | with_reducible assumption | with_reducible apply Below.drew | with_reducible apply below_drewN | (with_reducible refine Below.setCell ?_ ?_ _) | (with_reducible refine Below.alloc ?_ ?_ _) | with_reducible exact Nat.le_refl _ | with_reducible exact Below.size (by assumption) | (simp; done) | (simp; done) | omega | (simp; omega))))).mono ?_
    rintro e w1 ⟨rfl, hb1⟩
    go_wp2
    go_ret
    exact ⟨rfl, (by repeat' (first | with_reducible exact Below.refl _ _ | with_reducible assumption | with_reducible apply Below.drew | with_reducible apply below_drewN | (with_reducible refine Below.setCell ?_ ?_ _) | (with_reducible refine Below.alloc ?_ ?_ _) | with_reducible exact Nat.le_refl _ | with_reducible exact Below.size (by assumption) | (simp; done) | (simp; done) | omega | (simp; omega)))⟩
  · have hS := shOf_in h
    have K := Lib.hid (fun W (hW : GRow W A gs) => shelvesFrom_yes A gs c W hW h)
    have KA := Lib.hid (fun W => all_any (shOf gs) W)
    have KC := Lib.hid (fun W => cost_any (shOf gs) _ W hS hS.all)
    rw [if_pos rfl]
    clear h hS
    generalize cost (shOf gs) _ = v at *
    generalize shOf gs = S at *
    obtain ⟨⟨p0, s0⟩, ⟨p1, s1⟩, ⟨p2, s2⟩, m⟩ := S
    dsimp only [shv, bv] at K KA KC
    go_enter Tryd.func29, Tryd.ntmps29
    go_wp2_with fail
    refine (K.out _ (hr.below (by repeat' (first | with_reducible exact Below.refl _ _ | with_reducible assumption | with_reducible apply Below.drew | with_reducible apply below_drewN | (with_reducible refine Below.setCell ?_ ?_ _) | (with_reducible refine Below.alloc ?_ ?_ _) | with_reducible exact Nat.le_refl _ | with_reducible exact Below.size (by assumption) | (simp; done) | (simp; done) | omega | (simp; omega))))).mono ?_
    rintro e w1 ⟨rfl, hb1⟩
    have z1 := hb1.size
    go_wp2_with fail
    go_region_held3 (fun w' => w'.cell? ⟨w1.heap.size, 0, none⟩ = some (.int .i64 p0) ∧ w'.cell? ⟨w1.heap.size, 1, none⟩ = some (.int .i64 s0) ∧ w'.cell? ⟨w1.heap.size, 2, none⟩ = some (.int .i64 p1) ∧ w'.cell? ⟨w1.heap.size, 3, none⟩ = some (.int .i64 s1) ∧ w'.cell? ⟨w1.heap.size, 4, none⟩ = some (.int .i64 p2) ∧ w'.cell? ⟨w1.heap.size, 5, none⟩ = some (.int .i64 s2) ∧ w'.cell? ⟨w1.heap.size, 6, none⟩ = some (.int .i64 m)) (go_keep)
      (first
        | (go_at_call 51; refine (KA.out _).mono ?_; rintro e w2 ⟨rfl, hb2⟩; have n2 : w1.heap.size < w2.heap.size := (by have := hb2.size; simp at this; omega); have B2 : Below w.heap.size w w2 := Below.trans hb1 (Below.trans (by repeat' (first | with_reducible exact Below.refl _ _ | with_reducible assumption | with_reducible apply Below.drew | with_reducible apply below_drewN | (with_reducible refine Below.setCell ?_ ?_ _) | (with_reducible refine Below.alloc ?_ ?_ _) | with_reducible exact Nat.le_refl _ | with_reducible exact Below.size (by assumption) | (simp; done) | (simp; done) | omega | (simp; omega))) (hb2.mono (by simp; omega))); obtain ⟨hc2, hf2⟩ := olds hb2)
        | (go_at_call 43; refine (KC.out _).mono ?_; rintro e w3 ⟨rfl, hb3⟩; obtain ⟨hc3, hf3⟩ := olds hb3))
    have B3 : Below w.heap.size w w3 := Below.trans B2 (hb3.mono B2.size)
    go_wp2
    go_ret
    exact ⟨rfl, B3⟩

/-- What is left: the goods of shelves, in new memory. -/
def GotGoods (w : World) (S : Sh) (e : Ending) (w' : World) : Prop :=
  ∃ g, e = .returned (.tuple #[.slice (some ⟨g, 0, none⟩) S.m.toNat S.m.toNat, .bool true]) ∧ Blk w' g 52 (sc S) ∧ w.heap.size ≤ g ∧ Below w.heap.size w w'
theorem implAfterBasket_no (A B : Option Addr) (gs : List Gd) (xs : List Int) (c d : Nat) (w : World) (hr : GRow w A gs) (hq : Row .i64 w B xs) (hno : (okS gs && bOk (shOf gs) xs) = false) :
    Calls Tryd.prog 31 #[.slice A gs.length c, .slice B xs.length d] w fun e w' => e = .returned (.tuple #[.slice none 0 0, .bool false]) ∧ Below w.heap.size w w' := by
  cases h : okS gs
  · have K := Lib.hid (fun W (hW : GRow W A gs) => purchaseFrom_shelves A B gs xs c d W hW h)
    clear h hno
    go_enter Tryd.func31, Tryd.ntmps31
    go_wp2_with fail
    refine (K.out _ (hr.below (by repeat' (first | with_reducible exact Below.refl _ _ | with_reducible assumption | with_reducible apply Below.drew | with_reducible apply below_drewN | (with_reducible refine Below.setCell ?_ ?_ _) | (with_reducible refine Below.alloc ?_ ?_ _) | with_reducible exact Nat.le_refl _ | with_reducible exact Below.size (by assumption) | (simp; done) | (simp; done) | omega | (simp; omega))))).mono ?_
    rintro e w1 ⟨rfl, hb1⟩
    have z1 := hb1.size
    go_wp2
    go_ret2
    exact ⟨rfl, (by repeat' (first | with_reducible exact Below.refl _ _ | with_reducible assumption | with_reducible apply Below.drew | with_reducible apply below_drewN | (with_reducible refine Below.setCell ?_ ?_ _) | (with_reducible refine Below.alloc ?_ ?_ _) | with_reducible exact Nat.le_refl _ | with_reducible exact Below.size (by assumption) | (simp; done) | (simp; done) | omega | (simp; omega)))⟩
  · have hS := shOf_in h
    have h2 : bOk (shOf gs) xs = false := by simpa [h] using hno
    have K := Lib.hid (fun W (hW : GRow W A gs) (hX : Row .i64 W B xs) => purchaseFrom_any A B gs xs c d W hW hX h false Q3.zero (fun W' hW' => basketFrom_no _ B xs d W' hS hW' h2))
    clear h h2 hS hno
    generalize shOf gs = S at *
    obtain ⟨⟨p0, s0⟩, ⟨p1, s1⟩, ⟨p2, s2⟩, m⟩ := S
    dsimp only [shv, bv, Q3.zero] at K
    go_enter Tryd.func31, Tryd.ntmps31
    go_wp2_with fail
    refine (K.out _ (hr.below (by repeat' (first | with_reducible exact Below.refl _ _ | with_reducible assumption | with_reducible apply Below.drew | with_reducible apply below_drewN | (with_reducible refine Below.setCell ?_ ?_ _) | (with_reducible refine Below.alloc ?_ ?_ _) | with_reducible exact Nat.le_refl _ | with_reducible exact Below.size (by assumption) | (simp; done) | (simp; done) | omega | (simp; omega)))) (hq.below (by repeat' (first | with_reducible exact Below.refl _ _ | with_reducible assumption | with_reducible apply Below.drew | with_reducible apply below_drewN | (with_reducible refine Below.setCell ?_ ?_ _) | (with_reducible refine Below.alloc ?_ ?_ _) | with_reducible exact Nat.le_refl _ | with_reducible exact Below.size (by assumption) | (simp; done) | (simp; done) | omega | (simp; omega))))).mono ?_
    rintro e w1 ⟨rfl, hb1⟩
    have z1 := hb1.size
    go_wp2
    go_ret2
    exact ⟨rfl, (by repeat' (first | with_reducible exact Below.refl _ _ | with_reducible assumption | with_reducible apply Below.drew | with_reducible apply below_drewN | (with_reducible refine Below.setCell ?_ ?_ _) | (with_reducible refine Below.alloc ?_ ?_ _) | with_reducible exact Nat.le_refl _ | with_reducible exact Below.size (by assumption) | (simp; done) | (simp; done) | omega | (simp; omega)))⟩

theorem implAfterBasket_yes (A B : Option Addr) (gs : List Gd) (xs : List Int) (c d : Nat) (w : World) (hr : GRow w A gs) (hq : Row .i64 w B xs) (h : okS gs = true) (h2 : bOk (shOf gs) xs = true) :
    Calls Tryd.prog 31 #[.slice A gs.length c, .slice B xs.length d] w (GotGoods w ((shOf gs).minus (q3 xs))) := by
  have hS := shOf_in h
  have K := Lib.hid (fun W (hW : GRow W A gs) (hX : Row .i64 W B xs) => purchaseFrom_any A B gs xs c d W hW hX h true (q3 xs) (fun W' hW' => basketFrom_yes _ B xs d W' hS hW' h2))
  have hH := (bOk_iff.1 h2).2
  have KW := Lib.hid (fun W => without_any (shOf gs) (q3 xs) W hS hH)
  have KL := Lib.hid (fun W => list_any ((shOf gs).minus (q3 xs)) W hS.m0 hS.m1)
  clear h h2 hS hH
  generalize shOf gs = S at *
  generalize q3 xs = q at *
  have e : (⟨⟨S.a.p, S.a.s - q.x⟩, ⟨S.b.p, S.b.s - q.y⟩, ⟨S.c.p, S.c.s - q.z⟩, S.m⟩ : Sh) = S.minus q := rfl
  rw [e] at KW
  clear e
  generalize S.minus q = U at *
  obtain ⟨⟨p0, s0⟩, ⟨p1, s1⟩, ⟨p2, s2⟩, m⟩ := S
  obtain ⟨x, y, z⟩ := q
  obtain ⟨⟨u0, v0⟩, ⟨u1, v1⟩, ⟨u2, v2⟩, n⟩ := U
  dsimp only [shv, bv] at K KW KL
  go_enter Tryd.func31, Tryd.ntmps31
  go_wp2_with fail
  refine (K.out _ (hr.below (by repeat' (first | with_reducible exact Below.refl _ _ | with_reducible assumption | with_reducible apply Below.drew | with_reducible apply below_drewN | (with_reducible refine Below.setCell ?_ ?_ _) | (with_reducible refine Below.alloc ?_ ?_ _) | with_reducible exact Nat.le_refl _ | with_reducible exact Below.size (by assumption) | (simp; done) | (simp; done) | omega | (simp; omega)))) (hq.below (by repeat' (first | with_reducible exact Below.refl _ _ | with_reducible assumption | with_reducible apply Below.drew | with_reducible apply below_drewN | (with_reducible refine Below.setCell ?_ ?_ _) | (with_reducible refine Below.alloc ?_ ?_ _) | with_reducible exact Nat.le_refl _ | with_reducible exact Below.size (by assumption) | (simp; done) | (simp; done) | omega | (simp; omega))))).mono ?_
  rintro e w1 ⟨rfl, hb1⟩
  have z1 := hb1.size
  go_wp2_with fail
  refine (KW.out _).mono ?_
  rintro e w2 ⟨rfl, hb2⟩
  have B2 : Below w.heap.size w w2 := Below.trans hb1 (Below.trans (by repeat' (first | with_reducible exact Below.refl _ _ | with_reducible assumption | with_reducible apply Below.drew | with_reducible apply below_drewN | (with_reducible refine Below.setCell ?_ ?_ _) | (with_reducible refine Below.alloc ?_ ?_ _) | with_reducible exact Nat.le_refl _ | with_reducible exact Below.size (by assumption) | (simp; done) | (simp; done) | omega | (simp; omega))) (hb2.mono (by simp; omega)))
  have z2 := B2.size
  clear hb2 hb1
  go_wp2_with fail
  refine (KL.out _).mono ?_
  rintro e w3 ⟨g, rfl, k3, l3, hb3⟩
  have B3 : Below w.heap.size w w3 := Below.trans B2 (hb3.mono z2)
  have KK := Lib.hid k3
  have z3 : w.heap.size ≤ g := by omega
  clear k3 hb3
  go_wp2
  go_ret2
  exact ⟨g, rfl, KK.out, z3, B3⟩

end Go.Proofs.YtemhikgdbmmnjaaDoor

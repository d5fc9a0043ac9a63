/- The program's CoinsIn, ValueOf, PutTogether, WithinOf, TakenOut, at every slice of ints: what each returns. -/
import Derived.Test.YtfmhmcedidghfaaDoorPurse2
import Derived.Test.YtfmhmcedidghfaaDoorWorth
namespace Go.Proofs.YtfmhmcedidghfaaDoor
open Go.RowKit

theorem implCoinsIn_no (A : Option Addr) (xs : List Int) (c : Nat) (w : World) (hr : Row .i64 w A xs) (h : okP xs = false) :
    Calls Tryd.prog 26 #[.slice A xs.length c] w fun e w' => e = .returned (.int .i64 (-1)) ∧ Below w.heap.size w w' := by
  have H := purseFrom_any A xs c
  rw [h] at H
  have K := Lib.hid H; clear H h
  go_enter Tryd.func26, Tryd.ntmps26
  go_wp2_with fail
  refine (K.out _ (hr.below (by repeat' (first | with_reducible exact Below.refl _ _ | with_reducible assumption | with_reducible apply Below.drew | with_reducible apply below_drewN | (with_reducible refine Below.setCell ?_ ?_ _) | (with_reducible refine Below.alloc ?_ ?_ _) | with_reducible exact Nat.le_refl _ | with_reducible exact Below.size (by assumption) | (simp; done) | omega | (simp; omega))))).mono ?_
  rintro e w1 ⟨rfl, hb⟩
  have hz := hb.size
  go_wp2
  go_ret
  exact ⟨rfl, (by repeat' (first | with_reducible exact Below.refl _ _ | with_reducible assumption | with_reducible apply Below.drew | with_reducible apply below_drewN | (with_reducible refine Below.setCell ?_ ?_ _) | (with_reducible refine Below.alloc ?_ ?_ _) | with_reducible exact Nat.le_refl _ | with_reducible exact Below.size (by assumption) | (simp; done) | omega | (simp; omega)))⟩

/-- How many coins a purse has. -/
def coinsOf (xs : List Int) : Int := nth xs 0 + nth xs 1 + nth xs 2 + nth xs 3

theorem implCoinsIn_yes (A : Option Addr) (xs : List Int) (c : Nat) (w : World) (hr : Row .i64 w A xs) (h : okP xs = true) :
    Calls Tryd.prog 26 #[.slice A xs.length c] w fun e w' => e = .returned (.int .i64 (coinsOf xs)) ∧ Below w.heap.size w w' := by
  have H := purseFrom_any A xs c
  obtain ⟨b0, b1, b2, b3⟩ := okP_bnd h
  rw [h] at H
  have K := Lib.hid H; clear H h
  unfold coinsOf
  generalize nth xs 0 = a0 at *
  generalize nth xs 1 = a1 at *
  generalize nth xs 2 = a2 at *
  generalize nth xs 3 = a3 at *
  have C := Lib.hid (fun W => coins_any a0 a1 a2 a3 W b0 b1 b2 b3)
  clear b0 b1 b2 b3
  go_enter Tryd.func26, Tryd.ntmps26
  go_wp2_with fail
  refine (K.out _ (hr.below (by repeat' (first | with_reducible exact Below.refl _ _ | with_reducible assumption | with_reducible apply Below.drew | with_reducible apply below_drewN | (with_reducible refine Below.setCell ?_ ?_ _) | (with_reducible refine Below.alloc ?_ ?_ _) | with_reducible exact Nat.le_refl _ | with_reducible exact Below.size (by assumption) | (simp; done) | omega | (simp; omega))))).mono ?_
  rintro e w1 ⟨rfl, hb⟩
  have hz := hb.size
  go_wp2_with fail
  refine (C.out _).mono ?_
  rintro e w2 ⟨rfl, hb2⟩
  have hB2 : Below w.heap.size w w2 := Below.trans (by repeat' (first | with_reducible exact Below.refl _ _ | with_reducible assumption | with_reducible apply Below.drew | with_reducible apply below_drewN | (with_reducible refine Below.setCell ?_ ?_ _) | (with_reducible refine Below.alloc ?_ ?_ _) | with_reducible exact Nat.le_refl _ | with_reducible exact Below.size (by assumption) | (simp; done) | omega | (simp; omega))) (hb2.mono (by simp; omega))
  have hz2 := hB2.size
  go_wp2
  go_ret
  exact ⟨rfl, (by repeat' (first | with_reducible exact Below.refl _ _ | with_reducible assumption | with_reducible apply Below.drew | with_reducible apply below_drewN | (with_reducible refine Below.setCell ?_ ?_ _) | (with_reducible refine Below.alloc ?_ ?_ _) | with_reducible exact Nat.le_refl _ | with_reducible exact Below.size (by assumption) | (simp; done) | omega | (simp; omega)))⟩

/-- What comes back: a slice over a new block that holds the four counts, and true. -/
def GivesPurse (w : World) (a b c d : Int) (e : Ending) (w' : World) : Prop :=
  ∃ g, e = .returned (.tuple #[.slice (some ⟨g, 0, none⟩) 4 4, .bool true]) ∧ Blk w' g 48 #[.int .i64 a, .int .i64 b, .int .i64 c, .int .i64 d] ∧ w.heap.size ≤ g ∧ Below w.heap.size w w'

/-- Two slices are purses, and together they are one, too. -/
def okT (xs ys : List Int) : Bool := (okP xs && okP ys) && inB (nth xs 0 + nth ys 0) (nth xs 1 + nth ys 1) (nth xs 2 + nth ys 2) (nth xs 3 + nth ys 3)

theorem implPut_none (A B : Option Addr) (xs ys : List Int) (c d : Nat) (w : World) (hr : Row .i64 w A xs) (hq : Row .i64 w B ys) (h : (okP xs && okP ys) = false) :
    Calls Tryd.prog 30 #[.slice A xs.length c, .slice B ys.length d] w fun e w' => e = .returned (.tuple #[.slice none 0 0, .bool false]) ∧ Below w.heap.size w w' := by
  have H := pursesFrom_any A B xs ys c d
  rw [h] at H
  have K := Lib.hid H; clear H h
  go_enter Tryd.func30, Tryd.ntmps30
  go_wp2_with fail
  refine (K.out _ (hr.below (by repeat' (first | with_reducible exact Below.refl _ _ | with_reducible assumption | with_reducible apply Below.drew | with_reducible apply below_drewN | (with_reducible refine Below.setCell ?_ ?_ _) | (with_reducible refine Below.alloc ?_ ?_ _) | with_reducible exact Nat.le_refl _ | with_reducible exact Below.size (by assumption) | (simp; done) | omega | (simp; omega)))) (hq.below (by repeat' (first | with_reducible exact Below.refl _ _ | with_reducible assumption | with_reducible apply Below.drew | with_reducible apply below_drewN | (with_reducible refine Below.setCell ?_ ?_ _) | (with_reducible refine Below.alloc ?_ ?_ _) | with_reducible exact Nat.le_refl _ | with_reducible exact Below.size (by assumption) | (simp; done) | omega | (simp; omega))))).mono ?_
  rintro e w1 ⟨rfl, hb⟩
  have hz := hb.size
  go_wp2
  go_ret2
  exact ⟨rfl, (by repeat' (first | with_reducible exact Below.refl _ _ | with_reducible assumption | with_reducible apply Below.drew | with_reducible apply below_drewN | (with_reducible refine Below.setCell ?_ ?_ _) | (with_reducible refine Below.alloc ?_ ?_ _) | with_reducible exact Nat.le_refl _ | with_reducible exact Below.size (by assumption) | (simp; done) | omega | (simp; omega)))⟩

theorem implPut_full (A B : Option Addr) (xs ys : List Int) (c d : Nat) (w : World) (hr : Row .i64 w A xs) (hq : Row .i64 w B ys) (h : (okP xs && okP ys) = true)
    (hi : inB (nth xs 0 + nth ys 0) (nth xs 1 + nth ys 1) (nth xs 2 + nth ys 2) (nth xs 3 + nth ys 3) = false) :
    Calls Tryd.prog 30 #[.slice A xs.length c, .slice B ys.length d] w fun e w' => e = .returned (.tuple #[.slice none 0 0, .bool false]) ∧ Below w.heap.size w w' := by
  have H := pursesFrom_any A B xs ys c d
  have hx : okP xs = true := by simp at h; exact h.1
  have hy : okP ys = true := by simp at h; exact h.2
  have P := Lib.hid (fun W => plus_any _ _ _ _ _ _ _ _ W (okP_inB hx) (okP_inB hy))
  have N := Lib.hid (fun W => inBounds_no _ _ _ _ W hi)
  rw [h] at H
  have K := Lib.hid H; clear H h hx hy hi
  go_enter Tryd.func30, Tryd.ntmps30
  go_wp2_with fail
  refine (K.out _ (hr.below (by repeat' (first | with_reducible exact Below.refl _ _ | with_reducible assumption | with_reducible apply Below.drew | with_reducible apply below_drewN | (with_reducible refine Below.setCell ?_ ?_ _) | (with_reducible refine Below.alloc ?_ ?_ _) | with_reducible exact Nat.le_refl _ | with_reducible exact Below.size (by assumption) | (simp; done) | omega | (simp; omega)))) (hq.below (by repeat' (first | with_reducible exact Below.refl _ _ | with_reducible assumption | with_reducible apply Below.drew | with_reducible apply below_drewN | (with_reducible refine Below.setCell ?_ ?_ _) | (with_reducible refine Below.alloc ?_ ?_ _) | with_reducible exact Nat.le_refl _ | with_reducible exact Below.size (by assumption) | (simp; done) | omega | (simp; omega))))).mono ?_
  rintro e w1 ⟨rfl, hb⟩
  have hz := hb.size
  go_wp2_with fail
  refine (P.out _).mono ?_
  rintro e w2 ⟨rfl, hb2⟩
  have hB2 : Below w.heap.size w w2 := Below.trans (by repeat' (first | with_reducible exact Below.refl _ _ | with_reducible assumption | with_reducible apply Below.drew | with_reducible apply below_drewN | (with_reducible refine Below.setCell ?_ ?_ _) | (with_reducible refine Below.alloc ?_ ?_ _) | with_reducible exact Nat.le_refl _ | with_reducible exact Below.size (by assumption) | (simp; done) | omega | (simp; omega))) (hb2.mono (by simp; omega))
  have hz2 := hB2.size
  go_wp2_with fail
  refine (N.out _).mono ?_
  rintro e w3 ⟨rfl, hb3⟩
  have hB3 : Below w.heap.size w w3 := Below.trans (by repeat' (first | with_reducible exact Below.refl _ _ | with_reducible assumption | with_reducible apply Below.drew | with_reducible apply below_drewN | (with_reducible refine Below.setCell ?_ ?_ _) | (with_reducible refine Below.alloc ?_ ?_ _) | with_reducible exact Nat.le_refl _ | with_reducible exact Below.size (by assumption) | (simp; done) | omega | (simp; omega))) (hb3.mono (by simp; omega))
  go_wp2
  go_ret2
  exact ⟨rfl, (by repeat' (first | with_reducible exact Below.refl _ _ | with_reducible assumption | with_reducible apply Below.drew | with_reducible apply below_drewN | (with_reducible refine Below.setCell ?_ ?_ _) | (with_reducible refine Below.alloc ?_ ?_ _) | with_reducible exact Nat.le_refl _ | with_reducible exact Below.size (by assumption) | (simp; done) | omega | (simp; omega)))⟩

theorem implPut_yes (A B : Option Addr) (xs ys : List Int) (c d : Nat) (w : World) (hr : Row .i64 w A xs) (hq : Row .i64 w B ys) (h : okT xs ys = true) :
    Calls Tryd.prog 30 #[.slice A xs.length c, .slice B ys.length d] w
      (GivesPurse w (nth xs 0 + nth ys 0) (nth xs 1 + nth ys 1) (nth xs 2 + nth ys 2) (nth xs 3 + nth ys 3)) := by
  have H := pursesFrom_any A B xs ys c d
  unfold okT at h
  rw [Bool.and_eq_true] at h
  obtain ⟨h, hi⟩ := h
  have hx : okP xs = true := by simp at h; exact h.1
  have hy : okP ys = true := by simp at h; exact h.2
  have P := Lib.hid (fun W => plus_any _ _ _ _ _ _ _ _ W (okP_inB hx) (okP_inB hy))
  have N := Lib.hid (fun W => inBounds_yes _ _ _ _ W hi)
  rw [h] at H
  have K := Lib.hid H; clear H h hx hy hi
  go_enter Tryd.func30, Tryd.ntmps30
  go_wp2_with fail
  refine (K.out _ (hr.below (by repeat' (first | with_reducible exact Below.refl _ _ | with_reducible assumption | with_reducible apply Below.drew | with_reducible apply below_drewN | (with_reducible refine Below.setCell ?_ ?_ _) | (with_reducible refine Below.alloc ?_ ?_ _) | with_reducible exact Nat.le_refl _ | with_reducible exact Below.size (by assumption) | (simp; done) | omega | (simp; omega)))) (hq.below (by repeat' (first | with_reducible exact Below.refl _ _ | with_reducible assumption | with_reducible apply Below.drew | with_reducible apply below_drewN | (with_reducible refine Below.setCell ?_ ?_ _) | (with_reducible refine Below.alloc ?_ ?_ _) | with_reducible exact Nat.le_refl _ | with_reducible exact Below.size (by assumption) | (simp; done) | omega | (simp; omega))))).mono ?_
  rintro e w1 ⟨rfl, hb⟩
  have hz := hb.size
  go_wp2_with fail
  refine (P.out _).mono ?_
  rintro e w2 ⟨rfl, hb2⟩
  have hB2 : Below w.heap.size w w2 := Below.trans (by repeat' (first | with_reducible exact Below.refl _ _ | with_reducible assumption | with_reducible apply Below.drew | with_reducible apply below_drewN | (with_reducible refine Below.setCell ?_ ?_ _) | (with_reducible refine Below.alloc ?_ ?_ _) | with_reducible exact Nat.le_refl _ | with_reducible exact Below.size (by assumption) | (simp; done) | omega | (simp; omega))) (hb2.mono (by simp; omega))
  have hz2 := hB2.size
  go_wp2_with fail
  refine (N.out _).mono ?_
  rintro e w3 ⟨rfl, hb3⟩
  have hB3 : Below w.heap.size w w3 := Below.trans (by repeat' (first | with_reducible exact Below.refl _ _ | with_reducible assumption | with_reducible apply Below.drew | with_reducible apply below_drewN | (with_reducible refine Below.setCell ?_ ?_ _) | (with_reducible refine Below.alloc ?_ ?_ _) | with_reducible exact Nat.le_refl _ | with_reducible exact Below.size (by assumption) | (simp; done) | omega | (simp; omega))) (hb3.mono (by simp; omega))
  have q := (Blk.new w2 48 _).kept hb3
  clear hb3 hb2
  go_wp2
  go_ret2
  exact ⟨_, rfl, q, hz2, hB3⟩

theorem implWithin_none (A B : Option Addr) (xs ys : List Int) (c d : Nat) (w : World) (hr : Row .i64 w A xs) (hq : Row .i64 w B ys) (h : (okP xs && okP ys) = false) :
    Calls Tryd.prog 34 #[.slice A xs.length c, .slice B ys.length d] w fun e w' => e = .returned (.bool false) ∧ Below w.heap.size w w' := by
  have H := pursesFrom_any A B xs ys c d
  rw [h] at H
  have K := Lib.hid H; clear H h
  go_enter Tryd.func34, Tryd.ntmps34
  go_wp2_with fail
  refine (K.out _ (hr.below (by repeat' (first | with_reducible exact Below.refl _ _ | with_reducible assumption | with_reducible apply Below.drew | with_reducible apply below_drewN | (with_reducible refine Below.setCell ?_ ?_ _) | (with_reducible refine Below.alloc ?_ ?_ _) | with_reducible exact Nat.le_refl _ | with_reducible exact Below.size (by assumption) | (simp; done) | omega | (simp; omega)))) (hq.below (by repeat' (first | with_reducible exact Below.refl _ _ | with_reducible assumption | with_reducible apply Below.drew | with_reducible apply below_drewN | (with_reducible refine Below.setCell ?_ ?_ _) | (with_reducible refine Below.alloc ?_ ?_ _) | with_reducible exact Nat.le_refl _ | with_reducible exact Below.size (by assumption) | (simp; done) | omega | (simp; omega))))).mono ?_
  rintro e w1 ⟨rfl, hb⟩
  have hz := hb.size
  go_wp2
  go_ret
  exact ⟨rfl, (by repeat' (first | with_reducible exact Below.refl _ _ | with_reducible assumption | with_reducible apply Below.drew | with_reducible apply below_drewN | (with_reducible refine Below.setCell ?_ ?_ _) | (with_reducible refine Below.alloc ?_ ?_ _) | with_reducible exact Nat.le_refl _ | with_reducible exact Below.size (by assumption) | (simp; done) | omega | (simp; omega)))⟩

/-- Of two slices that are purses the first is within the second. -/
def okQ (xs ys : List Int) : Bool := (okP xs && okP ys) && inQ (nth xs 0) (nth xs 1) (nth xs 2) (nth xs 3) (nth ys 0) (nth ys 1) (nth ys 2) (nth ys 3)

theorem implWithin_any (A B : Option Addr) (xs ys : List Int) (c d : Nat) (w : World) (hr : Row .i64 w A xs) (hq : Row .i64 w B ys) :
    Calls Tryd.prog 34 #[.slice A xs.length c, .slice B ys.length d] w fun e w' => e = .returned (.bool (okQ xs ys)) ∧ Below w.heap.size w w' := by
  cases h : (okP xs && okP ys)
  · have e : okQ xs ys = false := by simp [okQ, h]
    rw [e]
    exact implWithin_none A B xs ys c d w hr hq h
  · have e : okQ xs ys = inQ (nth xs 0) (nth xs 1) (nth xs 2) (nth xs 3) (nth ys 0) (nth ys 1) (nth ys 2) (nth ys 3) := by simp [okQ, h]
    rw [e]
    have H := pursesFrom_any A B xs ys c d
    rw [h] at H
    have K := Lib.hid H; clear H h e
    go_enter Tryd.func34, Tryd.ntmps34
    go_wp2_with fail
    refine (K.out _ (hr.below (by repeat' (first | with_reducible exact Below.refl _ _ | with_reducible assumption | with_reducible apply Below.drew | with_reducible apply below_drewN | (with_reducible refine Below.setCell ?_ ?_ _) | (with_reducible refine Below.alloc ?_ ?_ _) | with_reducible exact Nat.le_refl _ | with_reducible exact Below.size (by assumption) | (simp; done) | omega | (simp; omega)))) (hq.below (by repeat' (first | with_reducible exact Below.refl _ _ | with_reducible assumption | with_reducible apply Below.drew | with_reducible apply below_drewN | (with_reducible refine Below.setCell ?_ ?_ _) | (with_reducible refine Below.alloc ?_ ?_ _) | with_reducible exact Nat.le_refl _ | with_reducible exact Below.size (by assumption) | (simp; done) | omega | (simp; omega))))).mono ?_
    rintro e w1 ⟨rfl, hb⟩
    have hz := hb.size
    go_wp2_with fail
    refine (within_any _ _ _ _ _ _ _ _ _).mono ?_
    rintro e w2 ⟨rfl, hb2⟩
    have hB2 : Below w.heap.size w w2 := Below.trans (by repeat' (first | with_reducible exact Below.refl _ _ | with_reducible assumption | with_reducible apply Below.drew | with_reducible apply below_drewN | (with_reducible refine Below.setCell ?_ ?_ _) | (with_reducible refine Below.alloc ?_ ?_ _) | with_reducible exact Nat.le_refl _ | with_reducible exact Below.size (by assumption) | (simp; done) | omega | (simp; omega))) (hb2.mono (by simp; omega))
    have hz2 := hB2.size
    go_wp2
    go_ret
    exact ⟨rfl, (by repeat' (first | with_reducible exact Below.refl _ _ | with_reducible assumption | with_reducible apply Below.drew | with_reducible apply below_drewN | (with_reducible refine Below.setCell ?_ ?_ _) | (with_reducible refine Below.alloc ?_ ?_ _) | with_reducible exact Nat.le_refl _ | with_reducible exact Below.size (by assumption) | (simp; done) | omega | (simp; omega)))⟩

/-- What comes back: a slice over a new block that holds the four counts, and true. -/
def GivesRest (w : World) (a b c d : Int) (e : Ending) (w' : World) : Prop :=
  ∃ g, e = .returned (.tuple #[.slice (some ⟨g, 0, none⟩) 4 4, .bool true]) ∧ Blk w' g 48 #[.int .i64 a, .int .i64 b, .int .i64 c, .int .i64 d] ∧ w.heap.size ≤ g ∧ Below w.heap.size w w'

theorem implTaken_none (A B : Option Addr) (xs ys : List Int) (c d : Nat) (w : World) (hr : Row .i64 w A xs) (hq : Row .i64 w B ys) (h : (okP xs && okP ys) = false) :
    Calls Tryd.prog 33 #[.slice A xs.length c, .slice B ys.length d] w fun e w' => e = .returned (.tuple #[.slice none 0 0, .bool false]) ∧ Below w.heap.size w w' := by
  have H := pursesFrom_any A B xs ys c d
  rw [h] at H
  have K := Lib.hid H; clear H h
  go_enter Tryd.func33, Tryd.ntmps33
  go_wp2_with fail
  refine (K.out _ (hr.below (by repeat' (first | with_reducible exact Below.refl _ _ | with_reducible assumption | with_reducible apply Below.drew | with_reducible apply below_drewN | (with_reducible refine Below.setCell ?_ ?_ _) | (with_reducible refine Below.alloc ?_ ?_ _) | with_reducible exact Nat.le_refl _ | with_reducible exact Below.size (by assumption) | (simp; done) | omega | (simp; omega)))) (hq.below (by repeat' (first | with_reducible exact Below.refl _ _ | with_reducible assumption | with_reducible apply Below.drew | with_reducible apply below_drewN | (with_reducible refine Below.setCell ?_ ?_ _) | (with_reducible refine Below.alloc ?_ ?_ _) | with_reducible exact Nat.le_refl _ | with_reducible exact Below.size (by assumption) | (simp; done) | omega | (simp; omega))))).mono ?_
  rintro e w1 ⟨rfl, hb⟩
  have hz := hb.size
  go_wp2
  go_ret2
  exact ⟨rfl, (by repeat' (first | with_reducible exact Below.refl _ _ | with_reducible assumption | with_reducible apply Below.drew | with_reducible apply below_drewN | (with_reducible refine Below.setCell ?_ ?_ _) | (with_reducible refine Below.alloc ?_ ?_ _) | with_reducible exact Nat.le_refl _ | with_reducible exact Below.size (by assumption) | (simp; done) | omega | (simp; omega)))⟩

theorem implTaken_out (A B : Option Addr) (xs ys : List Int) (c d : Nat) (w : World) (hr : Row .i64 w A xs) (hq : Row .i64 w B ys) (h : (okP xs && okP ys) = true)
    (hi : inQ (nth ys 0) (nth ys 1) (nth ys 2) (nth ys 3) (nth xs 0) (nth xs 1) (nth xs 2) (nth xs 3) = false) :
    Calls Tryd.prog 33 #[.slice A xs.length c, .slice B ys.length d] w fun e w' => e = .returned (.tuple #[.slice none 0 0, .bool false]) ∧ Below w.heap.size w w' := by
  have H := pursesFrom_any A B xs ys c d
  have N := within_any (nth ys 0) (nth ys 1) (nth ys 2) (nth ys 3) (nth xs 0) (nth xs 1) (nth xs 2) (nth xs 3)
  rw [hi] at N
  rw [h] at H
  have K := Lib.hid H
  have M := Lib.hid N
  clear H h N hi
  go_enter Tryd.func33, Tryd.ntmps33
  go_wp2_with fail
  refine (K.out _ (hr.below (by repeat' (first | with_reducible exact Below.refl _ _ | with_reducible assumption | with_reducible apply Below.drew | with_reducible apply below_drewN | (with_reducible refine Below.setCell ?_ ?_ _) | (with_reducible refine Below.alloc ?_ ?_ _) | with_reducible exact Nat.le_refl _ | with_reducible exact Below.size (by assumption) | (simp; done) | omega | (simp; omega)))) (hq.below (by repeat' (first | with_reducible exact Below.refl _ _ | with_reducible assumption | with_reducible apply Below.drew | with_reducible apply below_drewN | (with_reducible refine Below.setCell ?_ ?_ _) | (with_reducible refine Below.alloc ?_ ?_ _) | with_reducible exact Nat.le_refl _ | with_reducible exact Below.size (by assumption) | (simp; done) | omega | (simp; omega))))).mono ?_
  rintro e w1 ⟨rfl, hb⟩
  have hz := hb.size
  go_wp2_with fail
  refine (M.out _).mono ?_
  rintro e w2 ⟨rfl, hb2⟩
  have hB2 : Below w.heap.size w w2 := Below.trans (by repeat' (first | with_reducible exact Below.refl _ _ | with_reducible assumption | with_reducible apply Below.drew | with_reducible apply below_drewN | (with_reducible refine Below.setCell ?_ ?_ _) | (with_reducible refine Below.alloc ?_ ?_ _) | with_reducible exact Nat.le_refl _ | with_reducible exact Below.size (by assumption) | (simp; done) | omega | (simp; omega))) (hb2.mono (by simp; omega))
  go_wp2
  go_ret2
  exact ⟨rfl, (by repeat' (first | with_reducible exact Below.refl _ _ | with_reducible assumption | with_reducible apply Below.drew | with_reducible apply below_drewN | (with_reducible refine Below.setCell ?_ ?_ _) | (with_reducible refine Below.alloc ?_ ?_ _) | with_reducible exact Nat.le_refl _ | with_reducible exact Below.size (by assumption) | (simp; done) | omega | (simp; omega)))⟩

theorem implTaken_yes (A B : Option Addr) (xs ys : List Int) (c d : Nat) (w : World) (hr : Row .i64 w A xs) (hq : Row .i64 w B ys) (h : (okP xs && okP ys) = true)
    (hi : inQ (nth ys 0) (nth ys 1) (nth ys 2) (nth ys 3) (nth xs 0) (nth xs 1) (nth xs 2) (nth xs 3) = true) :
    Calls Tryd.prog 33 #[.slice A xs.length c, .slice B ys.length d] w
      (GivesRest w (nth xs 0 - nth ys 0) (nth xs 1 - nth ys 1) (nth xs 2 - nth ys 2) (nth xs 3 - nth ys 3)) := by
  have H := pursesFrom_any A B xs ys c d
  have N := within_any (nth ys 0) (nth ys 1) (nth ys 2) (nth ys 3) (nth xs 0) (nth xs 1) (nth xs 2) (nth xs 3)
  have hx : okP xs = true := by simp at h; exact h.1
  have hy : okP ys = true := by simp at h; exact h.2
  have P := Lib.hid (fun W => minus_any _ _ _ _ _ _ _ _ W (okP_inB hx) (okP_inB hy))
  rw [hi] at N
  rw [h] at H
  have K := Lib.hid H
  have M := Lib.hid N
  clear H h N hi hx hy
  go_enter Tryd.func33, Tryd.ntmps33
  go_wp2_with fail
  refine (K.out _ (hr.below (by repeat' (first | with_reducible exact Below.refl _ _ | with_reducible assumption | with_reducible apply Below.drew | with_reducible apply below_drewN | (with_reducible refine Below.setCell ?_ ?_ _) | (with_reducible refine Below.alloc ?_ ?_ _) | with_reducible exact Nat.le_refl _ | with_reducible exact Below.size (by assumption) | (simp; done) | omega | (simp; omega)))) (hq.below (by repeat' (first | with_reducible exact Below.refl _ _ | with_reducible assumption | with_reducible apply Below.drew | with_reducible apply below_drewN | (with_reducible refine Below.setCell ?_ ?_ _) | (with_reducible refine Below.alloc ?_ ?_ _) | with_reducible exact Nat.le_refl _ | with_reducible exact Below.size (by assumption) | (simp; done) | omega | (simp; omega))))).mono ?_
  rintro e w1 ⟨rfl, hb⟩
  have hz := hb.size
  have qa := Blk.new w1 48 #[.int .i64 (nth xs 0), .int .i64 (nth xs 1), .int .i64 (nth xs 2), .int .i64 (nth xs 3)]
  have qb := Blk.new (w1.alloc (.cells #[.int .i64 (nth xs 0), .int .i64 (nth xs 1), .int .i64 (nth xs 2), .int .i64 (nth xs 3)] 48)) 48 #[.int .i64 (nth ys 0), .int .i64 (nth ys 1), .int .i64 (nth ys 2), .int .i64 (nth ys 3)]
  go_wp2_with fail
  refine (M.out _).mono ?_
  rintro e w2 ⟨rfl, hb2⟩
  have hB2 : Below w.heap.size w w2 := Below.trans (by repeat' (first | with_reducible exact Below.refl _ _ | with_reducible assumption | with_reducible apply Below.drew | with_reducible apply below_drewN | (with_reducible refine Below.setCell ?_ ?_ _) | (with_reducible refine Below.alloc ?_ ?_ _) | with_reducible exact Nat.le_refl _ | with_reducible exact Below.size (by assumption) | (simp; done) | omega | (simp; omega))) (hb2.mono (by simp; omega))
  have hz2 := hB2.size
  have ca := fun i => ((qa.alloc _).kept hb2).cell i
  have cb := fun i => (qb.kept hb2).cell i
  simp only [World.size_alloc] at cb
  clear qa qb
  go_wp2_with fail
  refine (P.out _).mono ?_
  rintro e w3 ⟨rfl, hb3⟩
  have hB3 : Below w.heap.size w w3 := Below.trans hB2 (hb3.mono (by omega))
  have hz3 := hB3.size
  have q := Blk.new w3 48 #[.int .i64 (nth xs 0 - nth ys 0), .int .i64 (nth xs 1 - nth ys 1), .int .i64 (nth xs 2 - nth ys 2), .int .i64 (nth xs 3 - nth ys 3)]
  clear hb3 hb2 ca cb
  go_wp2
  go_ret2
  exact ⟨_, rfl, q, hz3, (by repeat' (first | with_reducible exact Below.refl _ _ | with_reducible assumption | with_reducible apply Below.drew | with_reducible apply below_drewN | (with_reducible refine Below.setCell ?_ ?_ _) | (with_reducible refine Below.alloc ?_ ?_ _) | with_reducible exact Nat.le_refl _ | with_reducible exact Below.size (by assumption) | (simp; done) | omega | (simp; omega)))⟩

end Go.Proofs.YtfmhmcedidghfaaDoor

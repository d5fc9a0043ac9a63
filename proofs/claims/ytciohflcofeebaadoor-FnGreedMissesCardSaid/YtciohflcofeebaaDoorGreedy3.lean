/- The program's GreedyOf, at every slice of ints and every amount: what it returns. -/
import Derived.Test.YtciohflcofeebaaDoorGreedy2
import Derived.Test.YtciohflcofeebaaDoorHelp
import Derived.Test.YtciohflcofeebaaDoorSpec2
namespace Go.Proofs.YtciohflcofeebaaDoor
open Go.RowKit

/-- The purse that a slice of ints is. -/
def q4 (xs : List Int) : Q4 := ⟨nth xs 0, nth xs 1, nth xs 2, nth xs 3⟩
theorem okP_in {xs : List Int} (h : okP xs = true) : In20 (q4 xs) := okP_bnd h
/-- Four counts as a list. -/
def li (v : Q4) : List Int := [v.a, v.b, v.c, v.d]
theorem qc_li (v : Q4) : qc v = cellsOf (li v) := rfl
/-- What the program hands back: a slice over a new block that holds the four counts, and true. -/
def GotPurse (w : World) (v : Q4) (e : Ending) (w' : World) : Prop :=
  ∃ g, e = .returned (.tuple #[.slice (some ⟨g, 0, none⟩) 4 4, .bool true]) ∧ Blk w' g 46 (qc v) ∧ w.heap.size ≤ g ∧ Below w.heap.size w w'
/-- What the model hands back: a slice in new memory that reads as the four counts, and true. -/
def GotRow (w : World) (v : Q4) (e : Ending) (w' : World) : Prop :=
  ∃ g cap, e = .returned (.tuple #[.slice (some ⟨g, 0, none⟩) 4 cap, .bool true]) ∧ Row .i64 w' (some ⟨g, 0, none⟩) (li v) ∧ w.heap.size ≤ g ∧ Below w.heap.size w w'

/-- The slice is a purse, and the amount is in bounds. -/
def okN (xs : List Int) (n : Int) : Bool := okP xs && (decide (0 ≤ n) && decide (n ≤ 99))
theorem okN_iff {xs : List Int} {n : Int} : okN xs n = true ↔ okP xs = true ∧ 0 ≤ n ∧ n ≤ 99 := by
  simp [okN]
/-- What greedy change gives, if it gives it. -/
def greedyR (xs : List Int) (n : Int) : Option Q4 := if okN xs n = true ∧ (greedy (q4 xs) 4 n).2 = 0 then some (greedy (q4 xs) 4 n).1 else none

/-- An amount that is out of bounds, or a slice that is no purse. -/
theorem implGreedyOf_out (A : Option Addr) (xs : List Int) (c : Nat) (n : Int) (w : World) (hr : Row .i64 w A xs) (h : okN xs n = false) :
    Calls Tryd.prog 16 #[.slice A xs.length c, .int .i64 n] w fun e w' => e = .returned (.tuple #[.slice none 0 0, .bool false]) ∧ Below w.heap.size w w' := by
  have H := purseFrom_any A xs c
  cases ho : okP xs
  · rw [ho] at H
    have K := Lib.hid H; clear H h ho
    go_enter Tryd.func16, Tryd.ntmps16
    go_wp2_with fail
    refine (K.out _ (hr.below (by repeat' (first | with_reducible exact Below.refl _ _ | with_reducible assumption | with_reducible apply Below.drew | with_reducible apply below_drewN | (with_reducible refine Below.setCell ?_ ?_ _) | (with_reducible refine Below.alloc ?_ ?_ _) | with_reducible exact Nat.le_refl _ | with_reducible exact Below.size (by assumption) | (simp; done) | (simp; done) | omega | (simp; omega))))).mono ?_
    rintro e w1 ⟨rfl, hb⟩
    have hz := hb.size
    go_wp2
    go_ret2
    exact ⟨rfl, (by repeat' (first | with_reducible exact Below.refl _ _ | with_reducible assumption | with_reducible apply Below.drew | with_reducible apply below_drewN | (with_reducible refine Below.setCell ?_ ?_ _) | (with_reducible refine Below.alloc ?_ ?_ _) | with_reducible exact Nat.le_refl _ | with_reducible exact Below.size (by assumption) | (simp; done) | (simp; done) | omega | (simp; omega)))⟩
  · have hn : n < 0 ∨ 99 < n := by
      have : ¬ (0 ≤ n ∧ n ≤ 99) := fun hh => by
        have := okN_iff.2 ⟨ho, hh.1, hh.2⟩
        rw [h] at this; cases this
      omega
    rw [ho] at H
    have K := Lib.hid H
    have HN := Lib.hid (fun W => amountOk_no n W hn)
    clear H h ho hn
    go_enter Tryd.func16, Tryd.ntmps16
    go_wp2_with fail
    refine (K.out _ (hr.below (by repeat' (first | with_reducible exact Below.refl _ _ | with_reducible assumption | with_reducible apply Below.drew | with_reducible apply below_drewN | (with_reducible refine Below.setCell ?_ ?_ _) | (with_reducible refine Below.alloc ?_ ?_ _) | with_reducible exact Nat.le_refl _ | with_reducible exact Below.size (by assumption) | (simp; done) | (simp; done) | omega | (simp; omega))))).mono ?_
    rintro e w1 ⟨rfl, hb⟩
    have hz := hb.size
    go_wp2_with fail
    refine (HN.out _).mono ?_
    rintro e w2 ⟨rfl, rfl⟩
    go_wp2
    go_ret2
    exact ⟨rfl, (by repeat' (first | with_reducible exact Below.refl _ _ | with_reducible assumption | with_reducible apply Below.drew | with_reducible apply below_drewN | (with_reducible refine Below.setCell ?_ ?_ _) | (with_reducible refine Below.alloc ?_ ?_ _) | with_reducible exact Nat.le_refl _ | with_reducible exact Below.size (by assumption) | (simp; done) | (simp; done) | omega | (simp; omega)))⟩

set_option maxHeartbeats 800000 in
theorem implGreedyOf_in (A : Option Addr) (xs : List Int) (c : Nat) (n : Int) (w : World) (hr : Row .i64 w A xs) (hT : Worths w) (h : okN xs n = true) (z : Bool) (hz : ((greedy (q4 xs) 4 n).2 == 0) = z) :
    Calls Tryd.prog 16 #[.slice A xs.length c, .int .i64 n] w fun e w' =>
      (z = false → e = .returned (.tuple #[.slice none 0 0, .bool false]) ∧ Below w.heap.size w w') ∧ (z = true → GotPurse w (greedy (q4 xs) 4 n).1 e w') := by
  obtain ⟨ho, hn0, hn1⟩ := okN_iff.1 h
  have H := purseFrom_any A xs c
  rw [ho] at H
  have h0 : 0 < w.heap.size := World.block_lt_of_cell? w _ hT.1
  have G := fun W hW => greedy_any (q4 xs) (okP_in ho) n W hn0 hn1 hW
  rw [hz] at G
  obtain ⟨r, hr2⟩ : ∃ r, r = (greedy (q4 xs) 4 n).1 := ⟨_, rfl⟩
  rw [← hr2] at G ⊢
  have K := Lib.hid H
  have HG := Lib.hid G
  have HT := Lib.hid hT
  have HN := Lib.hid (fun W => amountOk_yes n W hn0 hn1)
  have HQ : Hid (pv (nth xs 0) (nth xs 1) (nth xs 2) (nth xs 3) = qv (q4 xs)) := Lib.hid rfl
  clear H h ho hT G hz hr2
  obtain ⟨ra, rb, rc, rd⟩ := r
  cases z
  all_goals
    go_enter Tryd.func16, Tryd.ntmps16
    go_wp2_with fail
    refine (K.out _ (hr.below (by repeat' (first | with_reducible exact Below.refl _ _ | with_reducible assumption | with_reducible apply Below.drew | with_reducible apply below_drewN | (with_reducible refine Below.setCell ?_ ?_ _) | (with_reducible refine Below.alloc ?_ ?_ _) | with_reducible exact Nat.le_refl _ | with_reducible exact Below.size (by assumption) | (simp; done) | (simp; done) | omega | (simp; omega))))).mono ?_
    rintro e w1 ⟨rfl, hb⟩
    have hz := hb.size
    have HT1 := Lib.hid (HT.out.below (B := w.heap.size) hb h0)
    go_wp2_with fail
    refine (HN.out _).mono ?_
    rintro e w2 ⟨rfl, rfl⟩
    have hB1 : Below w.heap.size w (w1.alloc (.cells #[.int .i64 (nth xs 0), .int .i64 (nth xs 1), .int .i64 (nth xs 2), .int .i64 (nth xs 3)] 46)) := (by repeat' (first | with_reducible exact Below.refl _ _ | with_reducible assumption | with_reducible apply Below.drew | with_reducible apply below_drewN | (with_reducible refine Below.setCell ?_ ?_ _) | (with_reducible refine Below.alloc ?_ ?_ _) | with_reducible exact Nat.le_refl _ | with_reducible exact Below.size (by assumption) | (simp; done) | (simp; done) | omega | (simp; omega)))
    go_wp2_with fail
    refine (HG.out _ (HT.out.below (B := w.heap.size) hB1 h0)).mono ?_
    rintro e w3 ⟨rfl, hb3⟩
    have hB3 : Below w.heap.size w w3 := Below.trans hB1 (hb3.mono (by simp; omega))
    have hz3 := hB3.size
    clear hb3 hb HT1
    go_wp2_with fail
    first
      | (go_ret2; exact ⟨fun _ => ⟨rfl, (by repeat' (first | with_reducible exact Below.refl _ _ | with_reducible assumption | with_reducible apply Below.drew | with_reducible apply below_drewN | (with_reducible refine Below.setCell ?_ ?_ _) | (with_reducible refine Below.alloc ?_ ?_ _) | with_reducible exact Nat.le_refl _ | with_reducible exact Below.size (by assumption) | (simp; done) | (simp; done) | omega | (simp; omega)))⟩, fun h => by cases h⟩)
      | (refine (row_any ⟨ra, rb, rc, rd⟩ _).mono ?_
         rintro e w4 ⟨rfl, bq, hb4⟩
         have hB4 : Below w.heap.size w w4 := Below.trans hB3 (Below.trans (by repeat' (first | with_reducible exact Below.refl _ _ | with_reducible assumption | with_reducible apply Below.drew | with_reducible apply below_drewN | (with_reducible refine Below.setCell ?_ ?_ _) | (with_reducible refine Below.alloc ?_ ?_ _) | with_reducible exact Nat.le_refl _ | with_reducible exact Below.size (by assumption) | (simp; done) | (simp; done) | omega | (simp; omega))) (hb4.mono (by simp; omega)))
         simp only [World.size_alloc] at bq
         clear hb4
         go_wp2
         go_ret2
         exact ⟨fun h => (by cases h), fun _ => ⟨_, rfl, bq, by omega, hB4⟩⟩)

theorem implGreedyOf_none (A : Option Addr) (xs : List Int) (c : Nat) (n : Int) (w : World) (hr : Row .i64 w A xs) (hT : Worths w) (h : greedyR xs n = none) :
    Calls Tryd.prog 16 #[.slice A xs.length c, .int .i64 n] w fun e w' => e = .returned (.tuple #[.slice none 0 0, .bool false]) ∧ Below w.heap.size w w' := by
  cases ho : okN xs n
  · exact implGreedyOf_out A xs c n w hr ho
  · have hz : ((greedy (q4 xs) 4 n).2 == 0) = false := by
      cases e : (greedy (q4 xs) 4 n).2 == 0
      · rfl
      · rw [greedyR, if_pos ⟨ho, by simpa using e⟩] at h; cases h
    exact (implGreedyOf_in A xs c n w hr hT ho false hz).mono fun _ _ p => p.1 rfl
theorem implGreedyOf_some (A : Option Addr) (xs : List Int) (c : Nat) (n : Int) (v : Q4) (w : World) (hr : Row .i64 w A xs) (hT : Worths w) (h : greedyR xs n = some v) :
    Calls Tryd.prog 16 #[.slice A xs.length c, .int .i64 n] w (GotPurse w v) := by
  unfold greedyR at h
  split at h
  · rename_i hh
    injection h with h
    subst h
    exact (implGreedyOf_in A xs c n w hr hT hh.1 true (by simpa using hh.2)).mono fun _ _ p => p.2 rfl
  · cases h

end Go.Proofs.YtciohflcofeebaaDoor

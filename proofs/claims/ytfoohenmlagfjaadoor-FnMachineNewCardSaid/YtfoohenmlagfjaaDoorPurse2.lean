/- The program's readers of purses: purseFrom, pursesFrom, PurseOk, at every slice of ints. -/
import Derived.Test.YtfoohenmlagfjaaDoorPurse
namespace Go.Proofs.YtfoohenmlagfjaaDoor
open Go.RowKit

/-- The i-th count of a slice of length 4; 0 for other slices. -/
def nth (xs : List Int) (i : Nat) : Int := if xs.length = 4 then xs.getD i 0 else 0
/-- The slice is a purse: four counts, each in 0..20. -/
def okP (xs : List Int) : Bool := xs.length == 4 && inB (nth xs 0) (nth xs 1) (nth xs 2) (nth xs 3)

theorem okP_iff {xs : List Int} : okP xs = true ↔ xs.length = 4 ∧ inB (nth xs 0) (nth xs 1) (nth xs 2) (nth xs 3) = true := by
  simp [okP]
theorem okP_inB {xs : List Int} (h : okP xs = true) : inB (nth xs 0) (nth xs 1) (nth xs 2) (nth xs 3) = true := (okP_iff.1 h).2
theorem okP_len {xs : List Int} (h : okP xs = true) : xs.length = 4 := (okP_iff.1 h).1
theorem okP_bnd {xs : List Int} (h : okP xs = true) : (0 ≤ nth xs 0 ∧ nth xs 0 ≤ 20) ∧ (0 ≤ nth xs 1 ∧ nth xs 1 ≤ 20) ∧ (0 ≤ nth xs 2 ∧ nth xs 2 ≤ 20) ∧ (0 ≤ nth xs 3 ∧ nth xs 3 ≤ 20) := inB_iff.1 (okP_inB h)

/-- The four cells of a row of length 4. -/
theorem Row.four {w : World} {A : Option Addr} {xs : List Int} (h : Row .i64 w A xs) (h4 : xs.length = 4) :
    ∃ b off, A = some ⟨b, off, none⟩ ∧ w.cell? ⟨b, off, none⟩ = some (.int .i64 (nth xs 0)) ∧ w.cell? ⟨b, off + 1, none⟩ = some (.int .i64 (nth xs 1)) ∧ w.cell? ⟨b, off + 2, none⟩ = some (.int .i64 (nth xs 2)) ∧ w.cell? ⟨b, off + 3, none⟩ = some (.int .i64 (nth xs 3)) := by
  rcases h with h | ⟨b, off, rfl, hc⟩
  · subst h; cases h4
  · have e : ∀ i, nth xs i = xs.getD i 0 := fun i => by simp [nth, h4]
    refine ⟨b, off, rfl, ?_, ?_, ?_, ?_⟩ <;> rw [e]
    · simpa using hc 0 (by omega)
    · exact hc 1 (by omega)
    · exact hc 2 (by omega)
    · exact hc 3 (by omega)

theorem purseFrom_any (A : Option Addr) (xs : List Int) (c : Nat) (w : World) (hr : Row .i64 w A xs) :
    Calls Tryd.prog 63 #[.slice A xs.length c] w fun e w' => e = .returned (.tuple #[pv (nth xs 0) (nth xs 1) (nth xs 2) (nth xs 3), .bool (okP xs)]) ∧ Below w.heap.size w w' := by
  by_cases h4 : xs.length = 4
  · obtain ⟨b, off, rfl, c0, c1, c2, c3⟩ := hr.four h4
    have e : okP xs = inB (nth xs 0) (nth xs 1) (nth xs 2) (nth xs 3) := by simp [okP, h4]
    rw [h4]
    refine purseFrom_four b off c _ _ _ _ w _ c0 c1 c2 c3 fun W => ?_
    cases hb : inB (nth xs 0) (nth xs 1) (nth xs 2) (nth xs 3)
    · rw [e, hb]; exact inBounds_no _ _ _ _ _ hb
    · rw [e, hb]; exact inBounds_yes _ _ _ _ _ hb
  · have e : okP xs = false := by simp [okP, h4]
    have z : ∀ i, nth xs i = 0 := fun i => by simp [nth, h4]
    rw [e, z, z, z, z]
    exact purseFrom_len A xs.length c w (by rw [bne_iff_ne]; omega)

/-- Of two slices that are purses the first is within the second. -/
def okQ (xs ys : List Int) : Bool := (okP xs && okP ys) && inQ (nth xs 0) (nth xs 1) (nth xs 2) (nth xs 3) (nth ys 0) (nth ys 1) (nth ys 2) (nth ys 3)


set_option maxHeartbeats 1600000 in
/-- Two purses out of two slices: both told, and whether both are purses. -/
theorem pursesFrom_any (A B : Option Addr) (xs ys : List Int) (c d : Nat) (w : World) (hr : Row .i64 w A xs) (hq : Row .i64 w B ys) :
    Calls Tryd.prog 72 #[.slice A xs.length c, .slice B ys.length d] w fun e w' =>
      e = .returned (.tuple #[pv (nth xs 0) (nth xs 1) (nth xs 2) (nth xs 3), pv (nth ys 0) (nth ys 1) (nth ys 2) (nth ys 3), .bool (okP xs && okP ys)]) ∧ Below w.heap.size w w' := by
  cases hx : okP xs <;> cases hy : okP ys
  all_goals
    have H1 := purseFrom_any A xs c
    have H2 := purseFrom_any B ys d
    rw [hx] at H1
    rw [hy] at H2
    clear hx hy
    generalize nth xs 0 = a0 at *
    generalize nth xs 1 = a1 at *
    generalize nth xs 2 = a2 at *
    generalize nth xs 3 = a3 at *
    generalize nth ys 0 = b0 at *
    generalize nth ys 1 = b1 at *
    generalize nth ys 2 = b2 at *
    generalize nth ys 3 = b3 at *
    have K1 := Lib.hid H1; clear H1
    have K2 := Lib.hid H2; clear H2
    go_enter Tryd.func72, Tryd.ntmps72
    go_wp2_with fail
    refine (K1.out _ (hr.below (by repeat' (first | with_reducible exact Below.refl _ _ | with_reducible assumption | with_reducible apply Below.drew | with_reducible apply below_drewN | (with_reducible refine Below.setCell ?_ ?_ _) | (with_reducible refine Below.alloc ?_ ?_ _) | with_reducible exact Nat.le_refl _ | with_reducible exact Below.size (by assumption) | (simp; done) | (simp; done) | omega | (simp; omega))))).mono ?_
    rintro e w1 ⟨rfl, hb1⟩
    have hB1 : Below w.heap.size w w1 := Below.trans (by repeat' (first | with_reducible exact Below.refl _ _ | with_reducible assumption | with_reducible apply Below.drew | with_reducible apply below_drewN | (with_reducible refine Below.setCell ?_ ?_ _) | (with_reducible refine Below.alloc ?_ ?_ _) | with_reducible exact Nat.le_refl _ | with_reducible exact Below.size (by assumption) | (simp; done) | (simp; done) | omega | (simp; omega))) (hb1.mono (by simp; omega))
    have qA := ((Blk.new w 76 #[.int .i64 0, .int .i64 0, .int .i64 0, .int .i64 0]).alloc _).kept hb1
    have qB := (Blk.new (w.alloc _) 76 #[.int .i64 0, .int .i64 0, .int .i64 0, .int .i64 0]).kept hb1
    simp only [World.size_alloc] at qB
    have hz1 := hb1.size
    simp at hz1
    clear hb1
    go_wp2_with fail
    refine (K2.out _ (hq.below (by repeat' (first | with_reducible exact Below.refl _ _ | with_reducible assumption | with_reducible apply Below.drew | with_reducible apply below_drewN | (with_reducible refine Below.setCell ?_ ?_ _) | (with_reducible refine Below.alloc ?_ ?_ _) | with_reducible exact Nat.le_refl _ | with_reducible exact Below.size (by assumption) | (simp; done) | (simp; done) | omega | (simp; omega))))).mono ?_
    rintro e w2 ⟨rfl, hb2⟩
    have qC := (Blk.new w1 76 #[.int .i64 a0, .int .i64 a1, .int .i64 a2, .int .i64 a3]).kept hb2
    have qA2 := (qA.alloc _).kept hb2
    have qB2 := (qB.alloc _).kept hb2
    have hB2 : Below w.heap.size w w2 := Below.trans (by repeat' (first | with_reducible exact Below.refl _ _ | with_reducible assumption | with_reducible apply Below.drew | with_reducible apply below_drewN | (with_reducible refine Below.setCell ?_ ?_ _) | (with_reducible refine Below.alloc ?_ ?_ _) | with_reducible exact Nat.le_refl _ | with_reducible exact Below.size (by assumption) | (simp; done) | (simp; done) | omega | (simp; omega))) (hb2.mono (by simp; omega))
    have hz2 := hb2.size
    simp at hz2
    clear hb2 qA qB
    have cA := fun i => qA2.cell i
    have fA := fun i => qA2.frozen i
    have cB := fun i => qB2.cell i
    have fB := fun i => qB2.frozen i
    have cC := fun i => qC.cell i
    have n1 : w.heap.size < w2.heap.size := by omega
    have n2 : w.heap.size + 1 < w2.heap.size := by omega
    have n3 : w1.heap.size < w2.heap.size := by omega
    have n4 : w.heap.size ≠ w1.heap.size := by omega
    have n5 : w.heap.size + 1 ≠ w1.heap.size := by omega
    have n6 : w.heap.size ≠ w2.heap.size := by omega
    have n7 : w.heap.size + 1 ≠ w2.heap.size := by omega
    have n8 : w1.heap.size ≠ w2.heap.size := by omega
    go_wp2
    go_region
    go_wp2
    first
      | exact bodyPost_ret (v := .tuple #[pv a0 a1 a2 a3, pv b0 b1 b2 b3, .bool false]) (by simp [results, Tryd.results72, go_sem, cA, cB, n1, n2]) rfl ⟨rfl, (by repeat' (first | with_reducible exact Below.refl _ _ | with_reducible assumption | with_reducible apply Below.drew | with_reducible apply below_drewN | (with_reducible refine Below.setCell ?_ ?_ _) | (with_reducible refine Below.alloc ?_ ?_ _) | with_reducible exact Nat.le_refl _ | with_reducible exact Below.size (by assumption) | (simp; done) | (simp; done) | omega | (simp; omega)))⟩
      | exact bodyPost_ret (v := .tuple #[pv a0 a1 a2 a3, pv b0 b1 b2 b3, .bool true]) (by simp [results, Tryd.results72, go_sem, cA, cB, n1, n2]) rfl ⟨rfl, (by repeat' (first | with_reducible exact Below.refl _ _ | with_reducible assumption | with_reducible apply Below.drew | with_reducible apply below_drewN | (with_reducible refine Below.setCell ?_ ?_ _) | (with_reducible refine Below.alloc ?_ ?_ _) | with_reducible exact Nat.le_refl _ | with_reducible exact Below.size (by assumption) | (simp; done) | (simp; done) | omega | (simp; omega)))⟩

end Go.Proofs.YtfoohenmlagfjaaDoor

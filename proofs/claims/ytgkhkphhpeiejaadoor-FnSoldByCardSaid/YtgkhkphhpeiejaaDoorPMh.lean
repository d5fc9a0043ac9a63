/- The program's MoneyIn and Acted. -/
import Derived.Test.YtgkhkphhpeiejaaDoorPMg
import Derived.Test.YtgkhkphhpeiejaaDoorPA
namespace Go.Proofs.YtgkhkphhpeiejaaDoor
open Go.RowKit

theorem outTold_no (w : World) : Calls Tryd.prog 104 #[ov false 0 ⟨0, 0, 0, 0⟩] w fun e w' => e = .returned norv ∧ Below w.heap.size w w' := by
  go_enter Tryd.func104, Tryd.ntmps104
  go_wp2
  exact bodyPost_ret (v := norv) (by simp [results, Tryd.results104, go_sem]) rfl ⟨rfl, belo⟩

theorem outTold_yes (p : Int) (q : Q4) (w : World) :
    Calls Tryd.prog 104 #[ov true p q] w fun e w' => ∃ g, e = .returned (.agg #[.bool true, .int .i64 p, .slice (some ⟨g, 0, none⟩) 4 4]) ∧ Blk w' g 102 (qc q) ∧ w.heap.size ≤ g ∧ Below w.heap.size w w' := by
  have K1 : Hid (∀ W, Calls Tryd.prog 125 #[qv q] W fun e w' => ∃ g, e = .returned (.slice (some ⟨g, 0, none⟩) 4 4) ∧ Blk w' g 102 (qc q) ∧ W.heap.size ≤ g ∧ Below W.heap.size W w') := Lib.hid (fun W => (row_any q W).mono fun e w' ⟨x, y, z⟩ => ⟨_, x, y, Nat.le_refl _, z⟩)
  generalize qc q = cs at *
  obtain ⟨qa, qb, qc, qd⟩ := q
  have n0 : w.heap.size < w.heap.size + 1 + 1 := by omega
  have R1 : Blk ((w.alloc (.cells #[.bool true, .int .i64 p, .int .i64 qa, .int .i64 qb, .int .i64 qc, .int .i64 qd] 148)).alloc (.cells #[.bool false, .int .i64 0, .slice none 0 0] 77)) (w.heap.size + 1) 77 #[.bool false, .int .i64 0, .slice none 0 0] := Blk.new' (by simp)
  have HR := Lib.hid R1
  clear R1
  go_enter Tryd.func104, Tryd.ntmps104
  go_wp2_with fail
  go_region_held3 (fun w' => w'.cell? ⟨w.heap.size, 1, none⟩ = some (.int .i64 p) ∧ w'.cell? ⟨w.heap.size, 2, none⟩ = some (.int .i64 qa) ∧ w'.cell? ⟨w.heap.size, 3, none⟩ = some (.int .i64 qb) ∧ w'.cell? ⟨w.heap.size, 4, none⟩ = some (.int .i64 qc) ∧ w'.cell? ⟨w.heap.size, 5, none⟩ = some (.int .i64 qd)) (go_keep)
    (first
      | (go_at_call 125; refine (K1.out _).mono ?_; rintro e w1 ⟨g1, rfl, q1, l1, hb1⟩; have z1 : w.heap.size + 1 + 1 ≤ g1 := (by simp only [World.size_alloc, World.size_drew] at l1; omega); have B1 : Below w.heap.size w w1 := Below.trans belo (hb1.mono belo); have R1 := HR.out.kept (Below.trans belo hb1); have s1 := q1.lt; have k1 := R1.lt; have k1' : w.heap.size < w1.heap.size := (by omega); have HX := Lib.hid (And.intro q1 R1); obtain ⟨hc1, hf1⟩ := olds hb1; clear q1 R1))
  obtain ⟨q1, R1⟩ := HX.out
  have c1 := fun i => R1.cell i
  have f1 := fun i => R1.frozen i
  go_wp2
  refine bodyPost_ret (v := .agg #[.bool true, .int .i64 p, .slice (some ⟨g1, 0, none⟩) 4 4]) (by simp [results, Tryd.results104, go_sem, c1]) rfl ⟨g1, rfl, ?_, by omega, belo⟩
  repeat' (first | with_reducible exact q1 | (with_reducible refine Blk.setc ?_ ?_) | omega)

theorem RAt.wide {w : World} {lo hi lo' hi' : Nat} {u : Value} {r : Rs} (h : RAt w lo hi u r) (h1 : lo' ≤ lo) (h2 : hi ≤ hi') : RAt w lo' hi' u r := by
  rcases h with h | ⟨g, T, c, rfl, k1, l1, l2⟩
  · exact .inl h
  · exact .inr ⟨g, T, c, rfl, k1, by omega, by omega⟩

theorem outTold_any (r : Rs) (hr : r = noR ∨ (r.done = true ∧ r.out.length = 4)) (w : World) :
    Calls Tryd.prog 104 #[Rv r] w fun e w' => ∃ u, e = .returned u ∧ RAt w' w.heap.size w'.heap.size u r ∧ Below w.heap.size w w' := by
  rcases hr with rfl | ⟨h1, h2⟩
  · rw [Rv_noR]
    refine (outTold_no w).mono ?_
    rintro e w' ⟨rfl, hb⟩
    exact ⟨_, rfl, .inl ⟨rfl, rfl⟩, hb⟩
  · obtain ⟨done, piece, out⟩ := r
    dsimp only at h1 h2
    subst h1
    refine (outTold_yes piece (q4 out) w).mono ?_
    rintro e w' ⟨g, rfl, q, hg, hb⟩
    have q' := blk_rowAt q
    rw [li_q4 h2] at q'
    exact ⟨_, rfl, .inr ⟨g, _, 4, by dsimp only; rw [h2], q', hg, q.lt⟩, hb⟩

theorem RAt.setc {w : World} {lo hi : Nat} {u : Value} {r : Rs} (h : RAt w lo hi u r) {g' k : Nat} {x : Value} (hne : g' < lo ∨ hi ≤ g') : RAt (w.setCell ⟨g', k, none⟩ x) lo hi u r :=
  h.same fun g h1 h2 => by
    have hne' : g ≠ g' := by omega
    exact Below.heap_setCell w ⟨g', k, none⟩ x g hne'

end Go.Proofs.YtgkhkphhpeiejaaDoor

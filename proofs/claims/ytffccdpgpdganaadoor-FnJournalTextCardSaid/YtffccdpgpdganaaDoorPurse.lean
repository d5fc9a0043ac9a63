/- The methods of the program's purse, an array of four counts: what each returns, at every four counts. -/
import Derived.Test.YtffccdpgpdganaaDoorBase
import Derived.Test.YtffccdpgpdganaaDoorArrEq
import Derived.Deep.QuietTactic
import Derived.BigQuiet
import Derived.Deep.RegionHeld3
namespace Go.Proofs.YtffccdpgpdganaaDoor
open Go.RowKit

/-- A purse as a value: the array of its four counts. -/
abbrev pv (a b c d : Int) : Value := .agg #[.int .i64 a, .int .i64 b, .int .i64 c, .int .i64 d]

/-- All four counts are in 0..20. -/
def inB (a b c d : Int) : Bool := decide (0 ≤ a) && decide (a ≤ 20) && (decide (0 ≤ b) && decide (b ≤ 20)) && (decide (0 ≤ c) && decide (c ≤ 20)) && (decide (0 ≤ d) && decide (d ≤ 20))
theorem inB_iff {a b c d : Int} : inB a b c d = true ↔ (0 ≤ a ∧ a ≤ 20) ∧ (0 ≤ b ∧ b ≤ 20) ∧ (0 ≤ c ∧ c ≤ 20) ∧ (0 ≤ d ∧ d ≤ 20) := by
  simp [inB, and_assoc]

theorem index0 (a b c d : Int) (w : World) : (Instr.index 116 (pv a b c d) (.int .i64 0)).run Tryd.prog w = .ok (.int .i64 a) w := by kernel_rfl
theorem index1 (a b c d : Int) (w : World) : (Instr.index 116 (pv a b c d) (.int .i64 1)).run Tryd.prog w = .ok (.int .i64 b) w := by kernel_rfl
theorem index2 (a b c d : Int) (w : World) : (Instr.index 116 (pv a b c d) (.int .i64 2)).run Tryd.prog w = .ok (.int .i64 c) w := by kernel_rfl
theorem index3 (a b c d : Int) (w : World) : (Instr.index 116 (pv a b c d) (.int .i64 3)).run Tryd.prog w = .ok (.int .i64 d) w := by kernel_rfl


set_option maxRecDepth 100000 in
theorem inBounds_yes (a b c d : Int) (w : World) (h : inB a b c d = true) :
    Calls Tryd.prog 93 #[pv a b c d] w fun e w' => e = .returned (.bool true) ∧ Below w.heap.size w w' := by
  obtain ⟨⟨ha1, ha2⟩, ⟨hb1, hb2⟩, ⟨hc1, hc2⟩, hd1, hd2⟩ := inB_iff.1 h
  clear h
  have i0 := index0 a b c d
  have i1 := index1 a b c d
  have i2 := index2 a b c d
  have i3 := index3 a b c d
  go_enter Tryd.func93, Tryd.ntmps93
  go_wp2
  refine wp_loop_rounds 5 ?_
  rw [rounds_succ]
  go_wp2
  rw [rounds_succ]
  go_wp2
  rw [rounds_succ]
  go_wp2
  rw [rounds_succ]
  go_wp2
  rw [rounds_succ]
  go_wp2
  go_ret
  exact ⟨rfl, (Below.refl _ _).alloc (Nat.le_refl _) _⟩

/-- The first count that is none: which one, and on which side. -/
theorem inB_first {a b c d : Int} (h : inB a b c d = false) :
    a < 0 ∨ 20 < a ∨ (0 ≤ a ∧ a ≤ 20) ∧ (b < 0 ∨ 20 < b ∨ (0 ≤ b ∧ b ≤ 20) ∧ (c < 0 ∨ 20 < c ∨ (0 ≤ c ∧ c ≤ 20) ∧ (d < 0 ∨ 20 < d))) := by
  have h' : ¬ inB a b c d = true := by simp [h]
  rw [inB_iff] at h'
  omega

set_option maxRecDepth 100000 in
theorem inBounds_no (a b c d : Int) (w : World) (h : inB a b c d = false) :
    Calls Tryd.prog 93 #[pv a b c d] w fun e w' => e = .returned (.bool false) ∧ Below w.heap.size w w' := by
  have h' := inB_first h
  clear h
  have i0 := index0 a b c d
  have i1 := index1 a b c d
  have i2 := index2 a b c d
  have i3 := index3 a b c d
  rcases h' with h1 | h1 | ⟨⟨ha1, ha2⟩, h1 | h1 | ⟨⟨hb1, hb2⟩, h1 | h1 | ⟨⟨hc1, hc2⟩, h1 | h1⟩⟩⟩
  all_goals
    have h2 : 0 < 20 := by omega
    try (have h3 : 0 ≤ a := by omega)
    try (have h4 : 0 ≤ b := by omega)
    try (have h5 : 0 ≤ c := by omega)
    try (have h6 : 0 ≤ d := by omega)
    go_enter Tryd.func93, Tryd.ntmps93
    go_wp2
    refine wp_loop_rounds 5 ?_
    repeat (rw [rounds_succ]; go_wp2)
    go_ret
    exact ⟨rfl, (Below.refl _ _).alloc (Nat.le_refl _) _⟩



/-- The lesser one of two numbers (a name that the walk does not open). -/
def mn (a b : Int) : Int := min a b
theorem run_mn (t : TypeId) (ts : Array TypeId) (a b : Int) (w : World) : (Builtin.min_ ts t #[.int .i64 a, .int .i64 b]).run Tryd.prog w = .ok (.int .i64 (mn a b)) w := by
  unfold mn
  simp [Builtin.min_, Builtin.min2]
  omega


/-- A purse is within another one: count by count. -/
def inQ (a b c d x y z u : Int) : Bool := decide (a ≤ x) && (decide (b ≤ y) && (decide (c ≤ z) && decide (d ≤ u)))
theorem inQ_iff {a b c d x y z u : Int} : inQ a b c d x y z u = true ↔ a ≤ x ∧ b ≤ y ∧ c ≤ z ∧ d ≤ u := by
  simp [inQ]
theorem inQ_min (a b c d x y z u : Int) : (mn a x == a && (mn b y == b && (mn c z == c && mn d u == d))) = inQ a b c d x y z u := by
  unfold mn; rw [Bool.eq_iff_iff]; simp [inQ_iff]; omega


/-- What purseFrom gives of a slice that is not of length 4: no purse. -/
theorem purseFrom_len (A : Option Addr) (n c : Nat) (w : World) (h4 : ((n : Int) != 4) = true) :
    Calls Tryd.prog 77 #[.slice A n c] w fun e w' => e = .returned (.tuple #[pv 0 0 0 0, .bool false]) ∧ Below w.heap.size w w' := by
  go_enter Tryd.func77, Tryd.ntmps77
  go_wp2
  exact bodyPost_ret (v := .tuple #[pv 0 0 0 0, .bool false]) (by simp [results, Tryd.results77, go_sem]) rfl ⟨rfl, belo⟩

/-- The copy of four counts into a new purse. -/
theorem copy4 (b off c : Nat) (a0 a1 a2 a3 : Int) (w : World)
    (h0 : w.cell? ⟨b, off, none⟩ = some (.int .i64 a0)) (h1 : w.cell? ⟨b, off + 1, none⟩ = some (.int .i64 a1)) (h2 : w.cell? ⟨b, off + 2, none⟩ = some (.int .i64 a2)) (h3 : w.cell? ⟨b, off + 3, none⟩ = some (.int .i64 a3)) :
    (Builtin.copy_ #[87, 87] 3 #[.slice (some ⟨w.heap.size + 1, 0, none⟩) 4 4, .slice (some ⟨b, off, none⟩) 4 c]).run Tryd.prog
        ((w.alloc (.cells #[.int .i64 0, .int .i64 0, .int .i64 0, .int .i64 0] 116)).alloc (.cells #[.int .i64 0, .int .i64 0, .int .i64 0, .int .i64 0] 116))
      = .ok (.int .i64 4) ((w.alloc (.cells #[.int .i64 0, .int .i64 0, .int .i64 0, .int .i64 0] 116)).alloc (.cells #[.int .i64 a0, .int .i64 a1, .int .i64 a2, .int .i64 a3] 116)) := by
  have hb : b < w.heap.size := World.block_lt_of_cell? w _ h0
  have hkeep : ∀ o, ((w.alloc (.cells #[.int .i64 0, .int .i64 0, .int .i64 0, .int .i64 0] 116)).alloc (.cells #[.int .i64 0, .int .i64 0, .int .i64 0, .int .i64 0] 116)).cell? ⟨b, o, none⟩ = w.cell? ⟨b, o, none⟩ := fun o => by
    rw [World.cell?_alloc_lt _ _ _ (by simp; omega), World.cell?_alloc_lt _ _ _ (by simpa using hb)]
  rw [run_copy_cells (P := Tryd.prog) _ 87 87 3 3 (w.heap.size + 1) 0 4 4 ⟨b, off, none⟩ 4 c [.int .i64 a0, .int .i64 a1, .int .i64 a2, .int .i64 a3] Tryd.underlying87 (by kernel_rfl) rfl
    (by
      intro j v hj
      match j, hj with
      | 0, hj => simp at hj; subst hj; simpa [Addr.add] using (hkeep off).trans h0
      | 1, hj => simp at hj; subst hj; simpa [Addr.add] using (hkeep (off + 1)).trans h1
      | 2, hj => simp at hj; subst hj; simpa [Addr.add] using (hkeep (off + 2)).trans h2
      | 3, hj => simp at hj; subst hj; simpa [Addr.add] using (hkeep (off + 3)).trans h3)
    (by
      intro j hj
      have : j < 4 := by simpa using hj
      match j, this with
      | 0, _ => go_simp
      | 1, _ => go_simp
      | 2, _ => go_simp
      | 3, _ => go_simp)
    (by
      intro j hj
      have : j < 4 := by simpa using hj
      match j, this with
      | 0, _ => go_simp
      | 1, _ => go_simp
      | 2, _ => go_simp
      | 3, _ => go_simp)
    (by intro v hv; simp at hv; rcases hv with rfl | rfl | rfl | rfl <;> rfl)]
  simp only [World.setCells]
  go_simp

theorem purseFrom_four (b off c : Nat) (a0 a1 a2 a3 : Int) (w : World) (r : Bool)
    (h0 : w.cell? ⟨b, off, none⟩ = some (.int .i64 a0)) (h1 : w.cell? ⟨b, off + 1, none⟩ = some (.int .i64 a1)) (h2 : w.cell? ⟨b, off + 2, none⟩ = some (.int .i64 a2)) (h3 : w.cell? ⟨b, off + 3, none⟩ = some (.int .i64 a3))
    (hr : ∀ W : World, Calls Tryd.prog 93 #[pv a0 a1 a2 a3] W fun e w' => e = .returned (.bool r) ∧ Below W.heap.size W w') :
    Calls Tryd.prog 77 #[.slice (some ⟨b, off, none⟩) 4 c] w fun e w' => e = .returned (.tuple #[pv a0 a1 a2 a3, .bool r]) ∧ Below w.heap.size w w' := by
  have hcp := copy4 b off c a0 a1 a2 a3 w h0 h1 h2 h3
  clear h0 h1 h2 h3
  have HR := Lib.hid hr; clear hr
  have hlt : w.heap.size < w.heap.size + 1 + 1 := by omega
  have hlt2 : w.heap.size < w.heap.size + 2 := by omega
  go_enter Tryd.func77, Tryd.ntmps77
  go_wp2
  go_region_held3 (fun w' => w'.cell? ⟨w.heap.size + 1, 0, none⟩ = some (.int .i64 a0) ∧ w'.cell? ⟨w.heap.size + 1, 1, none⟩ = some (.int .i64 a1) ∧ w'.cell? ⟨w.heap.size + 1, 2, none⟩ = some (.int .i64 a2) ∧ w'.cell? ⟨w.heap.size + 1, 3, none⟩ = some (.int .i64 a3)) (go_keep)
    (first | (go_at_call 93; refine (HR.out _).mono ?_; rintro e w1 ⟨rfl, hb1⟩; obtain ⟨hc1, hf1⟩ := olds hb1))
  have hbw : Below w.heap.size w w1 := Below.trans belo (hb1.mono (by simp; omega))
  go_wp2
  exact bodyPost_ret (v := .tuple #[pv a0 a1 a2 a3, .bool r]) (by simp [results, Tryd.results77, go_sem, hc1, hlt]) rfl ⟨rfl, belo⟩

end Go.Proofs.YtffccdpgpdganaaDoor

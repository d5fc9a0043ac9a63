/- The program's entries: their numbers, their bounds, their checks. -/
import Derived.Test.YtffccdpgpdganaaDoorEnt2
import Derived.Deep.RegionHeld3
import Derived.Deep.QuietTactic
namespace Go.Proofs.YtffccdpgpdganaaDoor
open Go.RowKit

/-- The cells of the program's table of greatest numbers. -/
def Greats (w : World) : Prop := Six w 2 0 ⟨2, 9, 1, 3, 900, 996⟩
theorem Greats.below {w w' : World} {B : Nat} (h : Greats w) (hb : Below B w w') (hB : 2 < B) : Greats w' := by
  obtain ⟨h1, h2, h3, h4, h5, h6⟩ := h
  exact ⟨(hb.cell (by exact hB)).trans h1, (hb.cell (by exact hB)).trans h2, (hb.cell (by exact hB)).trans h3, (hb.cell (by exact hB)).trans h4, (hb.cell (by exact hB)).trans h5, (hb.cell (by exact hB)).trans h6⟩
theorem Greats.keep {w w' : World} (h : Greats w) (hb : Below w.heap.size w w') : Greats w' := h.below hb h.lt
theorem Greats.pos {w : World} (h : Greats w) : 2 < w.heap.size := h.lt

theorem numbers_any (d n x p a c : Int) (w : World) :
    Calls Tryd.prog 85 #[.agg #[.int .i64 d, .int .i64 n, .int .i64 x, .int .i64 p, .int .i64 a, .int .i64 c]] w fun e w' => e = .returned (.agg #[.int .i64 d, .int .i64 n, .int .i64 x, .int .i64 p, .int .i64 a, .int .i64 c]) ∧ Below w.heap.size w w' := by
  go_enter Tryd.func85, Tryd.ntmps85
  go_wp2
  exact bodyPost_ret (v := .agg #[.int .i64 d, .int .i64 n, .int .i64 x, .int .i64 p, .int .i64 a, .int .i64 c]) (by simp [results, Tryd.results85, go_sem]) rfl ⟨rfl, belo⟩

theorem indexN0 (d n x p a c : Int) (W : World) : (Instr.index 123 (.agg #[.int .i64 d, .int .i64 n, .int .i64 x, .int .i64 p, .int .i64 a, .int .i64 c]) (.int .i64 0)).run Tryd.prog W = .ok (.int .i64 d) W := by kernel_rfl
theorem indexN1 (d n x p a c : Int) (W : World) : (Instr.index 123 (.agg #[.int .i64 d, .int .i64 n, .int .i64 x, .int .i64 p, .int .i64 a, .int .i64 c]) (.int .i64 1)).run Tryd.prog W = .ok (.int .i64 n) W := by kernel_rfl
theorem indexN2 (d n x p a c : Int) (W : World) : (Instr.index 123 (.agg #[.int .i64 d, .int .i64 n, .int .i64 x, .int .i64 p, .int .i64 a, .int .i64 c]) (.int .i64 2)).run Tryd.prog W = .ok (.int .i64 x) W := by kernel_rfl
theorem indexN3 (d n x p a c : Int) (W : World) : (Instr.index 123 (.agg #[.int .i64 d, .int .i64 n, .int .i64 x, .int .i64 p, .int .i64 a, .int .i64 c]) (.int .i64 3)).run Tryd.prog W = .ok (.int .i64 p) W := by kernel_rfl
theorem indexN4 (d n x p a c : Int) (W : World) : (Instr.index 123 (.agg #[.int .i64 d, .int .i64 n, .int .i64 x, .int .i64 p, .int .i64 a, .int .i64 c]) (.int .i64 4)).run Tryd.prog W = .ok (.int .i64 a) W := by kernel_rfl
theorem indexN5 (d n x p a c : Int) (W : World) : (Instr.index 123 (.agg #[.int .i64 d, .int .i64 n, .int .i64 x, .int .i64 p, .int .i64 a, .int .i64 c]) (.int .i64 5)).run Tryd.prog W = .ok (.int .i64 c) W := by kernel_rfl
/-- The first number that is out of its bounds. -/
theorem okE_first {e : En} (h : ¬ okE e) : ((e.d < 0 ∨ 2 < e.d) ∨ ((0 ≤ e.d ∧ e.d ≤ 2) ∧ ((e.n < 0 ∨ 9 < e.n) ∨ ((0 ≤ e.n ∧ e.n ≤ 9) ∧ ((e.x < 0 ∨ 1 < e.x) ∨ ((0 ≤ e.x ∧ e.x ≤ 1) ∧ ((e.p < 0 ∨ 3 < e.p) ∨ ((0 ≤ e.p ∧ e.p ≤ 3) ∧ ((e.a < 0 ∨ 900 < e.a) ∨ ((0 ≤ e.a ∧ e.a ≤ 900) ∧ (e.c < 0 ∨ 996 < e.c))))))))))) := by unfold okE okU at h; omega
set_option maxRecDepth 100000 in
set_option maxHeartbeats 1600000 in
theorem inBoundsN_yes (d n x p a c : Int) (w : World) (hg : Greats w) (h : okE ⟨d, n, x, p, a, c⟩) :
    Calls Tryd.prog 94 #[.agg #[.int .i64 d, .int .i64 n, .int .i64 x, .int .i64 p, .int .i64 a, .int .i64 c]] w fun e w' => e = .returned (.bool true) ∧ Below w.heap.size w w' := by
  have hz := hg.pos
  obtain ⟨g0, g1, g2, g3, g4, g5⟩ := hg
  obtain ⟨⟨⟨hd0, hd1⟩, ⟨hn0, hn1⟩, ⟨hx0, hx1⟩, ⟨hp0, hp1⟩, ha0, ha1⟩, hc0, hc1⟩ := h
  dsimp only [Nat.zero_add] at *
  have i0 := indexN0 d n x p a c
  have i1 := indexN1 d n x p a c
  have i2 := indexN2 d n x p a c
  have i3 := indexN3 d n x p a c
  have i4 := indexN4 d n x p a c
  have i5 := indexN5 d n x p a c
  go_enter Tryd.func94, Tryd.ntmps94
  go_wp2
  refine wp_loop_rounds 7 ?_
  rw [rounds_succ]
  go_wp2
  rw [rounds_succ]
  go_wp2
  rw [rounds_succ]
  go_wp2
  rw [rounds_succ]
  go_wp2
  rw [rounds_succ]
  go_wp2
  rw [rounds_succ]
  go_wp2
  rw [rounds_succ]
  go_wp2
  go_ret
  exact ⟨rfl, (Below.refl _ _).alloc (Nat.le_refl _) _⟩
set_option maxRecDepth 100000 in
set_option maxHeartbeats 3200000 in
theorem inBoundsN_no (d n x p a c : Int) (w : World) (hg : Greats w) (h : ¬ okE ⟨d, n, x, p, a, c⟩) :
    Calls Tryd.prog 94 #[.agg #[.int .i64 d, .int .i64 n, .int .i64 x, .int .i64 p, .int .i64 a, .int .i64 c]] w fun e w' => e = .returned (.bool false) ∧ Below w.heap.size w w' := by
  have hz := hg.pos
  obtain ⟨g0, g1, g2, g3, g4, g5⟩ := hg
  have h' := okE_first h
  clear h
  dsimp only [Nat.zero_add] at *
  have i0 := indexN0 d n x p a c
  have i1 := indexN1 d n x p a c
  have i2 := indexN2 d n x p a c
  have i3 := indexN3 d n x p a c
  have i4 := indexN4 d n x p a c
  have i5 := indexN5 d n x p a c
  rcases h' with (h1 | h1) | ⟨⟨b0, t0⟩, (h1 | h1) | ⟨⟨b1, t1⟩, (h1 | h1) | ⟨⟨b2, t2⟩, (h1 | h1) | ⟨⟨b3, t3⟩, (h1 | h1) | ⟨⟨b4, t4⟩, h1 | h1⟩⟩⟩⟩⟩
  all_goals
    try (have y0 : 0 ≤ d := by omega)
    try (have y1 : 0 ≤ n := by omega)
    try (have y2 : 0 ≤ x := by omega)
    try (have y3 : 0 ≤ p := by omega)
    try (have y4 : 0 ≤ a := by omega)
    try (have y5 : 0 ≤ c := by omega)
    go_enter Tryd.func94, Tryd.ntmps94
    go_wp2
    refine wp_loop_rounds 7 ?_
    repeat (rw [rounds_succ]; go_wp2)
    go_ret
    exact ⟨rfl, (Below.refl _ _).alloc (Nat.le_refl _) _⟩

theorem EntryOk_yes (d n x p a c : Int) (w : World) (hg : Greats w) (h : okE ⟨d, n, x, p, a, c⟩) :
    Calls Tryd.prog 87 #[.agg #[.int .i64 d, .int .i64 n, .int .i64 x, .int .i64 p, .int .i64 a, .int .i64 c]] w fun e w' => e = .returned (.bool true) ∧ Below w.heap.size w w' := by
  have K1 := Lib.hid (fun W => numbers_any d n x p a c W)
  have K2 := Lib.hid (fun W (hg : Greats W) => inBoundsN_yes d n x p a c W hg h)
  have HG := Lib.hid hg
  clear hg h
  go_enter Tryd.func87, Tryd.ntmps87
  go_wp2_with fail
  refine (K1.out _).mono ?_
  rintro e w1 ⟨rfl, b1⟩
  have B1 : Below w.heap.size w w1 := Below.trans belo (b1.mono belo)
  clear b1
  go_wp2_with fail
  refine (K2.out _ (HG.out.keep B1)).mono ?_
  rintro e w2 ⟨rfl, b2⟩
  have B2 : Below w.heap.size w w2 := B1.trans (b2.mono B1.size)
  clear b2
  go_wp2
  go_ret
  exact ⟨rfl, B2⟩
theorem EntryOk_no (d n x p a c : Int) (w : World) (hg : Greats w) (h : ¬ okE ⟨d, n, x, p, a, c⟩) :
    Calls Tryd.prog 87 #[.agg #[.int .i64 d, .int .i64 n, .int .i64 x, .int .i64 p, .int .i64 a, .int .i64 c]] w fun e w' => e = .returned (.bool false) ∧ Below w.heap.size w w' := by
  have K1 := Lib.hid (fun W => numbers_any d n x p a c W)
  have K2 := Lib.hid (fun W (hg : Greats W) => inBoundsN_no d n x p a c W hg h)
  have HG := Lib.hid hg
  clear hg h
  go_enter Tryd.func87, Tryd.ntmps87
  go_wp2_with fail
  refine (K1.out _).mono ?_
  rintro e w1 ⟨rfl, b1⟩
  have B1 : Below w.heap.size w w1 := Below.trans belo (b1.mono belo)
  clear b1
  go_wp2_with fail
  refine (K2.out _ (HG.out.keep B1)).mono ?_
  rintro e w2 ⟨rfl, b2⟩
  have B2 : Below w.heap.size w w2 := B1.trans (b2.mono B1.size)
  clear b2
  go_wp2
  go_ret
  exact ⟨rfl, B2⟩

end Go.Proofs.YtffccdpgpdganaaDoor

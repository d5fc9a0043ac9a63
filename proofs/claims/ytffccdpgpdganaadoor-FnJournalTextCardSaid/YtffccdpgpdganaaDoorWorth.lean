/- What WorthOf of the program and of its model return: 1, 2, 5, 10 for the kinds 0 to 3, and -1 for every other number. -/
import Derived.Test.YtffccdpgpdganaaDoorBase
namespace Go.Proofs.YtffccdpgpdganaaDoor
open Go.RowKit

/-- What a coin is worth. -/
def worth (k : Int) : Int := if k = 0 then 1 else if k = 1 then 2 else if k = 2 then 5 else if k = 3 then 10 else -1

theorem worth_out {k : Int} (h : k < 0 ∨ 4 ≤ k) : worth k = -1 := by
  unfold worth
  rw [if_neg (by omega), if_neg (by omega), if_neg (by omega), if_neg (by omega)]

/-- The cells of the program's table of worths. -/
def Worths (w : World) : Prop :=
  w.cell? ⟨0, 0, none⟩ = some (.int .i64 1) ∧ w.cell? ⟨0, 1, none⟩ = some (.int .i64 2) ∧ w.cell? ⟨0, 2, none⟩ = some (.int .i64 5) ∧ w.cell? ⟨0, 3, none⟩ = some (.int .i64 10)

theorem Worths.below {w w' : World} {B : Nat} (h : Worths w) (hb : Below B w w') (hB : 0 < B) : Worths w' :=
  ⟨(hb.cell (by exact hB)).trans h.1, (hb.cell (by exact hB)).trans h.2.1, (hb.cell (by exact hB)).trans h.2.2.1, (hb.cell (by exact hB)).trans h.2.2.2⟩

theorem Worths.pos {w : World} (h : Worths w) : 0 < w.heap.size := World.block_lt_of_cell? w _ h.1
theorem Worths.keep {w w' : World} (h : Worths w) (hb : Below w.heap.size w w') : Worths w' := h.below hb h.pos

theorem l1In_yes (n lo hi : Int) (w : World) (h1 : lo ≤ n) (h2 : n ≤ hi) :
    Calls Tryd.prog 44 #[.int .i64 n, .int .i64 lo, .int .i64 hi] w fun e w' => e = .returned (.bool true) ∧ w = w' := by
  go_enter Tryd.func44, Tryd.ntmps44
  go_wp2
  go_ret
  exact ⟨rfl, rfl⟩

theorem l1In_no (n lo hi : Int) (w : World) (h : n < lo ∨ hi < n) :
    Calls Tryd.prog 44 #[.int .i64 n, .int .i64 lo, .int .i64 hi] w fun e w' => e = .returned (.bool false) ∧ w = w' := by
  by_cases h1 : n < lo
  · clear h
    go_enter Tryd.func44, Tryd.ntmps44
    go_wp2
    go_ret
    exact ⟨rfl, rfl⟩
  · have h2 : hi < n := by omega
    have h3 : lo ≤ n := by omega
    clear h h1
    go_enter Tryd.func44, Tryd.ntmps44
    go_wp2
    go_ret
    simp [h2]


theorem specWorth_any (k : Int) (w : World) :
    Calls Tryd.prog 82 #[.int .i64 k] w fun e w' => e = .returned (.int .i64 (worth k)) ∧ Below w.heap.size w w' := by
  by_cases h : k < 0 ∨ 4 ≤ k
  · have hw := worth_out h
    rw [hw]; clear hw
    go_enter Tryd.func82, Tryd.ntmps82
    go_wp2_with (go_at_call 44; refine (l1In_no _ _ _ _ (by omega)).mono ?_; rintro e w' ⟨rfl, rfl⟩)
    go_ret
    exact ⟨rfl, Below.refl _ _⟩
  · have h4 : k = 0 ∨ k = 1 ∨ k = 2 ∨ k = 3 := by omega
    clear h
    rcases h4 with rfl | rfl | rfl | rfl
    all_goals
      go_enter Tryd.func82, Tryd.ntmps82
      go_wp2
      go_ret
      exact ⟨rfl, (Below.refl _ _).alloc (Nat.le_refl _) _⟩

end Go.Proofs.YtffccdpgpdganaaDoor

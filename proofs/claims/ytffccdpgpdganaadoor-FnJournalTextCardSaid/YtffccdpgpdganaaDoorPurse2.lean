/- The program's readers of purses: purseFrom, pursesFrom, PurseOk, at every slice of ints. -/
import Derived.Test.YtffccdpgpdganaaDoorPurse
namespace Go.Proofs.YtffccdpgpdganaaDoor
open Go.RowKit

/-- The i-th count of a slice of length 4; 0 for other slices. -/
def nth (xs : List Int) (i : Nat) : Int := if xs.length = 4 then xs.getD i 0 else 0
/-- The slice is a purse: four counts, each in 0..20. -/
def okP (xs : List Int) : Bool := xs.length == 4 && inB (nth xs 0) (nth xs 1) (nth xs 2) (nth xs 3)

theorem okP_iff {xs : List Int} : okP xs = true ↔ xs.length = 4 ∧ inB (nth xs 0) (nth xs 1) (nth xs 2) (nth xs 3) = true := by
  simp [okP]
theorem okP_inB {xs : List Int} (h : okP xs = true) : inB (nth xs 0) (nth xs 1) (nth xs 2) (nth xs 3) = true := (okP_iff.1 h).2
theorem okP_len {xs : List Int} (h : okP xs = true) : xs.length = 4 := (okP_iff.1 h).1
theorem okP_bnd {xs : List Int} (h : okP xs = true) : (0 ≤ nth xs 0 ∧ nth xs 0 ≤ 20) ∧ (0 ≤ nth xs 1 ∧ nth xs 1 ≤ 20) ∧ (0 ≤ nth xs 2 ∧ nth xs 2 ≤ 20) ∧ (0 ≤ nth xs 3 ∧ nth xs 3 ≤ 20) := inB_iff.1 (okP_inB h)

/-- The four cells of a row of length 4. -/
theorem Row.four {w : World} {A : Option Addr} {xs : List Int} (h : Row .i64 w A xs) (h4 : xs.length = 4) :
    ∃ b off, A = some ⟨b, off, none⟩ ∧ w.cell? ⟨b, off, none⟩ = some (.int .i64 (nth xs 0)) ∧ w.cell? ⟨b, off + 1, none⟩ = some (.int .i64 (nth xs 1)) ∧ w.cell? ⟨b, off + 2, none⟩ = some (.int .i64 (nth xs 2)) ∧ w.cell? ⟨b, off + 3, none⟩ = some (.int .i64 (nth xs 3)) := by
  rcases h with h | ⟨b, off, rfl, hc⟩
  · subst h; cases h4
  · have e : ∀ i, nth xs i = xs.getD i 0 := fun i => by simp [nth, h4]
    refine ⟨b, off, rfl, ?_, ?_, ?_, ?_⟩ <;> rw [e]
    · simpa using hc 0 (by omega)
    · exact hc 1 (by omega)
    · exact hc 2 (by omega)
    · exact hc 3 (by omega)

theorem purseFrom_any (A : Option Addr) (xs : List Int) (c : Nat) (w : World) (hr : Row .i64 w A xs) :
    Calls Tryd.prog 77 #[.slice A xs.length c] w fun e w' => e = .returned (.tuple #[pv (nth xs 0) (nth xs 1) (nth xs 2) (nth xs 3), .bool (okP xs)]) ∧ Below w.heap.size w w' := by
  by_cases h4 : xs.length = 4
  · obtain ⟨b, off, rfl, c0, c1, c2, c3⟩ := hr.four h4
    have e : okP xs = inB (nth xs 0) (nth xs 1) (nth xs 2) (nth xs 3) := by simp [okP, h4]
    rw [h4]
    refine purseFrom_four b off c _ _ _ _ w _ c0 c1 c2 c3 fun W => ?_
    cases hb : inB (nth xs 0) (nth xs 1) (nth xs 2) (nth xs 3)
    · rw [e, hb]; exact inBounds_no _ _ _ _ _ hb
    · rw [e, hb]; exact inBounds_yes _ _ _ _ _ hb
  · have e : okP xs = false := by simp [okP, h4]
    have z : ∀ i, nth xs i = 0 := fun i => by simp [nth, h4]
    rw [e, z, z, z, z]
    exact purseFrom_len A xs.length c w (by rw [bne_iff_ne]; omega)

/-- Of two slices that are purses the first is within the second. -/
def okQ (xs ys : List Int) : Bool := (okP xs && okP ys) && inQ (nth xs 0) (nth xs 1) (nth xs 2) (nth xs 3) (nth ys 0) (nth ys 1) (nth ys 2) (nth ys 3)



end Go.Proofs.YtffccdpgpdganaaDoor

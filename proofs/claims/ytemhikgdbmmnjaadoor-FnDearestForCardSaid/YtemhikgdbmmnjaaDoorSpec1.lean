/- The model's PurseOk, CoinsIn, ValueOf, WithinOf, at every slice of ints: what each returns. -/
import Derived.Test.YtemhikgdbmmnjaaDoorPurse2
import Derived.Test.YtemhikgdbmmnjaaDoorWorth
namespace Go.Proofs.YtemhikgdbmmnjaaDoor
open Go.RowKit

/-- The first k numbers are in 0..20. -/
def Good (xs : List Int) (k : Nat) : Prop := ∀ j, j < k → 0 ≤ xs.getD j 0 ∧ xs.getD j 0 ≤ 20

theorem okP_bad {xs : List Int} {k : Nat} (hk : k < xs.length) (h : xs.getD k 0 < 0 ∨ 20 < xs.getD k 0) : okP xs = false := by
  cases ho : okP xs
  · rfl
  · have h4 := okP_len ho
    have e : ∀ i, nth xs i = xs.getD i 0 := fun i => by simp [nth, h4]
    have hb := okP_bnd ho
    simp only [e] at hb
    have : k = 0 ∨ k = 1 ∨ k = 2 ∨ k = 3 := by omega
    rcases this with rfl | rfl | rfl | rfl <;> omega

theorem okP_good {xs : List Int} (h : Good xs xs.length) : okP xs = ((xs.length : Int) == 4) := by
  rw [Bool.eq_iff_iff, okP_iff, inB_iff, beq_iff_eq]
  constructor
  · rintro ⟨h4, _⟩; omega
  · intro h4
    have h4' : xs.length = 4 := by omega
    have e : ∀ i, nth xs i = xs.getD i 0 := fun i => by simp [nth, h4']
    rw [h4'] at h
    simp only [e]
    exact ⟨h4', h 0 (by omega), h 1 (by omega), h 2 (by omega), h 3 (by omega)⟩



end Go.Proofs.YtemhikgdbmmnjaaDoor

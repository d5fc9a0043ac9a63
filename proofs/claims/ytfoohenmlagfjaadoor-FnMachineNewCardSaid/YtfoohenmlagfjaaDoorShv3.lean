/- The program's basketFrom at every slice of ints. -/
import Derived.Test.YtfoohenmlagfjaaDoorShv2
namespace Go.Proofs.YtfoohenmlagfjaaDoor
open Go.RowKit

/-- The basket that a row tells. -/
def q3 (xs : List Int) : Q3 := ⟨xs.getD 0 0, xs.getD 1 0, xs.getD 2 0⟩
def hasB (S : Sh) (q : Q3) : Bool := decide (0 ≤ q.x) && (decide (q.x ≤ S.a.s) && (decide (0 ≤ q.y) && (decide (q.y ≤ S.b.s) && (decide (0 ≤ q.z) && decide (q.z ≤ S.c.s)))))
theorem hasB_iff {S : Sh} {q : Q3} : hasB S q = true ↔ S.Has q := by
  simp only [hasB, Bool.and_eq_true, decide_eq_true_eq]
  exact ⟨fun ⟨a, b, c, d, e, f⟩ => ⟨a, b, c, d, e, f⟩, fun ⟨a, b, c, d, e, f⟩ => ⟨a, b, c, d, e, f⟩⟩
/-- The row is a basket of these shelves. -/
def bOk (S : Sh) (xs : List Int) : Bool := decide ((xs.length : Int) = S.m) && hasB S (q3 xs)
theorem bOk_iff {S : Sh} {xs : List Int} : bOk S xs = true ↔ (xs.length : Int) = S.m ∧ S.Has (q3 xs) := by
  simp [bOk, hasB_iff]


theorem Row.cells {w : World} {b off : Nat} {xs : List Int} (h : Row .i64 w (some ⟨b, off, none⟩) xs) : ∀ i, i < xs.length → w.cell? ⟨b, off + i, none⟩ = some (.int .i64 (xs.getD i 0)) := by
  rcases h with h | ⟨b', off', e, hc⟩
  · subst h; intro i hi; cases hi
  · injection e with e
    injection e with e1 e2 _
    subst e1; subst e2
    exact hc
theorem Row.addr {w : World} {A : Option Addr} {xs : List Int} (h : Row .i64 w A xs) (h0 : 0 < xs.length) : ∃ b off, A = some ⟨b, off, none⟩ := by
  rcases h with h | ⟨b, off, e, _⟩
  · subst h; cases h0
  · exact ⟨b, off, e⟩
theorem not_le2 {a b : Int} (h : ¬ (0 ≤ a ∧ a ≤ b)) : a < 0 ∨ (0 ≤ a ∧ b < a) := by omega


end Go.Proofs.YtfoohenmlagfjaaDoor

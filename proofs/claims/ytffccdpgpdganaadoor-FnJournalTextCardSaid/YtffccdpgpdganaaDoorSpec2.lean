/- The model's WithinOf, PutTogether, TakenOut, at every slice of ints: what each returns. -/
import Derived.Test.YtffccdpgpdganaaDoorSpec1
import Derived.Test.YtffccdpgpdganaaDoorHelp
import Derived.Test.YtffccdpgpdganaaDoorPurse3
import Derived.Deep.AppendLies
import Derived.Deep.RegionHeld3
import Derived.Laws.MakeOwn
namespace Go.Proofs.YtffccdpgpdganaaDoor
open Go.RowKit


/-- The cells of f 0, f 1, .., up to k of them. -/
def sums (f : Nat → Int) (k : Nat) : List Value := (List.range k).map fun i => .int .i64 (f i)
theorem sums_succ (f : Nat → Int) (k : Nat) : sums f (k + 1) = sums f k ++ [.int .i64 (f k)] := by
  simp [sums, List.range_succ]
theorem sums_get {f : Nat → Int} {k i : Nat} (h : i < k) : (sums f k)[i]? = some (.int .i64 (f i)) := by
  simp [sums, h]

/-- The cells of a purse that came in, one by one. -/
theorem Row.purse {w : World} {A : Option Addr} {xs : List Int} (h : Row .i64 w A xs) (ho : okP xs = true) :
    ∃ b off, A = some ⟨b, off, none⟩ ∧ (∀ k, k < 4 → w.cell? ⟨b, off + k, none⟩ = some (.int .i64 (nth xs k))) ∧ ∀ k, k < 4 → 0 ≤ nth xs k ∧ nth xs k ≤ 20 := by
  have h4 := okP_len ho
  have hb := okP_bnd ho
  have hbb : ∀ k, k < 4 → 0 ≤ nth xs k ∧ nth xs k ≤ 20 := fun k hk => by
    have : k = 0 ∨ k = 1 ∨ k = 2 ∨ k = 3 := by omega
    rcases this with rfl | rfl | rfl | rfl <;> omega
  have e : ∀ i, nth xs i = xs.getD i 0 := fun i => by simp [nth, h4]
  rcases h with h | ⟨b, off, rfl, hc⟩
  · subst h; cases h4
  · exact ⟨b, off, rfl, fun k hk => by rw [e]; exact hc k (by omega), hbb⟩

/-- What an owned row of ints reads as. -/
theorem own_row {w : World} {base n : Nat} {e : TypeId} {g cap : Nat} {f : Nat → Int} (h : w.ownsRow base e 1 (.slice (some ⟨g, 0, none⟩) n cap) n (sums f n)) :
    Row .i64 w (some ⟨g, 0, none⟩) ((List.range n).map f) := by
  refine .inr ⟨g, 0, rfl, fun i hi => ?_⟩
  have hi' : i < n := by simpa using hi
  have h1 := h.cells (g := g) rfl i _ (sums_get hi')
  have e1 : (⟨g, 0, none⟩ : Addr).add i = ⟨g, 0 + i, none⟩ := by
    unfold Addr.add
    by_cases h : i = 0 <;> simp [h]
  rw [e1] at h1
  rw [h1]
  simp [List.getD, hi']

/-- What comes back of the model: a slice over a row of its own that reads as the four numbers, and a truth. -/
def GivesRow (w : World) (f : Nat → Int) (r : Bool) (e : Ending) (w' : World) : Prop :=
  ∃ g cap, e = .returned (.tuple #[.slice (some ⟨g, 0, none⟩) 4 cap, .bool r]) ∧ Row .i64 w' (some ⟨g, 0, none⟩) ((List.range 4).map f) ∧ w.heap.size ≤ g ∧ Below w.heap.size w w'

/-- What comes back of the model where there is none: an empty slice, and false. -/
def GivesNone (w : World) (e : Ending) (w' : World) : Prop :=
  ∃ g, e = .returned (.tuple #[.slice (some ⟨g, 0, none⟩) 0 0, .bool false]) ∧ Below w.heap.size w w'

theorem grown_of_below {w w' : World} (h : Below w.heap.size w w') (row : Option Nat) : w.grownBy w' row :=
  ⟨h.os, h.tape, h.output, h.size, fun i hi _ => h.block i hi⟩

theorem infoInt : (Tryd.prog.info? 3).map (fun i => (i.zero, i.size, i.bytes)) = some (some (.int .i64 0), 1, 8) := by kernel_rfl



end Go.Proofs.YtffccdpgpdganaaDoor

/- The draws of the laws on machines. -/
import Derived.Test.YtgkhkphhpeiejaaDoorDrM
namespace Go.Proofs.YtgkhkphhpeiejaaDoor
open Go.RowKit

/-- A machine handed out. -/
def GotDM (w : World) (e : Ending) (w' : World) : Prop := ∃ v m, e = .returned v ∧ MRow w' v m ∧ SzM m ∧ Below w.heap.size w w'
def GotDMA (w : World) (e : Ending) (w' : World) : Prop := ∃ v m d n, e = .returned (.tuple #[v, .agg #[.int .i64 d, .int .i64 n]]) ∧ MRow w' v m ∧ SzM m ∧ Below w.heap.size w w'
def GotDMPG (w : World) (e : Ending) (w' : World) : Prop :=
  ∃ v m A1 cap1 xs A2 cap2 gs, e = .returned (.tuple #[v, .slice A1 xs.length cap1, .slice A2 gs.length cap2]) ∧ MRow w' v m ∧ SzM m ∧ Row .i64 w' A1 xs ∧ xs.length ≤ 4 ∧ GRow w' A2 gs ∧ gs.length ≤ 4 ∧ Below w.heap.size w w'
theorem MRowP.form {P : Nat → Prop} {w : World} {v : Value} {m : Mc} (h : MRowP P w v m) : ∃ X x Y y Z z, v = mcv X m.own.length x Y m.inn.length y Z m.gs.length z := by
  obtain ⟨A, a, B, b, C, c, e, _⟩ := h
  exact ⟨A, a, B, b, C, c, e⟩





end Go.Proofs.YtgkhkphhpeiejaaDoor

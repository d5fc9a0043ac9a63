/- The draws of the laws on runs. -/
import Derived.Test.YtgkhkphhpeiejaaDoorDrR
namespace Go.Proofs.YtgkhkphhpeiejaaDoor
open Go.RowKit

/-- Acts and results handed out; results alone. -/
def GotDR (w : World) (e : Ending) (w' : World) : Prop :=
  ∃ (A1 : Option Addr) (c1 : Nat) (L : List Ac) (A2 : Option Addr) (c2 : Nat) (M : List Rs), e = .returned (.tuple #[.slice A1 L.length c1, .slice A2 M.length c2]) ∧ ARow w' A1 L ∧ L.length ≤ 8 ∧ QRow w' A2 M ∧ M.length ≤ 9 ∧ Few4 M ∧ Below w.heap.size w w'
def GotDQ (w : World) (e : Ending) (w' : World) : Prop :=
  ∃ (A2 : Option Addr) (c2 : Nat) (M : List Rs), e = .returned (.slice A2 M.length c2) ∧ QRow w' A2 M ∧ M.length ≤ 9 ∧ Few4 M ∧ M.length ≤ c2 ∧ Below w.heap.size w w'




end Go.Proofs.YtgkhkphhpeiejaaDoor

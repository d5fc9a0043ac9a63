/- The draw of a purse and what is to be taken out of it; lists of four numbers as purses; the comparison of the laws. -/
import Derived.Test.YtffccdpgpdganaaDoorDraw3
import Derived.Test.YtffccdpgpdganaaDoorSpec2
namespace Go.Proofs.YtffccdpgpdganaaDoor
open Go.RowKit

theorem nth_range (f : Nat → Int) {i : Nat} (h : i < 4) : nth ((List.range 4).map f) i = f i := by
  have : i = 0 ∨ i = 1 ∨ i = 2 ∨ i = 3 := by omega
  rcases this with rfl | rfl | rfl | rfl <;> rfl
theorem range_nth {xs : List Int} (h : xs.length = 4) : (List.range 4).map (nth xs) = xs := by
  match xs, h with
  | [a, b, c, d], _ => rfl
theorem cells_range (f : Nat → Int) : (#[.int .i64 (f 0), .int .i64 (f 1), .int .i64 (f 2), .int .i64 (f 3)] : Array Value) = cellsOf ((List.range 4).map f) := rfl
theorem okP_range (f : Nat → Int) : okP ((List.range 4).map f) = inB (f 0) (f 1) (f 2) (f 3) := rfl

theorem Rd.below {w w' : World} {g : Nat} {A : Option Addr} {bs : List Int} {c : Nat} {p : Int} (h : Rd w g A bs c p) (hb : Below w.heap.size w w') : Rd w' g A bs c p :=
  ⟨h.1.kept hb, h.2.1.below hb, h.2.2⟩



end Go.Proofs.YtffccdpgpdganaaDoor

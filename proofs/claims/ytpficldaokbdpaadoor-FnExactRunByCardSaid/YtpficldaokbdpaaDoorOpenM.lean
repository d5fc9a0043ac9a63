/- A machine, an act that is handed in: what its cells hold. -/
import Derived.Test.YtpficldaokbdpaaDoorSh
import Derived.Test.YtpficldaokbdpaaDoorMch
import Derived.Deep.Strs
import Derived.ProofKit
namespace Go.Proofs.YtpficldaokbdpaaDoor
open Go.RowKit Go.ChangeShapes Go.WideShapes

theorem list3 {α : Type} : ∀ {L : List α}, L.length = 3 → ∃ a b c, L = [a, b, c]
  | [a, b, c], _ => ⟨a, b, c, rfl⟩
theorem list2 {α : Type} : ∀ {L : List α}, L.length = 2 → ∃ a b, L = [a, b]
  | [a, b], _ => ⟨a, b, rfl⟩
theorem open_row {H : Type} {enc : TypeId × Value → H} {W : World} {base : Nat} {spare : Nat → Bool} {held : Bool} {fuel : Nat} {v : Value} {x : DataW H × List MemPlace}
    (h : DataW.trod enc Tryd.prog W base spare held fuel 23 [v] = some x) : ∃ (A : Option Addr) (c : Nat) (xs : List Int), v = .slice A xs.length c ∧ Row .i64 W A xs ∧ xs.length ≤ maxLen := by
  rcases open_ints Tryd.underlying23 Tryd.underlying3 (by kernel_rfl) h with ⟨hcs, _⟩ | ⟨a, len, cap, zs, hcs, _, hl, hm, hz, _, hcell, _⟩
  · injection hcs with hcs
    exact ⟨none, 0, [], hcs, Row.nil _ _ _, Nat.zero_le _⟩
  · injection hcs with hcs
    have hle : len ≤ zs.length := by rw [hz]; split <;> omega
    have e : (zs.take len).length = len := by rw [List.length_take]; omega
    exact ⟨some a, cap, zs.take len, by rw [e]; exact hcs, row_of_ints hle hcell, by rw [e]; omega⟩
theorem open_machine {H : Type} {enc : TypeId × Value → H} {W : World} {base : Nat} {spare : Nat → Bool} {held : Bool} {fuel : Nat} {cs : Array Value} {x : DataW H × List MemPlace}
    (h : DataW.trod enc Tryd.prog W base spare held fuel 73 cs.toList = some x) :
    ∃ m : Mc, MRow W (.agg cs) m ∧ m.own.length ≤ maxLen ∧ m.inn.length ≤ maxLen ∧ m.gs.length ≤ maxLen := by
  obtain ⟨y0, y1, y2, n, _, hl, h0, h1, h2⟩ := Deep.trod_struct3 Tryd.underlying73 h
  have c1 : Tryd.prog.cellsOf 23 = 1 := by kernel_rfl
  have c2 : Tryd.prog.cellsOf 71 = 1 := by kernel_rfl
  have c3 : Tryd.prog.cellsOf 73 = 3 := by kernel_rfl
  rw [c3] at hl
  obtain ⟨L⟩ := cs
  obtain ⟨x0, x1, x2, rfl⟩ := list3 hl
  · replace h0 : DataW.trod enc Tryd.prog W base spare held n 23 (([x0, x1, x2].drop 0).take (Tryd.prog.cellsOf 23)) = some y0 := h0
    replace h1 : DataW.trod enc Tryd.prog W base spare held n 23 (([x0, x1, x2].drop 1).take (Tryd.prog.cellsOf 23)) = some y1 := h1
    replace h2 : DataW.trod enc Tryd.prog W base spare held n 71 (([x0, x1, x2].drop 2).take (Tryd.prog.cellsOf 71)) = some y2 := h2
    rw [c1] at h0 h1
    rw [c2] at h2
    obtain ⟨A, a, xs, rfl, r1, e1⟩ := open_row (by simpa using h0)
    obtain ⟨B, b, ys, rfl, r2, e2⟩ := open_row (by simpa using h1)
    obtain ⟨C, c, gs, hgs, r3, e3, e4⟩ := open_goods (cs := [x2]) (by simpa using h2)
    injection hgs with hgs
    subst hgs
    exact ⟨⟨xs, ys, gs⟩, ⟨A, a, B, b, C, c, rfl, r1, r2, r3⟩, e1, e2, by dsimp only; omega⟩
theorem open_act {H : Type} {enc : TypeId × Value → H} {W : World} {base : Nat} {spare : Nat → Bool} {held : Bool} {fuel : Nat} {cs : Array Value} {x : DataW H × List MemPlace}
    (h : DataW.trod enc Tryd.prog W base spare held fuel 74 cs.toList = some x) :
    ∃ d n : Int, Value.agg cs = .agg #[.int .i64 d, .int .i64 n] := by
  obtain ⟨y0, y1, n, _, hl, h0, h1⟩ := trod_struct2 Tryd.underlying74 h
  have c1 : Tryd.prog.cellsOf 3 = 1 := by kernel_rfl
  have c3 : Tryd.prog.cellsOf 74 = 2 := by kernel_rfl
  rw [c3] at hl
  obtain ⟨L⟩ := cs
  obtain ⟨x0, x1, rfl⟩ := list2 hl
  · replace h0 : DataW.trod enc Tryd.prog W base spare held n 3 (([x0, x1].drop 0).take (Tryd.prog.cellsOf 3)) = some y0 := h0
    replace h1 : DataW.trod enc Tryd.prog W base spare held n 3 (([x0, x1].drop 1).take (Tryd.prog.cellsOf 3)) = some y1 := h1
    rw [c1] at h0 h1
    obtain ⟨p, e1, _, _⟩ := DataW.trod_int Tryd.underlying3 h0
    obtain ⟨s, e2, _, _⟩ := DataW.trod_int Tryd.underlying3 h1
    simp at e1 e2
    subst e1; subst e2
    exact ⟨p, s, rfl⟩

end Go.Proofs.YtpficldaokbdpaaDoor

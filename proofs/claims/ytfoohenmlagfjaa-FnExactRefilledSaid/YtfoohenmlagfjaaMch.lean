/- Plain mathematics of the machine: what an act makes of it, by the model. -/
import Derived.Test.YtfoohenmlagfjaaGreedy3
import Derived.Test.YtfoohenmlagfjaaAft
import Derived.Test.YtfoohenmlagfjaaPurse3
namespace Go.Proofs.Ytfoohenmlagfjaa
open Go.RowKit

/-- A machine: its own coins, those that were put in, its goods. -/
structure Mc where
  own : List Int
  inn : List Int
  gs : List Gd
def okM (m : Mc) : Bool := okP m.own && (okP m.inn && okS m.gs)
theorem okM_iff {m : Mc} : okM m = true ↔ okP m.own = true ∧ okP m.inn = true ∧ okS m.gs = true := by simp [okM]
def noM : Mc := ⟨[], [], []⟩
def sum4 (xs ys : List Int) : List Int := (List.range 4).map fun i => nth xs i + nth ys i
def dif4 (xs ys : List Int) : List Int := (List.range 4).map fun i => nth xs i - nth ys i
def zero4 : List Int := [0, 0, 0, 0]
theorem sum4_length (xs ys : List Int) : (sum4 xs ys).length = 4 := by simp [sum4]
theorem dif4_length (xs ys : List Int) : (dif4 xs ys).length = 4 := by simp [dif4]
theorem okP_zero4 : okP zero4 = true := by decide

/-- What an act makes: the machine then, whether it was done, the piece, the coins. -/
structure Rs where
  done : Bool
  piece : Int
  out : List Int
def noR : Rs := ⟨false, 0, []⟩
/-- A new machine; a machine refilled. -/
def newM (own : List Int) (gs : List Gd) : Option Mc := if okP own && okS gs then some ⟨own, zero4, gs⟩ else none
theorem newM_some {own : List Int} {gs : List Gd} {m : Mc} (h : newM own gs = some m) : okP own = true ∧ okS gs = true ∧ m = ⟨own, zero4, gs⟩ := by
  unfold newM at h
  split at h
  · next hc =>
    simp only [Bool.and_eq_true] at hc
    injection h with h
    exact ⟨hc.1, hc.2, h.symm⟩
  · cases h
theorem newM_none {own : List Int} {gs : List Gd} (h : newM own gs = none) : okP own = false ∨ (okP own = true ∧ okS gs = false) := by
  unfold newM at h
  cases h1 : okP own
  · exact .inl rfl
  · cases h2 : okS gs
    · exact .inr ⟨rfl, rfl⟩
    · rw [h1, h2] at h; cases h
/-- How many coins a purse has. -/
def coins4 (xs : List Int) : Int := nth xs 0 + nth xs 1 + nth xs 2 + nth xs 3
def refillM (m : Mc) (own : List Int) (gs : List Gd) : Option Mc := if okM m = true ∧ coins4 m.inn ≤ 0 then newM own gs else none
theorem refillM_some {m r : Mc} {own : List Int} {gs : List Gd} (h : refillM m own gs = some r) : okM m = true ∧ coins4 m.inn = 0 ∧ newM own gs = some r := by
  unfold refillM at h
  split at h
  · next hc =>
    obtain ⟨⟨a1, a2⟩, ⟨b1, b2⟩, ⟨c1, c2⟩, d1, d2⟩ := okP_bnd (okM_iff.1 hc.1).2.1
    refine ⟨hc.1, ?_, h⟩
    have := hc.2
    unfold coins4 at this ⊢
    omega
  · cases h

/-- A machine as a value: three slices. -/
abbrev mcv (A : Option Addr) (na a : Nat) (B : Option Addr) (nb b : Nat) (C : Option Addr) (nc c : Nat) : Value := .agg #[.slice A na a, .slice B nb b, .slice C nc c]
/-- The value is the machine m, as it lies in memory. -/
def MRow (w : World) (v : Value) (m : Mc) : Prop :=
  ∃ A a B b C c, v = mcv A m.own.length a B m.inn.length b C m.gs.length c ∧ Row .i64 w A m.own ∧ Row .i64 w B m.inn ∧ GRow w C m.gs
theorem MRow.below {w w' : World} {v : Value} {m : Mc} (h : MRow w v m) (hb : Below w.heap.size w w') : MRow w' v m := by
  obtain ⟨A, a, B, b, C, c, e, h1, h2, h3⟩ := h
  exact ⟨A, a, B, b, C, c, e, h1.below hb, h2.below hb, h3.below hb⟩
/-- A result as a value. -/
def RRow (w : World) (v : Value) (r : Rs) : Prop := ∃ A c, v = .agg #[.bool r.done, .int .i64 r.piece, .slice A r.out.length c] ∧ Row .i64 w A r.out
theorem RRow.below {w w' : World} {v : Value} {r : Rs} (h : RRow w v r) (hb : Below w.heap.size w w') : RRow w' v r := by
  obtain ⟨A, c, e, h1⟩ := h
  exact ⟨A, c, e, h1.below hb⟩
/-- What an act hands back. -/
def GotAct (w : World) (r : Mc × Rs) (e : Ending) (w' : World) : Prop :=
  ∃ v u, e = .returned (.tuple #[v, u]) ∧ MRow w' v r.1 ∧ RRow w' u r.2 ∧ Below w.heap.size w w'
/-- What MachineNew and Refilled hand back. -/
def GotMc (w : World) (r : Option Mc) (e : Ending) (w' : World) : Prop :=
  ∃ v, e = .returned (.tuple #[v, .bool r.isSome]) ∧ MRow w' v (r.getD noM) ∧ Below w.heap.size w w'

end Go.Proofs.Ytfoohenmlagfjaa

/- The model's AfterBasket, at every slice of goods and of ints: the goods that are left, in new memory. -/
import Derived.Test.YtfoohenmlagfjaaDoorSps2
namespace Go.Proofs.YtfoohenmlagfjaaDoor
open Go.RowKit

/-- What is left of a good; of the first k goods. -/
def leftG (gs : List Gd) (xs : List Int) (i : Nat) : Gd := ⟨(gd gs i).p, (gd gs i).s - xs.getD i 0⟩
def leftTo (gs : List Gd) (xs : List Int) (k : Nat) : List Gd := (List.range k).map (leftG gs xs)
theorem leftTo_length (gs : List Gd) (xs : List Int) (k : Nat) : (leftTo gs xs k).length = k := by simp [leftTo]
theorem leftTo_succ (gs : List Gd) (xs : List Int) (k : Nat) : leftTo gs xs (k + 1) = leftTo gs xs k ++ [leftG gs xs k] := by simp [leftTo, List.range_succ]
/-- The cells of a list of goods. -/
def gcl : List Gd → List Value
  | [] => []
  | g :: gs => .int .i64 g.p :: .int .i64 g.s :: gcl gs
theorem gcl_append (a b : List Gd) : gcl (a ++ b) = gcl a ++ gcl b := by
  induction a with
  | nil => rfl
  | cons g a ih => simp [gcl, ih]
theorem gcl_length (gs : List Gd) : (gcl gs).length = gs.length * 2 := by
  induction gs with
  | nil => rfl
  | cons g a ih => simp [gcl, ih]; omega
theorem gcl_get : ∀ (gs : List Gd) (i : Nat), i < gs.length → (gcl gs)[i * 2]? = some (.int .i64 (gd gs i).p) ∧ (gcl gs)[i * 2 + 1]? = some (.int .i64 (gd gs i).s)
  | [], i, h => by cases h
  | g :: gs, 0, _ => ⟨rfl, rfl⟩
  | g :: gs, i + 1, h => by
    have := gcl_get gs i (by simpa using h)
    have e : (i + 1) * 2 = i * 2 + 2 := by omega
    rw [e]
    have e2 : gd (g :: gs) (i + 1) = gd gs i := rfl
    rw [e2]
    exact this

/-- The slice v owns the goods gs. -/
def OwnG (w : World) (base : Nat) (v : Value) (gs : List Gd) : Prop := w.ownsRow base 50 2 v gs.length (gcl gs)
theorem OwnG.grow {w : World} {base : Nat} {A : Option Addr} {n cap : Nat} {gs : List Gd} (h : OwnG w base (.slice A n cap) gs) : GRow w A gs := by
  rcases h.2 with ⟨hv, h0⟩ | ⟨g, cap', cur, hv, _⟩
  · exact .inl (List.eq_nil_of_length_eq_zero h0)
  · injection hv with hv _ _
    subst hv
    refine .inr ⟨g, 0, rfl, fun i hi => ?_⟩
    have e : ∀ j, (⟨g, 0, none⟩ : Addr).add j = ⟨g, j, none⟩ := fun j => by
      unfold Addr.add
      by_cases h : j = 0 <;> simp [h]
    have c1 := World.ownsRow.cells h (g := g) rfl (i * 2) _ (gcl_get gs i hi).1
    have c2 := World.ownsRow.cells h (g := g) rfl (i * 2 + 1) _ (gcl_get gs i hi).2
    rw [e] at c1 c2
    rw [Nat.zero_add]
    exact ⟨c1, c2⟩
theorem OwnG.form {w : World} {base : Nat} {v : Value} {gs : List Gd} (h : OwnG w base v gs) : ∃ A cap, v = .slice A gs.length cap := by
  rcases h.2 with ⟨rfl, h0⟩ | ⟨g, cap, cur, rfl, _⟩
  · exact ⟨none, 0, by rw [h0]⟩
  · exact ⟨_, _, rfl⟩
theorem OwnG.kept {w w' : World} {base : Nat} {v : Value} {gs : List Gd} (h : OwnG w base v gs) (hb : Below w.heap.size w w') : OwnG w' base v gs :=
  ⟨h.1, by
    rcases h.2 with h0 | ⟨g, cap, cur, hv, k1, k2, k3⟩
    · exact .inl h0
    · exact .inr ⟨g, cap, cur, hv, k1, (hb.block g (Array.getElem?_eq_some_iff.1 k2).1).trans k2, k3⟩⟩
theorem infoGood : (Tryd.prog.info? 50).map (fun i => (i.zero, i.size, i.bytes)) = some (some (.agg #[.int .i64 0, .int .i64 0]), 2, 16) := by kernel_rfl


end Go.Proofs.YtfoohenmlagfjaaDoor

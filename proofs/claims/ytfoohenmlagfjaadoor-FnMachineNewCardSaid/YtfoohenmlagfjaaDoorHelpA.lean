/- The helpers of the law of what is left: goods handed back, marks in them. -/
import Derived.Test.YtfoohenmlagfjaaDoorHelpR
import Derived.Test.YtfoohenmlagfjaaDoorAft
namespace Go.Proofs.YtfoohenmlagfjaaDoor
open Go.RowKit

/-- What lies below a bound stays. -/
theorem OwnG.below {w w' : World} {base : Nat} {v : Value} {gs : List Gd} {B : Nat} (h : OwnG w base v gs) (hb : Below B w w') (hs : ∀ k, v.ownBlock = some k → k < B) : OwnG w' base v gs :=
  ⟨h.1, by
    rcases h.2 with h0 | ⟨g, cap, cur, rfl, k1, k2, k3⟩
    · exact .inl h0
    · exact .inr ⟨g, cap, cur, rfl, k1, (hb.block g (hs g rfl)).trans k2, k3⟩⟩

/-- Block g begins with the goods ls. -/
def GAt (w : World) (g : Nat) (T : TypeId) (ls : List Gd) : Prop := ∃ cs, Blk w g T cs ∧ ls.length * 2 ≤ cs.size ∧ PairTo cs (gd ls) ls.length
theorem GAt.kept {w w' : World} {g : Nat} {T : TypeId} {ls : List Gd} (h : GAt w g T ls) (hb : Below w.heap.size w w') : GAt w' g T ls := by obtain ⟨cs, h1, h2⟩ := h; exact ⟨cs, h1.kept hb, h2⟩
theorem GAt.other {w w' : World} {g g1 : Nat} {T : TypeId} {ls : List Gd} (h : GAt w g T ls) (ho : ∀ g2, g2 ≠ g1 → w'.heap[g2]? = w.heap[g2]?) (hne : g ≠ g1) : GAt w' g T ls := by obtain ⟨cs, h1, h2⟩ := h; exact ⟨cs, h1.other ho hne, h2⟩
theorem GAt.row {w : World} {g : Nat} {T : TypeId} {ls : List Gd} (h : GAt w g T ls) : GRow w (some ⟨g, 0, none⟩) ls := by obtain ⟨cs, h1, _, h2⟩ := h; exact h2.row h1
theorem GAt.lt {w : World} {g : Nat} {T : TypeId} {ls : List Gd} (h : GAt w g T ls) : g < w.heap.size := by obtain ⟨cs, h1, _⟩ := h; exact h1.lt

/-- The goods that the program hands back beside true. -/
def GotGoodsP (w : World) (n : Nat) (ls : List Gd) (e : Ending) (w' : World) : Prop :=
  ∃ g, e = .returned (.tuple #[.slice (some ⟨g, 0, none⟩) n n, .bool true]) ∧ GAt w' g 79 ls ∧ w.heap.size ≤ g ∧ Below w.heap.size w w'

theorem left_pairs {gs : List Gd} (h : gs.length ≤ 3) (xs : List Int) : PairTo (sc ((shOf gs).minus (q3 xs))) (gd (leftTo gs xs gs.length)) (leftTo gs xs gs.length).length := by
  intro i hi
  rw [leftTo_length] at hi
  have e : gd (leftTo gs xs gs.length) i = leftG gs xs i := by simp [gd, leftTo, List.getD, hi]
  rw [e]
  have h3 : i < 3 := by omega
  match i, h3 with
  | 0, _ => exact ⟨rfl, rfl⟩
  | 1, _ => exact ⟨rfl, rfl⟩
  | 2, _ => exact ⟨rfl, rfl⟩

theorem heldGoodS_none (k : Int) (c : Nat) (A : Option Addr) (w : World) :
    Calls Tryd.prog 84 #[.slice A 0 c, .int .i64 k] w fun e w' => e = .returned (.int .i64 k) ∧ w = w' := by
  go_enter Tryd.func84, Tryd.ntmps84
  go_wp2
  refine wp_loop_rounds 1 ?_
  rw [rounds_succ]
  go_wp2
  go_ret
  exact ⟨rfl, rfl⟩

end Go.Proofs.YtfoohenmlagfjaaDoor

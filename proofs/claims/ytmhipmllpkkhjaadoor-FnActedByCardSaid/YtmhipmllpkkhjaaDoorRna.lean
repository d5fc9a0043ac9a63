/- Run, Owa, ActA, Out, in one text. -/
import Derived.Test.YtmhipmllpkkhjaaDoorMch
import Derived.Test.YtmhipmllpkkhjaaDoorLo
import Derived.Laws.AppendOwnNone
import Derived.Sort.LoopGhostIn
import Derived.Test.YtmhipmllpkkhjaaDoorPu
import Derived.BigRegion
namespace Go.Proofs.YtmhipmllpkkhjaaDoor
open Go.RowKit


end Go.Proofs.YtmhipmllpkkhjaaDoor

namespace Go.Proofs.YtmhipmllpkkhjaaDoor
open Go.RowKit Go.Maps

/-- The cells of acts. -/
def acl : List Ac → List Value
  | [] => []
  | a :: L => .int .i64 a.d :: .int .i64 a.n :: acl L
theorem acl_get : ∀ (L : List Ac) (i : Nat), i < L.length → (acl L)[i * 2]? = some (.int .i64 (ac L i).d) ∧ (acl L)[i * 2 + 1]? = some (.int .i64 (ac L i).n)
  | a :: L, 0, _ => ⟨rfl, rfl⟩
  | a :: L, i + 1, h => by
    have := acl_get L i (by simpa using h)
    have e : (i + 1) * 2 = i * 2 + 1 + 1 := by omega
    rw [e]
    exact this
/-- The slice v owns the acts L. -/
def OwnA (w : World) (base : Nat) (v : Value) (L : List Ac) : Prop := w.ownsRow base 52 2 v L.length (acl L)
theorem OwnA.nil (w : World) (base : Nat) : OwnA w base (.slice none 0 0) [] := World.ownsRow_nil w base _ _
theorem OwnA.kept {w w' : World} {base : Nat} {v : Value} {L : List Ac} (h : OwnA w base v L) (hb : Below w.heap.size w w') : OwnA w' base v L :=
  ⟨h.1, by
    rcases h.2 with h0 | ⟨g, cap, cur, hv, k1, k2, k3⟩
    · exact .inl h0
    · exact .inr ⟨g, cap, cur, hv, k1, (hb.block g (Array.getElem?_eq_some_iff.1 k2).1).trans k2, k3⟩⟩
theorem OwnA.form {w : World} {base : Nat} {v : Value} {L : List Ac} (h : OwnA w base v L) : ∃ A cap, v = .slice A L.length cap := by
  rcases h.2 with ⟨rfl, h0⟩ | ⟨g, cap, cur, rfl, _⟩
  · exact ⟨none, 0, by rw [h0]⟩
  · exact ⟨_, _, rfl⟩
theorem OwnA.aat {w : World} {base : Nat} {v : Value} {L : List Ac} (h : OwnA w base v L) (hL : 0 < L.length) : ∃ g cap, v = .slice (some ⟨g, 0, none⟩) L.length cap ∧ AAt w g 52 L ∧ base ≤ g := by
  rcases h.2 with ⟨_, h0⟩ | ⟨g, cap, cur, rfl, hb, hg, h1, _, h3, ht⟩
  · omega
  · refine ⟨g, cap, rfl, ⟨cur, hg, by omega, fun i hi => ?_⟩, hb⟩
    obtain ⟨e1, e2⟩ := acl_get L i hi
    have hj : ∀ j, j < L.length * 2 → cur[j]? = (acl L)[j]? := fun j hj => by
      rw [← ht, List.getElem?_take, if_pos hj]; simp
    exact ⟨(hj _ (by omega)).trans e1, (hj _ (by omega)).trans e2⟩
theorem OwnA.row {w : World} {base : Nat} {v : Value} {L : List Ac} (h : OwnA w base v L) : ∃ A cap, v = .slice A L.length cap ∧ ARow w A L := by
  by_cases h0 : 0 < L.length
  · obtain ⟨g, cap, rfl, h1, _⟩ := h.aat h0
    exact ⟨_, cap, rfl, h1.row⟩
  · obtain ⟨A, cap, rfl⟩ := h.form
    exact ⟨A, cap, rfl, .inl (List.eq_nil_of_length_eq_zero (by omega))⟩

end Go.Proofs.YtmhipmllpkkhjaaDoor

namespace Go.Proofs.YtmhipmllpkkhjaaDoor
open Go.RowKit Go.Maps



end Go.Proofs.YtmhipmllpkkhjaaDoor

namespace Go.Proofs.YtmhipmllpkkhjaaDoor
open Go.RowKit

end Go.Proofs.YtmhipmllpkkhjaaDoor

/- The draws of the laws on machines. -/
import Derived.Test.YtmhipmllpkkhjaaDoorDrM
namespace Go.Proofs.YtmhipmllpkkhjaaDoor
open Go.RowKit

theorem MRowP.form {P : Nat → Prop} {w : World} {v : Value} {m : Mc} (h : MRowP P w v m) : ∃ X x Y y Z z, v = mcv X m.own.length x Y m.inn.length y Z m.gs.length z := by
  obtain ⟨A, a, B, b, C, c, e, _⟩ := h
  exact ⟨A, a, B, b, C, c, e⟩





end Go.Proofs.YtmhipmllpkkhjaaDoor

/- The drawing of a slice of acts: at most eight come out of it. -/
import Derived.Test.YtmhipmllpkkhjaaDoorDrA
import Derived.Test.YtmhipmllpkkhjaaDoorRna
namespace Go.Proofs.YtmhipmllpkkhjaaDoor
open Go.RowKit

theorem Only.belowB {g : Nat} {w w5 w6 : World} (h : Only g w w5) (hb : Below w.heap.size w5 w6) (hg : g ≤ w.heap.size) : Only g w w6 :=
  ⟨Below.trans h.1 (hb.mono hg), Nat.le_trans h.2.1 hb.size, fun g2 hn hl => (hb.block g2 hl).trans (h.2.2 g2 hn hl)⟩
theorem Rd.belowB {w w' : World} {B g : Nat} {A : Option Addr} {bs : List Int} {c : Nat} {p : Int} (h : Rd w g A bs c p) (hb : Below B w w') (hg : g < B) (hA : ∀ a, A = some a → 0 < bs.length → a.block < B) : Rd w' g A bs c p := by
  refine ⟨h.1.below hb hg, ?_, h.2.2⟩
  rcases h.2.1 with h1 | ⟨b, off, rfl, hc⟩
  · exact .inl h1
  · exact .inr ⟨b, off, rfl, fun i hi => (hb.cell (p := ⟨b, off + i, none⟩) (show b < B from hA ⟨b, off, none⟩ rfl (by omega))).trans (hc i hi)⟩


end Go.Proofs.YtmhipmllpkkhjaaDoor

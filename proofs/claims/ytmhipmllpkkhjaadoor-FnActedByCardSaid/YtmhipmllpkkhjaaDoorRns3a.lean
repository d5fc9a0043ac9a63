/- Runs: what is put in and what is given, by the program and by the model. -/
import Derived.Test.YtmhipmllpkkhjaaDoorLo
import Derived.Test.YtmhipmllpkkhjaaDoorPu
namespace Go.Proofs.YtmhipmllpkkhjaaDoor
open Go.RowKit

/-- What the first k acts put in, as far as they are done. -/
def coinD (L : List Ac) (M : List Rs) (k : Nat) : Bool := ((ac L k).d == 0) && (rs M k).done
def putBad (L : List Ac) (M : List Rs) (k : Nat) : Prop := coinD L M k = true ∧ worth (ac L k).n < 0
instance (L : List Ac) (M : List Rs) (k : Nat) : Decidable (putBad L M k) := by unfold putBad; infer_instance
theorem worth_bnd (k : Int) : -1 ≤ worth k ∧ worth k ≤ 10 := by
  unfold worth
  repeat' split
  all_goals omega


end Go.Proofs.YtmhipmllpkkhjaaDoor

/- The finder of fewest coins, at the shares of as many kinds as the name says. -/
import Derived.Test.YtnoccmghclmpnaaDoorFa
import Derived.Deep.DeepCutAuto
import Derived.Deep.RegionHeld3
namespace Go.Proofs.YtnoccmghclmpnaaDoor
open Go.RowKit Go.Maps


end Go.Proofs.YtnoccmghclmpnaaDoor

/- The model's GreedyOf, at every slice of ints and every amount: what it returns. -/
import Derived.Test.YtfoohenmlagfjaaDoorGreedy3
import Derived.Test.YtfoohenmlagfjaaDoorValue
namespace Go.Proofs.YtfoohenmlagfjaaDoor
open Go.RowKit


end Go.Proofs.YtfoohenmlagfjaaDoor

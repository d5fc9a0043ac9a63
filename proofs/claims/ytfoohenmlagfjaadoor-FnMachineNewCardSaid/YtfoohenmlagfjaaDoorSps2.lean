/- The model's CostOf, StockWorth, AfterBasket, l3Sum, at every slice of goods and of ints. -/
import Derived.Test.YtfoohenmlagfjaaDoorSps
import Derived.Deep.AppendLies
namespace Go.Proofs.YtfoohenmlagfjaaDoor
open Go.RowKit



end Go.Proofs.YtfoohenmlagfjaaDoor

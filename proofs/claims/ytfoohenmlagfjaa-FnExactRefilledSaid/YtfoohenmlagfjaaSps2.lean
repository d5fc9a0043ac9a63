/- The model's CostOf, StockWorth, AfterBasket, l3Sum, at every slice of goods and of ints. -/
import Derived.Test.YtfoohenmlagfjaaSps
import Derived.Deep.AppendLies
namespace Go.Proofs.Ytfoohenmlagfjaa
open Go.RowKit



end Go.Proofs.Ytfoohenmlagfjaa

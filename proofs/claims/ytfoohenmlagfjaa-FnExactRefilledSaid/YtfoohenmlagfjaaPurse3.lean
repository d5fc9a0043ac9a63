/- The program's CoinsIn, ValueOf, PutTogether, WithinOf, TakenOut, at every slice of ints: what each returns. -/
import Derived.Test.YtfoohenmlagfjaaPurse2
namespace Go.Proofs.Ytfoohenmlagfjaa
open Go.RowKit





end Go.Proofs.Ytfoohenmlagfjaa

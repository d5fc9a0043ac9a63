/- The program's CoinsIn, ValueOf, PutTogether, WithinOf, TakenOut, at every slice of ints: what each returns. -/
import Derived.Test.YtffccdpgpdganaaDoorPurse2
import Derived.Test.YtffccdpgpdganaaDoorWorth
namespace Go.Proofs.YtffccdpgpdganaaDoor
open Go.RowKit





end Go.Proofs.YtffccdpgpdganaaDoor

/- What ValueOf of the program and of its model return: what all coins are worth together. -/
import Derived.Test.YtdlfdpdocpcnkaaPurse2
import Derived.Test.YtdlfdpdocpcnkaaWorth
import Derived.Test.YtdlfdpdocpcnkaaSpec1
namespace Go.Proofs.Ytdlfdpdocpcnkaa
open Go.RowKit

/-- What the coins of a purse are worth. -/
def valueOf (xs : List Int) : Int := nth xs 0 + nth xs 1 * 2 + nth xs 2 * 5 + nth xs 3 * 10



end Go.Proofs.Ytdlfdpdocpcnkaa

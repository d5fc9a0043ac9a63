/- Of the texts before: what these alone do not hold. -/
import Derived.Test.YtmhipmllpkkhjaaDoorPu
import Derived.Test.YtmhipmllpkkhjaaDoorFc
namespace Go.Proofs.YtmhipmllpkkhjaaDoor
open Go.RowKit



end Go.Proofs.YtmhipmllpkkhjaaDoor

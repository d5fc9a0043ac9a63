/- Texts as values. -/
import Derived.Test.YtffccdpgpdganaaDoorBase
namespace Go.Proofs.YtffccdpgpdganaaDoor
open Go.RowKit

/-- A part as a string value. -/
def strV (p : List UInt8) : Value := .string ⟨p.toArray⟩
theorem infoStr : (Tryd.prog.info? 9).map (fun i => (i.zero, i.size, i.bytes)) = some (some (.string ByteArray.empty), 1, 16) := by kernel_rfl

end Go.Proofs.YtffccdpgpdganaaDoor

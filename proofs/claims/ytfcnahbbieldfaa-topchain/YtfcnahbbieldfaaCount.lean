/- Contract of bits.Count. -/
import Derived.Test.YtfcnahbbieldfaaBits3
namespace Go.Proofs.Ytfcnahbbieldfaa
open Go.RowKit
set_option linter.unusedVariables false
set_option maxRecDepth 100000

/-- an array of bytes as a value -/
def aggB (bs : List UInt8) : Value := .agg (bs.map bv).toArray
theorem arr16T : Try.prog.underlying 23 = some (.array 16 5) := Try.underlying23
theorem i16 : (Try.prog.info? 23).map (·.size) = some 16 := by kernel_rfl

end Go.Proofs.Ytfcnahbbieldfaa

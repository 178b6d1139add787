/- Contract of bits.Count. -/
import Derived.Test.YtdogfopnjojliaaBits3
namespace Go.Proofs.Ytdogfopnjojliaa
open Go.RowKit
set_option linter.unusedVariables false

/-- an array of bytes as a value -/
def aggB (bs : List UInt8) : Value := .agg (bs.map bv).toArray
theorem arr16T : Try.prog.underlying 22 = some (.array 16 5) := Try.underlying22
theorem i16 : (Try.prog.info? 22).map (·.size) = some 16 := by kernel_rfl

end Go.Proofs.Ytdogfopnjojliaa

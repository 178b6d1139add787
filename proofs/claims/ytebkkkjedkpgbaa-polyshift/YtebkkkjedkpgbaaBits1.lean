/- Contracts of the functions of package bits, the smallest ones. -/
import Derived.Test.YtebkkkjedkpgbaaChecked
import Derived.WalkKit
import Derived.WalkSpells
import Derived.Lib.Hide
import Derived.Test.YtebkkkjedkpgbaaNum
import Derived.Test.YtebkkkjedkpgbaaMem
namespace Go.Proofs.Ytebkkkjedkpgbaa
open Go.RowKit
set_option linter.unusedVariables false
theorem uT : Try.prog.underlying 23 = some (.slice 5) := Try.underlying23
theorem s8 : (Try.prog.info? 5).map (·.size) = some 1 := by kernel_rfl

end Go.Proofs.Ytebkkkjedkpgbaa
/- The contract of (*State).Sum. -/
import Derived.Test.YtfcnahbbieldfaaSha13
namespace Go.Proofs.Ytfcnahbbieldfaa
open Go.RowKit
set_option maxRecDepth 100000
set_option linter.unusedVariables false
set_option linter.unusedSimpArgs false
variable {RR : List Value} {tyS : TypeId}
theorem nil_row (w : World) : Sl w none 0 [] := ⟨by simp, by simp [maxLen], .inl rfl⟩
end Go.Proofs.Ytfcnahbbieldfaa

/- The contract of (*State).Sum. -/
import Derived.Test.YtebkkkjedkpgbaaSha13
namespace Go.Proofs.Ytebkkkjedkpgbaa
open Go.RowKit
set_option linter.unusedVariables false
set_option linter.unusedSimpArgs false
theorem nil_row (w : World) : Sl w none 0 [] := ⟨by simp, by simp [maxLen], .inl rfl⟩
end Go.Proofs.Ytebkkkjedkpgbaa

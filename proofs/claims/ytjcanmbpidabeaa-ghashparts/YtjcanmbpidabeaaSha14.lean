/- The contract of (*State).Sum. -/
import Derived.Test.YtjcanmbpidabeaaSha13
namespace Go.Proofs.Ytjcanmbpidabeaa
open Go.RowKit
set_option linter.unusedVariables false
set_option linter.unusedSimpArgs false
theorem nil_row (w : World) : Sl w none 0 [] := ⟨by simp, by simp [maxLen], .inl rfl⟩
end Go.Proofs.Ytjcanmbpidabeaa

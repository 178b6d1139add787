/- The walk of the law ShaKept. -/
import Derived.Test.YtjcanmbpidabeaaSha15
import Derived.Test.YtjcanmbpidabeaaBits3
namespace Go.Proofs.Ytjcanmbpidabeaa
open Go.RowKit
set_option linter.unusedVariables false
set_option linter.unusedSimpArgs false
end Go.Proofs.Ytjcanmbpidabeaa

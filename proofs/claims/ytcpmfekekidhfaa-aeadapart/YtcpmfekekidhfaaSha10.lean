/- The sum of "abc", by evaluation. -/
import Derived.Test.YtcpmfekekidhfaaSha9
namespace Go.Proofs.Ytcpmfekekidhfaa
set_option maxRecDepth 100000 in
theorem sum_abc : (sumL [97, 98, 99]).take 4 = [186, 120, 22, 191] := by decide +kernel
end Go.Proofs.Ytcpmfekekidhfaa

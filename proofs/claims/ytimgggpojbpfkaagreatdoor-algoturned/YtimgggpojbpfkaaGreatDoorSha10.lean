/- The sum of "abc", by evaluation. -/
import Derived.Test.YtimgggpojbpfkaaGreatDoorSha9
namespace Go.Proofs.YtimgggpojbpfkaaGreatDoor
set_option maxRecDepth 100000 in
theorem sum_abc : (sumL [97, 98, 99]).take 4 = [186, 120, 22, 191] := by decide +kernel
end Go.Proofs.YtimgggpojbpfkaaGreatDoor

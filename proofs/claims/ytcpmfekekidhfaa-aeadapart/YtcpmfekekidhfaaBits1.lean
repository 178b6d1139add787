/- Contracts of the functions of package bits, the smallest ones. -/
import Derived.Test.YtcpmfekekidhfaaChecked
import Derived.WalkKit
import Derived.WalkSpells
import Derived.Lib.Hide
import Derived.Test.YtcpmfekekidhfaaNum
import Derived.Test.YtcpmfekekidhfaaMem
namespace Go.Proofs.Ytcpmfekekidhfaa
open Go.RowKit
set_option linter.unusedVariables false
set_option maxRecDepth 100000
theorem left_any (x : BitVec 32) (n : Int) (w : World) :
    Calls Try.prog 62 #[.int .u32 (x.toNat : Int), .int .i64 n] w fun e w' => e = .returned (.int .u32 ((rotl x n).toNat : Int)) ∧ w = w' := by
  have hk : (n % 32).toNat < 32 := by omega
  have ha := and31 n
  unfold rotl
  generalize (n % 32).toNat = k at hk ha
  have hs : (IntKind.u64.wrap (32 - (k : Int))).toNat = 32 - k := by rw [IntKind.wrap_u64]; omega
  have hm := Lib.hid (left_math x k hk)
  go_enter Try.func62, Try.ntmps62
  go_wp2
  go_ret
  exact ⟨ret_int hm.out, rfl⟩

theorem uT : Try.prog.underlying 22 = some (.slice 5) := Try.underlying22
theorem s8 : (Try.prog.info? 5).map (·.size) = some 1 := by kernel_rfl

end Go.Proofs.Ytcpmfekekidhfaa
/- Contracts of the functions of package bits, the smallest ones. -/
import Derived.Test.YteboeeijgpghoaaChecked
import Derived.WalkKit
import Derived.WalkSpells
import Derived.Lib.Hide
import Derived.Test.YteboeeijgpghoaaNum
import Derived.Test.YteboeeijgpghoaaMem
namespace Go.Proofs.Yteboeeijgpghoaa
open Go.RowKit
set_option linter.unusedVariables false
theorem left_any (x : BitVec 32) (n : Int) (w : World) :
    Calls Try.prog 27 #[.int .u32 (x.toNat : Int), .int .i64 n] w fun e w' => e = .returned (.int .u32 ((rotl x n).toNat : Int)) ∧ w = w' := by
  have hk : (n % 32).toNat < 32 := by omega
  have ha := and31 n
  unfold rotl
  generalize (n % 32).toNat = k at hk ha
  have hs : (IntKind.u64.wrap (32 - (k : Int))).toNat = 32 - k := by rw [IntKind.wrap_u64]; omega
  have hm := Lib.hid (left_math x k hk)
  go_enter Try.func27, Try.ntmps27
  go_wp2
  go_ret
  exact ⟨ret_int hm.out, rfl⟩

theorem uT : Try.prog.underlying 32 = some (.slice 5) := Try.underlying32
theorem s8 : (Try.prog.info? 5).map (·.size) = some 1 := by kernel_rfl

end Go.Proofs.Yteboeeijgpghoaa
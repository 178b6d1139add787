/- Contracts of the document's own answers for layer 1: Little, Big, PutLittle, PutBig. -/
import Derived.Test.YtjlljifllnmdoaaJoin1
namespace Go.Proofs.Ytjlljifllnmdoaa
open Go.RowKit
set_option maxRecDepth 100000
set_option linter.unusedVariables false
set_option linter.unusedSimpArgs false

theorem ref_step (U N x : Nat) (hU : U * x < 18446744073709551616) (hN : N + U * x < 18446744073709551616) :
    ∃ V M U' : Nat, IntKind.u64.wrap ((U : Int) * (x : Int)) = (V : Int) ∧ IntKind.u64.wrap ((N : Int) + (V : Int)) = (M : Int) ∧ IntKind.u64.wrap ((U : Int) * 256) = (U' : Int) ∧ M = N + U * x ∧ U' = U * 256 % 18446744073709551616 := by
  refine ⟨U * x, N + U * x, U * 256 % 18446744073709551616, ?_, ?_, ?_, rfl, rfl⟩
  · rw [IntKind.wrap_u64, ← Int.natCast_mul]; omega
  · rw [IntKind.wrap_u64]; omega
  · rw [IntKind.wrap_u64]; omega
theorem pow_lt8 (k : Nat) (hk : k < 8) : 256 ^ (k + 1) ≤ 18446744073709551616 := by
  have h : (256 : Nat) ^ 8 = 18446744073709551616 := by decide
  rw [← h]; exact Nat.pow_le_pow_right (by decide) (by omega)
theorem unit_step (k : Nat) (hk : k < 8) : 256 ^ k % 18446744073709551616 = 256 ^ k := by
  have := pow_lt8 k hk
  rw [Nat.pow_succ] at this
  have hp : 0 < 256 ^ k := Nat.pow_pos (by decide)
  exact Nat.mod_eq_of_lt (by omega)

theorem bigN_cons (x : UInt8) (l : List UInt8) : bigN (x :: l) = x.toNat * 256 ^ l.length + bigN l := by
  have := bigN_append [x] l
  simpa [bigN] using this
/-- the last j bytes -/
def lastL (bs : List UInt8) (j : Nat) : List UInt8 := bs.drop (bs.length - j)
theorem lastL_succ (bs : List UInt8) (j : Nat) (h : j < bs.length) : lastL bs (j + 1) = bs[bs.length - 1 - j] :: lastL bs j := by
  unfold lastL
  rw [List.drop_eq_getElem_cons (by omega)]
  simp only [show bs.length - (j + 1) + 1 = bs.length - j by omega, show bs.length - (j + 1) = bs.length - 1 - j by omega]
  rw [show bs.length - 1 - j + 1 = bs.length - j by omega]
theorem lastL_len (bs : List UInt8) (j : Nat) (h : j ≤ bs.length) : (lastL bs j).length = j := by simp [lastL]; omega

theorem lastPut (x many j : Nat) (h : j < many) : putBig x many = (putLittle x many).reverse := putBig_rev x many

end Go.Proofs.Ytjlljifllnmdoaa
/- The walks of the laws BitsBack, BitsZeros. -/
import Derived.Test.YtjcanmbpidabeaaAwake1
import Derived.Test.YtjcanmbpidabeaaLift
import Derived.Deep.QuietTactic
import Derived.BigQuiet
import Derived.Deep.RegionLaw
namespace Go.Proofs.Ytjcanmbpidabeaa
open Go.RowKit
set_option linter.unusedVariables false

theorem getD_put (x n i : Nat) (h : i < n) : (putBig x n)[i]? = some (byteAt x (n - 1 - i)) ∧ (putLittle x n)[i]? = some (byteAt x i) := by
  simp [putBig, putLittle, h]

theorem own_put {w : World} {base g n : Nat} {bs : List UInt8} (hg : base ≤ g) (hl : bs.length = n) (hn : n ≤ 2147483647) (h : w.heap[g]? = some (.cells (bs.map bv).toArray 5 (0, 0))) :
    w.ownsRow base 5 1 (.slice (some ⟨g, 0, none⟩) n n) n (bs.map bv) :=
  ⟨by simp [hl], .inr ⟨g, n, _, rfl, hg, h, Nat.le_refl _, by simp [maxLen]; omega, by simp [hl], by simp [← hl, List.take_of_length_le]⟩⟩

theorem own_zeros {W : World} {base g k : Nat} (h : W.heap[g]? = some (.cells (Array.replicate k (.int .u8 0)) 5)) (hb : base ≤ g) (hk : k ≤ 2147483647) :
    W.ownsRow base 5 1 (.slice (some ⟨g, 0, none⟩) k k) k ((List.replicate k (0 : UInt8)).map bv) :=
  own_put hb (by simp) hk (by rw [h]; simp [bv])
theorem below_own {W0 w w2 : World} {base g n c : Nat} (h : Below base W0 w) (hgr : w.grownBy w2 (Value.slice (some ⟨g, 0, none⟩) n c).ownBlock) (hb : base ≤ g) (hs : base ≤ w.heap.size) : Below base W0 w2 :=
  h.trans (grown_below hgr hb hs)
theorem zeros_big (k x : Nat) (hx : x < 18446744073709551616) : big (List.replicate k 0 ++ putBig x 8) = x := by
  have hl : (List.replicate k (0 : UInt8) ++ putBig x 8).length - 8 = (List.replicate k (0 : UInt8)).length := by simp [putBig_len]
  rw [big, hl, List.drop_left, bigN_put, Nat.mod_eq_of_lt (by simpa using hx)]
theorem front_big (a : List UInt8) (k x : Nat) (hx : x < 18446744073709551616) : big (a ++ (List.replicate k 0 ++ putBig x 8)) = x := by
  have hl : (a ++ (List.replicate k (0 : UInt8) ++ putBig x 8)).length - 8 = (a ++ List.replicate k (0 : UInt8)).length := by simp [putBig_len]; omega
  rw [big, hl, ← List.append_assoc, List.drop_left, bigN_put, Nat.mod_eq_of_lt (by simpa using hx)]
theorem zeros_little (k x : Nat) (hx : x < 18446744073709551616) : littleN ((putLittle x 8 ++ List.replicate k 0).take 8) = x := by
  rw [List.take_append_of_le_length (by rw [putLittle_len]; omega), List.take_of_length_le (by rw [putLittle_len]; omega), littleN_put, Nat.mod_eq_of_lt (by simpa using hx)]

end Go.Proofs.Ytjcanmbpidabeaa
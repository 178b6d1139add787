/- The walk of the law BitsSteps. -/
import Derived.Test.YtjmpbcfbfbjenaaCount
import Derived.Test.YtjmpbcfbfbjenaaAwake1
import Derived.Test.YtjmpbcfbfbjenaaLiftA
import Derived.Test.YtjmpbcfbfbjenaaReg
namespace Go.Proofs.Ytjmpbcfbfbjenaa
open Go.RowKit
set_option maxRecDepth 100000
set_option linter.unusedVariables false
set_option linter.unusedSimpArgs false

theorem countL_len (c : List UInt8) (n : Nat) : (countL c n).length = 16 := by simp [countL, putBig_len]
theorem bigN_count (c : List UInt8) (n : Nat) : bigN (countL c n) = (bigN c + n) % 340282366920938463463374607431768211456 := by
  rw [countL, bigN_put]
  have : (256 : Nat) ^ 16 = 340282366920938463463374607431768211456 := by decide
  rw [this, Nat.mod_mod]
theorem count_count (c : List UInt8) (n m : Nat) : countL (countL c n) m = countL c (n + m) := by
  rw [countL, bigN_count, countL]
  congr 1
  omega
theorem putBig_big (c : List UInt8) : putBig (bigN c) c.length = c := by
  suffices h : ∀ l : List UInt8, putBig (bigN l.reverse) l.length = l.reverse by
    have := h c.reverse; simpa using this
  intro l
  induction l with
  | nil => simp [putBig]
  | cons b l ih =>
    rw [List.reverse_cons, bigN_snoc, List.length_cons, putBig_split]
    have hb : b.toNat < 256 := b.toNat_lt
    have e : (bigN l.reverse * 256 + b.toNat) / 256 ^ 1 = bigN l.reverse := by omega
    rw [e, ih]
    congr 1
    simp only [putBig, List.range_succ, List.range_zero, List.nil_append, List.map_cons, List.map_nil, byteAt, Nat.pow_zero, Nat.div_one]
    congr 1
    rw [← UInt8.toNat_inj, UInt8.toNat_ofNat']; omega
theorem count_zero (c : List UInt8) (hc : c.length = 16) : countL c 0 = c := by
  have h := bigN_lt c
  rw [hc, show (256 : Nat) ^ 16 = 340282366920938463463374607431768211456 by decide] at h
  rw [countL, Nat.add_zero, Nat.mod_eq_of_lt h, ← hc]
  exact putBig_big c
theorem count_inj (c : List UInt8) (n m : Nat) (hn : n < 4294967296) (hm : m < 4294967296) : countL c n = countL c m ↔ n = m := by
  constructor
  · intro h
    have h2 := congrArg bigN h
    rw [bigN_count, bigN_count] at h2
    omega
  · rintro rfl; rfl

theorem i16' (bs : List UInt8) (h : bs.length = 16) : (Try.prog.info? 23).map (·.size) = some (bs.map bv).length := by rw [List.length_map, h]; exact i16
end Go.Proofs.Ytjmpbcfbfbjenaa

/- The reference's small functions of layer 2: right, Round, Start. -/
import Derived.Test.YtjmpbcfbfbjenaaSha5
import Derived.Deep.QuietTactic
import Derived.BigQuiet
namespace Go.Proofs.Ytjmpbcfbfbjenaa
open Go.RowKit
set_option linter.unusedVariables false
set_option maxRecDepth 100000
set_option linter.unusedSimpArgs false
theorem right_math (x : W32) (n : Nat) (h1 : 1 ≤ n) (h2 : n ≤ 31) :
    (((x.toNat : Int) / ((2 ^ n : Nat) : Int) % 4294967296 + (x.toNat : Int) * (2 ^ min (32 - n) 32 % 4294967296) % 4294967296) % 4294967296) = ((rotl x (-(n : Int))).toNat : Int) := by
  have e0 : (-(n : Int) % 32).toNat = 32 - n := by omega
  have hlt : (2 : Nat) ^ (32 - n) < 4294967296 := Nat.lt_of_lt_of_le (Nat.pow_lt_pow_right (by omega) (show 32 - n < 32 by omega)) (by decide)
  have e1 : ((2 : Int) ^ min (32 - n) 32 % 4294967296) = ((2 ^ (32 - n) : Nat) : Int) := by
    rw [Nat.min_eq_left (by omega), show ((2 : Int) ^ (32 - n)) = ((2 ^ (32 - n) : Nat) : Int) by simp]; generalize 2 ^ (32 - n) = q at hlt ⊢; omega
  have hx := x.isLt
  have hq : x.toNat / 2 ^ n < 2 ^ (32 - n) := by
    rw [Nat.div_lt_iff_lt_mul (Nat.pow_pos (by omega)), ← Nat.pow_add, show 32 - n + n = 32 by omega]; exact hx
  have hm : x.toNat * 2 ^ (32 - n) % 4294967296 % 2 ^ (32 - n) = 0 := by
    have : (4294967296 : Nat) = 2 ^ (32 - n) * 2 ^ n := by rw [← Nat.pow_add, show 32 - n + n = 32 by omega]
    rw [this, Nat.mod_mul_right_mod]; exact Nat.mul_mod_left _ _
  have hs : x.toNat * 2 ^ (32 - n) % 4294967296 + x.toNat / 2 ^ n < 4294967296 := by
    rw [← nat_join (32 - n) _ _ hm hq]
    exact Nat.or_lt_two_pow (n := 32) (Nat.mod_lt _ (by decide)) (Nat.lt_trans hq hlt)
  rw [rotl, e0, BitVec.rotateLeft_def, Nat.mod_eq_of_lt (show 32 - n < 32 by omega), show 32 - (32 - n) = n by omega, BitVec.toNat_or, BitVec.toNat_shiftLeft, BitVec.toNat_ushiftRight, Nat.shiftLeft_eq, Nat.shiftRight_eq_div_pow, nat_join (32 - n) _ _ hm hq, e1]
  generalize 2 ^ (32 - n) = Q at *
  generalize 2 ^ n = P at *
  have : ((x.toNat : Int) / (P : Int)) = ((x.toNat / P : Nat) : Int) := by simp
  rw [this, ← Int.natCast_mul]
  generalize x.toNat / P = A at *
  generalize x.toNat * Q = B at *
  clear this e1 hm
  simp only [Nat.reducePow] at *
  omega
theorem wpList_run {P : Program} {w w' : World} {ops : Array Oper} {rest : List Oper} {o : Oper} {a : Act} {Q : Exit → Act → World → Prop} (hw : Region.wanted o (yielded ops a.tmps) = true) {v : Value}
    (hrun : (execOp a.eval o).run P w = .ok (.value v) w') (h : wpList P ops Q rest (a.put o.dst v) w') : wpList P ops Q (o :: rest) a w := by
  unfold wpList
  rw [if_pos hw]
  refine .inl ?_
  unfold Oper.wp
  simp only [hrun]
  exact h
theorem roundCells : ∀ i, i < 64 → (roundsL.map fun (n : Nat) => Value.int .u32 (n : Int))[i]? = some (wv (kL i)) := by
  intro i hi
  have h3 : i < roundsL.length := hi
  have h5 : roundsL.getD i 0 < 4294967296 := by revert i; decide
  simp only [List.getD, List.getElem?_eq_getElem h3, Option.getD_some] at h5
  simp only [wv, kL, List.getElem?_map, List.getD, List.getElem?_eq_getElem h3, Option.getD_some, Option.map_some, BitVec.toNat_ofNat, Nat.mod_eq_of_lt h5]
def roundsV : List Value := roundsL.map fun (n : Nat) => Value.int .u32 (n : Int)
theorem roundsV_one : ∀ v ∈ roundsV, v.oneCell' = true := by
  intro v hv
  obtain ⟨x, _, rfl⟩ := List.mem_map.1 hv
  rfl
end Go.Proofs.Ytjmpbcfbfbjenaa

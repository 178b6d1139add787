/- The contract of sha.spread. -/
import Derived.Test.YtjmpbcfbfbjenaaSha2
import Derived.Test.YtjmpbcfbfbjenaaBits2
import Derived.Test.YtjmpbcfbfbjenaaReg2
import Derived.Deep.MidRow
namespace Go.Proofs.Ytjmpbcfbfbjenaa
open Go.RowKit
set_option maxRecDepth 100000
set_option linter.unusedVariables false
set_option linter.unusedSimpArgs false

/-- the i-th number of a block -/
def wordAt (b : List UInt8) (i : Nat) : W32 := BitVec.ofNat 32 (bigN ((b.drop (4 * i)).take 4))
def next (l : List W32) (i : Nat) : W32 := l.getD i 0 + shiftL (l.getD (i + 1) 0) 7 18 3 + l.getD (i + 9) 0 + shiftL (l.getD (i + 14) 0) 17 19 10
def spreadN (b : List UInt8) : Nat → List W32
  | 0 => (List.range 16).map (wordAt b)
  | n + 1 => spreadN b n ++ [next (spreadN b n) n]
theorem spreadN_len (b : List UInt8) (n : Nat) : (spreadN b n).length = 16 + n := by
  induction n with
  | zero => simp [spreadN]
  | succ n ih => simp [spreadN, ih]; omega
/-- the row as it lies in memory behind i numbers of the first 16, behind n of the other 48 -/
def rowA (b : List UInt8) (i : Nat) : List W32 := (List.range i).map (wordAt b) ++ List.replicate (64 - i) 0
def rowB (b : List UInt8) (n : Nat) : List W32 := spreadN b n ++ List.replicate (48 - n) 0
theorem rowA_step (b : List UInt8) (i : Nat) (hi : i < 64) : (rowA b i).set i (wordAt b i) = rowA b (i + 1) := by
  unfold rowA
  rw [List.range_succ, List.map_append, List.append_assoc, show 64 - i = (64 - (i + 1)) + 1 by omega, List.replicate_succ]
  rw [List.set_append_right _ _ (by simp)]
  simp
theorem rowB_step (b : List UInt8) (n : Nat) (hn : n < 48) : (rowB b n).set (n + 16) (next (rowB b n) n) = rowB b (n + 1) := by
  have hg : ∀ j, j < 16 + n → (rowB b n).getD j 0 = (spreadN b n).getD j 0 := by
    intro j hj
    unfold rowB
    rw [List.getD_eq_getElem?_getD, List.getD_eq_getElem?_getD, List.getElem?_append_left (by rw [spreadN_len]; exact hj)]
  have hx : next (rowB b n) n = next (spreadN b n) n := by
    unfold next
    rw [hg n (by omega), hg (n + 1) (by omega), hg (n + 9) (by omega), hg (n + 14) (by omega)]
  rw [hx]
  unfold rowB
  rw [spreadN, List.append_assoc, show 48 - n = (48 - (n + 1)) + 1 by omega, List.replicate_succ, List.set_append_right _ _ (by rw [spreadN_len]; omega), spreadN_len]
  simp [show n + 16 - (16 + n) = 0 by omega]
theorem rowA_end (b : List UInt8) : rowA b 16 = rowB b 0 := rfl
theorem rowB_end (b : List UInt8) : rowB b 48 = spreadN b 48 := by simp [rowB]
theorem rowA_len (b : List UInt8) (i : Nat) (hi : i ≤ 64) : (rowA b i).length = 64 := by simp [rowA]; omega
theorem rowB_len (b : List UInt8) (i : Nat) (hi : i ≤ 48) : (rowB b i).length = 64 := by simp [rowB, spreadN_len]; omega
theorem rowA_zero (b : List UInt8) : ((rowA b 0).map wv) = List.replicate 64 (Value.int .u32 0) := by simp [rowA, wv]
theorem word_big (b : List UInt8) (i : Nat) : big ((b.drop (4 * i)).take 4) = (wordAt b i).toNat := by
  have hl : ((b.drop (4 * i)).take 4).length ≤ 4 := by simp; omega
  have h := bigN_lt ((b.drop (4 * i)).take 4)
  have h4 : 256 ^ ((b.drop (4 * i)).take 4).length ≤ 256 ^ 4 := Nat.pow_le_pow_right (by decide) hl
  unfold wordAt
  rw [big, show ((b.drop (4 * i)).take 4).length - 8 = 0 by omega, List.drop_zero, BitVec.toNat_ofNat, Nat.mod_eq_of_lt]
  calc _ < _ := h
    _ ≤ 256 ^ 4 := h4
    _ = 2 ^ 32 := by decide
theorem store_cell {P : Program} {ty : TypeId} {k : IntKind} (hu : P.underlying ty = some (.int k)) (hs : (P.info? ty).map (·.size) = some 1) {w : World} {b o : Nat} {v : Value} {z : Int} (h : w.cell? ⟨b, o, none⟩ = some v) (hf : w.frozen? ⟨b, o, none⟩ = false) :
    (Instr.storeAt ty (.pointer (some ⟨b, o, none⟩)) (.int k z)).run P w = .ok () (w.setCell ⟨b, o, none⟩ (.int k z)) := by
  simp [go_sem, Instr.storeAt, Instr.sureAddr, storeVar, isAgg, run_underlying hu, sizeOf_one hs, Value.cells, storeCells, Result.andThen, Addr.add_mid, h, hf]
theorem step_st1 {P : Program} {w w' : World} {ops : Array Oper} {o : Oper} {a : Act} {K : Act → World → Prop} {Q : Exit → Act → World → Prop} {E : Prop} (hg : o.guard = none) (ty : TypeId) (x y : Operand)
    (ho : o.op = .store ty x y) (hrun : (Instr.storeAt ty (a.eval x) (a.eval y)).run P w = .ok () w') (h : K (a.put o.dst undef) w') : if Region.wanted o (yielded ops a.tmps) = true then Oper.wp P o a w K Q else E := by
  have hw : Region.wanted o (yielded ops a.tmps) = true := by simp [Region.wanted, hg]
  rw [if_pos hw]
  unfold Oper.wp execOp
  simp only [ho, Sem.run_bind, hrun, Result.andThen_ok]
  exact h

end Go.Proofs.Ytjmpbcfbfbjenaa

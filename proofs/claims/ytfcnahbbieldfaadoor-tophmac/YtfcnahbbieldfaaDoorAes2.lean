/- The contracts of the table's calls, and of each. -/
import Derived.Test.YtfcnahbbieldfaaDoorAes1
namespace Go.Proofs.YtfcnahbbieldfaaDoor
open Go.RowKit
set_option linter.unusedVariables false
set_option maxRecDepth 100000
set_option linter.unusedSimpArgs false
theorem bcellT {w : World} {g : Nat} {bs : List UInt8} {t : TypeId} {fr : Nat × Nat} (h : w.heap[g]? = some (.cells (bs.map bv).toArray t fr)) (i : Nat) (hi : i < bs.length) : w.cell? ⟨g, i, none⟩ = some (.int .u8 ((bs.getD i 0).toNat : Int)) := by
  rw [cell_of_heap h, List.getElem?_map, List.getElem?_eq_getElem hi]; simp [hi, List.getD, bv]
/-- the number of the bytes of x by the table, the first k of them -/
def wordN (T : List UInt8) (x : W32) (k : Nat) : Nat := littleN ((List.range k).map fun i => T.getD (byteAt x.toNat i).toNat 0)
def subW (T : List UInt8) (x : W32) : W32 := BitVec.ofNat 32 (wordN T x 4)
theorem wordN_lt (T : List UInt8) (x : W32) (k : Nat) : wordN T x k < 256 ^ k := by
  have := littleN_lt ((List.range k).map fun i => T.getD (byteAt x.toNat i).toNat 0)
  simpa [wordN] using this
theorem wordN_succ (T : List UInt8) (x : W32) (k : Nat) : wordN T x (k + 1) = wordN T x k + 256 ^ k * (T.getD (byteAt x.toNat k).toNat 0).toNat := by
  unfold wordN
  rw [List.range_succ, List.map_append, List.map_singleton, littleN_snoc]; simp
theorem subW_toNat (T : List UInt8) (x : W32) : ((subW T x).toNat : Int) = (wordN T x 4 : Int) := by
  have := wordN_lt T x 4
  rw [subW, BitVec.toNat_ofNat, Nat.mod_eq_of_lt (by omega)]
theorem or_shl32 (N x k : Nat) (hN : N < 256 ^ k) (hx : x < 256) (hk : k < 4) : bits .or .u32 (N : Int) ((x : Int) * 2 ^ (8 * k) % 4294967296) = ((N + 256 ^ k * x : Nat) : Int) := by
  have h8 : (256 : Nat) ^ 4 = 4294967296 := by decide
  have h1 : 256 ^ k * x < 256 ^ (k + 1) := by
    rw [Nat.pow_succ]; exact Nat.mul_lt_mul_of_pos_left hx (Nat.pow_pos (by decide))
  have h2 : 256 ^ (k + 1) ≤ 256 ^ 4 := Nat.pow_le_pow_right (by decide) (by omega)
  have h3 : (256 : Nat) ^ k ≤ 256 ^ 4 := Nat.pow_le_pow_right (by decide) (by omega)
  have e : ((x : Int) * 2 ^ (8 * k)) = ((256 ^ k * x : Nat) : Int) := by rw [pow256, Nat.mul_comm (2 ^ (8 * k)) x]; simp
  rw [e, Int.emod_eq_of_lt (by omega) (by omega), u32_or_nat _ _ (by omega) (by omega), Nat.or_comm, nat_join (8 * k) _ N ?_ (by rw [← pow256]; exact hN)]
  · rw [Nat.add_comm]
  · rw [← pow256]; exact Nat.mul_mod_right _ _
theorem at_math32 (x : W32) (i : Nat) (hi : i < 4) : (x.toNat : Int) / 2 ^ (8 * i) % 256 = ((byteAt x.toNat i).toNat : Int) := by
  have := at_math x.toNat i (by have := x.isLt; omega)
  rw [Nat.min_eq_left (by omega)] at this; exact this
theorem s32' : (Tryd.prog.info? 32).map (·.size) = some 1 := by kernel_rfl
def eachN (f : W32 → W32) (s : List W32) (i : Nat) : List W32 := (s.take i).map f ++ s.drop i
theorem eachN_step (f : W32 → W32) (s : List W32) (i : Nat) (hi : i < s.length) : (eachN f s i).set i (f (s.getD i 0)) = eachN f s (i + 1) := by
  have hl : ((s.take i).map f).length = i := by simp; omega
  unfold eachN
  rw [List.set_append_right _ _ (by omega), hl, Nat.sub_self, List.drop_eq_getElem_cons hi, List.set_cons_zero, List.take_succ_eq_append_getElem hi, List.map_append, List.append_assoc]
  simp [List.getD, hi]
theorem eachN_get (f : W32 → W32) (s : List W32) (i : Nat) (hi : i < s.length) : (eachN f s i).getD i 0 = s.getD i 0 := by
  have hl : ((s.take i).map f).length = i := by simp; omega
  rw [eachN, List.getD_eq_getElem?_getD, List.getElem?_append_right (by omega), hl, List.getElem?_drop, List.getD_eq_getElem?_getD]; simp
theorem eachN_len (f : W32 → W32) (s : List W32) (i : Nat) : (eachN f s i).length = s.length := by simp [eachN]; omega
theorem eachN_end (f : W32 → W32) (s : List W32) : eachN f s s.length = s.map f := by simp [eachN]
end Go.Proofs.YtfcnahbbieldfaaDoor

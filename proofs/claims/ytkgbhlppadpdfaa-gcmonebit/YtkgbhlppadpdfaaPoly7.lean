/- poly: Clamp, New; a state in memory. -/
import Derived.Test.YtkgbhlppadpdfaaPoly6
import Derived.Deep.MidRow
namespace Go.Proofs.Ytkgbhlppadpdfaa
open Go.RowKit
set_option maxRecDepth 100000
set_option linter.unusedVariables false
set_option linter.unusedSimpArgs false
def clampA (l : List UInt8) : Nat → List UInt8
  | 0 => l
  | i + 1 => (clampA l i).set (4 * i + 3) ((clampA l i).getD (4 * i + 3) 0 &&& 15)
def clampB (l : List UInt8) : Nat → List UInt8
  | 0 => l
  | i + 1 => (clampB l i).set (4 * i + 4) ((clampB l i).getD (4 * i + 4) 0 &&& 252)
theorem clampA_len (l : List UInt8) (i : Nat) : (clampA l i).length = l.length := by
  induction i with
  | zero => rfl
  | succ i ih => rw [clampA, List.length_set, ih]
theorem clampB_len (l : List UInt8) (i : Nat) : (clampB l i).length = l.length := by
  induction i with
  | zero => rfl
  | succ i ih => rw [clampB, List.length_set, ih]
/-- the first half of a key, clamped -/
def clampL (l : List UInt8) : List UInt8 := clampB (clampA l 4) 3
theorem clampL_len (l : List UInt8) : (clampL l).length = l.length := by rw [clampL, clampB_len, clampA_len]
theorem bcell {w : World} {g : Nat} {l : List UInt8} {t : TypeId} {fr : Nat × Nat} (h : w.heap[g]? = some (.cells (l.map bv).toArray t fr)) (i : Nat) (hi : i < l.length) : w.cell? ⟨g, i, none⟩ = some (.int .u8 ((l.getD i 0).toNat : Int)) := by
  rw [cell_of_heap h, List.getElem?_map]
  simp [List.getD, hi, bv]
theorem bst_row {W W' : World} {g i B : Nat} {l : List UInt8} {t : TypeId} {v : UInt8} (hW : W.setCell ⟨g, i, none⟩ (.int .u8 (v.toNat : Int)) = W') (hB : B ≤ g) (H : W.heap[g]? = some (.cells (l.map bv).toArray t (0, 0))) :
    W'.heap[g]? = some (.cells ((l.set i v).map bv).toArray t (0, 0)) ∧ Below B W W' ∧ ∀ k, k ≠ g → W'.heap[k]? = W.heap[k]? := by
  subst hW
  refine ⟨?_, (Below.refl _ _).setCell hB _, fun k hk => Below.heap_setCell W _ _ _ hk⟩
  have := heap_set H i (bv v)
  rw [← List.map_set] at this
  exact this
theorem arr16P : Try.prog.underlying 33 = some (.array 16 5) := Try.underlying33
theorem arr32P : Try.prog.underlying 22 = some (.array 32 5) := Try.underlying22
theorem i16P : (Try.prog.info? 33).map (·.size) = some 16 := by kernel_rfl
theorem i32P : (Try.prog.info? 22).map (·.size) = some 32 := by kernel_rfl
theorem i16p (l : List UInt8) (h : l.length = 16) : (Try.prog.info? 33).map (·.size) = some (l.map bv).length := by rw [List.length_map, h]; exact i16P
theorem i32p (l : List UInt8) (h : l.length = 32) : (Try.prog.info? 22).map (·.size) = some (l.map bv).length := by rw [List.length_map, h]; exact i32P
def zer16 : List Value := List.replicate 16 (Value.int .u8 0)
theorem getD_setU (l : List UInt8) (i j : Nat) (v : UInt8) (hi : i < l.length) : (l.set i v).getD j 0 = if i = j then v else l.getD j 0 := by
  simp only [List.getD, List.getElem?_set]
  split <;> simp [hi]
theorem and15_lt (x : UInt8) : (x &&& 15).toNat < 16 := by
  have h : (x &&& 15).toNat = x.toNat &&& 15 := UInt8.toNat_and _ _
  rw [h]
  have := Nat.and_two_pow_sub_one_eq_mod x.toNat 4
  have e : x.toNat &&& 15 = x.toNat % 16 := this
  omega
theorem clamp_top (l : List UInt8) (h : l.length = 16) : ((clampL l).getD 15 0).toNat < 16 := by
  have e3 : (clampL l).getD 15 0 = (clampA l 4).getD 15 0 := by
    unfold clampL
    simp only [clampB]
    rw [getD_setU _ _ _ _ (by simp [clampA_len, h]), if_neg (by decide), getD_setU _ _ _ _ (by simp [clampA_len, h]), if_neg (by decide), getD_setU _ _ _ _ (by simp [clampA_len, h]), if_neg (by decide)]
  have e4 : (clampA l 4).getD 15 0 = (clampA l 3).getD 15 0 &&& 15 := by
    rw [clampA, getD_setU _ _ _ _ (by rw [clampA_len, h]; decide), if_pos rfl]
  rw [e3, e4]; exact and15_lt _
theorem clamp_lt (l : List UInt8) (h : l.length = 16) : littleN (clampL l) < 21267647932558653966460912964485513216 := by
  have ht := clamp_top l h
  have hl : (clampL l).length = 16 := (clampL_len l).trans h
  generalize clampL l = c at ht hl
  have e : c = c.take 15 ++ [c.getD 15 0] := by
    have h1 := List.take_append_drop 15 c
    have h2 : c.drop 15 = [c.getD 15 0] := by
      rw [List.drop_eq_getElem_cons (by omega), List.drop_of_length_le (by omega)]
      simp [List.getD, hl]
    rw [h2] at h1; exact h1.symm
  have hl15 : (c.take 15).length = 15 := by rw [List.length_take, hl]; rfl
  rw [e, littleN_snoc, hl15]
  have h1 := littleN_lt (c.take 15)
  rw [hl15] at h1
  have p : (256 : Nat) ^ 15 = 1329227995784915872903807060280344576 := by decide
  rw [p] at h1 ⊢
  generalize (c.getD 15 0).toNat = x at ht
  generalize littleN (c.take 15) = y at h1
  omega
/-- a state's cells: both halves of the key, the sum so far, the bytes behind it, and how many they are -/
def pCells (R S H : List Nat) (T : List UInt8) (n : Nat) : List Value := R.map uv ++ (S.map uv ++ (H.map uv ++ (T.map bv ++ [.int .i64 (n : Int)])))
def rOf (key : List UInt8) : Nat := littleN (clampL (key.take 16))
def sOf (key : List UInt8) : Nat := littleN (key.drop 16)
def ptail (m : List UInt8) : List UInt8 := m.drop (16 * (m.length / 16)) ++ List.replicate (16 - m.length % 16) 0
theorem rOf_lt (key : List UInt8) (h : key.length = 32) : rOf key < 21267647932558653966460912964485513216 := clamp_lt _ (by rw [List.length_take, h]; rfl)
end Go.Proofs.Ytkgbhlppadpdfaa

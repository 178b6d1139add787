/- The document's rounds, byte by byte, and words: the mathematics. -/
import Derived.Test.YtjmpbcfbfbjenaaRefA1
import Derived.Test.YtjmpbcfbfbjenaaAesM4
namespace Go.Proofs.Ytjmpbcfbfbjenaa
open Go.RowKit
set_option maxRecDepth 100000
set_option linter.unusedVariables false
set_option linter.unusedSimpArgs false
theorem u8_ofNat_xor (a b : Nat) : UInt8.ofNat (a ^^^ b) = UInt8.ofNat a ^^^ UInt8.ofNat b := by
  apply UInt8.toNat_inj.1
  rw [UInt8.toNat_xor, UInt8.toNat_ofNat', UInt8.toNat_ofNat', UInt8.toNat_ofNat']
  exact Nat.xor_mod_two_pow (n := 8)
theorem byteAt_xor (x y : W32) (i : Nat) : byteAt (x ^^^ y).toNat i = byteAt x.toNat i ^^^ byteAt y.toNat i := by
  unfold byteAt
  rw [BitVec.toNat_xor, show (256 : Nat) ^ i = 2 ^ (8 * i) by rw [Nat.pow_mul], ← Nat.shiftRight_eq_div_pow, ← Nat.shiftRight_eq_div_pow, ← Nat.shiftRight_eq_div_pow, Nat.shiftRight_xor_distrib, u8_ofNat_xor]
/-- a word's bytes, the highest first -/
def wb (x : W32) : List UInt8 := putBig x.toNat 4
theorem wb_four (x : W32) : wb x = [byteAt x.toNat 3, byteAt x.toNat 2, byteAt x.toNat 1, byteAt x.toNat 0] := rfl
theorem wb_len (x : W32) : (wb x).length = 4 := rfl
theorem wb_xor (x y : W32) : wb (x ^^^ y) = xorL (wb x) (wb y) := by
  simp only [wb_four, byteAt_xor]; rfl
theorem outL_four (a b c d : W32) : outL [a, b, c, d] = wb a ++ (wb b ++ (wb c ++ wb d)) := by
  simp [outL, wb]
theorem xorL_append (a b c d : List UInt8) (h : a.length = b.length) : xorL (a ++ c) (b ++ d) = xorL a b ++ xorL c d := by
  unfold xorL; exact List.zipWith_append h
theorem add_bytes (ws : List W32) (r : Nat) (s : List W32) (hs : s.length = 4) (hw : 4 * r + 4 ≤ ws.length) : outL (addW ws r s) = xorL (outL s) (outL (keyL ws r)) := by
  obtain ⟨a, b, c, d, rfl⟩ := list4 hs
  have hk : (keyL ws r).length = 4 := by simp [keyL]; omega
  obtain ⟨p, q, u, v, hk'⟩ := list4 hk
  rw [addW, hk']
  show outL [a ^^^ p, b ^^^ q, c ^^^ u, d ^^^ v] = _
  rw [outL_four, outL_four, outL_four, xorL_append (wb a) (wb p) _ _ rfl, xorL_append (wb b) (wb q) _ _ rfl, xorL_append (wb c) (wb u) _ _ rfl, wb_xor, wb_xor, wb_xor, wb_xor]
/-- rows turned round by n columns for each row, all bytes through a table -/
def shB (n : Nat) (T b : List UInt8) : List UInt8 := (List.range 16).map fun q => T.getD (b.getD (4 * ((q / 4 + n * (q % 4)) % 4) + q % 4) 0).toNat 0
theorem shB_len (n : Nat) (T b : List UInt8) : (shB n T b).length = 16 := by simp [shB]
def maskI (i : Nat) : W32 := BitVec.ofNat 32 (255 * 256 ^ i)
theorem mask_bits : ∀ i : Fin 4, ∀ j : Fin 8, (maskI i.1).getLsbD (8 * i.1 + j.1) = true := by decide +kernel
theorem byteAt_bit (x : W32) (i j : Nat) (hj : j < 8) : (byteAt x.toNat i).toNat.testBit j = x.getLsbD (8 * i + j) := by
  unfold byteAt
  rw [UInt8.toNat_ofNat', show (2 : Nat) ^ 8 = 256 from rfl, show (256 : Nat) = 2 ^ 8 from rfl, Nat.testBit_mod_two_pow, decide_eq_true hj, Bool.true_and, ← Nat.pow_mul, ← Nat.shiftRight_eq_div_pow, Nat.testBit_shiftRight]
  rfl
theorem byte_ext (x y : UInt8) (h : ∀ j, j < 8 → x.toNat.testBit j = y.toNat.testBit j) : x = y := by
  apply UInt8.toNat_inj.1
  apply Nat.eq_of_testBit_eq
  intro j
  by_cases hj : j < 8
  · exact h j hj
  · have hx : x.toNat < 2 ^ j := Nat.lt_of_lt_of_le x.toNat_lt (Nat.pow_le_pow_right (by omega) (by omega : 8 ≤ j))
    have hy : y.toNat < 2 ^ j := Nat.lt_of_lt_of_le y.toNat_lt (Nat.pow_le_pow_right (by omega) (by omega : 8 ≤ j))
    rw [Nat.testBit_lt_two_pow hx, Nat.testBit_lt_two_pow hy]
theorem byteAt_mask (x : W32) (i : Nat) (hi : i < 4) : byteAt (x &&& maskI i).toNat i = byteAt x.toNat i := by
  refine byte_ext _ _ fun j hj => ?_
  rw [byteAt_bit _ _ _ hj, byteAt_bit _ _ _ hj, BitVec.getLsbD_and, mask_bits ⟨i, hi⟩ ⟨j, hj⟩, Bool.and_true]
theorem rows_bytes (a b c d : W32) : wb (rowsOf a b c d) = [byteAt a.toNat 3, byteAt b.toNat 2, byteAt c.toNat 1, byteAt d.toNat 0] := by
  rw [wb_four]
  have h3 := congrArg (fun z : W32 => byteAt z.toNat 3) (row0 a b c d)
  have h2 := congrArg (fun z : W32 => byteAt z.toNat 2) (row1 a b c d)
  have h1 := congrArg (fun z : W32 => byteAt z.toNat 1) (row2 a b c d)
  have h0 := congrArg (fun z : W32 => byteAt z.toNat 0) (row3 a b c d)
  have m3 : (4278190080#32 : W32) = maskI 3 := by decide
  have m2 : (16711680#32 : W32) = maskI 2 := by decide
  have m1 : (65280#32 : W32) = maskI 1 := by decide
  have m0 : (255#32 : W32) = maskI 0 := by decide
  rw [m3, byteAt_mask _ 3 (by omega), byteAt_mask _ 3 (by omega)] at h3
  rw [m2, byteAt_mask _ 2 (by omega), byteAt_mask _ 2 (by omega)] at h2
  rw [m1, byteAt_mask _ 1 (by omega), byteAt_mask _ 1 (by omega)] at h1
  rw [m0, byteAt_mask _ 0 (by omega), byteAt_mask _ 0 (by omega)] at h0
  rw [h3, h2, h1, h0]
theorem sub_bytes (T : List UInt8) (x : W32) : wb (subW T x) = (wb x).map fun y => T.getD y.toNat 0 := by
  rw [wb_four, wb_four, subW_byte T x 3 (by omega), subW_byte T x 2 (by omega), subW_byte T x 1 (by omega), subW_byte T x 0 (by omega)]; rfl
theorem sh1_sub (T : List UInt8) (s : List W32) (hs : s.length = 4) : outL (shiftW 1 (s.map (subW T))) = shB 1 T (outL s) := by
  obtain ⟨a, b, c, d, rfl⟩ := list4 hs
  simp only [List.map_cons, List.map_nil]
  rw [sh1, outL_four, outL_four, rows_bytes, rows_bytes, rows_bytes, rows_bytes]
  simp only [subW_byte T _ 3 (by omega : 3 < 4), subW_byte T _ 2 (by omega : 2 < 4), subW_byte T _ 1 (by omega : 1 < 4), subW_byte T _ 0 (by omega : 0 < 4), wb_four]
  rfl
theorem sub_sh3 (T : List UInt8) (s : List W32) (hs : s.length = 4) : outL ((shiftW 3 s).map (subW T)) = shB 3 T (outL s) := by
  obtain ⟨a, b, c, d, rfl⟩ := list4 hs
  rw [sh3]
  simp only [List.map_cons, List.map_nil]
  rw [outL_four, outL_four, sub_bytes, sub_bytes, sub_bytes, sub_bytes, rows_bytes, rows_bytes, rows_bytes, rows_bytes]
  simp only [wb_four]
  rfl
/-- a column times a row of four, turned round for each row -/
def colF (m b : List UInt8) (c r k : Nat) : UInt8 := mulB (m.getD ((k + 4 - r) % 4) 0) (b.getD (4 * c + k) 0)
def colQ (m b : List UInt8) (q : Nat) : UInt8 := 0 ^^^ colF m b (q / 4) (q % 4) 0 ^^^ colF m b (q / 4) (q % 4) 1 ^^^ colF m b (q / 4) (q % 4) 2 ^^^ colF m b (q / 4) (q % 4) 3
def colB (m b : List UInt8) : List UInt8 := (List.range 16).map (colQ m b)
theorem colB_len (m b : List UInt8) : (colB m b).length = 16 := by simp [colB]
/-- one column -/
def col1 (m : List UInt8) (b : List UInt8) : List UInt8 := (List.range 4).map (colQ m b)
theorem half_xor (a b : UInt8) : (a ^^^ b) / 2 = a / 2 ^^^ b / 2 := by
  apply UInt8.toNat_inj.1
  rw [UInt8.toNat_div, UInt8.toNat_xor, UInt8.toNat_xor, UInt8.toNat_div, UInt8.toNat_div]
  exact Nat.xor_div_two
theorem odd_xor (a b : UInt8) : ((a ^^^ b).toNat % 2 = 1) ↔ ¬ ((a.toNat % 2 = 1) ↔ (b.toNat % 2 = 1)) := by
  rw [UInt8.toNat_xor]
  exact Nat.xor_mod_two_eq_one
theorem mulN_xor (a : UInt8) (k : Nat) (p p' b b' : UInt8) : (mulN ⟨p ^^^ p', a, b ^^^ b'⟩ k).p = (mulN ⟨p, a, b⟩ k).p ^^^ (mulN ⟨p', a, b'⟩ k).p ∧ (mulN ⟨p ^^^ p', a, b ^^^ b'⟩ k).a = (mulN ⟨p, a, b⟩ k).a ∧ (mulN ⟨p', a, b'⟩ k).a = (mulN ⟨p, a, b⟩ k).a ∧ (mulN ⟨p ^^^ p', a, b ^^^ b'⟩ k).b = (mulN ⟨p, a, b⟩ k).b ^^^ (mulN ⟨p', a, b'⟩ k).b := by
  induction k with
  | zero => exact ⟨rfl, rfl, rfl, rfl⟩
  | succ k ih =>
    obtain ⟨h1, h2, h3, h4⟩ := ih
    simp only [mulN, mulS]
    rw [h1, h2, h3, h4]
    refine ⟨?_, rfl, rfl, half_xor _ _⟩
    have ho := odd_xor (mulN ⟨p, a, b⟩ k).b (mulN ⟨p', a, b'⟩ k).b
    by_cases x : (mulN ⟨p, a, b⟩ k).b.toNat % 2 = 1 <;> by_cases y : (mulN ⟨p', a, b'⟩ k).b.toNat % 2 = 1
    · rw [if_neg (by rw [ho]; simp [x, y]), if_pos x, if_pos y]
      generalize (mulN ⟨p, a, b⟩ k).p = u
      generalize (mulN ⟨p', a, b'⟩ k).p = v
      generalize (mulN ⟨p, a, b⟩ k).a = z
      rw [UInt8.xor_assoc, UInt8.xor_comm z, UInt8.xor_assoc, UInt8.xor_self, UInt8.xor_zero]
    · rw [if_pos (by rw [ho]; simp [x, y]), if_pos x, if_neg y]
      generalize (mulN ⟨p, a, b⟩ k).p = u
      generalize (mulN ⟨p', a, b'⟩ k).p = v
      generalize (mulN ⟨p, a, b⟩ k).a = z
      rw [UInt8.xor_assoc, UInt8.xor_comm v, ← UInt8.xor_assoc]
    · rw [if_pos (by rw [ho]; simp [x, y]), if_neg x, if_pos y, UInt8.xor_assoc]
    · rw [if_neg (by rw [ho]; simp [x, y]), if_neg x, if_neg y]
theorem mulB_xor (m x y : UInt8) : mulB m (x ^^^ y) = mulB m x ^^^ mulB m y := by
  have := (mulN_xor m 8 0 0 x y).1
  rw [show (0 : UInt8) ^^^ 0 = 0 from rfl] at this
  exact this
end Go.Proofs.Ytjmpbcfbfbjenaa

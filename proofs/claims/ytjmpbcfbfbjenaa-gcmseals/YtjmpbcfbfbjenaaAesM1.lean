/- The table and the table the other way round; columns and bytes. -/
import Derived.Test.YtjmpbcfbfbjenaaAes11
namespace Go.Proofs.Ytjmpbcfbfbjenaa
open Go.RowKit
set_option linter.unusedVariables false
theorem byteAt_cons (n : Nat) (b : UInt8) : byteAt (n * 256 + b.toNat) 0 = b ∧ ∀ i, byteAt (n * 256 + b.toNat) (i + 1) = byteAt n i := by
  have hb := b.toNat_lt
  constructor
  · unfold byteAt
    apply UInt8.toNat_inj.1
    rw [UInt8.toNat_ofNat']
    simp
  · intro i
    unfold byteAt
    rw [Nat.pow_succ, Nat.mul_comm (256 ^ i) 256, ← Nat.div_div_eq_div_mul, show (n * 256 + b.toNat) / 256 = n by omega]
theorem byteAt_little (l : List UInt8) : ∀ i, i < l.length → byteAt (littleN l) i = l.getD i 0 := by
  induction l with
  | nil => intro i hi; simp at hi
  | cons b l ih =>
    intro i hi
    rw [littleN_cons]
    cases i with
    | zero => rw [(byteAt_cons _ b).1]; rfl
    | succ i => rw [(byteAt_cons _ b).2, ih i (by simpa using hi)]; rfl
theorem little_bytes (x : W32) : littleN ((List.range 4).map fun i => byteAt x.toNat i) = x.toNat := by
  have h := littleN_put x.toNat 4
  have := x.isLt
  rw [Nat.mod_eq_of_lt (by omega)] at h
  exact h
theorem subW_byte (T : List UInt8) (x : W32) (i : Nat) (hi : i < 4) : byteAt (subW T x).toNat i = T.getD (byteAt x.toNat i).toNat 0 := by
  have h : (subW T x).toNat = wordN T x 4 := by have := subW_toNat T x; omega
  rw [h, wordN, byteAt_little _ i (by simpa using hi)]
  simp [List.getD, hi]
theorem subW_sub (A B : List UInt8) (h : ∀ b : UInt8, B.getD (A.getD b.toNat 0).toNat 0 = b) (x : W32) : subW B (subW A x) = x := by
  apply BitVec.eq_of_toNat_eq
  have h1 : (subW B (subW A x)).toNat = wordN B (subW A x) 4 := by have := subW_toNat B (subW A x); omega
  rw [h1, ← little_bytes x, wordN]
  congr 1
  apply List.map_congr_left
  intro i hi
  rw [subW_byte A x i (by simpa using hi), h]
set_option maxRecDepth 100000 in
theorem back_sub8 : ∀ x : Fin 256, backL.getD (sboxL.getD x.1 0).toNat 0 = UInt8.ofNat x.1 ∧ sboxL.getD (backL.getD x.1 0).toNat 0 = UInt8.ofNat x.1 := by decide +kernel
theorem of8 (b : UInt8) : UInt8.ofNat b.toNat = b := by apply UInt8.toNat_inj.1; rw [UInt8.toNat_ofNat']; have := b.toNat_lt; omega
theorem sub_back (x : W32) : subW backL (subW sboxL x) = x := subW_sub _ _ (fun b => by have := (back_sub8 ⟨b.toNat, b.toNat_lt⟩).1; rw [of8] at this; exact this) x
theorem back_sub (x : W32) : subW sboxL (subW backL x) = x := subW_sub _ _ (fun b => by have := (back_sub8 ⟨b.toNat, b.toNat_lt⟩).2; rw [of8] at this; exact this) x
theorem map_id' {α : Type} (f : α → α) (h : ∀ x, f x = x) (l : List α) : l.map f = l := by
  induction l with
  | nil => rfl
  | cons a l ih => simp [h, ih]
theorem sub_back_l (s : List W32) : (s.map (subW sboxL)).map (subW backL) = s := by rw [List.map_map]; exact map_id' _ sub_back s
theorem back_sub_l (s : List W32) : (s.map (subW backL)).map (subW sboxL) = s := by rw [List.map_map]; exact map_id' _ back_sub s
/-! columns and bytes -/
theorem list4 {α : Type} {l : List α} (h : l.length = 4) : ∃ a b c d, l = [a, b, c, d] := by
  match l, h with
  | [a, b, c, d], _ => exact ⟨a, b, c, d, rfl⟩
theorem word_put (x : W32) : BitVec.ofNat 32 (bigN (putBig x.toNat 4)) = x := by
  rw [bigN_put, Nat.mod_eq_of_lt (by have := x.isLt; omega)]; simp
theorem cols_out (s : List W32) (h : s.length = 4) : colsL (outL s) = s := by
  obtain ⟨a, b, c, d, rfl⟩ := list4 h
  have e : outL [a, b, c, d] = putBig a.toNat 4 ++ (putBig b.toNat 4 ++ (putBig c.toNat 4 ++ putBig d.toNat 4)) := by simp [outL]
  have w0 : wordAt (outL [a, b, c, d]) 0 = a := by
    unfold wordAt; rw [e, Nat.mul_zero, List.drop_zero, List.take_left' (putBig_len _ _), word_put]
  have w1 : wordAt (outL [a, b, c, d]) 1 = b := by
    unfold wordAt; rw [e, List.drop_left' (by rw [putBig_len]), List.take_left' (putBig_len _ _), word_put]
  have w2 : wordAt (outL [a, b, c, d]) 2 = c := by
    unfold wordAt; rw [e, ← List.append_assoc, List.drop_left' (by simp [putBig_len]), List.take_left' (putBig_len _ _), word_put]
  have w3 : wordAt (outL [a, b, c, d]) 3 = d := by
    unfold wordAt; rw [e, ← List.append_assoc, ← List.append_assoc, List.drop_left' (by simp [putBig_len]), List.take_of_length_le (by rw [putBig_len]; omega), word_put]
  show [wordAt _ 0, wordAt _ 1, wordAt _ 2, wordAt _ 3] = _
  rw [w0, w1, w2, w3]
theorem putBig_big4 (c : List UInt8) (h : c.length = 4) : putBig (bigN c) 4 = c := by
  have h2 := littleN_put (littleN c.reverse) 4
  have hl : littleN c.reverse = bigN c := by unfold littleN; rw [List.reverse_reverse]
  apply List.ext_getElem?
  intro i
  by_cases hi : i < 4
  · have hr : c.reverse.length = 4 := by simpa using h
    have hb := byteAt_little c.reverse (3 - i) (by omega)
    rw [hl] at hb
    have hp : (putBig (bigN c) 4)[i]? = some (byteAt (bigN c) (4 - 1 - i)) := by simp [putBig, hi]
    rw [hp, show 4 - 1 - i = 3 - i by omega, hb, List.getD_eq_getElem?_getD, List.getElem?_reverse (by omega), h, show 4 - 1 - (3 - i) = i by omega, List.getElem?_eq_getElem (by omega)]
    rfl
  · rw [List.getElem?_eq_none (by rw [putBig_len]; omega), List.getElem?_eq_none (by omega)]
theorem put_word (b : List UInt8) (i : Nat) (h : 4 * i + 4 ≤ b.length) : putBig (wordAt b i).toNat 4 = (b.drop (4 * i)).take 4 := by
  have hl : ((b.drop (4 * i)).take 4).length = 4 := by simp; omega
  have hlt := bigN_lt ((b.drop (4 * i)).take 4)
  rw [hl] at hlt
  unfold wordAt
  rw [BitVec.toNat_ofNat, Nat.mod_eq_of_lt (by omega), putBig_big4 _ hl]
theorem out_cols (b : List UInt8) (h : b.length = 16) : outL (colsL b) = b := by
  have e : outL (colsL b) = putBig (wordAt b 0).toNat 4 ++ (putBig (wordAt b 1).toNat 4 ++ (putBig (wordAt b 2).toNat 4 ++ putBig (wordAt b 3).toNat 4)) := by
    show outL [wordAt b 0, wordAt b 1, wordAt b 2, wordAt b 3] = _
    simp [outL]
  rw [e, put_word b 0 (by omega), put_word b 1 (by omega), put_word b 2 (by omega), put_word b 3 (by omega)]
  have e3 : (b.drop (4 * 3)).take 4 = b.drop 12 := List.take_of_length_le (by simp; omega)
  rw [e3, show 4 * 0 = 0 by rfl, show 4 * 1 = 4 by rfl, show 4 * 2 = 8 by rfl, List.drop_zero]
  rw [show b.drop 12 = (b.drop 8).drop 4 by rw [List.drop_drop], List.take_append_drop, show b.drop 8 = (b.drop 4).drop 4 by rw [List.drop_drop], List.take_append_drop, List.take_append_drop]
theorem xor_twice (x k : W32) : x ^^^ k ^^^ k = x := by rw [BitVec.xor_assoc, BitVec.xor_self, BitVec.xor_zero]
theorem add_add (ws : List W32) (r : Nat) (s : List W32) (hs : s.length = 4) (hw : 4 * r + 4 ≤ ws.length) : addW ws r (addW ws r s) = s := by
  have hk : (keyL ws r).length = 4 := by simp [keyL]; omega
  obtain ⟨a, b, c, d, rfl⟩ := list4 hs
  obtain ⟨k0, k1, k2, k3, hk'⟩ := list4 hk
  unfold addW
  rw [hk']
  simp [xor_twice]
end Go.Proofs.Ytjmpbcfbfbjenaa

/- The mathematics of a stream put to bytes. -/
import Derived.Test.YtjmpbcfbfbjenaaBits3
namespace Go.Proofs.Ytjmpbcfbfbjenaa
open Go.RowKit
set_option linter.unusedVariables false
set_option maxRecDepth 100000
/-- bytes, and the stream f from its place p on -/
def ctrL (f : Nat → UInt8) (p : Nat) : List UInt8 → List UInt8
  | [] => []
  | x :: r => (x ^^^ f p) :: ctrL f (p + 1) r
theorem ctrL_len (f : Nat → UInt8) : ∀ (b : List UInt8) (p : Nat), (ctrL f p b).length = b.length
  | [], _ => rfl
  | x :: r, p => by simp [ctrL, ctrL_len f r]
theorem ctrL_append (f : Nat → UInt8) : ∀ (a : List UInt8) (p : Nat) (b : List UInt8), ctrL f p (a ++ b) = ctrL f p a ++ ctrL f (p + a.length) b
  | [], _, _ => by simp [ctrL]
  | x :: r, p, b => by
    simp only [List.cons_append, ctrL, ctrL_append f r, List.length_cons]
    rw [show p + 1 + r.length = p + (r.length + 1) by omega]
theorem ctrL_back (f : Nat → UInt8) : ∀ (b : List UInt8) (p : Nat), ctrL f p (ctrL f p b) = b
  | [], _ => rfl
  | x :: r, p => by simp [ctrL, ctrL_back f r, UInt8.xor_assoc]
theorem ctrL_get (f : Nat → UInt8) : ∀ (b : List UInt8) (p i : Nat) (h : i < b.length) (h' : i < (ctrL f p b).length), (ctrL f p b)[i] = b[i] ^^^ f (p + i)
  | x :: r, p, 0, _, _ => by simp [ctrL]
  | x :: r, p, i + 1, h, h' => by
    have := ctrL_get f r (p + 1) i (by simpa using h) (by rw [ctrL_len]; simpa using h)
    simp only [ctrL, List.getElem_cons_succ]
    rw [this, show p + 1 + i = p + (i + 1) by omega]
theorem ctrL_congr (f g : Nat → UInt8) : ∀ (b : List UInt8) (p q : Nat), (∀ i, i < b.length → f (p + i) = g (q + i)) → ctrL f p b = ctrL g q b
  | [], _, _, _ => rfl
  | x :: r, p, q, h => by
    have h0 := h 0 (by simp)
    simp only [Nat.add_zero] at h0
    simp only [ctrL, h0]
    rw [ctrL_congr f g r (p + 1) (q + 1) (fun i hi => by have := h (i + 1) (by simp; omega); rwa [show p + (i + 1) = p + 1 + i by omega, show q + (i + 1) = q + 1 + i by omega] at this)]
theorem ctrL_zero (b : List UInt8) (p : Nat) : ctrL (fun _ => 0) p b = b := by
  induction b generalizing p with
  | nil => rfl
  | cons x r ih => simp [ctrL, ih]
theorem ctrL_set (f : Nat → UInt8) : ∀ (b : List UInt8) (p n : Nat) (y : UInt8), ctrL f p (b.set n (b.getD n 0 ^^^ y)) = (ctrL f p b).set n ((ctrL f p b).getD n 0 ^^^ y)
  | [], _, _, _ => by simp [ctrL]
  | x :: r, p, 0, y => by
    simp only [ctrL, List.set_cons_zero, List.getD_cons_zero]
    rw [UInt8.xor_assoc, UInt8.xor_comm y, ← UInt8.xor_assoc]
  | x :: r, p, n + 1, y => by
    simp only [ctrL, List.set_cons_succ, List.getD_cons_succ]
    rw [ctrL_set f r]
/-- the bytes of a row of blocks -/
def blkF (E : Nat → List UInt8) (i : Nat) : UInt8 := (E (i / 16)).getD (i % 16) 0
/-- what is left of a block, put to bytes -/
theorem ctrL_block (E : Nat → List UInt8) (p : Nat) (b : List UInt8) (h : (E (p / 16)).length = 16) : xorL b ((E (p / 16)).drop (p % 16)) = ctrL (blkF E) p (b.take (min b.length (16 - p % 16))) := by
  have hl : (xorL b ((E (p / 16)).drop (p % 16))).length = min b.length (16 - p % 16) := by rw [xorL_len, List.length_drop, h]
  have hl2 : (ctrL (blkF E) p (b.take (min b.length (16 - p % 16)))).length = min b.length (16 - p % 16) := by rw [ctrL_len, List.length_take]; omega
  apply List.ext_getElem
  · rw [hl, hl2]
  · intro i h1 h2
    rw [ctrL_get _ _ _ _ (by rw [← ctrL_len (blkF E) _ p]; exact h2)]
    rw [hl] at h1
    have hq : (p + i) / 16 = p / 16 := by omega
    have hr : (p + i) % 16 = p % 16 + i := by omega
    have hi : p % 16 + i < (E (p / 16)).length := by omega
    rw [blkF, hq, hr, List.getD_eq_getElem?_getD, List.getElem?_eq_getElem hi]
    simp [xorL]
theorem ctrL_take (f : Nat → UInt8) (p n : Nat) (b : List UInt8) : (ctrL f p b).take n = ctrL f p (b.take n) := by
  by_cases h : n ≤ b.length
  · have := ctrL_append f (b.take n) p (b.drop n)
    rw [List.take_append_drop] at this
    rw [this, List.take_append_of_le_length (by rw [ctrL_len, List.length_take]; omega), List.take_of_length_le (by rw [ctrL_len, List.length_take]; omega)]
  · rw [List.take_of_length_le (by rw [ctrL_len]; omega), List.take_of_length_le (by omega)]
/-- one more step of the loop over blocks -/
theorem ctr_step (E : Nat → List UInt8) (p j m : Nat) (b : List UInt8) (h : (E ((p + j) / 16)).length = 16) (hj : j ≤ b.length) (hm : m = min (b.length - j) (16 - (p + j) % 16)) :
    ctrL (blkF E) p (b.take j) ++ xorL (b.drop j) ((E ((p + j) / 16)).drop ((p + j) % 16)) = ctrL (blkF E) p (b.take (j + m)) := by
  rw [ctrL_block E (p + j) (b.drop j) h, List.length_drop, ← hm, List.take_add, ctrL_append, List.length_take, Nat.min_eq_left hj]
end Go.Proofs.Ytjmpbcfbfbjenaa

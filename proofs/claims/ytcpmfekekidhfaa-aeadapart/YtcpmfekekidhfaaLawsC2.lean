/- Laws of layer 4: what is cut at a block's end goes on with the counter as many more. -/
import Derived.Test.YtcpmfekekidhfaaLawsC1
namespace Go.Proofs.Ytcpmfekekidhfaa
open Go.RowKit
set_option maxRecDepth 100000
set_option linter.unusedVariables false
set_option linter.unusedSimpArgs false
theorem ctrAt_add (n : W32) (i j : Nat) : ctrAt (ctrAt n i) j = ctrAt n (i + j) := by
  unfold ctrAt; rw [BitVec.ofNat_add, BitVec.add_assoc]
theorem blocksC_add (key nonce : List UInt8) (n : W32) (j t : Nat) : blocksC key nonce n (j + t) = blocksC key nonce n j ++ blocksC key nonce (ctrAt n j) t := by
  induction t with
  | zero => simp [blocksC]
  | succ t ih => rw [← Nat.add_assoc, blocksC_succ, ih, blocksC_succ, ctrAt_add, List.append_assoc]
theorem streamC_cut (key nonce : List UInt8) (n : W32) (j r : Nat) : streamC key nonce n (64 * j + r) = streamC key nonce n (64 * j) ++ streamC key nonce (ctrAt n j) r := by
  have h1 := blocksC_len key nonce n j
  have h2 := blocksC_add key nonce n j ((r + 63) / 64)
  unfold streamC
  rw [show (64 * j + r + 63) / 64 = j + (r + 63) / 64 by omega, show (64 * j + 63) / 64 = j by omega, h2]
  generalize blocksC key nonce n j = X at h1 ⊢
  rw [List.take_append, h1, show 64 * j + r - 64 * j = r by omega, List.take_of_length_le (l := X) (by omega), List.take_of_length_le (l := X) (by omega)]
theorem xorL_append (a b x y : List UInt8) (h : a.length = x.length) : xorL (a ++ b) (x ++ y) = xorL a x ++ xorL b y := by
  unfold xorL; rw [List.zipWith_append h]
theorem cryptC_cut (key nonce : List UInt8) (n : W32) (b : List UInt8) (j : Nat) (hj : 64 * j ≤ b.length) :
    cryptC key nonce n (b.take (64 * j)) ++ cryptC key nonce (ctrAt n j) (b.drop (64 * j)) = cryptC key nonce n b := by
  have e : b = b.take (64 * j) ++ b.drop (64 * j) := (List.take_append_drop _ _).symm
  have h1 : (b.take (64 * j)).length = 64 * j := by rw [List.length_take]; omega
  generalize b.take (64 * j) = x at e h1
  generalize b.drop (64 * j) = y at e
  subst e
  unfold cryptC
  rw [List.length_append, h1, streamC_cut, xorL_append _ _ _ _ (by rw [streamC_len, h1])]
theorem Sl.takeq {w : World} {A : Option Addr} {c m q : Nat} {b : List UInt8} (h : Sl w A c b) (hl : (b.take q).length = q) (hq : q ≤ m) : Sl w A c (b.take q) := by
  have := h.2.2.take q
  rw [← List.map_take] at this
  exact ⟨by have := h.1; rw [List.length_take]; omega, h.2.1, this⟩
theorem sl_cut' {w : World} {A : Option Addr} {c k : Nat} {l : List UInt8} (h : Sl w A c l) (hk : k ≤ l.length) : Sl w (cutS A c k) (c - k) (l.drop k) := by
  have h1 := h.1
  have h2 := h.2.1
  refine ⟨by rw [List.length_drop]; omega, by omega, ?_⟩
  have := h.2.2.cut (c := c) (l := k) (by simpa using hk) (by simpa using h1)
  rwa [← List.map_drop] at this
theorem strOf_size (a : List UInt8) : (strOf a).size = a.length := by simp [strOf, ByteArray.size]
theorem strOf_append (a b : List UInt8) : strOf a ++ strOf b = strOf (a ++ b) := by
  apply ByteArray.ext; simp [strOf]
end Go.Proofs.Ytcpmfekekidhfaa

/- Laws of layer 4: a longer stream begins as a shorter one does; each block of it is the block of its counter. -/
import Derived.Test.YtcpmfekekidhfaaLawsC2
namespace Go.Proofs.Ytcpmfekekidhfaa
open Go.RowKit
set_option maxRecDepth 100000
set_option linter.unusedVariables false
set_option linter.unusedSimpArgs false
theorem streamC_take (key nonce : List UInt8) (n : W32) (j m : Nat) (h : j ≤ m) : (streamC key nonce n m).take j = streamC key nonce n j := by
  have e : (m + 63) / 64 = (j + 63) / 64 + ((m + 63) / 64 - (j + 63) / 64) := by omega
  have hl := blocksC_len key nonce n ((j + 63) / 64)
  unfold streamC
  rw [List.take_take, Nat.min_eq_left h, e, blocksC_add]
  generalize blocksC key nonce n ((j + 63) / 64) = X at hl ⊢
  rw [List.take_append, show j - X.length = 0 by omega]
  simp
theorem streamC_block (key nonce : List UInt8) (n : W32) (t m : Nat) (h : 64 * t + 64 ≤ m) : ((streamC key nonce n m).drop (64 * t)).take 64 = blockC key nonce (ctrAt n t) := by
  have h1 := streamC_take key nonce n (64 * t + 64) m h
  have h2 := streamC_cut key nonce n t 64
  have h3 : streamC key nonce (ctrAt n t) 64 = blockC key nonce (ctrAt n t) := by
    have hb := blockC_len key nonce (ctrAt n t)
    have e := blocksC_succ key nonce (ctrAt n t) 0
    rw [ctrAt_add, show t + 0 = t from rfl, show blocksC key nonce (ctrAt n t) 0 = [] from rfl, List.nil_append] at e
    have e0 : (64 + 63) / 64 = 0 + 1 := by decide
    unfold streamC
    rw [e0, e]
    exact List.take_of_length_le (by omega)
  rw [h3] at h2
  have hl : (streamC key nonce n (64 * t)).length = 64 * t := streamC_len _ _ _ _
  have h4 : ((streamC key nonce n m).drop (64 * t)).take 64 = ((streamC key nonce n m).take (64 * t + 64)).drop (64 * t) := by
    rw [List.drop_take, Nat.add_sub_cancel_left]
  rw [h4, h1, h2]
  exact List.drop_left' hl
theorem sl_mid' {w : World} {A : Option Addr} {c k m : Nat} {l : List UInt8} (h : Sl w A c l) (hk : k + m ≤ l.length) : Sl w (cutS A c k) (c - k) ((l.drop k).take m) := by
  have h1 := sl_cut' h (k := k) (by omega)
  have := h1.2.2.take m
  rw [← List.map_take] at this
  exact ⟨by have := h1.1; rw [List.length_take]; omega, h1.2.1, this⟩
end Go.Proofs.Ytcpmfekekidhfaa

/- Chained mode: a longer text begins as its beginning does, and goes on from its last block. -/
import Derived.Test.YtfcnahbbieldfaaCbc5
namespace Go.Proofs.Ytfcnahbbieldfaa
set_option linter.unusedVariables false
set_option linter.unusedSimpArgs false
theorem flat16_add (f : Nat → List UInt8) (m : Nat) : ∀ q, flat16 f (m + q) = flat16 f m ++ flat16 (fun i => f (m + i)) q
  | 0 => by simp [flat16]
  | q + 1 => by rw [← Nat.add_assoc, flat16, flat16_add f m q, flat16, List.append_assoc]
theorem blkAt_left (a r : List UInt8) (j : Nat) (h : 16 * j + 16 ≤ a.length) : (blkAt (a ++ r) j).1 = (blkAt a j).1 := by
  show (List.range 16).map (fun i => (a ++ r).getD (16 * j + i) 0) = (List.range 16).map (fun i => a.getD (16 * j + i) 0)
  apply List.map_congr_left
  intro i hi
  have hi : i < 16 := by simpa using hi
  simp only [List.getD_eq_getElem?_getD]
  rw [List.getElem?_append_left (by omega)]
theorem blkAt_right (a r : List UInt8) (m j : Nat) (h : a.length = 16 * m) : (blkAt (a ++ r) (m + j)).1 = (blkAt r j).1 := by
  show (List.range 16).map (fun i => (a ++ r).getD (16 * (m + j) + i) 0) = (List.range 16).map (fun i => r.getD (16 * j + i) 0)
  apply List.map_congr_left
  intro i hi
  simp only [List.getD_eq_getElem?_getD]
  rw [List.getElem?_append_right (by omega), h, show 16 * (m + j) + i - 16 * m = 16 * j + i by omega]
theorem cN_left (E : List UInt8 → List UInt8) (iv a r : List UInt8) : ∀ k, 16 * k ≤ a.length → cN E iv (a ++ r) k = cN E iv a k
  | 0, _ => rfl
  | k + 1, h => by rw [cN, cN, cN_left E iv a r k (by omega), blkAt_left a r k (by omega)]
theorem cN_right (E : List UInt8 → List UInt8) (iv a r : List UInt8) (m : Nat) (h : a.length = 16 * m) : ∀ k, cN E iv (a ++ r) (m + k) = cN E (cN E iv a m) r k
  | 0 => by rw [Nat.add_zero, cN_left E iv a r m (by omega)]; rfl
  | k + 1 => by rw [← Nat.add_assoc, cN, cN_right E iv a r m h k, blkAt_right a r m k h]; rfl
theorem chain_app (E : List UInt8 → List UInt8) (iv a r : List UInt8) (m q : Nat) (h : a.length = 16 * m) : chainL E iv (a ++ r) (m + q) = chainL E iv a m ++ chainL E (cN E iv a m) r q := by
  rw [chainL, flat16_add, chainL, chainL]
  congr 1
  · exact flat_congr _ _ m fun i hi => cN_left E iv a r (i + 1) (by omega)
  · exact flat_congr _ _ q fun i hi => by
      show cN E iv (a ++ r) (m + i + 1) = _
      rw [Nat.add_assoc, cN_right E iv a r m h]
theorem chain_len (E : List UInt8 → List UInt8) (iv a : List UInt8) (m : Nat) (hiv : iv.length = 16) (hE : ∀ x, x.length = 16 → (E x).length = 16) : (chainL E iv a m).length = 16 * m := flat16_len _ (fun i => cN_len E iv a hiv hE (i + 1)) m
theorem chain_last (E : List UInt8 → List UInt8) (iv a : List UInt8) (m : Nat) (hiv : iv.length = 16) (hE : ∀ x, x.length = 16 → (E x).length = 16) (h : 1 ≤ m) : (chainL E iv a m).drop (16 * m - 16) = cN E iv a m := by
  obtain ⟨m, rfl⟩ : ∃ k, m = k + 1 := ⟨m - 1, by omega⟩
  have hl := flat16_len (fun i => cN E iv a (i + 1)) (fun i => cN_len E iv a hiv hE (i + 1)) m
  rw [chainL, flat16, show 16 * (m + 1) - 16 = 16 * m by omega, ← hl, List.drop_left]
theorem pad_add (n k : Nat) (h : n % 16 = 0) : padB (n + k) = padB k := by
  have : padK9 (n + k) = padK9 k := by unfold padK9; omega
  rw [padB, padB, this]
end Go.Proofs.Ytfcnahbbieldfaa

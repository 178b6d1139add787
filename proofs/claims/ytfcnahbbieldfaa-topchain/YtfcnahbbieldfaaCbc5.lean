/- Chained mode: the mathematics of there and back. -/
import Derived.Test.YtfcnahbbieldfaaCbc4
namespace Go.Proofs.Ytfcnahbbieldfaa
set_option linter.unusedVariables false
set_option linter.unusedSimpArgs false
/-- m pieces, one behind the other -/
def flat16 (f : Nat → List UInt8) : Nat → List UInt8
  | 0 => []
  | m + 1 => flat16 f m ++ f m
theorem flat16_len (f : Nat → List UInt8) (hf : ∀ i, (f i).length = 16) (m : Nat) : (flat16 f m).length = 16 * m := by
  induction m with
  | zero => rfl
  | succ m ih => rw [flat16, List.length_append, ih, hf]; omega
theorem flat16_get (f : Nat → List UInt8) (hf : ∀ i, (f i).length = 16) (m k j : Nat) (hk : k < m) (hj : j < 16) : (flat16 f m).getD (16 * k + j) 0 = (f k).getD j 0 := by
  induction m with
  | zero => omega
  | succ m ih =>
    have hl := flat16_len f hf m
    rw [flat16, List.getD_eq_getElem?_getD, List.getD_eq_getElem?_getD]
    by_cases h : k = m
    · subst h
      rw [List.getElem?_append_right (by omega), hl, show 16 * k + j - 16 * k = j by omega]
    · rw [List.getElem?_append_left (by omega)]
      have := ih (by omega)
      rw [List.getD_eq_getElem?_getD, List.getD_eq_getElem?_getD] at this
      exact this
theorem list16_eq (l : List UInt8) (h : l.length = 16) : (List.range 16).map (fun j => l.getD j 0) = l := by
  apply List.ext_getElem
  · simp [h]
  · intro i h1 h2
    simp [List.getD, h2]
theorem blkAt_flat (f : Nat → List UInt8) (hf : ∀ i, (f i).length = 16) (m k : Nat) (hk : k < m) : (blkAt (flat16 f m) k).1 = f k := by
  have h : (blkAt (flat16 f m) k).1 = (List.range 16).map (fun j => (f k).getD j 0) := by
    show (List.range 16).map (fun j => (flat16 f m).getD (16 * k + j) 0) = _
    apply List.map_congr_left
    intro j hj
    exact flat16_get f hf m k j hk (by simpa using hj)
  rw [h, list16_eq _ (hf k)]
theorem blkAt_drop (b : List UInt8) (k : Nat) (h : 16 * k + 16 ≤ b.length) : (blkAt b k).1 = (b.drop (16 * k)).take 16 := by
  apply List.ext_getElem
  · simp [blkAt]; omega
  · intro i h1 h2
    have hi : i < 16 := by simpa [blkAt] using h1
    have hb : 16 * k + i < b.length := by omega
    simp [blkAt, List.getD, hb]
theorem flat_blk (b : List UInt8) (m : Nat) (h : 16 * m ≤ b.length) : flat16 (fun i => (blkAt b i).1) m = b.take (16 * m) := by
  induction m with
  | zero => simp [flat16]
  | succ m ih => rw [flat16, ih (by omega), show 16 * (m + 1) = 16 * m + 16 by omega, List.take_add, blkAt_drop b m (by omega)]
theorem flat_congr (f g : Nat → List UInt8) (m : Nat) (h : ∀ i, i < m → f i = g i) : flat16 f m = flat16 g m := by
  induction m with
  | zero => rfl
  | succ m ih => rw [flat16, flat16, ih (fun i hi => h i (by omega)), h m (by omega)]
theorem xorL_twice (a c : List UInt8) (h : a.length = c.length) : xorL (xorL a c) c = a := by
  apply List.ext_getElem
  · simp [xorL, h]
  · intro i h1 h2
    simp [xorL, UInt8.xor_assoc]
/-- the block put ahead of block i: the iv, then what was enciphered -/
def cN (E : List UInt8 → List UInt8) (iv b : List UInt8) : Nat → List UInt8
  | 0 => iv
  | i + 1 => E (xorL (blkAt b i).1 (cN E iv b i))
theorem cN_len (E : List UInt8 → List UInt8) (iv b : List UInt8) (hiv : iv.length = 16) (hE : ∀ x, x.length = 16 → (E x).length = 16) (i : Nat) : (cN E iv b i).length = 16 := by
  induction i with
  | zero => exact hiv
  | succ i ih => exact hE _ (by rw [xorL_len, (blkAt b i).2, ih]; rfl)
def chainL (E : List UInt8 → List UInt8) (iv b : List UInt8) (m : Nat) : List UInt8 := flat16 (fun i => cN E iv b (i + 1)) m
/-- what is ahead of block i of what is opened -/
def aheadN (iv b : List UInt8) : Nat → List UInt8
  | 0 => iv
  | i + 1 => (blkAt b i).1
def unchL (D : List UInt8 → List UInt8) (iv b : List UInt8) (m : Nat) : List UInt8 := flat16 (fun i => xorL (D (blkAt b i).1) (aheadN iv b i)) m
theorem unch_chain (E D : List UInt8 → List UInt8) (iv b : List UInt8) (m : Nat) (hb : b.length = 16 * m) (hiv : iv.length = 16) (hE : ∀ x, x.length = 16 → (E x).length = 16) (hDE : ∀ x, x.length = 16 → D (E x) = x) :
    unchL D iv (chainL E iv b m) m = b := by
  have hc := cN_len E iv b hiv hE
  have hA : ∀ i, i < m → (blkAt (chainL E iv b m) i).1 = cN E iv b (i + 1) := fun i hi => blkAt_flat _ (fun i => hc (i + 1)) m i hi
  have hH : ∀ i, i < m → aheadN iv (chainL E iv b m) i = cN E iv b i := fun i hi => by
    cases i with
    | zero => rfl
    | succ i => exact hA i (by omega)
  unfold unchL
  rw [flat_congr _ (fun i => (blkAt b i).1) m, flat_blk b m (by omega), ← hb, List.take_length]
  intro i hi
  show xorL (D (blkAt (chainL E iv b m) i).1) (aheadN iv (chainL E iv b m) i) = _
  rw [hA i hi, hH i hi, cN, hDE _ (by rw [xorL_len, (blkAt b i).2, hc]; rfl), xorL_twice _ _ (by rw [(blkAt b i).2, hc])]
/-- the same block by block: what is ahead, and what has come out -/
def chB (E : List UInt8 → List UInt8) (iv : List UInt8) (pre : List Blk) : List UInt8 × List UInt8 := pre.foldl (fun s x => (E (xorL x.1 s.1), s.2 ++ E (xorL x.1 s.1))) (iv, [])
theorem chB_snoc (E : List UInt8 → List UInt8) (iv : List UInt8) (pre : List Blk) (x : Blk) : chB E iv (pre ++ [x]) = (E (xorL x.1 (chB E iv pre).1), (chB E iv pre).2 ++ E (xorL x.1 (chB E iv pre).1)) := by simp [chB]
theorem chB_up (E : List UInt8 → List UInt8) (iv b : List UInt8) (m : Nat) : chB E iv (blkUp b m) = (cN E iv b m, chainL E iv b m) := by
  induction m with
  | zero => rfl
  | succ m ih => rw [blkUp_succ, chB_snoc, ih]; rfl
theorem chB_len (E : List UInt8 → List UInt8) (iv : List UInt8) (hiv : iv.length = 16) (hE : ∀ x, x.length = 16 → (E x).length = 16) : ∀ (k : Nat) (pre : List Blk), pre.length = k → (chB E iv pre).1.length = 16 ∧ (chB E iv pre).2.length = 16 * k
  | 0, pre, h => by
    obtain rfl := List.eq_nil_of_length_eq_zero h
    exact ⟨hiv, rfl⟩
  | k + 1, pre, h => by
    rcases List.eq_nil_or_concat pre with rfl | ⟨q, x, rfl⟩
    · simp at h
    · rw [List.concat_eq_append] at h ⊢
      have ih := chB_len E iv hiv hE k q (by simpa using h)
      have h := hE (xorL x.1 (chB E iv q).1) (by rw [xorL_len, x.2, ih.1]; rfl)
      rw [chB_snoc]
      refine ⟨h, ?_⟩
      simp only [List.length_append, h, ih.2]
      omega
/-- and opened -/
def unB (D : List UInt8 → List UInt8) (iv : List UInt8) (pre : List Blk) : List UInt8 × List UInt8 := pre.foldl (fun s x => (x.1, s.2 ++ xorL (D x.1) s.1)) (iv, [])
theorem unB_snoc (D : List UInt8 → List UInt8) (iv : List UInt8) (pre : List Blk) (x : Blk) : unB D iv (pre ++ [x]) = (x.1, (unB D iv pre).2 ++ xorL (D x.1) (unB D iv pre).1) := by simp [unB]
theorem unB_up (D : List UInt8 → List UInt8) (iv b : List UInt8) (m : Nat) : unB D iv (blkUp b m) = (aheadN iv b m, unchL D iv b m) := by
  induction m with
  | zero => rfl
  | succ m ih => rw [blkUp_succ, unB_snoc, ih]; rfl
theorem up_pad (bs : List UInt8) : upO (bs ++ padB bs.length) = some bs.length := by
  have hk := padK9_le bs.length
  have hl : (bs ++ padB bs.length).length = bs.length + padK9 bs.length := by rw [List.length_append, padB_len]
  have hz : (bs ++ padB bs.length).getD (bs.length + padK9 bs.length - 1) 0 = UInt8.ofNat (padK9 bs.length) := by
    rw [List.getD_eq_getElem?_getD, List.getElem?_append_right (by omega), padB, List.getElem?_replicate, if_pos (by omega)]; rfl
  have hm : (bs.length + padK9 bs.length) % 16 = 0 := by unfold padK9; omega
  rw [upO, hl, if_neg (by omega), hz, UInt8.toNat_ofNat', Nat.mod_eq_of_lt (by omega), show bs.length + padK9 bs.length - padK9 bs.length = bs.length by omega, List.drop_left, if_pos ⟨by omega, rfl⟩]
end Go.Proofs.Ytfcnahbbieldfaa

/- The document's columns, byte by byte, and words: the mathematics. -/
import Derived.Test.YtjmpbcfbfbjenaaRefAM0
namespace Go.Proofs.Ytjmpbcfbfbjenaa
open Go.RowKit
set_option maxRecDepth 100000
set_option linter.unusedVariables false
set_option linter.unusedSimpArgs false
theorem wb_inj {x y : W32} (h : wb x = wb y) : x = y := by
  have h1 := word_put x
  have h2 := word_put y
  unfold wb at h
  rw [h] at h1
  exact h1.symm.trans h2
theorem placed_sum (x : W32) : placed (byteAt x.toNat 0).toNat 0 ^^^ placed (byteAt x.toNat 1).toNat 1 ^^^ placed (byteAt x.toNat 2).toNat 2 ^^^ placed (byteAt x.toNat 3).toNat 3 = x := by
  apply wb_inj
  have h0 : ∀ b : UInt8, wb (placed b.toNat 0) = unitB (UInt8.ofNat b.toNat) 0 := fun b => placed_wb ⟨b.toNat, b.toNat_lt⟩ 0
  have h1 : ∀ b : UInt8, wb (placed b.toNat 1) = unitB (UInt8.ofNat b.toNat) 1 := fun b => placed_wb ⟨b.toNat, b.toNat_lt⟩ 1
  have h2 : ∀ b : UInt8, wb (placed b.toNat 2) = unitB (UInt8.ofNat b.toNat) 2 := fun b => placed_wb ⟨b.toNat, b.toNat_lt⟩ 2
  have h3 : ∀ b : UInt8, wb (placed b.toNat 3) = unitB (UInt8.ofNat b.toNat) 3 := fun b => placed_wb ⟨b.toNat, b.toNat_lt⟩ 3
  rw [wb_xor, wb_xor, wb_xor, h0, h1, h2, h3, wb_four x]
  simp only [of8]
  simp [unitB, xorL]
theorem xorL_get (a b : List UInt8) (k : Nat) (ha : a.length = 4) (hb : b.length = 4) (hk : k < 4) : (xorL a b).getD k 0 = a.getD k 0 ^^^ b.getD k 0 := by
  simp [xorL, List.getD, ha, hb, hk]
theorem xor4 (a b c d a' b' c' d' : UInt8) : (0 ^^^ (a ^^^ a') ^^^ (b ^^^ b') ^^^ (c ^^^ c') ^^^ (d ^^^ d')) = (0 ^^^ a ^^^ b ^^^ c ^^^ d) ^^^ (0 ^^^ a' ^^^ b' ^^^ c' ^^^ d') := by
  simp only [UInt8.zero_xor]
  ac_rfl
theorem colQ_xor (m a b : List UInt8) (q : Nat) (ha : a.length = 4) (hb : b.length = 4) (hq : q < 4) : colQ m (xorL a b) q = colQ m a q ^^^ colQ m b q := by
  have h0 : q / 4 = 0 := by omega
  unfold colQ colF
  rw [h0]
  simp only [Nat.mul_zero, Nat.zero_add]
  rw [xorL_get a b 0 ha hb (by omega), xorL_get a b 1 ha hb (by omega), xorL_get a b 2 ha hb (by omega), xorL_get a b 3 ha hb (by omega), mulB_xor, mulB_xor, mulB_xor, mulB_xor]
  exact xor4 _ _ _ _ _ _ _ _
theorem col1_xor (m a b : List UInt8) (ha : a.length = 4) (hb : b.length = 4) : col1 m (xorL a b) = xorL (col1 m a) (col1 m b) := by
  have e : List.range 4 = [0, 1, 2, 3] := rfl
  unfold col1
  rw [e]
  simp only [List.map_cons, List.map_nil]
  rw [colQ_xor m a b 0 ha hb (by omega), colQ_xor m a b 1 ha hb (by omega), colQ_xor m a b 2 ha hb (by omega), colQ_xor m a b 3 ha hb (by omega)]
  rfl
theorem cols_word (f : W32 → W32) (m : List UInt8) (hf : ∀ x y, f (x ^^^ y) = f x ^^^ f y) (hd : ∀ y : Fin 256, ∀ i : Fin 4, wb (f (placed y.1 i.1)) = col1 m (wb (placed y.1 i.1))) (x : W32) : wb (f x) = col1 m (wb x) := by
  have h0 : ∀ b : UInt8, wb (f (placed b.toNat 0)) = col1 m (wb (placed b.toNat 0)) := fun b => hd ⟨b.toNat, b.toNat_lt⟩ 0
  have h1 : ∀ b : UInt8, wb (f (placed b.toNat 1)) = col1 m (wb (placed b.toNat 1)) := fun b => hd ⟨b.toNat, b.toNat_lt⟩ 1
  have h2 : ∀ b : UInt8, wb (f (placed b.toNat 2)) = col1 m (wb (placed b.toNat 2)) := fun b => hd ⟨b.toNat, b.toNat_lt⟩ 2
  have h3 : ∀ b : UInt8, wb (f (placed b.toNat 3)) = col1 m (wb (placed b.toNat 3)) := fun b => hd ⟨b.toNat, b.toNat_lt⟩ 3
  conv => lhs; rw [← placed_sum x]
  conv => rhs; rw [← placed_sum x]
  rw [hf, hf, hf, wb_xor, wb_xor, wb_xor, wb_xor, wb_xor, wb_xor, h0, h1, h2, h3]
  rw [col1_xor _ _ _ (by simp [xorL, wb_len]) (wb_len _), col1_xor _ _ _ (by simp [xorL, wb_len]) (wb_len _), col1_xor _ _ _ (wb_len _) (wb_len _)]
theorem mix_bytes (x : W32) : wb (mixW x) = col1 [2, 3, 1, 1] (wb x) := cols_word mixW _ mix_xor mix_bytes8 x
theorem unmix_xor (x y : W32) : unmixW (x ^^^ y) = unmixW x ^^^ unmixW y := by
  unfold unmixW; rw [mix_xor, mix_xor, mix_xor]
theorem unmix_bytes (x : W32) : wb (unmixW x) = col1 [14, 11, 13, 9] (wb x) := cols_word unmixW _ unmix_xor unmix_bytes8 x
theorem cols_split (m : List UInt8) (a b c d : List UInt8) (ha : a.length = 4) (hb : b.length = 4) (hc : c.length = 4) (hd : d.length = 4) : colB m (a ++ (b ++ (c ++ d))) = col1 m a ++ (col1 m b ++ (col1 m c ++ col1 m d)) := by
  obtain ⟨a0, a1, a2, a3, rfl⟩ := list4 ha
  obtain ⟨b0, b1, b2, b3, rfl⟩ := list4 hb
  obtain ⟨c0, c1, c2, c3, rfl⟩ := list4 hc
  obtain ⟨d0, d1, d2, d3, rfl⟩ := list4 hd
  unfold colB col1 colQ colF
  generalize mulB = F
  simp [List.range, List.range.loop]
theorem cols_map (f : W32 → W32) (m : List UInt8) (hf : ∀ x, wb (f x) = col1 m (wb x)) (s : List W32) (hs : s.length = 4) : outL (s.map f) = colB m (outL s) := by
  obtain ⟨a, b, c, d, rfl⟩ := list4 hs
  simp only [List.map_cons, List.map_nil]
  rw [outL_four, outL_four, hf, hf, hf, hf, cols_split m _ _ _ _ (wb_len a) (wb_len b) (wb_len c) (wb_len d)]
theorem mix_cols (s : List W32) (hs : s.length = 4) : outL (s.map mixW) = colB [2, 3, 1, 1] (outL s) := cols_map _ _ mix_bytes s hs
theorem unmix_cols (s : List W32) (hs : s.length = 4) : outL (s.map unmixW) = colB [14, 11, 13, 9] (outL s) := cols_map _ _ unmix_bytes s hs
/-- the r-th round's key -/
def rkB (ws : List W32) (r : Nat) : List UInt8 := outL (keyL ws r)
theorem rkB_len (ws : List W32) (r : Nat) (h : 4 * r + 4 ≤ ws.length) : (rkB ws r).length = 16 := by
  rw [rkB, outL_len]; simp [keyL]; omega
/-- enciphering, byte by byte -/
def encB (T : List UInt8) (ws : List W32) (b : List UInt8) : Nat → List UInt8
  | 0 => xorL b (rkB ws 0)
  | i + 1 => xorL (colB [2, 3, 1, 1] (shB 1 T (encB T ws b i))) (rkB ws (i + 1))
theorem encB_words (T : List UInt8) (ws : List W32) (b : List UInt8) (hb : b.length = 16) (hw : ws.length = 60) (i : Nat) (hi : i ≤ 13) : encB T ws b i = outL (encN T ws b i) := by
  induction i with
  | zero => rw [encB, encN, add_bytes _ _ _ (colsL_len b) (by omega), out_cols b hb]; rfl
  | succ i ih =>
    have hl := encN_len T ws b i hw (by omega)
    rw [encB, ih (by omega), encN, add_bytes _ _ _ (by simp [shiftW_len]) (by omega), mix_cols _ (shiftW_len _ _), sh1_sub _ _ hl]; rfl
theorem encL_bytes (ws : List W32) (n : Nat) (b : List UInt8) (hb : b.length = 16) (hw : ws.length = 60) (h1 : 1 ≤ n) (h2 : n ≤ 14) : encL ws n b = xorL (shB 1 sboxL (encB sboxL ws b (n - 1))) (rkB ws n) := by
  have hl := encN_len sboxL ws b (n - 1) hw (by omega)
  rw [encL, encT, add_bytes _ _ _ (shiftW_len _ _) (by omega), sh1_sub _ _ hl, ← encB_words _ _ _ hb hw _ (by omega)]; rfl
/-- deciphering, byte by byte -/
def decB (T : List UInt8) (ws : List W32) (n : Nat) (b : List UInt8) : Nat → List UInt8
  | 0 => shB 3 T (xorL b (rkB ws n))
  | i + 1 => shB 3 T (colB [14, 11, 13, 9] (xorL (decB T ws n b i) (rkB ws (n - 1 - i))))
theorem decB_words (T : List UInt8) (ws : List W32) (n : Nat) (b : List UInt8) (hb : b.length = 16) (hw : ws.length = 60) (h2 : n ≤ 14) (i : Nat) : decB T ws n b i = outL (decN T ws n b i) := by
  induction i with
  | zero => rw [decB, decN, sub_sh3 _ _ (addW_len _ _ _ (colsL_len b) (by omega)), add_bytes _ _ _ (colsL_len b) (by omega), out_cols b hb]; rfl
  | succ i ih =>
    have hl := decN_len T ws n b i
    have ha := addW_len ws (n - 1 - i) _ hl (by omega)
    rw [decB, ih, decN, sub_sh3 _ _ (by rw [List.length_map, ha]), unmix_cols _ ha, add_bytes _ _ _ hl (by omega)]; rfl
theorem decL_bytes (ws : List W32) (n : Nat) (b : List UInt8) (hb : b.length = 16) (hw : ws.length = 60) (h1 : 1 ≤ n) (h2 : n ≤ 14) : decL ws n b = xorL (decB backL ws n b (n - 1)) (rkB ws 0) := by
  rw [decL, decT, add_bytes _ _ _ (decN_len _ _ _ _ _) (by omega), ← decB_words _ _ _ _ hb hw h2]; rfl
end Go.Proofs.Ytjmpbcfbfbjenaa

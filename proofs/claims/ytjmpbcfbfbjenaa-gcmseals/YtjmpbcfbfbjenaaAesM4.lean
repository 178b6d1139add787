/- What is enciphered is deciphered to what it was, and the other way round. -/
import Derived.Test.YtjmpbcfbfbjenaaAesM1
import Derived.Test.YtjmpbcfbfbjenaaAesM2
import Derived.Test.YtjmpbcfbfbjenaaAesM3
namespace Go.Proofs.Ytjmpbcfbfbjenaa
open Go.RowKit
set_option maxRecDepth 100000
set_option linter.unusedVariables false
theorem unmix_mix_l (s : List W32) : (s.map mixW).map unmixW = s := by rw [List.map_map]; exact map_id' _ unmix_mix s
theorem mix_unmix_l (s : List W32) : (s.map unmixW).map mixW = s := by rw [List.map_map]; exact map_id' _ mix_unmix s
theorem dec_enc_N (ws : List W32) (n : Nat) (b : List UInt8) (hw : ws.length = 60) (h1 : 1 ≤ n) (h2 : n ≤ 14) : ∀ i, i ≤ n - 1 → decN backL ws n (encL ws n b) i = encN sboxL ws b (n - 1 - i) := by
  intro i
  induction i with
  | zero =>
    intro _
    have hl := encN_len sboxL ws b (n - 1) hw (by omega)
    have hs : (shiftW 1 ((encN sboxL ws b (n - 1)).map (subW sboxL))).length = 4 := shiftW_len _ _
    rw [decN, encL, encT, cols_out _ (addW_len _ _ _ hs (by omega)), add_add _ _ _ hs (by omega), shift_31 _ (by rw [List.length_map]; exact hl), sub_back_l]
    rfl
  | succ i ih =>
    intro hi
    have e : n - 1 - i = (n - 1 - (i + 1)) + 1 := by omega
    have hl := encN_len sboxL ws b (n - 1 - (i + 1)) hw (by omega)
    have hs : (shiftW 1 ((encN sboxL ws b (n - 1 - (i + 1))).map (subW sboxL))).length = 4 := shiftW_len _ _
    rw [decN, ih (by omega)]
    rw [e, encN, add_add _ _ _ (by rw [List.length_map]; exact hs) (by omega), unmix_mix_l, shift_31 _ (by rw [List.length_map]; exact hl), sub_back_l]
theorem dec_enc (ws : List W32) (n : Nat) (b : List UInt8) (hw : ws.length = 60) (h1 : 1 ≤ n) (h2 : n ≤ 14) (hb : b.length = 16) : decL ws n (encL ws n b) = b := by
  have h := dec_enc_N ws n b hw h1 h2 (n - 1) (Nat.le_refl _)
  rw [decL, decT, h, Nat.sub_self, encN, add_add _ _ _ (colsL_len b) (by omega), out_cols b hb]
theorem enc_dec_N (ws : List W32) (n : Nat) (b : List UInt8) (hw : ws.length = 60) (h1 : 1 ≤ n) (h2 : n ≤ 14) : ∀ j, j ≤ n - 1 → encN sboxL ws (decL ws n b) j = decN backL ws n b (n - 1 - j) := by
  intro j
  induction j with
  | zero =>
    intro _
    have hl := decN_len backL ws n b (n - 1)
    rw [encN, decL, decT, cols_out _ (addW_len _ _ _ hl (by omega)), add_add _ _ _ hl (by omega)]
    rfl
  | succ j ih =>
    intro hj
    have e : n - 1 - j = (n - 1 - (j + 1)) + 1 := by omega
    have hl := decN_len backL ws n b (n - 1 - (j + 1))
    have ek : n - 1 - (n - 1 - (j + 1)) = j + 1 := by omega
    have ha : (addW ws (j + 1) (decN backL ws n b (n - 1 - (j + 1)))).length = 4 := addW_len _ _ _ hl (by omega)
    rw [encN, ih (by omega), e, decN, ek, back_sub_l, shift_13 _ (by rw [List.length_map]; exact ha), mix_unmix_l, add_add _ _ _ hl (by omega)]
theorem enc_dec (ws : List W32) (n : Nat) (b : List UInt8) (hw : ws.length = 60) (h1 : 1 ≤ n) (h2 : n ≤ 14) (hb : b.length = 16) : encL ws n (decL ws n b) = b := by
  have h := enc_dec_N ws n b hw h1 h2 (n - 1) (Nat.le_refl _)
  have hc : (addW ws n (colsL b)).length = 4 := addW_len _ _ _ (colsL_len b) (by omega)
  rw [encL, encT, h, Nat.sub_self, decN, back_sub_l, shift_13 _ hc, add_add _ _ _ (colsL_len b) (by omega), out_cols b hb]
end Go.Proofs.Ytjmpbcfbfbjenaa

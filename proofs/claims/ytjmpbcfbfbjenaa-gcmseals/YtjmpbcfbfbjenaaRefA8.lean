/- The document's rounds told by its round keys, and the words of the code: the mathematics; the keys' row. -/
import Derived.Test.YtjmpbcfbfbjenaaRefA7
namespace Go.Proofs.Ytjmpbcfbfbjenaa
open Go.RowKit
set_option maxRecDepth 100000
set_option linter.unusedVariables false
set_option linter.unusedSimpArgs false
theorem inv_back (k : Nat) : bakT sboxL k = backN k := by
  induction k with
  | zero => rfl
  | succ k ih => rw [bakT, backN, ih]
theorem inv_backL : bakT sboxL 256 = backL := by rw [inv_back, backL_def]
theorem stE_enc (T : List UInt8) (ws : List W32) (n : Nat) (b : List UInt8) (i : Nat) (hi : i + 1 ≤ n) : stE T (rkB ws) (n + 1) b i = encB T ws b i := by
  induction i with
  | zero => rfl
  | succ i ih => rw [stE, encB, ih (by omega), if_pos (by omega)]
theorem enc_ref (ws : List W32) (n : Nat) (b : List UInt8) (hb : b.length = 16) (hw : ws.length = 60) (h1 : 1 ≤ n) (h2 : n ≤ 14) : stE sboxL (rkB ws) (n + 1) b (n + 1 - 1) = encL ws n b := by
  rw [encL_bytes ws n b hb hw h1 h2]
  obtain ⟨m, rfl⟩ : ∃ m, n = m + 1 := ⟨n - 1, by omega⟩
  rw [show m + 1 + 1 - 1 = m + 1 by omega, stE, if_neg (by omega), stE_enc sboxL ws (m + 1) b m (by omega)]; rfl
theorem stD_dec (T : List UInt8) (ws : List W32) (n : Nat) (b : List UInt8) (i : Nat) (hi : i + 1 ≤ n) : shB 3 T (stD T (rkB ws) (n + 1) b i) = decB T ws n b i := by
  induction i with
  | zero => rfl
  | succ i ih =>
    rw [stD, decB, if_pos (by omega), ih (by omega), show n + 1 - 2 - i = n - 1 - i by omega]
theorem dec_ref (ws : List W32) (n : Nat) (b : List UInt8) (hb : b.length = 16) (hw : ws.length = 60) (h1 : 1 ≤ n) (h2 : n ≤ 14) : stD (bakT sboxL 256) (rkB ws) (n + 1) b (n + 1 - 1) = decL ws n b := by
  rw [decL_bytes ws n b hb hw h1 h2, inv_backL]
  obtain ⟨m, rfl⟩ : ∃ m, n = m + 1 := ⟨n - 1, by omega⟩
  rw [show m + 1 + 1 - 1 = m + 1 by omega, stD, if_neg (by omega), stD_dec backL ws (m + 1) b m (by omega), show m + 1 + 1 - 2 - m = 0 by omega]; rfl
theorem keysAt_own {w : World} {base k7 : Nat} {v : Value} {F : List UInt8} {RK : Nat → List UInt8} (h : w.ownsRow base 23 16 v k7 (F.map bv)) (h0 : 0 < k7) (hR : ∀ r, r < k7 → (F.drop (16 * r)).take 16 = RK r) :
    ∃ A c, v = .slice A k7 c ∧ KeysAt w A k7 RK := by
  obtain ⟨A, c, rfl, hl, hc⟩ := own_readN h
  obtain ⟨g, rfl, hg, hgw, hcell⟩ := hc h0
  refine ⟨_, _, rfl, g, rfl, hgw, fun r hr j v hv => ?_⟩
  refine hcell _ _ ?_
  rw [← hR r hr] at hv
  have hj : j < 16 := by
    have := (List.getElem?_eq_some_iff.1 hv).1
    simp at this; omega
  rw [List.getElem?_map, List.getElem?_take_of_lt hj, List.getElem?_drop] at hv
  rw [List.getElem?_map, show r * 16 + j = 16 * r + j by omega]
  exact hv
/-- the row that palfreyref03.Keys tells holds the round keys -/
theorem keys_row (nk : Nat) (key : List UInt8) (hk : key.length = 4 * nk) (hn : nk = 4 ∨ nk = 8) (r : Nat) (hr : r < nk + 7) :
    ((wBy sboxL nk key (3 * nk + 28)).drop (16 * r)).take 16 = rkB (expandL key) r := by
  have e : expandL key = (expN sboxL nk key (3 * nk + 28)).1 := by
    unfold expandL
    rw [hk, show 4 * nk / 4 = nk by omega, show 4 * (nk + 7) - nk = 3 * nk + 28 by omega]
  rw [e, wBy]
  have hl := expN_len sboxL nk key (3 * nk + 28) (by omega)
  exact rk_bytes _ r (nk + (3 * nk + 28)) (by omega) (by omega)
set_option maxHeartbeats 1000000 in
theorem refKeys_row (A : Option Addr) (n c nk : Nat) (key : List UInt8) (w : World) (hl : key.length = n) (hn : n = 4 * nk) (hk : nk = 4 ∨ nk = 8) (hS : Sl w A c key) :
    Calls Try.prog 27 #[.agg (sboxL.map bv).toArray, .slice A n c] w fun e w' => ∃ A' c', e = .returned (.slice A' (nk + 7) c') ∧ KeysAt w' A' (nk + 7) (rkB (expandL key)) ∧ Below w.heap.size w w' := by
  refine (refKeys_any sboxL A n c nk key w sboxL_len hl hn hk hS).mono ?_
  rintro e w' ⟨v, rfl, hO, hb⟩
  obtain ⟨A', c', rfl, hK⟩ := keysAt_own hO (by omega) (fun r hr => keys_row nk key (hl.trans hn) hk r hr)
  exact ⟨A', c', rfl, hK, hb⟩
theorem refEncK_any (key : List UInt8) (nk : Nat) (b : List UInt8) (A : Option Addr) (cc : Nat) (w : World) (hk : nk = 4 ∨ nk = 8) (hl : key.length = 4 * nk) (hb : b.length = 16) (hA : KeysAt w A (nk + 7) (rkB (expandL key))) :
    Calls Try.prog 34 #[.agg (sboxL.map bv).toArray, .slice A (nk + 7) cc, .agg (b.map bv).toArray] w fun e w' => e = .returned (.agg ((encL (expandL key) (nk + 6) b).map bv).toArray) ∧ Below w.heap.size w w' := by
  have hw := expandL_len key (by omega)
  rw [← enc_ref (expandL key) (nk + 6) b hb hw (by omega) (by omega)]
  exact refEnc_any sboxL (rkB (expandL key)) (nk + 7) b A cc w sboxL_len hb (by omega) (by omega) (fun r hr => rkB_len _ _ (by omega)) hA
theorem refDecK_any (key : List UInt8) (nk : Nat) (b : List UInt8) (A : Option Addr) (cc : Nat) (w : World) (hk : nk = 4 ∨ nk = 8) (hl : key.length = 4 * nk) (hb : b.length = 16) (hA : KeysAt w A (nk + 7) (rkB (expandL key))) :
    Calls Try.prog 44 #[.agg (sboxL.map bv).toArray, .slice A (nk + 7) cc, .agg (b.map bv).toArray] w fun e w' => e = .returned (.agg ((decL (expandL key) (nk + 6) b).map bv).toArray) ∧ Below w.heap.size w w' := by
  have hw := expandL_len key (by omega)
  rw [← dec_ref (expandL key) (nk + 6) b hb hw (by omega) (by omega)]
  exact refDec_any sboxL (rkB (expandL key)) (nk + 7) b A cc w sboxL_len hb (by omega) (by omega) (fun r hr => rkB_len _ _ (by omega)) hA
end Go.Proofs.Ytjmpbcfbfbjenaa

/- The document's round keys, byte by byte, and words: the mathematics. -/
import Derived.Test.YtjmpbcfbfbjenaaRefAM2
namespace Go.Proofs.Ytjmpbcfbfbjenaa
open Go.RowKit
set_option maxRecDepth 100000
set_option linter.unusedVariables false
set_option linter.unusedSimpArgs false
theorem outL_snoc (s : List W32) (x : W32) : outL (s ++ [x]) = outL s ++ wb x := by simp [outL, wb]
theorem outL_append (s t : List W32) : outL (s ++ t) = outL s ++ outL t := by simp [outL]
theorem outL_word (s : List W32) (i r : Nat) (hi : i < s.length) (hr : r < 4) : (outL s).getD (4 * i + r) 0 = (wb (s.getD i 0)).getD r 0 := by
  induction s generalizing i with
  | nil => simp at hi
  | cons x s ih =>
    have e : outL (x :: s) = wb x ++ outL s := by simp [outL, wb]
    rw [e, List.getD_eq_getElem?_getD]
    match i with
    | 0 =>
      rw [Nat.mul_zero, Nat.zero_add, List.getElem?_append_left (by rw [wb_len]; exact hr)]
      simp [List.getD]
    | i + 1 =>
      rw [List.getElem?_append_right (by rw [wb_len]; omega), wb_len, show 4 * (i + 1) + r - 4 = 4 * i + r by omega, ← List.getD_eq_getElem?_getD, ih i (by simp at hi; omega)]
      simp [List.getD]
theorem rot8_wb8 : ∀ y : Fin 256, ∀ i : Fin 4, wb (rotl (placed y.1 i.1) 8) = [(wb (placed y.1 i.1)).getD 1 0, (wb (placed y.1 i.1)).getD 2 0, (wb (placed y.1 i.1)).getD 3 0, (wb (placed y.1 i.1)).getD 0 0] := by decide +kernel
theorem rot_xor4 (a b : List UInt8) (ha : a.length = 4) (hb : b.length = 4) : [(xorL a b).getD 1 0, (xorL a b).getD 2 0, (xorL a b).getD 3 0, (xorL a b).getD 0 0] = xorL [a.getD 1 0, a.getD 2 0, a.getD 3 0, a.getD 0 0] [b.getD 1 0, b.getD 2 0, b.getD 3 0, b.getD 0 0] := by
  rw [xorL_get a b 0 ha hb (by omega), xorL_get a b 1 ha hb (by omega), xorL_get a b 2 ha hb (by omega), xorL_get a b 3 ha hb (by omega)]; rfl
theorem lin_word (f : W32 → W32) (G : List UInt8 → List UInt8) (hf : ∀ x y, f (x ^^^ y) = f x ^^^ f y) (hG : ∀ a b : List UInt8, a.length = 4 → b.length = 4 → G (xorL a b) = xorL (G a) (G b)) (hd : ∀ y : Fin 256, ∀ i : Fin 4, wb (f (placed y.1 i.1)) = G (wb (placed y.1 i.1))) (x : W32) : wb (f x) = G (wb x) := by
  have h0 : ∀ b : UInt8, wb (f (placed b.toNat 0)) = G (wb (placed b.toNat 0)) := fun b => hd ⟨b.toNat, b.toNat_lt⟩ 0
  have h1 : ∀ b : UInt8, wb (f (placed b.toNat 1)) = G (wb (placed b.toNat 1)) := fun b => hd ⟨b.toNat, b.toNat_lt⟩ 1
  have h2 : ∀ b : UInt8, wb (f (placed b.toNat 2)) = G (wb (placed b.toNat 2)) := fun b => hd ⟨b.toNat, b.toNat_lt⟩ 2
  have h3 : ∀ b : UInt8, wb (f (placed b.toNat 3)) = G (wb (placed b.toNat 3)) := fun b => hd ⟨b.toNat, b.toNat_lt⟩ 3
  conv => lhs; rw [← placed_sum x]
  conv => rhs; rw [← placed_sum x]
  rw [hf, hf, hf, wb_xor, wb_xor, wb_xor, wb_xor, wb_xor, wb_xor, h0, h1, h2, h3]
  rw [hG _ _ (by simp [xorL, wb_len]) (wb_len _), hG _ _ (by simp [xorL, wb_len]) (wb_len _), hG _ _ (wb_len _) (wb_len _)]
theorem rot8_wb (x : W32) : wb (rotl x 8) = [(wb x).getD 1 0, (wb x).getD 2 0, (wb x).getD 3 0, (wb x).getD 0 0] :=
  lin_word (fun x => rotl x 8) (fun l => [l.getD 1 0, l.getD 2 0, l.getD 3 0, l.getD 0 0]) (fun x y => rotl_xor x y 8) rot_xor4 rot8_wb8 x
theorem con_dbl8 : ∀ c : Fin 256, dblW (placed c.1 3) = placed (mulB (UInt8.ofNat c.1) 2).toNat 3 := by decide +kernel
theorem con_dbl (c : UInt8) : dblW (placed c.toNat 3) = placed (mulB c 2).toNat 3 := by
  have := con_dbl8 ⟨c.toNat, c.toNat_lt⟩
  simp only [of8] at this
  exact this
theorem con_wb (c : UInt8) : wb (placed c.toNat 3) = [c, 0, 0, 0] := by
  have := placed_wb ⟨c.toNat, c.toNat_lt⟩ 3
  simp only [of8] at this
  exact this
/-- the constant behind i steps -/
def conB (nk : Nat) : Nat → UInt8
  | 0 => 1
  | i + 1 => if i % nk = 0 then mulB (conB nk i) 2 else conB nk i
theorem con_word (T : List UInt8) (nk : Nat) (key : List UInt8) (i : Nat) : (expN T nk key i).2 = placed (conB nk i).toNat 3 := by
  induction i with
  | zero => simp only [expN, conB]; decide
  | succ i ih =>
    simp only [expN, expStep, conB]
    split
    · rw [ih, con_dbl]
    · exact ih
/-- the last word's bytes, as they are put to the one nk ahead -/
def lastB (T : List UInt8) (nk : Nat) (con : UInt8) (x : List UInt8) (i : Nat) : List UInt8 :=
  if i % nk = 0 then [T.getD (x.getD 1 0).toNat 0 ^^^ con, T.getD (x.getD 2 0).toNat 0, T.getD (x.getD 3 0).toNat 0, T.getD (x.getD 0 0).toNat 0]
  else if i % nk = 4 then [T.getD (x.getD 0 0).toNat 0, T.getD (x.getD 1 0).toNat 0, T.getD (x.getD 2 0).toNat 0, T.getD (x.getD 3 0).toNat 0] else x
theorem last_word (T : List UInt8) (nk : Nat) (key : List UInt8) (i : Nat) : wb (lastW T nk (expN T nk key i) i) = lastB T nk (conB nk i) (wb ((expN T nk key i).1.getD (nk + i - 1) 0)) i := by
  unfold lastW lastB
  generalize (expN T nk key i).1.getD (nk + i - 1) 0 = x
  split
  · rw [wb_xor, sub_bytes, rot8_wb, con_word, con_wb]
    simp [xorL]
  · split
    · rw [sub_bytes, wb_four]; rfl
    · rfl
/-- the bytes of the words so far -/
def wBy (T : List UInt8) (nk : Nat) (key : List UInt8) (i : Nat) : List UInt8 := outL ((expN T nk key i).1.take (nk + i))
theorem wBy_len (T : List UInt8) (nk : Nat) (key : List UInt8) (i : Nat) (hk : nk + i ≤ 60) : (wBy T nk key i).length = 4 * (nk + i) := by
  rw [wBy, outL_len, List.length_take, expN_len _ _ _ _ (by omega)]; omega
theorem wBy_get (T : List UInt8) (nk : Nat) (key : List UInt8) (i j r : Nat) (hk : nk + i ≤ 60) (hj : j < nk + i) (hr : r < 4) : (wBy T nk key i).getD (4 * j + r) 0 = (wb ((expN T nk key i).1.getD j 0)).getD r 0 := by
  rw [wBy, outL_word _ _ _ (by rw [List.length_take, expN_len _ _ _ _ (by omega)]; omega) hr]
  congr 2
  simp [List.getD, List.getElem?_take, hj]
theorem wBy_step (T : List UInt8) (nk : Nat) (key : List UInt8) (i : Nat) (hk : nk + i < 60) (hn : 0 < nk) :
    wBy T nk key (i + 1) = wBy T nk key i ++ xorL (lastB T nk (conB nk i) (wb ((expN T nk key i).1.getD (nk + i - 1) 0)) i) (wb ((expN T nk key i).1.getD i 0)) := by
  have hl := expN_len T nk key i (by omega)
  have e : (expN T nk key (i + 1)).1.take (nk + (i + 1)) = (expN T nk key i).1.take (nk + i) ++ [(expN T nk key i).1.getD i 0 ^^^ lastW T nk (expN T nk key i) i] := by
    simp only [expN, expStep]
    rw [show nk + (i + 1) = (nk + i) + 1 by omega, List.take_succ_eq_append_getElem (by rw [List.length_set]; omega), List.take_set_of_le (by omega), List.getElem_set_self]
  rw [wBy, e, outL_snoc, ← wBy, wb_xor, last_word]
  congr 1
  simp [xorL, List.zipWith_comm_of_comm (fun a b => UInt8.xor_comm a b)]
theorem wBy_zero (T : List UInt8) (nk : Nat) (key : List UInt8) (hl : key.length = 4 * nk) (hn : nk ≤ 8) : wBy T nk key 0 = key := by
  have e : (expN T nk key 0).1.take (nk + 0) = (List.range nk).map (wordAt key) := by
    simp only [expN, keyRow, Nat.add_zero]
    exact List.take_left' (by simp)
  rw [wBy, e]
  clear e
  have h : ∀ k, k ≤ nk → outL ((List.range k).map (wordAt key)) = key.take (4 * k) := by
    intro k hk
    induction k with
    | zero => simp [outL]
    | succ k ih =>
      rw [List.range_succ, List.map_append, List.map_cons, List.map_nil, outL_snoc, ih (by omega), wb, put_word key k (by omega), show 4 * (k + 1) = 4 * k + 4 by omega, List.take_add]
  rw [h nk (Nat.le_refl _), List.take_of_length_le (by omega)]
/-- a round's key is 16 of these bytes -/
theorem rk_bytes (ws : List W32) (r N : Nat) (h : 4 * r + 4 ≤ N) (hN : N ≤ ws.length) : ((outL (ws.take N)).drop (16 * r)).take 16 = rkB ws r := by
  have e : ws.take N = ws.take (4 * r) ++ (keyL ws r ++ (ws.take N).drop (4 * r + 4)) := by
    have h1 := List.take_append_drop (4 * r) (ws.take N)
    have h2 := List.take_append_drop 4 ((ws.take N).drop (4 * r))
    rw [List.drop_drop] at h2
    rw [keyL]
    have h3 : (ws.drop (4 * r)).take 4 = ((ws.take N).drop (4 * r)).take 4 := by
      rw [List.drop_take, List.take_take, Nat.min_eq_left (by omega)]
    have h4 : ws.take (4 * r) = (ws.take N).take (4 * r) := by rw [List.take_take, Nat.min_eq_left (by omega)]
    rw [h3, h4, h2, h1]
  rw [e, outL_append, outL_append]
  have l1 : (outL (ws.take (4 * r))).length = 16 * r := by rw [outL_len, List.length_take]; omega
  have l2 : (outL (keyL ws r)).length = 16 := by rw [outL_len]; simp [keyL]; omega
  rw [← l1, List.drop_left, rkB]
  exact List.take_left' l2
end Go.Proofs.Ytjmpbcfbfbjenaa

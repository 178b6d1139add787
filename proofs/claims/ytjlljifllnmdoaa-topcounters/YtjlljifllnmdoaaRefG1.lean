/- The document's product of blocks (palfreyref06): the mathematics, and its at. -/
import Derived.Test.YtjlljifllnmdoaaLawsG3
namespace Go.Proofs.Ytjlljifllnmdoaa
open Go.RowKit
set_option maxRecDepth 100000
set_option linter.unusedVariables false
set_option linter.unusedSimpArgs false
def ivG (n : Nat) : Value := .int .i64 (n : Int)
theorem icellG {w : World} {g : Nat} {l : List Nat} {t : TypeId} {fr : Nat × Nat} (h : w.heap[g]? = some (.cells (l.map ivG).toArray t fr)) (i : Nat) (hi : i < l.length) : w.cell? ⟨g, i, none⟩ = some (.int .i64 ((l.getD i 0 : Nat) : Int)) := by
  rw [cell_of_heap h, List.getElem?_map]
  simp [List.getD, hi, ivG]
theorem isetG {W : World} {g : Nat} {l : List Nat} {t : TypeId} (H : W.heap[g]? = some (.cells (l.map ivG).toArray t (0, 0))) (i v : Nat) : (W.setCell ⟨g, i, none⟩ (.int .i64 (v : Int))).heap[g]? = some (.cells ((l.set i v).map ivG).toArray t (0, 0)) := by
  have := heap_set H i (ivG v)
  rw [← List.map_set] at this
  exact this
/-- whether a number is odd -/
def oddB (x : Nat) : Bool := x % 2 == 1
theorem oddB_add (x t : Nat) (ht : t < 2) : oddB (x + t) = (oddB x ^^ oddB t) := by
  have h1 : x % 2 = 0 ∨ x % 2 = 1 := by omega
  have h2 : t = 0 ∨ t = 1 := by omega
  unfold oddB
  rcases h1 with h1 | h1 <;> rcases h2 with rfl | rfl <;> simp [h1, Nat.add_mod]
theorem oddB_yes {x : Nat} (h : x % 2 = 1) : oddB x = true := by unfold oddB; rw [h]; rfl
theorem oddB_no {x : Nat} (h : ¬ x % 2 = 1) : oddB x = false := by unfold oddB; rw [show x % 2 = 0 by omega]; rfl
/-- the sum of the powers of x below n at which p is odd -/
def evF (p : List Nat) : Nat → Nat
  | 0 => 0
  | n + 1 => evF p n ^^^ sel (oddB (p.getD n 0)) (pw n)
theorem getD_setG (p : List Nat) (k v n : Nat) (hk : k < p.length) : (p.set k v).getD n 0 = if k = n then v else p.getD n 0 := by
  rw [List.getD, List.getElem?_set]
  split
  · simp [hk]
  · rfl
theorem evF_above (p : List Nat) (k v n : Nat) (hk : k < p.length) (h : n ≤ k) : evF (p.set k v) n = evF p n := by
  induction n with
  | zero => rfl
  | succ n ih => rw [evF, evF, ih (by omega), getD_setG p k v n hk, if_neg (by omega)]
theorem evF_add (p : List Nat) (k t n : Nat) (hk : k < p.length) (ht : t < 2) (h : k < n) : evF (p.set k (p.getD k 0 + t)) n = evF p n ^^^ sel (oddB t) (pw k) := by
  induction n with
  | zero => omega
  | succ n ih =>
    rw [evF, evF, getD_setG p k _ n hk]
    by_cases e : k = n
    · subst e
      rw [if_pos rfl, evF_above p k _ k hk (Nat.le_refl _), oddB_add _ _ ht, sel_xor_left, Nat.xor_assoc]
    · rw [if_neg e, ih (by omega), Nat.xor_assoc, Nat.xor_assoc, Nat.xor_comm (sel (oddB t) (pw k))]
theorem evF_zero (n m : Nat) : evF (List.replicate m 0) n = 0 := by
  induction n with
  | zero => rfl
  | succ n ih =>
    have : (List.replicate m 0).getD n 0 = 0 := by rw [List.getD, List.getElem?_replicate]; split <;> rfl
    rw [evF, ih, this, show oddB 0 = false from rfl, sel_false]; rfl
/-- 256 numbers, none above b, that stand for v up to the n-th -/
structure PG (p : List Nat) (n v b : Nat) : Prop where
  len : p.length = 256
  bd : ∀ j, p.getD j 0 ≤ b
  ev : evF p n = v
theorem PG.mono {p : List Nat} {n v b b' : Nat} (h : PG p n v b) (hb : b ≤ b') : PG p n v b' := ⟨h.len, fun j => Nat.le_trans (h.bd j) hb, h.ev⟩
theorem PG.add {p : List Nat} {n v b : Nat} (h : PG p n v b) (k t : Nat) (hk : k < n) (hn : n ≤ 256) (ht : t < 2) : PG (p.set k (p.getD k 0 + t)) n (v ^^^ sel (oddB t) (pw k)) (b + 1) := by
  have hkl : k < p.length := by rw [h.len]; omega
  refine ⟨by rw [List.length_set]; exact h.len, fun j => ?_, by rw [evF_add p k t n hkl ht hk, h.ev]⟩
  rw [getD_setG p k _ j hkl]
  have h1 := h.bd j; have h2 := h.bd k
  split <;> omega
theorem PG.inc {p : List Nat} {n v b : Nat} (h : PG p n v b) (k : Nat) (hk : k < n) (hn : n ≤ 256) : PG (p.set k (p.getD k 0 + 1)) n (v ^^^ pw k) (b + 1) := h.add k 1 hk hn (by decide)
theorem PG.init : PG (List.replicate 256 0) 255 0 0 := ⟨List.length_replicate, fun j => by rw [List.getD, List.getElem?_replicate]; split <;> exact Nat.le_refl _, evF_zero _ _⟩
/-- the i-th bit of a block, as a number -/
def bitI (b : List UInt8) (i : Nat) : Nat := if bitV (bigN b) i then 1 else 0
theorem bitI_lt (b : List UInt8) (i : Nat) : bitI b i < 2 := by unfold bitI; split <;> decide
theorem bitI_odd (b : List UInt8) (i : Nat) : oddB (bitI b i) = bitV (bigN b) i := by unfold bitI; cases bitV (bigN b) i <;> rfl
theorem bitI_zero (b : List UInt8) (i : Nat) : bitI b i = 0 ↔ bitV (bigN b) i = false := by unfold bitI; cases bitV (bigN b) i <;> simp
/-- a row's step: the k-th power put to what there is -/
theorem PG.row {p : List Nat} {i k e c B : Nat} (b : List UInt8) (h : PG p 255 (e ^^^ actN (bigN b) (pw i) k) c) (hi : i < 128) (hk : k < 128) : PG (p.set (i + k) (p.getD (i + k) 0 + bitI b k)) 255 (e ^^^ actN (bigN b) (pw i) (k + 1)) (c + 1) := by
  have := h.add (i + k) (bitI b k) (by omega) (by decide) (bitI_lt _ _)
  rw [bitI_odd, pw_add, Nat.xor_assoc] at this
  exact this
theorem row_end (a b : List UInt8) (i : Nat) (hb : b.length = 16) (h : bitI a i ≠ 0) : actN (bigN a) (bigN b) i ^^^ actN (bigN b) (pw i) 128 = actN (bigN a) (bigN b) (i + 1) := by
  have h1 : bitV (bigN a) i = true := by
    cases h2 : bitV (bigN a) i
    · exact absurd ((bitI_zero a i).2 h2) h
    · rfl
  rw [show actN (bigN a) (bigN b) (i + 1) = actN (bigN a) (bigN b) i ^^^ sel (bitV (bigN a) i) (upN (bigN b) i) from rfl, h1, sel_true]
  congr 1
  exact mulV_pw _ _ (big16_lt b hb)
theorem row_none (a b : List UInt8) (i : Nat) (h : bitI a i = 0) : actN (bigN a) (bigN b) i = actN (bigN a) (bigN b) (i + 1) := by
  rw [actN, (bitI_zero a i).1 h, sel_false, Nat.xor_zero]
/-- what is above, taken in -/
theorem PG.fold {p : List Nat} {i v b : Nat} (h : PG p (i + 1) v b) (h1 : 128 ≤ i) (h2 : i < 255) (ho : p.getD i 0 % 2 = 1) (p1 p2 p3 p4 : List Nat)
    (e1 : p1 = p.set (i - 128) (p.getD (i - 128) 0 + 1)) (e2 : p2 = p1.set (i - 127) (p1.getD (i - 127) 0 + 1)) (e3 : p3 = p2.set (i - 126) (p2.getD (i - 126) 0 + 1)) (e4 : p4 = p3.set (i - 121) (p3.getD (i - 121) 0 + 1)) : PG p4 i v (b + 4) := by
  have h0 : PG p i (evF p i) b := ⟨h.len, h.bd, rfl⟩
  have k4 := (((h0.inc (i - 128) (by omega) (by omega)).inc (i - 127) (by omega) (by omega)).inc (i - 126) (by omega) (by omega)).inc (i - 121) (by omega) (by omega)
  rw [← e1, ← e2, ← e3, ← e4] at k4
  refine ⟨k4.len, k4.bd, k4.ev.trans ?_⟩
  have hv := h.ev
  rw [evF, oddB_yes ho, sel_true, pw_over i h1] at hv
  rw [← hv]
  simp only [Nat.xor_assoc]
theorem PG.skip {p : List Nat} {i v b : Nat} (h : PG p (i + 1) v b) (ho : ¬ p.getD i 0 % 2 = 1) : PG p i v b := by
  refine ⟨h.len, h.bd, ?_⟩
  have hv := h.ev
  rw [evF, oddB_no ho, sel_false, Nat.xor_zero] at hv
  exact hv
theorem evF_lt (p : List Nat) (n : Nat) : evF p n < 2 ^ 128 := by
  induction n with
  | zero => rw [evF]; decide
  | succ n ih => exact Nat.xor_lt_two_pow ih (sel_lt _ (pw_lt _))
theorem evF_bit (p : List Nat) (n j : Nat) (hn : n ≤ 128) (hj : j < 128) (h : n ≤ j) : bitV (evF p n) j = false := by
  induction n with
  | zero => simp [evF, bitV]
  | succ n ih => rw [evF, bitV_xor, ih (by omega) (by omega), bitV_sel, bitV_pw n j (by omega) hj]; simp; omega
theorem or_bit (x : UInt8) (k : Nat) (hk : k ≤ 7) (j : Nat) (hj : j ≤ 7) : (x ||| UInt8.ofNat (2 ^ k)).toNat.testBit j = (x.toNat.testBit j || decide (k = j)) := by
  have h2 : (UInt8.ofNat (2 ^ k)).toNat = 2 ^ k := by
    rw [UInt8.toNat_ofNat']; exact Nat.mod_eq_of_lt (Nat.pow_lt_pow_right (by decide) (by omega))
  rw [UInt8.toNat_or, Nat.testBit_or, h2, Nat.testBit_two_pow]
theorem blk_or (p : List Nat) (i : Nat) (hi : i < 128) (ho : p.getD i 0 % 2 = 1) : (blkL (evF p i)).set (i / 8) ((blkL (evF p i)).getD (i / 8) 0 ||| UInt8.ofNat (2 ^ (7 - i % 8))) = blkL (evF p (i + 1)) := by
  have hl : ((blkL (evF p i)).set (i / 8) ((blkL (evF p i)).getD (i / 8) 0 ||| UInt8.ofNat (2 ^ (7 - i % 8)))).length = 16 := by rw [List.length_set, blkL_len]
  rw [← blk_big _ hl]
  congr 1
  refine eq_of_bits _ _ (big16_lt _ hl) (evF_lt _ _) fun j hj => ?_
  rw [bit_byte _ hl j hj, evF, oddB_yes ho, sel_true, bitV_xor, bitV_pw i j hi hj]
  have hb := bit_byte (blkL (evF p i)) (blkL_len _) j hj
  rw [bigN_blk _ (evF_lt _ _)] at hb
  have hi8 : i / 8 < (blkL (evF p i)).length := by rw [blkL_len]; omega
  have hg : ((blkL (evF p i)).set (i / 8) ((blkL (evF p i)).getD (i / 8) 0 ||| UInt8.ofNat (2 ^ (7 - i % 8)))).getD (j / 8) 0 = if i / 8 = j / 8 then (blkL (evF p i)).getD (i / 8) 0 ||| UInt8.ofNat (2 ^ (7 - i % 8)) else (blkL (evF p i)).getD (j / 8) 0 := by
    rw [List.getD, List.getElem?_set]
    split
    · simp [hi8]
    · rfl
  rw [hg, hb]
  by_cases e : i / 8 = j / 8
  · rw [if_pos e, or_bit _ _ (by omega) _ (by omega), e]
    by_cases e2 : i = j
    · subst e2
      have h0 := evF_bit p i i (by omega) hi (Nat.le_refl _)
      rw [hb] at h0
      rw [h0]; simp
    · rw [decide_eq_false e2, decide_eq_false (by omega)]; simp
  · rw [if_neg e, decide_eq_false (by intro h; exact e (by rw [h]))]; simp
theorem blk_skip (p : List Nat) (i : Nat) (ho : ¬ p.getD i 0 % 2 = 1) : blkL (evF p i) = blkL (evF p (i + 1)) := by
  rw [evF, oddB_no ho, sel_false, Nat.xor_zero]
end Go.Proofs.Ytjlljifllnmdoaa

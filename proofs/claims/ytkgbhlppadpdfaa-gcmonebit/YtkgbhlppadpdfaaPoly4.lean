/- Numbers of three words: times. -/
import Derived.Test.YtkgbhlppadpdfaaPoly3
namespace Go.Proofs.Ytkgbhlppadpdfaa
open Go.RowKit
set_option maxRecDepth 100000
set_option linter.unusedVariables false
set_option linter.unusedSimpArgs false
def tval (X R L : List Nat) (i j : Nat) : Nat := L.getD (i + j) 0 + X.getD j 0 * R.getD i 0 + L.getD (i + 3) 0
def tstep (X R L : List Nat) (i j : Nat) : List Nat := (L.set (i + j) (tval X R L i j % 18446744073709551616)).set (i + 3) (tval X R L i j / 18446744073709551616)
def outK (X R : List Nat) : Nat → List Nat
  | 0 => [0, 0, 0, 0, 0]
  | k + 1 => tstep X R (outK X R k) (k / 3) (k % 3)
theorem outK_len (X R : List Nat) (k : Nat) : (outK X R k).length = 5 := by
  induction k with
  | zero => rfl
  | succ k ih => simp [outK, tstep, ih]
theorem set_lt (L : List Nat) (i v B : Nat) (hv : v < B) (h : ∀ m, L.getD m 0 < B) : ∀ m, (L.set i v).getD m 0 < B := by
  intro m
  have := h m
  simp only [List.getD, List.getElem?_set] at this ⊢
  split
  · split <;> simp <;> omega
  · exact this
theorem outK_lt (X R : List Nat) (hX : ∀ m, X.getD m 0 < 18446744073709551616) (hR : ∀ m, R.getD m 0 < 18446744073709551616) (k : Nat) : ∀ m, (outK X R k).getD m 0 < 18446744073709551616 := by
  induction k with
  | zero =>
    intro m
    match m with
    | 0 => show (0 : Nat) < _; decide
    | 1 => show (0 : Nat) < _; decide
    | 2 => show (0 : Nat) < _; decide
    | 3 => show (0 : Nat) < _; decide
    | 4 => show (0 : Nat) < _; decide
    | m + 5 => simp [outK]
  | succ k ih =>
    have ht := onto_math _ _ _ _ (ih (k / 3 + k % 3)) (ih (k / 3 + 3)) (hX (k % 3)) (hR (k / 3))
    have hv : tval X R (outK X R k) (k / 3) (k % 3) < 340282366920938463463374607431768211456 := ht
    exact set_lt _ _ _ _ (by omega) (set_lt _ _ _ _ (by omega) ih)
theorem numL_lt (n : Nat) : ∀ m, (numL n).getD m 0 < 18446744073709551616 := by
  intro m
  match m with
  | 0 => exact Nat.mod_lt _ (by decide)
  | 1 => exact Nat.mod_lt _ (by decide)
  | 2 => exact Nat.mod_lt _ (by decide)
  | m + 3 => simp [numL]
theorem out_six (x0 x1 x2 r0 r1 r2 : Nat) : ∃ a b c d e, outK [x0, x1, x2] [r0, r1, r2] 6 = [a, b, c, d, e] ∧ a < 18446744073709551616 ∧ b < 18446744073709551616 ∧ c < 18446744073709551616 ∧ d < 18446744073709551616 ∧
    a + 18446744073709551616 * b + 340282366920938463463374607431768211456 * c + 6277101735386680763835789423207666416102355444464034512896 * d + 115792089237316195423570985008687907853269984665640564039457584007913129639936 * e =
      x0 * r0 + 18446744073709551616 * (x1 * r0 + x0 * r1) + 340282366920938463463374607431768211456 * (x2 * r0 + x1 * r1) + 6277101735386680763835789423207666416102355444464034512896 * (x2 * r1) := by
  have s0 : outK [x0, x1, x2] [r0, r1, r2] 0 = [0, 0, 0, 0, 0] := rfl
  obtain ⟨t1, h1⟩ : ∃ t, t = 0 + x0 * r0 + 0 := ⟨_, rfl⟩
  have s1 : outK [x0, x1, x2] [r0, r1, r2] 1 = [t1 % 18446744073709551616, 0, 0, t1 / 18446744073709551616, 0] := by rw [outK, s0, h1]; rfl
  obtain ⟨t2, h2⟩ : ∃ t, t = 0 + x1 * r0 + t1 / 18446744073709551616 := ⟨_, rfl⟩
  have s2 : outK [x0, x1, x2] [r0, r1, r2] 2 = [t1 % 18446744073709551616, t2 % 18446744073709551616, 0, t2 / 18446744073709551616, 0] := by rw [outK, s1, h2]; rfl
  obtain ⟨t3, h3⟩ : ∃ t, t = 0 + x2 * r0 + t2 / 18446744073709551616 := ⟨_, rfl⟩
  have s3 : outK [x0, x1, x2] [r0, r1, r2] 3 = [t1 % 18446744073709551616, t2 % 18446744073709551616, t3 % 18446744073709551616, t3 / 18446744073709551616, 0] := by rw [outK, s2, h3]; rfl
  obtain ⟨t4, h4⟩ : ∃ t, t = t2 % 18446744073709551616 + x0 * r1 + 0 := ⟨_, rfl⟩
  have s4 : outK [x0, x1, x2] [r0, r1, r2] 4 = [t1 % 18446744073709551616, t4 % 18446744073709551616, t3 % 18446744073709551616, t3 / 18446744073709551616, t4 / 18446744073709551616] := by rw [outK, s3, h4]; rfl
  obtain ⟨t5, h5⟩ : ∃ t, t = t3 % 18446744073709551616 + x1 * r1 + t4 / 18446744073709551616 := ⟨_, rfl⟩
  have s5 : outK [x0, x1, x2] [r0, r1, r2] 5 = [t1 % 18446744073709551616, t4 % 18446744073709551616, t5 % 18446744073709551616, t3 / 18446744073709551616, t5 / 18446744073709551616] := by rw [outK, s4, h5]; rfl
  obtain ⟨t6, h6⟩ : ∃ t, t = t3 / 18446744073709551616 + x2 * r1 + t5 / 18446744073709551616 := ⟨_, rfl⟩
  have s6 : outK [x0, x1, x2] [r0, r1, r2] 6 = [t1 % 18446744073709551616, t4 % 18446744073709551616, t5 % 18446744073709551616, t6 % 18446744073709551616, t6 / 18446744073709551616] := by rw [outK, s5, h6]; rfl
  refine ⟨_, _, _, _, _, s6, Nat.mod_lt _ (by decide), Nat.mod_lt _ (by decide), Nat.mod_lt _ (by decide), Nat.mod_lt _ (by decide), ?_⟩
  clear s0 s1 s2 s3 s4 s5 s6
  generalize x0 * r0 = p00 at *
  generalize x1 * r0 = p10 at *
  generalize x2 * r0 = p20 at *
  generalize x0 * r1 = p01 at *
  generalize x1 * r1 = p11 at *
  generalize x2 * r1 = p21 at *
  omega
theorem words5 (n a b c d e : Nat) (ha : a < 18446744073709551616) (hb : b < 18446744073709551616) (hc : c < 18446744073709551616) (hd : d < 18446744073709551616) (he : e < 18446744073709551616)
    (h : a + 18446744073709551616 * b + 340282366920938463463374607431768211456 * c + 6277101735386680763835789423207666416102355444464034512896 * d + 115792089237316195423570985008687907853269984665640564039457584007913129639936 * e = n) : [a, b, c, d, e] = numL5 n := by
  unfold numL5
  have h0 : a = n % 18446744073709551616 := by omega
  have h1 : b = n / 18446744073709551616 % 18446744073709551616 := by omega
  have h2 : c = n / 340282366920938463463374607431768211456 % 18446744073709551616 := by omega
  have h3 : d = n / 6277101735386680763835789423207666416102355444464034512896 % 18446744073709551616 := by omega
  have h4 : e = n / 115792089237316195423570985008687907853269984665640564039457584007913129639936 % 18446744073709551616 := by omega
  rw [← h0, ← h1, ← h2, ← h3, ← h4]
theorem out_math (x r : Nat) (hx : x < 6277101735386680763835789423207666416102355444464034512896) (hr : r < 340282366920938463463374607431768211456) : outK (numL x) (numL r) 6 = numL5 (x * r) := by
  obtain ⟨x0, h0⟩ : ∃ a, a = x % 18446744073709551616 := ⟨_, rfl⟩
  obtain ⟨x1, h1⟩ : ∃ a, a = x / 18446744073709551616 % 18446744073709551616 := ⟨_, rfl⟩
  obtain ⟨x2, h2⟩ : ∃ a, a = x / 340282366920938463463374607431768211456 % 18446744073709551616 := ⟨_, rfl⟩
  obtain ⟨r0, h3⟩ : ∃ a, a = r % 18446744073709551616 := ⟨_, rfl⟩
  obtain ⟨r1, h4⟩ : ∃ a, a = r / 18446744073709551616 % 18446744073709551616 := ⟨_, rfl⟩
  obtain ⟨r2, h5⟩ : ∃ a, a = r / 340282366920938463463374607431768211456 % 18446744073709551616 := ⟨_, rfl⟩
  have ex : numL x = [x0, x1, x2] := by rw [h0, h1, h2]; rfl
  have er : numL r = [r0, r1, r2] := by rw [h3, h4, h5]; rfl
  have e1 : x = x0 + 18446744073709551616 * x1 + 340282366920938463463374607431768211456 * x2 := by omega
  have e2 : r = r0 + 18446744073709551616 * r1 := by omega
  have hlt := outK_lt (numL x) (numL r) (numL_lt x) (numL_lt r) 6 4
  rw [ex, er] at hlt ⊢
  obtain ⟨a, b, c, d, e, hs, ha, hb, hc, hd, hv⟩ := out_six x0 x1 x2 r0 r1 r2
  rw [hs] at hlt ⊢
  refine words5 _ a b c d e ha hb hc hd hlt (hv.trans ?_)
  rw [e1, e2]
  clear hs hv ex er e1 e2 h0 h1 h2 h3 h4 h5 hlt
  have q : ∀ u v : Nat, (18446744073709551616 * u) * v = 18446744073709551616 * (u * v) := fun u v => Nat.mul_assoc _ _ _
  have q' : ∀ u v : Nat, u * (18446744073709551616 * v) = 18446744073709551616 * (u * v) := fun u v => Nat.mul_left_comm _ _ _
  have q2 : ∀ u v : Nat, (340282366920938463463374607431768211456 * u) * v = 340282366920938463463374607431768211456 * (u * v) := fun u v => Nat.mul_assoc _ _ _
  simp only [Nat.add_mul, Nat.mul_add, q, q', q2]
  omega
end Go.Proofs.Ytkgbhlppadpdfaa

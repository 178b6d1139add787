/- The mathematics of layer 6: blocks as numbers of 128 bits, the highest bit for x to the 0th; their products. Nothing of the program. -/
import Derived.Test.YtkgbhlppadpdfaaNum
namespace Go.Proofs.Ytkgbhlppadpdfaa
set_option linter.unusedVariables false
set_option linter.unusedSimpArgs false

/-- v, if c; else nought -/
def sel (c : Bool) (v : Nat) : Nat := if c then v else 0
theorem sel_xor (c : Bool) (v w : Nat) : sel c (v ^^^ w) = sel c v ^^^ sel c w := by cases c <;> simp [sel]
theorem sel_xor_left (c d : Bool) (v : Nat) : sel (c ^^ d) v = sel c v ^^^ sel d v := by cases c <;> cases d <;> simp [sel]
theorem sel_zero (c : Bool) : sel c 0 = 0 := by cases c <;> rfl
theorem sel_true (v : Nat) : sel true v = v := rfl
theorem sel_false (v : Nat) : sel false v = 0 := rfl
theorem sel_lt (c : Bool) {v n : Nat} (h : v < n) : sel c v < n := by cases c <;> simp [sel] <;> omega
theorem xor4 (a b c d : Nat) : (a ^^^ b) ^^^ (c ^^^ d) = (a ^^^ c) ^^^ (b ^^^ d) := by
  rw [Nat.xor_assoc, Nat.xor_assoc, ← Nat.xor_assoc b c d, Nat.xor_comm b c, Nat.xor_assoc c b d]

/-- times x -/
def upV (r : Nat) : Nat := (r >>> 1) ^^^ sel (r.testBit 0) 299076299051606071403356588563077529600
theorem upV_xor (a b : Nat) : upV (a ^^^ b) = upV a ^^^ upV b := by
  unfold upV; rw [Nat.testBit_xor, sel_xor_left, Nat.shiftRight_xor_distrib, xor4]
theorem upV_zero : upV 0 = 0 := by decide
theorem upV_sel (c : Bool) (v : Nat) : upV (sel c v) = sel c (upV v) := by cases c <;> simp [sel, upV_zero]
theorem upV_lt (r : Nat) (h : r < 2 ^ 128) : upV r < 2 ^ 128 := by
  unfold upV
  refine Nat.xor_lt_two_pow ?_ (sel_lt _ (by decide))
  rw [Nat.shiftRight_eq_div_pow]; omega
/-- times x to the n-th -/
def upN (v : Nat) : Nat → Nat
  | 0 => v
  | n + 1 => upV (upN v n)
theorem upN_xor (a b n : Nat) : upN (a ^^^ b) n = upN a n ^^^ upN b n := by
  induction n with
  | zero => rfl
  | succ n ih => rw [upN, ih, upV_xor]; rfl
theorem upN_zero (n : Nat) : upN 0 n = 0 := by
  induction n with
  | zero => rfl
  | succ n ih => rw [upN, ih, upV_zero]
theorem upN_sel (c : Bool) (v n : Nat) : upN (sel c v) n = sel c (upN v n) := by cases c <;> simp [sel, upN_zero]
theorem upN_lt (v n : Nat) (h : v < 2 ^ 128) : upN v n < 2 ^ 128 := by
  induction n with
  | zero => exact h
  | succ n ih => exact upV_lt _ ih
theorem upN_add (v n m : Nat) : upN v (n + m) = upN (upN v n) m := by
  induction m with
  | zero => rfl
  | succ m ih => rw [← Nat.add_assoc, upN, ih]; rfl
/-- the i-th bit of a block -/
def bitV (a i : Nat) : Bool := a.testBit (127 - i)
theorem bitV_xor (a b i : Nat) : bitV (a ^^^ b) i = (bitV a i ^^ bitV b i) := Nat.testBit_xor ..
theorem bitV_sel (c : Bool) (v i : Nat) : bitV (sel c v) i = (c && bitV v i) := by cases c <;> simp [sel, bitV]
/-- the sum of b times x to the i-th over the first n bits of a -/
def actN (a b : Nat) : Nat → Nat
  | 0 => 0
  | n + 1 => actN a b n ^^^ sel (bitV a n) (upN b n)
def mulV (a b : Nat) : Nat := actN a b 128
theorem actN_xor (a b c n : Nat) : actN a (b ^^^ c) n = actN a b n ^^^ actN a c n := by
  induction n with
  | zero => simp [actN]
  | succ n ih => rw [actN, ih, upN_xor, sel_xor, xor4]; rfl
theorem actN_xor_left (a b c n : Nat) : actN (a ^^^ b) c n = actN a c n ^^^ actN b c n := by
  induction n with
  | zero => simp [actN]
  | succ n ih => rw [actN, ih, bitV_xor, sel_xor_left, xor4]; rfl
theorem actN_zero (a n : Nat) : actN a 0 n = 0 := by
  induction n with
  | zero => rfl
  | succ n ih => rw [actN, ih, upN_zero, sel_zero]; rfl
theorem actN_sel (a : Nat) (c : Bool) (v n : Nat) : actN a (sel c v) n = sel c (actN a v n) := by cases c <;> simp [sel, actN_zero]
theorem upV_upN (b n : Nat) : upV (upN b n) = upN (upV b) n := by
  induction n with
  | zero => rfl
  | succ n ih => rw [upN, ih]; rfl
theorem actN_up (a b n : Nat) : upV (actN a b n) = actN a (upV b) n := by
  induction n with
  | zero => exact upV_zero
  | succ n ih => rw [actN, upV_xor, ih, upV_sel, upV_upN]; rfl
theorem actN_upN (a b n m : Nat) : upN (actN a b n) m = actN a (upN b m) n := by
  induction m with
  | zero => rfl
  | succ m ih => rw [upN, ih, actN_up]; rfl
theorem actN_comm (a b c n m : Nat) : actN a (actN b c n) m = actN b (actN a c m) n := by
  induction m with
  | zero => rw [actN, actN, actN_zero]
  | succ m ih => rw [actN, ih, actN_upN, ← actN_sel, ← actN_xor]; rfl
theorem actN_lt (a b n : Nat) (h : b < 2 ^ 128) : actN a b n < 2 ^ 128 := by
  induction n with
  | zero => rw [actN]; decide
  | succ n ih => exact Nat.xor_lt_two_pow ih (sel_lt _ (upN_lt _ _ h))
/-- the block that is one; powers of x -/
def oneV : Nat := 170141183460469231731687303715884105728
def pw (i : Nat) : Nat := upN oneV i
theorem oneV_lt : oneV < 2 ^ 128 := by decide
theorem pw_lt (i : Nat) : pw i < 2 ^ 128 := upN_lt _ _ oneV_lt
theorem pw_eq (i : Nat) (h : i < 128) : pw i = 2 ^ (127 - i) := by
  have : ∀ i : Fin 128, pw i.1 = 2 ^ (127 - i.1) := by decide +kernel
  exact this ⟨i, h⟩
theorem pw128 : pw 128 = pw 0 ^^^ pw 1 ^^^ pw 2 ^^^ pw 7 := by decide +kernel
theorem pw_add (i m : Nat) : pw (i + m) = upN (pw i) m := upN_add _ _ _
theorem pw_over (i : Nat) (h : 128 ≤ i) : pw i = pw (i - 128) ^^^ pw (i - 127) ^^^ pw (i - 126) ^^^ pw (i - 121) := by
  obtain ⟨m, rfl⟩ : ∃ m, i = 128 + m := ⟨i - 128, by omega⟩
  rw [pw_add, pw128, upN_xor, upN_xor, upN_xor, ← pw_add, ← pw_add, ← pw_add, ← pw_add]
  rw [show 128 + m - 128 = 0 + m by omega, show 128 + m - 127 = 1 + m by omega, show 128 + m - 126 = 2 + m by omega, show 128 + m - 121 = 7 + m by omega]
theorem bitV_pw (i j : Nat) (hi : i < 128) (hj : j < 128) : bitV (pw i) j = decide (i = j) := by
  rw [pw_eq i hi, bitV, Nat.testBit_two_pow]
  by_cases h : i = j
  · simp [h]
  · simp [h]; omega
theorem eq_of_bits (a b : Nat) (ha : a < 2 ^ 128) (hb : b < 2 ^ 128) (h : ∀ i, i < 128 → bitV a i = bitV b i) : a = b := by
  apply Nat.eq_of_testBit_eq
  intro i
  by_cases hi : i < 128
  · have := h (127 - i) (by omega)
    unfold bitV at this
    rwa [show 127 - (127 - i) = i by omega] at this
  · rw [Nat.testBit_lt_two_pow (Nat.lt_of_lt_of_le ha (Nat.pow_le_pow_right (by decide) (by omega))), Nat.testBit_lt_two_pow (Nat.lt_of_lt_of_le hb (Nat.pow_le_pow_right (by decide) (by omega)))]
theorem bits_actN_one (a n : Nat) (hn : n ≤ 128) (j : Nat) (hj : j < 128) : bitV (actN a oneV n) j = (decide (j < n) && bitV a j) := by
  induction n with
  | zero => simp [actN, bitV]
  | succ n ih =>
    have hp := bitV_pw n j (by omega) hj
    rw [actN, bitV_xor, ih (by omega), bitV_sel]
    show (_ ^^ (bitV a n && bitV (pw n) j)) = _
    rw [hp]
    by_cases h1 : j < n
    · simp [h1, show ¬ n = j by omega, show j < n + 1 by omega]
    · by_cases h2 : n = j
      · subst h2; simp
      · simp [h1, h2, show ¬ j < n + 1 by omega]
theorem mulV_one (a : Nat) (h : a < 2 ^ 128) : mulV a oneV = a := by
  refine eq_of_bits _ _ (actN_lt _ _ _ oneV_lt) h fun i hi => ?_
  rw [mulV, bits_actN_one a 128 (by omega) i hi]; simp [hi]
theorem mulV_lt (a b : Nat) (h : b < 2 ^ 128) : mulV a b < 2 ^ 128 := actN_lt a b 128 h
theorem mulV_zero (a : Nat) : mulV a 0 = 0 := actN_zero a 128
theorem mulV_xor (a b c : Nat) : mulV a (b ^^^ c) = mulV a b ^^^ mulV a c := actN_xor a b c 128
theorem mulV_xor_left (a b c : Nat) : mulV (a ^^^ b) c = mulV a c ^^^ mulV b c := actN_xor_left a b c 128
theorem mulV_comm (a b : Nat) (ha : a < 2 ^ 128) (hb : b < 2 ^ 128) : mulV a b = mulV b a := by
  have h := actN_comm a b oneV 128 128
  have h1 : actN b oneV 128 = b := mulV_one b hb
  have h2 : actN a oneV 128 = a := mulV_one a ha
  rw [h1, h2] at h
  exact h
theorem mulV_assoc (a b c : Nat) (ha : a < 2 ^ 128) (hb : b < 2 ^ 128) (hc : c < 2 ^ 128) : mulV (mulV a b) c = mulV a (mulV b c) := by
  rw [mulV_comm (mulV a b) c (mulV_lt a b hb) hc, mulV_comm b c hb hc]
  exact actN_comm c a b 128 128
theorem mulV_upN (a b n : Nat) : mulV a (upN b n) = upN (mulV a b) n := (actN_upN a b 128 n).symm
theorem mulV_pw (a n : Nat) (ha : a < 2 ^ 128) : mulV a (pw n) = upN a n := by
  rw [pw, mulV_upN, mulV_one a ha]
theorem pw_mul (n m : Nat) : mulV (pw n) (pw m) = pw (n + m) := by rw [mulV_pw _ _ (pw_lt n), ← pw_add]

/-- two maps that go over sums are the same if they are on the powers of x -/
theorem lin_ext (f g : Nat → Nat) (hf : ∀ a b, a < 2 ^ 128 → b < 2 ^ 128 → f (a ^^^ b) = f a ^^^ f b) (hg : ∀ a b, a < 2 ^ 128 → b < 2 ^ 128 → g (a ^^^ b) = g a ^^^ g b) (h : ∀ i, i < 128 → f (pw i) = g (pw i)) (a : Nat) (ha : a < 2 ^ 128) : f a = g a := by
  have f0 : f 0 = 0 := by have := hf 0 0 (by decide) (by decide); simpa using this
  have g0 : g 0 = 0 := by have := hg 0 0 (by decide) (by decide); simpa using this
  suffices H : ∀ n, n ≤ 128 → f (actN a oneV n) = g (actN a oneV n) by
    have := H 128 (Nat.le_refl _)
    rwa [show actN a oneV 128 = a from mulV_one a ha] at this
  intro n
  induction n with
  | zero => intro _; rw [actN, f0, g0]
  | succ n ih =>
    intro hn
    have hl := sel_lt (bitV a n) (pw_lt n)
    have hs : f (sel (bitV a n) (pw n)) = g (sel (bitV a n) (pw n)) := by
      cases bitV a n
      · rw [sel_false, f0, g0]
      · exact h n (by omega)
    rw [actN]
    show f (actN a oneV n ^^^ sel (bitV a n) (pw n)) = g (actN a oneV n ^^^ sel (bitV a n) (pw n))
    rw [hf _ _ (actN_lt _ _ _ oneV_lt) hl, hg _ _ (actN_lt _ _ _ oneV_lt) hl, ih (by omega)]
    exact congrArg _ hs
end Go.Proofs.Ytkgbhlppadpdfaa

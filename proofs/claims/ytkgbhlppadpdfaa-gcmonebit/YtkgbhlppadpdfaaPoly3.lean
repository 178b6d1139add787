/- Numbers of five words, brought to three: fold. -/
import Derived.Test.YtkgbhlppadpdfaaPoly2
import Derived.Test.YtkgbhlppadpdfaaRefS1
namespace Go.Proofs.Ytkgbhlppadpdfaa
open Go.RowKit
set_option maxRecDepth 100000
set_option linter.unusedVariables false
set_option linter.unusedSimpArgs false
/-- all blocks but g are as they were -/
def Grow (g : Nat) (w W : World) : Prop := w.grownBy W (some g)
instance (g : Nat) : Pre (Grow g) where
  refl w := World.grownBy.refl w _
  trans h k := ⟨k.os.trans h.os, k.tape.trans h.tape, k.output.trans h.output, Nat.le_trans h.size k.size, fun i hi hn => (k.block i (Nat.lt_of_lt_of_le hi h.size) hn).trans (h.block i hi hn)⟩
theorem Grow.trans {g : Nat} {a b c : World} (h : Grow g a b) (k : Grow g b c) : Grow g a c := Pre.trans h k
theorem Grow.of_ext {g : Nat} {w W : World} (h : Ext w W) : Grow g w W := ⟨h.os, h.tape, h.output, h.size, fun k hk _ => h.block k hk⟩
theorem Grow.heap {g b : Nat} {w W : World} {o : Obj} (h : Grow g w W) (hb : b ≠ g) (hc : w.heap[b]? = some o) : W.heap[b]? = some o :=
  (h.block b (lt_of_heap hc) (fun e => hb (by injection e))).trans hc
theorem Grow.setRow (g : Nat) (W : World) (cs : Array Value) : Grow g W (W.setRow g cs) := grown_setRow W g cs
theorem Grow.below {g B : Nat} {w W : World} (h : Grow g w W) (hB : B ≤ g) (hs : B ≤ w.heap.size) : Below B w W := grown_below h hB hs
theorem Grow.drew (g : Nat) (w : World) : Grow g w w.drew := Grow.of_ext (Below.refl _ _).drew
/-- the words of a number, five of them -/
def numL5 (n : Nat) : List Nat := [n % 18446744073709551616, n / 18446744073709551616 % 18446744073709551616, n / 340282366920938463463374607431768211456 % 18446744073709551616, n / 6277101735386680763835789423207666416102355444464034512896 % 18446744073709551616, n / 115792089237316195423570985008687907853269984665640564039457584007913129639936 % 18446744073709551616]
theorem andNot3 (x : Nat) (hx : x < 18446744073709551616) : bits .andNot .u64 (x : Int) 3 = ((4 * (x / 4) : Nat) : Int) := by
  have h := u64_andNot_nat x 3 hx (by decide)
  have e : x &&& (18446744073709551615 - 3) = 4 * (x / 4) := by
    have e1 : (18446744073709551615 - 3 : Nat) = (2 ^ 62 - 1) <<< 2 := by decide
    have e2 : 4 * (x / 4) = (x >>> 2) <<< 2 := by rw [Nat.shiftRight_eq_div_pow, Nat.shiftLeft_eq]; omega
    rw [e1, e2]
    apply Nat.eq_of_testBit_eq
    intro i
    simp only [Nat.testBit_and, Nat.testBit_shiftLeft, Nat.testBit_two_pow_sub_one, Nat.testBit_shiftRight]
    by_cases h2 : 2 ≤ i
    · have e3 : 2 + (i - 2) = i := by omega
      rw [e3]
      by_cases h64 : i < 64
      · have : i - 2 < 62 := by omega
        simp [h2, this]
      · have hf : x.testBit i = false := Nat.testBit_lt_two_pow (Nat.lt_of_lt_of_le hx (Nat.le_trans (by decide : 18446744073709551616 ≤ 2 ^ 64) (Nat.pow_le_pow_right (by decide) (by omega))))
        simp [hf]
    · simp [h2]
  rw [e] at h
  exact h
theorem and3 (x : Nat) (hx : x < 18446744073709551616) : bits .and .u64 (x : Int) 3 = ((x % 4 : Nat) : Int) := by
  have h := u64_and_nat x 3 hx (by decide)
  have e : x &&& 3 = x % 4 := Nat.and_two_pow_sub_one_eq_mod x 2
  rw [e] at h
  exact h
theorem or62 (a b : Nat) (ha : a < 4611686018427387904) : bits .or .u64 (a : Int) (((b * 4611686018427387904 % 18446744073709551616 : Nat)) : Int) = ((a + b % 4 * 4611686018427387904 : Nat) : Int) := by
  have e : b * 4611686018427387904 % 18446744073709551616 = b % 4 * 4611686018427387904 := by omega
  have hb1 : b % 4 * 4611686018427387904 < 18446744073709551616 := by omega
  have ha1 : a < 18446744073709551616 := by omega
  have hj : ∀ i, (2 : Nat) ^ i = 4611686018427387904 → (b % 4 * 4611686018427387904) ||| a = b % 4 * 4611686018427387904 + a := fun i hi => nat_join i _ a (by rw [hi]; exact Nat.mul_mod_left _ _) (by rw [hi]; exact ha)
  rw [e, u64_or_nat _ _ ha1 hb1, Nat.or_comm, hj 62 (by decide), Nat.add_comm]
/-- what stands above the lowest 130 bits is taken five times -/
def foldN (n : Nat) : Nat := n % 1361129467683753853853498429727072845824 + 5 * (n / 1361129467683753853853498429727072845824)
theorem fold_math (n x0 x1 x2 x3 : Nat) (hn : n < 115792089237316195423570985008687907853269984665640564039457584007913129639936) (h0 : x0 = n % 18446744073709551616) (h1 : x1 = n / 18446744073709551616 % 18446744073709551616) (h2 : x2 = n / 340282366920938463463374607431768211456 % 18446744073709551616)
    (h3 : x3 = n / 6277101735386680763835789423207666416102355444464034512896 % 18446744073709551616) :
    [x0, x1, x2 % 4] = numL (n % 1361129467683753853853498429727072845824) ∧ [4 * (x2 / 4), x3, 0] = numL (4 * (n / 1361129467683753853853498429727072845824)) ∧
      [x2 / 4 + x3 % 4 * 4611686018427387904, x3 / 4, 0] = numL (n / 1361129467683753853853498429727072845824) ∧ n % 1361129467683753853853498429727072845824 + (4 * (n / 1361129467683753853853498429727072845824) + n / 1361129467683753853853498429727072845824) = foldN n := by
  refine ⟨?_, ?_, ?_, ?_⟩
  · unfold numL; congr 1
    · omega
    · congr 1
      · omega
      · congr 1; omega
  · unfold numL; congr 1
    · omega
    · congr 1
      · omega
      · congr 1; omega
  · unfold numL; congr 1
    · omega
    · congr 1
      · omega
      · congr 1; omega
  · unfold foldN; omega
theorem exec_bld {P : Program} {o : Oper} {a : Act} {W : World} {t : TypeId} {parts : Array (Nat × Operand)} {v : Value} (ho : o.op = .build t parts) (hrun : (Instr.build t (parts.map fun (i, x) => (i, a.eval x))).run P W = .ok v W) :
    (execOp a.eval o).run P W = .ok (.value v) W := by
  unfold execOp
  simp only [ho, Sem.run_bind, hrun, Result.andThen_ok, Sem.run_pure]
theorem heap2p (w : World) (o1 o2 : Obj) : ((w.alloc o1).alloc o2).heap[w.heap.size]? = some o1 ∧ ((w.alloc o1).alloc o2).heap[w.heap.size + 1]? = some o2 ∧ Below w.heap.size w ((w.alloc o1).alloc o2) := by
  have h := heap3 w o1 o2 o1
  refine ⟨?_, ?_, two_below w o1 o2⟩
  · rw [← h.1]; exact (Below.heap_alloc ((w.alloc o1).alloc o2) o1 _ (by simp; omega)).symm
  · rw [← h.2.1]; exact (Below.heap_alloc ((w.alloc o1).alloc o2) o1 _ (by simp)).symm
end Go.Proofs.Ytkgbhlppadpdfaa

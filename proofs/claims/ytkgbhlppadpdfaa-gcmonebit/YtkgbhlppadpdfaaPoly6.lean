/- poly: step, whole. -/
import Derived.Test.YtkgbhlppadpdfaaPoly5
import Derived.Test.YtkgbhlppadpdfaaSha7b
namespace Go.Proofs.Ytkgbhlppadpdfaa
open Go.RowKit
set_option maxRecDepth 100000
set_option linter.unusedVariables false
set_option linter.unusedSimpArgs false
theorem heap_eq' {W W0 : World} (h : W = W0) {g : Nat} {o : Obj} (hc : W0.heap[g]? = some o) : W.heap[g]? = some o := by rw [h]; exact hc
theorem heap4 (w : World) (o1 o2 o3 o4 : Obj) : ∀ W, (((w.alloc o1).alloc o2).alloc o3).alloc o4 = W → W.heap[w.heap.size]? = some o1 ∧ W.heap[w.heap.size + 1]? = some o2 ∧ W.heap[w.heap.size + 2]? = some o3 ∧ W.heap[w.heap.size + 3]? = some o4 ∧ Below w.heap.size w W := by
  rintro W rfl
  have h := heap3 w o1 o2 o3
  generalize hV : ((w.alloc _).alloc _).alloc _ = W at h ⊢
  have hs : W.heap.size = w.heap.size + 3 := by rw [← hV]; simp
  have ho := fun k hk => Below.heap_alloc W o4 k hk
  refine ⟨(ho _ (by omega)).trans h.1, (ho _ (by omega)).trans h.2.1, (ho _ (by omega)).trans h.2.2.1, ?_, h.2.2.2.alloc h.2.2.2.size _⟩
  rw [← hs]; exact heap_alloc_new' W _
/-- the sum so far, gone on by a part -/
def stepN (r h : Nat) (part : List UInt8) : Nat := foldN ((h + littleN (part ++ [1])) * r)
theorem foldN_lt (n : Nat) (hn : n < 115792089237316195423570985008687907853269984665640564039457584007913129639936) : foldN n < 2722258935367507707706996859454145691648 := by unfold foldN; omega
theorem mark_lt (part : List UInt8) (h : part.length ≤ 16) : littleN (part ++ [1]) < 680564733841876926926749214863536422912 := by
  rw [littleN_snoc]
  have h1 := littleN_lt part
  have h2 : 256 ^ part.length ≤ 256 ^ 16 := Nat.pow_le_pow_right (by decide) h
  have h3 : (256 : Nat) ^ 16 = 340282366920938463463374607431768211456 := by decide
  rw [h3] at h2
  have h4 : (1 : UInt8).toNat = 1 := rfl
  rw [h4, Nat.mul_one]
  omega
theorem step_lt (r h : Nat) (part : List UInt8) (hp : part.length ≤ 16) (hh : h < 2722258935367507707706996859454145691648) (hr : r < 21267647932558653966460912964485513216) :
    h + littleN (part ++ [1]) < 6277101735386680763835789423207666416102355444464034512896 ∧ (h + littleN (part ++ [1])) * r < 115792089237316195423570985008687907853269984665640564039457584007913129639936 := by
  have h1 := mark_lt part hp
  refine ⟨by omega, ?_⟩
  have h2 : (h + littleN (part ++ [1])) * r ≤ 3402823669209384634633746074317682114560 * 21267647932558653966460912964485513216 := Nat.mul_le_mul (by omega) (by omega)
  exact Nat.lt_of_le_of_lt h2 (by decide)
theorem stepN_lt (r h : Nat) (part : List UInt8) (hp : part.length ≤ 16) (hh : h < 2722258935367507707706996859454145691648) (hr : r < 21267647932558653966460912964485513216) : stepN r h part < 2722258935367507707706996859454145691648 :=
  foldN_lt _ (step_lt r h part hp hh hr).2
def zeros17 : List Value := List.replicate 17 (Value.int .u8 0)
/-- the sum so far, gone on by the first j whole parts -/
def partsN (r h : Nat) (bs : List UInt8) : Nat → Nat
  | 0 => h
  | j + 1 => stepN r (partsN r h bs j) ((bs.drop (16 * j)).take 16)
theorem partsN_lt (r h : Nat) (bs : List UInt8) (j : Nat) (hh : h < 2722258935367507707706996859454145691648) (hr : r < 21267647932558653966460912964485513216) : partsN r h bs j < 2722258935367507707706996859454145691648 := by
  induction j with
  | zero => exact hh
  | succ j ih => exact stepN_lt r _ _ (by rw [List.length_take]; omega) ih hr
end Go.Proofs.Ytkgbhlppadpdfaa

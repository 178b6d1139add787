/- Numbers of three words: plus. -/
import Derived.Test.YtkgbhlppadpdfaaPoly1
namespace Go.Proofs.Ytkgbhlppadpdfaa
open Go.RowKit
set_option maxRecDepth 100000
set_option linter.unusedVariables false
set_option linter.unusedSimpArgs false
def uv (n : Nat) : Value := .int .u64 (n : Int)
theorem uv_one (l : List Nat) : ∀ v ∈ l.map uv, v.oneCell' = true := by
  intro v hv
  obtain ⟨b, _, rfl⟩ := List.mem_map.1 hv
  rfl
theorem ucell {w : World} {g : Nat} {l : List Nat} {t : TypeId} {fr : Nat × Nat} (h : w.heap[g]? = some (.cells (l.map uv).toArray t fr)) (i : Nat) (hi : i < l.length) : w.cell? ⟨g, i, none⟩ = some (.int .u64 ((l.getD i 0 : Nat) : Int)) := by
  rw [cell_of_heap h, List.getElem?_map]
  simp [List.getD, hi, uv]
theorem ust_row {W W' : World} {g i B : Nat} {l : List Nat} {t : TypeId} {v : Nat} (hW : W.setCell ⟨g, i, none⟩ (.int .u64 (v : Int)) = W') (hB : B ≤ g) (H : W.heap[g]? = some (.cells (l.map uv).toArray t (0, 0))) :
    W'.heap[g]? = some (.cells ((l.set i v).map uv).toArray t (0, 0)) ∧ Below B W W' ∧ ∀ k, k ≠ g → W'.heap[k]? = W.heap[k]? := by
  subst hW
  refine ⟨?_, (Below.refl _ _).setCell hB _, fun k hk => Below.heap_setCell W _ _ _ hk⟩
  have := heap_set H i (uv v)
  rw [← List.map_set] at this
  exact this
theorem cell_eq' {W W0 : World} (h : W = W0) {a : Addr} {v : Value} (hc : W0.cell? a = some v) : W.cell? a = some v := by rw [h]; exact hc
theorem s64 : (Try.prog.info? 90).map (·.size) = some 1 := by kernel_rfl
/-- a number's three words, the lowest one first -/
def numL (n : Nat) : List Nat := [n % 18446744073709551616, n / 18446744073709551616 % 18446744073709551616, n / 340282366920938463463374607431768211456 % 18446744073709551616]
def plusN (x y : Nat) : Nat → List Nat
  | 0 => numL x
  | 1 => [(x + y) % 18446744073709551616, x / 18446744073709551616 % 18446744073709551616, x / 340282366920938463463374607431768211456 % 18446744073709551616]
  | 2 => [(x + y) % 18446744073709551616, (x + y) / 18446744073709551616 % 18446744073709551616, x / 340282366920938463463374607431768211456 % 18446744073709551616]
  | _ => numL (x + y)
def carryN (x y : Nat) : Nat → Nat
  | 0 => 0
  | 1 => (x % 18446744073709551616 + y % 18446744073709551616) / 18446744073709551616
  | 2 => (x % 340282366920938463463374607431768211456 + y % 340282366920938463463374607431768211456) / 340282366920938463463374607431768211456
  | _ => (x % 6277101735386680763835789423207666416102355444464034512896 + y % 6277101735386680763835789423207666416102355444464034512896) / 6277101735386680763835789423207666416102355444464034512896
theorem plusN_len (x y i : Nat) : (plusN x y i).length = 3 := by
  match i with
  | 0 => rfl
  | 1 => rfl
  | 2 => rfl
  | _ + 3 => rfl
theorem plus_math (x y i : Nat) (hi : i < 3) : ∃ a b c s c', (plusN x y i).getD i 0 = a ∧ (numL y).getD i 0 = b ∧ carryN x y i = c ∧ c ≤ 1 ∧ (a + b + c) % 18446744073709551616 = s ∧ (a + b + c) / 18446744073709551616 = c' ∧
    carryN x y (i + 1) = c' ∧ (plusN x y i).set i s = plusN x y (i + 1) := by
  match i, hi with
  | 0, _ =>
    refine ⟨_, _, _, _, _, rfl, rfl, rfl, by simp [carryN], rfl, rfl, ?_, ?_⟩
    · simp only [carryN, plusN, numL, List.getD_cons_zero]; omega
    · simp only [carryN, plusN, numL, List.getD_cons_zero, List.set_cons_zero]
      congr 1; omega
  | 1, _ =>
    refine ⟨_, _, _, _, _, rfl, rfl, rfl, by simp only [carryN]; omega, rfl, rfl, ?_, ?_⟩
    · simp only [carryN, plusN, numL, List.getD_cons_zero, List.getD_cons_succ]; omega
    · simp only [carryN, plusN, numL, List.getD_cons_zero, List.getD_cons_succ, List.set_cons_zero, List.set_cons_succ]
      congr 2; omega
  | 2, _ =>
    refine ⟨_, _, _, _, _, rfl, rfl, rfl, by simp only [carryN]; omega, rfl, rfl, ?_, ?_⟩
    · simp only [carryN, plusN, numL, List.getD_cons_zero, List.getD_cons_succ]; omega
    · simp only [carryN, plusN, numL, List.getD_cons_zero, List.getD_cons_succ, List.set_cons_zero, List.set_cons_succ]
      congr 3; omega
theorem heap3p (w : World) (o1 o2 o3 : Obj) : (((w.alloc o1).alloc o2).alloc o3).heap[w.heap.size]? = some o1 ∧ (((w.alloc o1).alloc o2).alloc o3).heap[w.heap.size + 1]? = some o2 ∧ (((w.alloc o1).alloc o2).alloc o3).heap[w.heap.size + 2]? = some o3 ∧
    Below w.heap.size w (((w.alloc o1).alloc o2).alloc o3) := heap3 w o1 o2 o3
def zeros3 : List Value := List.replicate 3 (Value.int .u64 0)
end Go.Proofs.Ytkgbhlppadpdfaa

/- palfreyref06.Mul. -/
import Derived.Test.YtjlljifllnmdoaaRefG1
import Derived.StillTailTactics
namespace Go.Proofs.Ytjlljifllnmdoaa
open Go.RowKit
set_option maxRecDepth 100000
set_option linter.unusedVariables false
set_option linter.unusedSimpArgs false
theorem but_range {g j g' : Nat} {w W : World} {cs : List Value} {t : TypeId} {fr : Nat × Nat} (h : But g j w W) (hn : g' ≠ g) (hh : w.heap[g']? = some (.cells cs.toArray t fr)) : W.rangeAt g' 0 cs := fun k v hv => by
  rw [Nat.zero_add]
  exact (h.2 g' k (lt_of_heap hh) (fun e => hn e.1)).trans ((cell_of_heap hh k).trans hv)
theorem g_or8 (y z : UInt8) : bits .or .u8 (y.toNat : Int) (z.toNat : Int) = ((y ||| z).toNat : Int) := by
  rw [u8_or_nat _ _ y.toNat_lt z.toNat_lt, UInt8.toNat_or]
theorem g_sInt : (Try.prog.info? 3).map (·.size) = some 1 := by kernel_rfl
theorem g_heap4 (w : World) (o1 o2 o3 o4 : Obj) : ∀ W, (((w.alloc o1).alloc o2).alloc o3).alloc o4 = W → W.heap[w.heap.size]? = some o1 ∧ W.heap[w.heap.size + 1]? = some o2 ∧ W.heap[w.heap.size + 2]? = some o3 ∧ W.heap[w.heap.size + 3]? = some o4 ∧ Below w.heap.size w W := by
  rintro W rfl
  have a1 := heap_alloc_new' w o1
  have a2 := heap_alloc_new' (w.alloc o1) o2
  have a3 := heap_alloc_new' ((w.alloc o1).alloc o2) o3
  have a4 := heap_alloc_new' (((w.alloc o1).alloc o2).alloc o3) o4
  simp only [World.size_alloc] at a2 a3 a4
  have b1 := Below.heap_alloc (w.alloc o1) o2
  have b2 := Below.heap_alloc ((w.alloc o1).alloc o2) o3
  have b3 := Below.heap_alloc (((w.alloc o1).alloc o2).alloc o3) o4
  simp only [World.size_alloc] at b1 b2 b3
  refine ⟨?_, ?_, ?_, a4, ((((Below.refl _ w).alloc (Nat.le_refl _) o1).alloc (by simp) o2).alloc (by simp; omega) o3).alloc (by simp; omega) o4⟩
  · rw [b3 _ (by omega), b2 _ (by omega), b1 _ (by omega)]; exact a1
  · rw [b3 _ (by omega), b2 _ (by omega)]; exact a2
  · rw [b3 _ (by omega)]; exact a3
def gz256 : List Nat := List.replicate 256 0
theorem gz256_init : PG gz256 255 0 0 := PG.init
theorem bitI_def (b : List UInt8) (i : Nat) : bitI b i < 2 := bitI_lt b i
end Go.Proofs.Ytjlljifllnmdoaa

/- The rounds of SHA-256: the contract of sha.mix. -/
import Derived.Test.YtjmpbcfbfbjenaaSha1
namespace Go.Proofs.Ytjmpbcfbfbjenaa
open Go.RowKit
set_option maxRecDepth 100000
set_option linter.unusedVariables false
set_option linter.unusedSimpArgs false

def roundsL : List Nat := [1116352408, 1899447441, 3049323471, 3921009573, 961987163, 1508970993, 2453635748, 2870763221, 3624381080, 310598401, 607225278, 1426881987, 1925078388, 2162078206, 2614888103, 3248222580, 3835390401, 4022224774, 264347078, 604807628, 770255983, 1249150122, 1555081692, 1996064986, 2554220882, 2821834349, 2952996808, 3210313671, 3336571891, 3584528711, 113926993, 338241895, 666307205, 773529912, 1294757372, 1396182291, 1695183700, 1986661051, 2177026350, 2456956037, 2730485921, 2820302411, 3259730800, 3345764771, 3516065817, 3600352804, 4094571909, 275423344, 430227734, 506948616, 659060556, 883997877, 958139571, 1322822218, 1537002063, 1747873779, 1955562222, 2024104815, 2227730452, 2361852424, 2428436474, 2756734187, 3204031479, 3329325298]
def kL (i : Nat) : W32 := BitVec.ofNat 32 (roundsL.getD i 0)
/-- the rounds' numbers lie where the program has them -/
def Rnd (w : World) : Prop := 0 < w.heap.size ∧ ∀ i, i < 64 → w.cell? ⟨0, i, none⟩ = some (wv (kL i))
theorem Rnd.below {w w' : World} {B : Nat} (h : Rnd w) (hb : Below B w w') (hB : 0 < B) : Rnd w' :=
  ⟨Nat.lt_of_lt_of_le h.1 hb.size, fun i hi => (hb.cell hB).trans (h.2 i hi)⟩
theorem Rnd.ext {w w' : World} (h : Rnd w) (hb : Below w.heap.size w w') : Rnd w' := h.below hb h.1

structure St where
  a : W32
  b : W32
  c : W32
  d : W32
  e : W32
  f : W32
  g : W32
  h : W32
def St.list (s : St) : List W32 := [s.a, s.b, s.c, s.d, s.e, s.f, s.g, s.h]
def stOf (l : List W32) : St := ⟨l.getD 0 0, l.getD 1 0, l.getD 2 0, l.getD 3 0, l.getD 4 0, l.getD 5 0, l.getD 6 0, l.getD 7 0⟩
def one (s : St) (k w : W32) : W32 := s.h + turnL s.e 6 11 25 + chL s.e s.f s.g + k + w
def two (s : St) : W32 := turnL s.a 2 13 22 + majL s.a s.b s.c
def stepL (s : St) (k w : W32) : St := ⟨one s k w + two s, s.a, s.b, s.c, s.d + one s k w, s.e, s.f, s.g⟩
def mixN (s : St) (ws : List W32) : Nat → St
  | 0 => s
  | n + 1 => stepL (mixN s ws n) (kL n) (ws.getD n 0)

theorem add32 (x y : W32) : ((x.toNat : Int) + (y.toNat : Int)) % 4294967296 = ((x + y).toNat : Int) := by
  rw [BitVec.toNat_add]; omega
theorem addw32 (x y : W32) : IntKind.u32.wrap ((x.toNat : Int) + (y.toNat : Int)) = ((x + y).toNat : Int) := by
  rw [IntKind.wrap_u32, ← add32]
theorem s32 : (Try.prog.info? 88).map (·.size) = some 1 := by kernel_rfl
theorem wv_one (l : List W32) : ∀ v ∈ l.map wv, v.oneCell' = true := by
  intro v hv
  obtain ⟨x, _, rfl⟩ := List.mem_map.1 hv
  rfl
theorem wcell {w : World} {g : Nat} {l : List W32} {t : TypeId} {fr : Nat × Nat} (h : w.heap[g]? = some (.cells (l.map wv).toArray t fr)) (i : Nat) (hi : i < l.length) : w.cell? ⟨g, i, none⟩ = some (.int .u32 ((l.getD i 0).toNat : Int)) := by
  rw [cell_of_heap h, List.getElem?_map, List.getElem?_eq_getElem hi]
  simp [List.getD, hi, wv]

theorem heap3 (w : World) (o1 o2 o3 : Obj) : (((w.alloc o1).alloc o2).alloc o3).heap[w.heap.size]? = some o1 ∧ (((w.alloc o1).alloc o2).alloc o3).heap[w.heap.size + 1]? = some o2 ∧ (((w.alloc o1).alloc o2).alloc o3).heap[w.heap.size + 2]? = some o3 ∧
    Below w.heap.size w (((w.alloc o1).alloc o2).alloc o3) := by
  have e1 : (w.alloc o1).heap.size = w.heap.size + 1 := by simp
  have e2 : ((w.alloc o1).alloc o2).heap.size = w.heap.size + 2 := by simp
  refine ⟨?_, ?_, ?_, ?_⟩
  · rw [Below.heap_alloc _ _ _ (by omega), Below.heap_alloc _ _ _ (by omega)]; exact heap_alloc_new' w o1
  · rw [Below.heap_alloc _ _ _ (by omega)]; have := heap_alloc_new' (w.alloc o1) o2; rwa [e1] at this
  · have := heap_alloc_new' ((w.alloc o1).alloc o2) o3; rwa [e2] at this
  · exact (((Below.refl _ w).alloc (Nat.le_refl _) _).alloc (by omega) _).alloc (by omega) _

theorem list8 {α : Type} {l : List α} (h : l.length = 8) : ∃ a b c d e f g i, l = [a, b, c, d, e, f, g, i] := by
  match l, h with
  | [a, b, c, d, e, f, g, i], _ => exact ⟨a, b, c, d, e, f, g, i, rfl⟩
theorem st_cells {w : World} {n : Nat} {a b c d e f g h : W32} {t : TypeId} {fr : Nat × Nat} (H : w.heap[n]? = some (.cells ([a, b, c, d, e, f, g, h].map wv).toArray t fr)) :
    w.cell? ⟨n, 0, none⟩ = some (.int .u32 (a.toNat : Int)) ∧ w.cell? ⟨n, 1, none⟩ = some (.int .u32 (b.toNat : Int)) ∧ w.cell? ⟨n, 2, none⟩ = some (.int .u32 (c.toNat : Int)) ∧ w.cell? ⟨n, 3, none⟩ = some (.int .u32 (d.toNat : Int)) ∧
    w.cell? ⟨n, 4, none⟩ = some (.int .u32 (e.toNat : Int)) ∧ w.cell? ⟨n, 5, none⟩ = some (.int .u32 (f.toNat : Int)) ∧ w.cell? ⟨n, 6, none⟩ = some (.int .u32 (g.toNat : Int)) ∧ w.cell? ⟨n, 7, none⟩ = some (.int .u32 (h.toNat : Int)) :=
  ⟨wcell H 0 (by simp), wcell H 1 (by simp), wcell H 2 (by simp), wcell H 3 (by simp), wcell H 4 (by simp), wcell H 5 (by simp), wcell H 6 (by simp), wcell H 7 (by simp)⟩

end Go.Proofs.Ytjmpbcfbfbjenaa

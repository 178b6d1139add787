/- Laws of layer 4: the example; Crypt twice is what it was. -/
import Derived.Test.YtfcnahbbieldfaaCha6
import Derived.Test.YtfcnahbbieldfaaLiftK
import Derived.Deep.MidRow
namespace Go.Proofs.Ytfcnahbbieldfaa
open Go.RowKit
set_option maxRecDepth 100000
set_option linter.unusedVariables false
set_option linter.unusedSimpArgs false
theorem quarter_ex (w : World) : Calls Try.prog 42 #[.int .u32 286331153, .int .u32 16909060, .int .u32 2609737539, .int .u32 19088743] w fun e w' =>
    e = .returned (.tuple #[.int .u32 3928658676, .int .u32 3407673550, .int .u32 1166100270, .int .u32 1484899515]) ∧ w = w' := by
  have h := quarter_any 286331153#32 16909060#32 2609737539#32 19088743#32 w
  have e1 : qA 286331153#32 16909060#32 2609737539#32 19088743#32 = 3928658676#32 := by decide +kernel
  have e2 : qB 286331153#32 16909060#32 2609737539#32 19088743#32 = 3407673550#32 := by decide +kernel
  have e3 : qC 286331153#32 16909060#32 2609737539#32 19088743#32 = 1166100270#32 := by decide +kernel
  have e4 : qD 286331153#32 16909060#32 2609737539#32 19088743#32 = 1484899515#32 := by decide +kernel
  rw [e1, e2, e3, e4] at h
  exact h
theorem strOf_beq' (a b : List UInt8) : ((strOf a).toList == (strOf b).toList) = decide (a = b) := by
  have h : ∀ l : List UInt8, (strOf l).toList = l := fun l => by rw [ByteArray.toList_eq]; rfl
  rw [h, h]; rw [Bool.eq_iff_iff]; simp
theorem Sl.ext' {w w' : World} {A : Option Addr} {c : Nat} {bs : List UInt8} (h : Sl w A c bs) (hb : Ext w w') : Sl w' A c bs := h.below hb
theorem xorL_twice (b s : List UInt8) (h : b.length = s.length) : xorL (xorL b s) s = b := by
  unfold xorL
  apply List.ext_getElem
  · simp; omega
  · intro i h1 h2
    simp only [List.getElem_zipWith]
    rw [UInt8.xor_assoc, UInt8.xor_self, UInt8.xor_zero]
theorem crypt_back (key nonce : List UInt8) (n : W32) (b : List UInt8) : cryptC key nonce n (cryptC key nonce n b) = b := by
  have h : cryptC key nonce n (cryptC key nonce n b) = xorL (cryptC key nonce n b) (streamC key nonce n (cryptC key nonce n b).length) := rfl
  rw [h, cryptC_len, cryptC, xorL_twice _ _ (by rw [streamC_len])]
/-- the three fields of a key that came in -/
theorem z_cell {W : World} {g : Nat} {k n : List UInt8} {c : W32} {t : TypeId} {fr : Nat × Nat} (h : W.heap[g]? = some (.cells (zCells k n c).toArray t fr)) (hk : k.length = 32) (hn : n.length = 12) :
    W.rangeAt g 0 (k.map bv) ∧ W.rangeAt g 32 (n.map bv) ∧ W.cell? ⟨g, 44, none⟩ = some (.int .u32 (c.toNat : Int)) := by
  refine ⟨fun j v hv => ?_, fun j v hv => ?_, ?_⟩
  · have hj := (List.getElem?_eq_some_iff.1 hv).1
    rw [cell_of_heap h, zCells, Nat.zero_add, List.getElem?_append_left hj]; exact hv
  · have hj := (List.getElem?_eq_some_iff.1 hv).1
    rw [cell_of_heap h, zCells, List.getElem?_append_right (by simp [hk]), List.length_map, hk, show 32 + j - 32 = j by omega, List.getElem?_append_left hj]; exact hv
  · rw [cell_of_heap h, zCells, List.getElem?_append_right (by simp [hk]), List.length_map, hk, List.getElem?_append_right (by simp [hn]), List.length_map, hn]; rfl
theorem range_ext {W W' : World} {g o : Nat} {cs : List Value} (h : W.rangeAt g o cs) (hg : g < W.heap.size) (hE : Ext W W') : W'.rangeAt g o cs := fun j v hv => (hE.cell hg).trans (h j v hv)
def ZAt (W : World) (g : Nat) (k n : List UInt8) (c : W32) : Prop := g < W.heap.size ∧ W.rangeAt g 0 (k.map bv) ∧ W.rangeAt g 32 (n.map bv) ∧ W.cell? ⟨g, 44, none⟩ = some (.int .u32 (c.toNat : Int))
theorem ZAt.ext {W W' : World} {g : Nat} {k n : List UInt8} {c : W32} (h : ZAt W g k n c) (hE : Ext W W') : ZAt W' g k n c :=
  ⟨Nat.lt_of_lt_of_le h.1 hE.size, range_ext h.2.1 h.1 hE, range_ext h.2.2.1 h.1 hE, (hE.cell h.1).trans h.2.2.2⟩
theorem zat_new (w : World) (k n : List UInt8) (c : W32) (t : TypeId) (hk : k.length = 32) (hn : n.length = 12) : ZAt (w.alloc (.cells (zCells k n c).toArray t)) w.heap.size k n c :=
  ⟨by simp, z_cell (heap_alloc_new' w _) hk hn⟩
theorem i32K' (bs : List UInt8) (h : bs.length = 32) : (Try.prog.info? 22).map (·.size) = some (bs.map bv).length := by rw [List.length_map, h]; exact i32K
theorem i12B' (bs : List UInt8) (h : bs.length = 12) : (Try.prog.info? 27).map (·.size) = some (bs.map bv).length := by rw [List.length_map, h]; exact i12B
end Go.Proofs.Ytfcnahbbieldfaa

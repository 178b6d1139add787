/- A key with its IV in memory, and its round keys (the laws' own functions bytes, keys). -/
import Derived.Test.YtfcnahbbieldfaaDoorLiftN
import Derived.Test.YtfcnahbbieldfaaDoorAes10
import Derived.Test.YtfcnahbbieldfaaDoorBits3
namespace Go.Proofs.YtfcnahbbieldfaaDoor
open Go.RowKit
set_option linter.unusedVariables false
set_option maxRecDepth 100000
set_option linter.unusedSimpArgs false
theorem k_strOf_beq (a b : List UInt8) : ((strOf a).toList == (strOf b).toList) = decide (a = b) := by
  have h : ∀ l : List UInt8, (strOf l).toList = l := fun l => by rw [ByteArray.toList_eq]; rfl
  rw [h, h]; rw [Bool.eq_iff_iff]; simp
theorem k_strOf_size (a : List UInt8) : (strOf a).size = a.length := by simp [strOf, ByteArray.size]
theorem k_strOf_append (a b : List UInt8) : strOf a ++ strOf b = strOf (a ++ b) := by
  apply ByteArray.ext; simp [strOf]
theorem Sl.extk {w w' : World} {A : Option Addr} {c : Nat} {bs : List UInt8} (h : Sl w A c bs) (hb : Ext w w') : Sl w' A c bs := h.below hb
theorem k_range_ext {W W' : World} {g o : Nat} {cs : List Value} (h : W.rangeAt g o cs) (hg : g < W.heap.size) (hE : Ext W W') : W'.rangeAt g o cs := fun j v hv => (hE.cell hg).trans (h j v hv)
/-- which bytes of it are the key -/
def keyB (k : List UInt8) (b : Bool) : List UInt8 := if b then k else k.take 16
def keyW (b : Bool) : Nat := if b then 8 else 4
theorem keyB_len (k : List UInt8) (b : Bool) (hk : k.length = 32) : (keyB k b).length = 4 * keyW b := by
  cases b <;> simp [keyB, keyW, hk]
def KZ (W : World) (g : Nat) (k : List UInt8) (b : Bool) (n : List UInt8) : Prop := g < W.heap.size ∧ W.rangeAt g 0 (k.map bv) ∧ W.cell? ⟨g, 32, none⟩ = some (.bool b) ∧ W.rangeAt g 33 (n.map bv)
theorem KZ.ext {W W' : World} {g : Nat} {k n : List UInt8} {b : Bool} (h : KZ W g k b n) (hE : Ext W W') : KZ W' g k b n :=
  ⟨Nat.lt_of_lt_of_le h.1 hE.size, k_range_ext h.2.1 h.1 hE, (hE.cell h.1).trans h.2.2.1, k_range_ext h.2.2.2 h.1 hE⟩
theorem kz_of {W : World} {g : Nat} {k n : List UInt8} {b : Bool} {post : List Value} {t : TypeId} {fr : Nat × Nat} (h : W.heap[g]? = some (.cells (kCells k b n ++ post).toArray t fr)) (hk : k.length = 32) (hn : n.length = 16) : KZ W g k b n := by
  refine ⟨lt_of_heap h, fun j v hv => ?_, ?_, fun j v hv => ?_⟩
  · have hj := (List.getElem?_eq_some_iff.1 hv).1
    rw [cell_of_heap h, kCells, Nat.zero_add, List.append_assoc, List.getElem?_append_left hj]; exact hv
  · rw [cell_of_heap h, kCells, List.append_assoc, List.getElem?_append_right (by simp [hk]), List.length_map, hk]; rfl
  · have hj := (List.getElem?_eq_some_iff.1 hv).1
    rw [cell_of_heap h, kCells, List.append_assoc, List.getElem?_append_right (by simp [hk]; omega), List.length_map, hk, List.append_assoc, List.getElem?_append_right (by simp; omega), List.getElem?_append_left (by simp at hj ⊢; omega)]
    rw [show 33 + j - 32 - [Value.bool b].length = j by simp; omega]; exact hv
theorem kz_new (w : World) (k n : List UInt8) (b : Bool) (t : TypeId) (hk : k.length = 32) (hn : n.length = 16) : KZ (w.alloc (.cells (kCells k b n).toArray t)) w.heap.size k b n :=
  kz_of (post := []) (by rw [List.append_nil]; exact heap_alloc_new' w _) hk hn
theorem kCells_len (k n : List UInt8) (b : Bool) (hk : k.length = 32) (hn : n.length = 16) : (kCells k b n).length = 49 := by simp [kCells, hk, hn]
theorem KZ.key {W : World} {g : Nat} {k n : List UInt8} {b : Bool} (h : KZ W g k b n) (hk : k.length = 32) : Sl W (some ⟨g, 0, none⟩) 32 (keyB k b) := by
  refine ⟨by rw [keyB_len k b hk]; cases b <;> simp [keyW], by simp [maxLen], .inr ⟨g, 0, rfl, h.1, fun j u hu => ?_⟩⟩
  refine h.2.1 j u ?_
  cases b
  · simp only [keyB, Bool.false_eq_true, if_false, List.map_take] at hu
    rw [List.getElem?_take] at hu
    split at hu
    · exact hu
    · cases hu
  · exact hu
theorem arr32Z : Tryd.prog.underlying 27 = some (.array 32 5) := Tryd.underlying27
end Go.Proofs.YtfcnahbbieldfaaDoor

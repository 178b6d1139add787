/- The contract of sha.Block. -/
import Derived.Test.YtjmpbcfbfbjenaaSha3
import Derived.StillTailTactics
import Derived.Deep.CutRange
namespace Go.Proofs.Ytjmpbcfbfbjenaa
open Go.RowKit
set_option maxRecDepth 100000
set_option linter.unusedVariables false
set_option linter.unusedSimpArgs false

def addL (h m : List W32) : List W32 := List.zipWith (· + ·) h m
def blockL (h : List W32) (b : List UInt8) : List W32 := addL h (mixN (stOf h) (spreadN b 48) 64).list
def addN (h m : List W32) (i : Nat) : List W32 := (addL h m).take i ++ h.drop i
theorem St.list_len (s : St) : s.list.length = 8 := rfl
theorem addL_len (h m : List W32) (hh : h.length = 8) (hm : m.length = 8) : (addL h m).length = 8 := by simp [addL, hh, hm]
theorem blockL_len (h : List W32) (b : List UInt8) (hh : h.length = 8) : (blockL h b).length = 8 := addL_len _ _ hh rfl
theorem addN_len (h m : List W32) (i : Nat) (hh : h.length = 8) (hm : m.length = 8) (hi : i ≤ 8) : (addN h m i).length = 8 := by
  simp [addN, addL_len h m hh hm, hh]; omega
theorem addN_get (h m : List W32) (i : Nat) (hh : h.length = 8) (hm : m.length = 8) (hi : i < 8) : (addN h m i).getD i 0 = h.getD i 0 := by
  have hl : ((addL h m).take i).length = i := by rw [List.length_take, addL_len h m hh hm]; omega
  rw [addN, List.getD_eq_getElem?_getD, List.getElem?_append_right (by omega), hl, List.getElem?_drop, List.getD_eq_getElem?_getD]; simp
theorem addN_step (h m : List W32) (i : Nat) (hh : h.length = 8) (hm : m.length = 8) (hi : i < 8) : (addN h m i).set i (h.getD i 0 + m.getD i 0) = addN h m (i + 1) := by
  have hl : ((addL h m).take i).length = i := by rw [List.length_take, addL_len h m hh hm]; omega
  have ha : i < (addL h m).length := by rw [addL_len h m hh hm]; exact hi
  unfold addN
  rw [List.set_append_right _ _ (by omega), hl, Nat.sub_self, List.drop_eq_getElem_cons (by omega), List.set_cons_zero, List.take_succ_eq_append_getElem ha, List.append_assoc]
  congr 1
  simp [addL, List.getD, hh, hm, hi]
theorem addN_end (h m : List W32) (hh : h.length = 8) (hm : m.length = 8) : addN h m 8 = addL h m := by
  rw [addN, List.take_of_length_le (by rw [addL_len h m hh hm]; omega), List.drop_of_length_le (by omega), List.append_nil]

theorem heap_of_setRow {w W : World} {g : Nat} {new old : Array Value} {t : TypeId} {fr : Nat × Nat} (h : w.setRow g new = W) (hg : w.heap[g]? = some (.cells old t fr)) : W.heap[g]? = some (.cells new t fr) := by
  rw [← h]; exact setRow_heap _ _ _ _ _ _ hg
theorem below_of_setRow {B : Nat} {w W : World} {g : Nat} {new : Array Value} (h : w.setRow g new = W) (hB : B ≤ g) (hs : B ≤ w.heap.size) : Below B w W := by
  rw [← h]; exact grown_below (grown_setRow _ _ _) hB hs

end Go.Proofs.Ytjmpbcfbfbjenaa

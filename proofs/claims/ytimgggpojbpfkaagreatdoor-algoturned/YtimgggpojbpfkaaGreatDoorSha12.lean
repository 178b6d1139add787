/- The walk of the law ShaWhole. -/
import Derived.Test.YtimgggpojbpfkaaGreatDoorSha11
namespace Go.Proofs.YtimgggpojbpfkaaGreatDoor
open Go.RowKit
set_option maxRecDepth 100000
set_option linter.unusedVariables false
set_option linter.unusedSimpArgs false
theorem wholeN_add (h : List W32) (bs : List UInt8) (q m : Nat) : wholeN h bs (q + m) = wholeN (wholeN h bs q) (bs.drop (64 * q)) m := by
  induction m with
  | zero => rfl
  | succ m ih =>
    show blockL (wholeN h bs (q + m)) _ = blockL _ _
    rw [ih, List.drop_drop, show 64 * (q.add m) = 64 * q + 64 * m from by show 64 * (q + m) = _; omega]
theorem wholeN_app (h : List W32) (a b : List UInt8) (q : Nat) (hq : 64 * q ≤ a.length) : wholeN h (a ++ b) q = wholeN h a q := by
  induction q with
  | zero => rfl
  | succ q ih =>
    show blockL (wholeN h (a ++ b) q) _ = blockL _ _
    rw [ih (by omega), List.drop_append_of_le_length (by omega), List.take_append_of_le_length (by rw [List.length_drop]; omega)]
theorem padN_mod (n : Nat) : (n + (padK n + 8)) % 64 = 0 := by unfold padK; omega
theorem sumL_whole (bs : List UInt8) (n : Nat) (hl : bs.length = n) : outL (wholeN startL (bs ++ padL n) ((n + (padK n + 8)) / 64)) = sumL bs := by
  subst hl
  have e : (bs.length + (padK bs.length + 8)) / 64 = bs.length / 64 + ((bs.drop (64 * (bs.length / 64))).length + (padK bs.length + 8)) / 64 := by
    rw [List.length_drop]; omega
  rw [e, wholeN_add, wholeN_app _ _ _ _ (by omega), List.drop_append_of_le_length (by omega)]
  rfl
theorem bcell8 {w : World} {g : Nat} {bs : List UInt8} {t : TypeId} {fr : Nat × Nat} (h : w.heap[g]? = some (.cells (bs.map bv).toArray t fr)) (i : Nat) (hi : i < bs.length) : w.cell? ⟨g, i, none⟩ = some (.int .u8 ((bs.getD i 0).toNat : Int)) := by
  rw [cell_of_heap h, List.getElem?_map]; simp [hi, List.getD, bv]
theorem fillB_len (X : List UInt8) (k : Nat) (hX : X.length = 64) (hk : k ≤ 64) : (X.take k ++ List.replicate (64 - k) (0 : UInt8)).length = 64 := by simp [hX]; omega
def fillB (X : List UInt8) (k : Nat) : List UInt8 := X.take k ++ List.replicate (64 - k) 0
theorem fillB_step (X : List UInt8) (k : Nat) (hX : X.length = 64) (hk : k < 64) : ((fillB X k).map bv).set k (bv (X.getD k 0)) = (fillB X (k + 1)).map bv := by
  have hl : (X.take k).length = k := by rw [List.length_take]; omega
  rw [← List.map_set, fillB, show 64 - k = (64 - (k + 1)) + 1 by omega, set_mid _ _ _ _ _ hl, fillB, take_snoc8 X k (by omega)]
theorem fillB_end (X : List UInt8) (hX : X.length = 64) : fillB X 64 = X := by simp [fillB, List.take_of_length_le, hX]
end Go.Proofs.YtimgggpojbpfkaaGreatDoor

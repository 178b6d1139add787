/- The contract of (*Keys).add. -/
import Derived.Test.YtfcnahbbieldfaaDoorAes2
import Derived.StillTailTactics
namespace Go.Proofs.YtfcnahbbieldfaaDoor
open Go.RowKit
set_option linter.unusedVariables false
set_option maxRecDepth 100000
set_option linter.unusedSimpArgs false
/-- the round keys' cells -/
def keyCells (ws : List W32) (n : Nat) : List Value := ws.map wv ++ [.int .i64 (n : Int)]
theorem keyCell {w : World} {g : Nat} {ws : List W32} {n : Nat} {ty : TypeId} {fr : Nat × Nat} (H : w.heap[g]? = some (.cells (keyCells ws n).toArray ty fr)) (i : Nat) (hi : i < ws.length) : w.cell? ⟨g, i, none⟩ = some (.int .u32 ((ws.getD i 0).toNat : Int)) := by
  rw [cell_of_heap H, keyCells, List.getElem?_append_left (by simpa using hi), List.getElem?_map, List.getElem?_eq_getElem hi]
  simp [List.getD, hi, wv]
theorem keyN {w : World} {g : Nat} {ws : List W32} {n : Nat} {ty : TypeId} {fr : Nat × Nat} (H : w.heap[g]? = some (.cells (keyCells ws n).toArray ty fr)) (hl : ws.length = 60) : w.cell? ⟨g, 60, none⟩ = some (.int .i64 (n : Int)) := by
  rw [cell_of_heap H, keyCells, List.getElem?_append_right (by simp [hl])]; simp [hl]
/-- the round keys' cells stand at the head of block g -/
def KIn (w : World) (g : Nat) (ws : List W32) (n : Nat) : Prop := g < w.heap.size ∧ w.rangeAt g 0 (keyCells ws n)
theorem kin_of {w : World} {g : Nat} {ws : List W32} {n : Nat} {ty : TypeId} {fr : Nat × Nat} (H : w.heap[g]? = some (.cells (keyCells ws n).toArray ty fr)) : KIn w g ws n :=
  ⟨lt_of_heap H, fun j v hv => by rw [cell_of_heap H, Nat.zero_add]; exact hv⟩
theorem kinCell {w : World} {g : Nat} {ws : List W32} {n : Nat} (H : KIn w g ws n) (i : Nat) (hi : i < ws.length) : w.cell? ⟨g, i, none⟩ = some (.int .u32 ((ws.getD i 0).toNat : Int)) := by
  have := H.2 i (.int .u32 ((ws.getD i 0).toNat : Int)) (by rw [keyCells, List.getElem?_append_left (by simpa using hi), List.getElem?_map, List.getElem?_eq_getElem hi]; simp [List.getD, hi, wv])
  rwa [Nat.zero_add] at this
theorem kinN {w : World} {g : Nat} {ws : List W32} {n : Nat} (H : KIn w g ws n) (hl : ws.length = 60) : w.cell? ⟨g, 60, none⟩ = some (.int .i64 (n : Int)) := by
  have := H.2 60 (.int .i64 (n : Int)) (by rw [keyCells, List.getElem?_append_right (by simp [hl])]; simp [hl])
  rwa [Nat.zero_add] at this
theorem KIn.ext {w w' : World} {g : Nat} {ws : List W32} {n : Nat} (H : KIn w g ws n) (hb : Below w.heap.size w w') : KIn w' g ws n :=
  ⟨Nat.lt_of_lt_of_le H.1 hb.size, fun j v hv => (hb.cell H.1).trans (H.2 j v hv)⟩
def keyL (ws : List W32) (r : Nat) : List W32 := (ws.drop (4 * r)).take 4
def addW (ws : List W32) (r : Nat) (s : List W32) : List W32 := List.zipWith (· ^^^ ·) s (keyL ws r)
def addWN (ws : List W32) (r : Nat) (s : List W32) (i : Nat) : List W32 := (addW ws r s).take i ++ s.drop i
theorem addW_len (ws : List W32) (r : Nat) (s : List W32) (hs : s.length = 4) (hw : 4 * r + 4 ≤ ws.length) : (addW ws r s).length = 4 := by simp [addW, keyL, hs]; omega
theorem addWN_len (ws : List W32) (r : Nat) (s : List W32) (i : Nat) (hs : s.length = 4) (hw : 4 * r + 4 ≤ ws.length) (hi : i ≤ 4) : (addWN ws r s i).length = 4 := by
  simp [addWN, addW_len ws r s hs hw, hs]; omega
theorem addWN_get (ws : List W32) (r : Nat) (s : List W32) (i : Nat) (hs : s.length = 4) (hw : 4 * r + 4 ≤ ws.length) (hi : i < 4) : (addWN ws r s i).getD i 0 = s.getD i 0 := by
  have hl : ((addW ws r s).take i).length = i := by rw [List.length_take, addW_len ws r s hs hw]; omega
  rw [addWN, List.getD_eq_getElem?_getD, List.getElem?_append_right (by omega), hl, List.getElem?_drop, List.getD_eq_getElem?_getD]; simp
theorem addWN_step (ws : List W32) (r : Nat) (s : List W32) (i : Nat) (hs : s.length = 4) (hw : 4 * r + 4 ≤ ws.length) (hi : i < 4) : (addWN ws r s i).set i (s.getD i 0 ^^^ ws.getD (4 * r + i) 0) = addWN ws r s (i + 1) := by
  have hl : ((addW ws r s).take i).length = i := by rw [List.length_take, addW_len ws r s hs hw]; omega
  have ha : i < (addW ws r s).length := by rw [addW_len ws r s hs hw]; exact hi
  unfold addWN
  rw [List.set_append_right _ _ (by omega), hl, Nat.sub_self, List.drop_eq_getElem_cons (by omega), List.set_cons_zero, List.take_succ_eq_append_getElem ha, List.append_assoc]
  congr 1
  simp [addW, keyL, List.getD, hs, hi, show 4 * r + i < ws.length by omega]
theorem addWN_end (ws : List W32) (r : Nat) (s : List W32) (hs : s.length = 4) (hw : 4 * r + 4 ≤ ws.length) : addWN ws r s 4 = addW ws r s := by
  rw [addWN, List.take_of_length_le (by rw [addW_len ws r s hs hw]; omega), List.drop_of_length_le (by omega), List.append_nil]
end Go.Proofs.YtfcnahbbieldfaaDoor

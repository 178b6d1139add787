/- The contract of (*Keys).add. -/
import Derived.Test.YtjmpbcfbfbjenaaAes2
import Derived.StillTailTactics
namespace Go.Proofs.Ytjmpbcfbfbjenaa
open Go.RowKit
set_option linter.unusedVariables false
set_option maxRecDepth 100000
set_option linter.unusedSimpArgs false
/-- the round keys' cells -/
def keyCells (ws : List W32) (n : Nat) : List Value := ws.map wv ++ [.int .i64 (n : Int)]
theorem keyCell {w : World} {g : Nat} {ws : List W32} {n : Nat} {ty : TypeId} {fr : Nat × Nat} (H : w.heap[g]? = some (.cells (keyCells ws n).toArray ty fr)) (i : Nat) (hi : i < ws.length) : w.cell? ⟨g, i, none⟩ = some (.int .u32 ((ws.getD i 0).toNat : Int)) := by
  rw [cell_of_heap H, keyCells, List.getElem?_append_left (by simpa using hi), List.getElem?_map, List.getElem?_eq_getElem hi]
  simp [List.getD, hi, wv]
theorem keyN {w : World} {g : Nat} {ws : List W32} {n : Nat} {ty : TypeId} {fr : Nat × Nat} (H : w.heap[g]? = some (.cells (keyCells ws n).toArray ty fr)) (hl : ws.length = 60) : w.cell? ⟨g, 60, none⟩ = some (.int .i64 (n : Int)) := by
  rw [cell_of_heap H, keyCells, List.getElem?_append_right (by simp [hl])]; simp [hl]
/-- the round keys' cells stand at the head of block g -/
def KIn (w : World) (g : Nat) (ws : List W32) (n : Nat) : Prop := g < w.heap.size ∧ w.rangeAt g 0 (keyCells ws n)
theorem kin_of {w : World} {g : Nat} {ws : List W32} {n : Nat} {ty : TypeId} {fr : Nat × Nat} (H : w.heap[g]? = some (.cells (keyCells ws n).toArray ty fr)) : KIn w g ws n :=
  ⟨lt_of_heap H, fun j v hv => by rw [cell_of_heap H, Nat.zero_add]; exact hv⟩
theorem kinCell {w : World} {g : Nat} {ws : List W32} {n : Nat} (H : KIn w g ws n) (i : Nat) (hi : i < ws.length) : w.cell? ⟨g, i, none⟩ = some (.int .u32 ((ws.getD i 0).toNat : Int)) := by
  have := H.2 i (.int .u32 ((ws.getD i 0).toNat : Int)) (by rw [keyCells, List.getElem?_append_left (by simpa using hi), List.getElem?_map, List.getElem?_eq_getElem hi]; simp [List.getD, hi, wv])
  rwa [Nat.zero_add] at this
theorem kinN {w : World} {g : Nat} {ws : List W32} {n : Nat} (H : KIn w g ws n) (hl : ws.length = 60) : w.cell? ⟨g, 60, none⟩ = some (.int .i64 (n : Int)) := by
  have := H.2 60 (.int .i64 (n : Int)) (by rw [keyCells, List.getElem?_append_right (by simp [hl])]; simp [hl])
  rwa [Nat.zero_add] at this
theorem KIn.ext {w w' : World} {g : Nat} {ws : List W32} {n : Nat} (H : KIn w g ws n) (hb : Below w.heap.size w w') : KIn w' g ws n :=
  ⟨Nat.lt_of_lt_of_le H.1 hb.size, fun j v hv => (hb.cell H.1).trans (H.2 j v hv)⟩
def keyL (ws : List W32) (r : Nat) : List W32 := (ws.drop (4 * r)).take 4
def addW (ws : List W32) (r : Nat) (s : List W32) : List W32 := List.zipWith (· ^^^ ·) s (keyL ws r)
def addWN (ws : List W32) (r : Nat) (s : List W32) (i : Nat) : List W32 := (addW ws r s).take i ++ s.drop i
theorem addW_len (ws : List W32) (r : Nat) (s : List W32) (hs : s.length = 4) (hw : 4 * r + 4 ≤ ws.length) : (addW ws r s).length = 4 := by simp [addW, keyL, hs]; omega
theorem addWN_len (ws : List W32) (r : Nat) (s : List W32) (i : Nat) (hs : s.length = 4) (hw : 4 * r + 4 ≤ ws.length) (hi : i ≤ 4) : (addWN ws r s i).length = 4 := by
  simp [addWN, addW_len ws r s hs hw, hs]; omega
theorem addWN_get (ws : List W32) (r : Nat) (s : List W32) (i : Nat) (hs : s.length = 4) (hw : 4 * r + 4 ≤ ws.length) (hi : i < 4) : (addWN ws r s i).getD i 0 = s.getD i 0 := by
  have hl : ((addW ws r s).take i).length = i := by rw [List.length_take, addW_len ws r s hs hw]; omega
  rw [addWN, List.getD_eq_getElem?_getD, List.getElem?_append_right (by omega), hl, List.getElem?_drop, List.getD_eq_getElem?_getD]; simp
theorem addWN_step (ws : List W32) (r : Nat) (s : List W32) (i : Nat) (hs : s.length = 4) (hw : 4 * r + 4 ≤ ws.length) (hi : i < 4) : (addWN ws r s i).set i (s.getD i 0 ^^^ ws.getD (4 * r + i) 0) = addWN ws r s (i + 1) := by
  have hl : ((addW ws r s).take i).length = i := by rw [List.length_take, addW_len ws r s hs hw]; omega
  have ha : i < (addW ws r s).length := by rw [addW_len ws r s hs hw]; exact hi
  unfold addWN
  rw [List.set_append_right _ _ (by omega), hl, Nat.sub_self, List.drop_eq_getElem_cons (by omega), List.set_cons_zero, List.take_succ_eq_append_getElem ha, List.append_assoc]
  congr 1
  simp [addW, keyL, List.getD, hs, hi, show 4 * r + i < ws.length by omega]
theorem addWN_end (ws : List W32) (r : Nat) (s : List W32) (hs : s.length = 4) (hw : 4 * r + 4 ≤ ws.length) : addWN ws r s 4 = addW ws r s := by
  rw [addWN, List.take_of_length_le (by rw [addW_len ws r s hs hw]; omega), List.drop_of_length_le (by omega), List.append_nil]
set_option maxHeartbeats 2000000 in
theorem add_any (g : Nat) (ws : List W32) (n r : Nat) (s : List W32) (w : World) (hs : s.length = 4) (hw : ws.length = 60) (hr : r ≤ 14) (hT : KIn w g ws n) :
    Calls Try.prog 71 #[.pointer (some ⟨g, 0, none⟩), .int .i64 (r : Int), .agg (s.map wv).toArray] w fun e w' => e = .returned (.agg ((addW ws r s).map wv).toArray) ∧ Below w.heap.size w w' := by
  have HSL := Lib.hid hs; have HW := Lib.hid hw; have HT := Lib.hid hT
  have hw4 : Hid (4 * r + 4 ≤ ws.length) := by show _ ≤ _; omega
  clear hs hw hT
  go_enter Try.func71, Try.ntmps71
  go_wp2_with fail
  generalize hV : (w.alloc _).alloc _ = W0
  have F0 : Hid (W0.heap[w.heap.size]? = some (.cells ((addWN ws r s 0).map wv).toArray 99 (0, 0))) := by rw [← hV]; exact (heap2 w _ _).1
  have F1 : Hid (W0.heap[w.heap.size + 1]? = some (.cells (List.replicate 4 (Value.int .u32 0)).toArray 99 (0, 0))) := by rw [← hV]; exact (heap2 w _ _).2.1
  have FB : Hid (Below w.heap.size w W0) := by rw [← hV]; exact (heap2 w _ _).2.2
  clear hV
  go_loopw [8] (fun vi wr => ∃ (i : Nat), i ≤ 4 ∧ vi = .int .i64 (i : Int) ∧ Hid (Below w.heap.size w wr) ∧ Hid (wr.heap[w.heap.size]? = some (.cells ((addWN ws r s i).map wv).toArray 99 (0, 0))) ∧ Hid (wr.heap[w.heap.size + 1]? = some (.cells (List.replicate 4 (Value.int .u32 0)).toArray 99 (0, 0)))) (fun i _ => 4 - (intOf i).toNat)
  case atStart => exact ⟨0, by omega, rfl, FB, F0, F1⟩
  case round =>
    clear F0 F1 FB
    obtain ⟨i, hi, rfl, HB, H0, H1⟩ := hrel
    by_cases hlt : i < 4
    · have q1 : (i : Int) < 4 := by omega
      have c0 := wcell H0.out i (by rw [addWN_len ws r s i HSL.out hw4.out hi]; exact hlt)
      rw [addWN_get ws r s i HSL.out hw4.out hlt] at c0
      have fz := frozen_of_heap H0.out i
      have HST := Lib.hid (addWN_step ws r s i HSL.out hw4.out hlt)
      obtain ⟨p, hp⟩ : ∃ p, p = 4 * r := ⟨_, rfl⟩
      obtain ⟨q, hq⟩ : ∃ q, q = p + i := ⟨_, rfl⟩
      rw [← hp, ← hq] at HST
      have o1 : IntKind.i64.wrap (4 * (r : Int)) = (p : Int) := by rw [IntKind.wrap_i64]; omega
      have o2 : IntKind.i64.wrap ((p : Int) + (i : Int)) = (q : Int) := by rw [IntKind.wrap_i64]; omega
      have q2 : (q : Int) < 60 := by omega
      have c1 : wr.cell? ⟨g, q, none⟩ = some (.int .u32 ((ws.getD q 0).toNat : Int)) := (HB.out.cell HT.out.1).trans (kinCell HT.out q (by rw [HW.out]; omega))
      generalize s.getD i 0 = x at c0 HST
      generalize ws.getD q 0 = y at c1 HST
      have HXY := Lib.hid (xor32 x y)
      clear hp hq
      go_wp2_with fail
      go_still_tail 14, (by kernel_rfl)
      change wpList _ _ _ _ _ wr.drew
      go_wp2
      go_roundw
      case rel =>
        refine ⟨i + 1, by omega, by go_num, ?_, ?_, ?_⟩
        · exact HB.out.drew.setCell (Nat.le_refl _) _
        · have h1 : ((addWN ws r s i).map wv).set i (Value.int .u32 (bits .xor .u32 (x.toNat : Int) (y.toNat : Int))) = (addWN ws r s (i + 1)).map wv := by
            rw [HXY.out, ← HST.out, List.map_set]; rfl
          have := heap_set (w := wr.drew) H0.out i (Value.int .u32 (bits .xor .u32 (x.toNat : Int) (y.toNat : Int)))
          rw [h1] at this
          first | exact this | (rw [HXY.out] at this; exact this)
        · exact (Below.heap_setCell wr.drew _ _ _ (Nat.succ_ne_self _)).trans H1.out
      case measure => simp [intOf]; omega
    · have H0' : Hid (wr.heap[w.heap.size]? = some (.cells ((addW ws r s).map wv).toArray 99 (0, 0))) := by have := H0.out; rw [show i = 4 by omega, addWN_end ws r s HSL.out hw4.out] at this; exact this
      have hl4 : Hid (((addW ws r s).map wv).length = 4) := by show _ = _; rw [List.length_map, addW_len ws r s HSL.out hw4.out]
      clear H0
      obtain ⟨L, HLL⟩ : ∃ L, Hid ((addW ws r s).map wv = L) := ⟨_, rfl⟩
      have hone : Hid (∀ v ∈ L, v.oneCell' = true) := by show ∀ v ∈ L, _; rw [← HLL.out]; exact wv_one _
      rw [HLL.out] at H0' hl4
      go_wp2_with (first
        | (refine wpList_ld rfl 99 (.tmp 5) rfl (load_arr arr4W rfl (by rw [hl4.out]; exact i4W) H0'.out) ?_)
        | (refine wpList_st rfl 99 (.tmp 6) (.tmp 26) rfl (store_arr (cs := L) (by rw [hl4.out]; exact i4W) hone.out H1.out (by rw [hl4.out]; simp)) ?_))
      have hres := setRow_heap wr (w.heap.size + 1) _ L.toArray 99 _ H1.out
      exact bodyPost_ret (results_cell_row (P := Try.prog) rfl _ _ (w.heap.size + 1) 99 L.toArray (0, 0) _ rfl hres arr4W rfl (by rw [List.size_toArray, hl4.out]; exact i4W)) rfl ⟨by rw [HLL.out], HB.out.trans (grown_below (grown_setRow _ _ _) (Nat.le_succ _) HB.out.size)⟩
end Go.Proofs.Ytjmpbcfbfbjenaa

/- The contract of aes.columns. -/
import Derived.Test.YtjmpbcfbfbjenaaAes3
import Derived.StillTailTactics
namespace Go.Proofs.Ytjmpbcfbfbjenaa
open Go.RowKit
set_option linter.unusedVariables false
set_option maxRecDepth 100000
set_option linter.unusedSimpArgs false
/-- a block as its four columns -/
def colsL (b : List UInt8) : List W32 := (List.range 4).map (wordAt b)
def colN (b : List UInt8) (i : Nat) : List W32 := (List.range i).map (wordAt b) ++ List.replicate (4 - i) 0
theorem colN_step (b : List UInt8) (i : Nat) (hi : i < 4) : (colN b i).set i (wordAt b i) = colN b (i + 1) := by
  unfold colN
  rw [List.range_succ, List.map_append, List.append_assoc, show 4 - i = (4 - (i + 1)) + 1 by omega, List.replicate_succ]
  rw [List.set_append_right _ _ (by simp)]
  simp
theorem colN_len (b : List UInt8) (i : Nat) (hi : i ≤ 4) : (colN b i).length = 4 := by simp [colN]; omega
theorem colN_zero (b : List UInt8) : ((colN b 0).map wv) = List.replicate 4 (Value.int .u32 0) := by simp [colN, wv]
theorem colN_end (b : List UInt8) : colN b 4 = colsL b := by simp [colN, colsL]
theorem colsL_len (b : List UInt8) : (colsL b).length = 4 := by simp [colsL]
set_option maxHeartbeats 2000000 in
theorem columns_any (b : List UInt8) (w : World) (hb : b.length = 16) :
    Calls Try.prog 72 #[.agg (b.map bv).toArray] w fun e w' => e = .returned (.agg ((colsL b).map wv).toArray) ∧ Below w.heap.size w w' := by
  have HBL := Lib.hid hb
  clear hb
  go_enter Try.func72, Try.ntmps72
  go_wp2_with fail
  generalize hV : ((w.alloc _).alloc _).alloc _ = W0
  have F0 : Hid (W0.heap[w.heap.size]? = some (.cells (b.map bv).toArray 23 (0, 0))) := by rw [← hV]; exact (heap3 w _ _ _).1
  have F1 : Hid (W0.heap[w.heap.size + 1]? = some (.cells (List.replicate 4 (Value.int .u32 0)).toArray 99 (0, 0))) := by rw [← hV]; exact (heap3 w _ _ _).2.1
  have F2 : Hid (W0.heap[w.heap.size + 1 + 1]? = some (.cells ((colN b 0).map wv).toArray 99 (0, 0))) := by rw [← hV, colN_zero]; exact (heap3 w _ _ _).2.2.1
  have FB : Hid (Below w.heap.size w W0) := by rw [← hV]; exact (heap3 w _ _ _).2.2.2
  clear hV
  generalize hg2 : w.heap.size + 1 + 1 = g2 at F2 ⊢
  generalize hg1 : w.heap.size + 1 = g1 at F1 ⊢
  have HG2 : Hid (w.heap.size + 1 + 1 = g2) := hg2
  have HG1 : Hid (w.heap.size + 1 = g1) := hg1
  clear hg1 hg2
  go_loopw [5] (fun vi wr => ∃ (i : Nat), i ≤ 4 ∧ vi = .int .i64 (i : Int) ∧ Hid (Below w.heap.size w wr) ∧ Hid (wr.heap[w.heap.size]? = some (.cells (b.map bv).toArray 23 (0, 0))) ∧ Hid (wr.heap[g1]? = some (.cells (List.replicate 4 (Value.int .u32 0)).toArray 99 (0, 0))) ∧
     Hid (wr.heap[g2]? = some (.cells ((colN b i).map wv).toArray 99 (0, 0)))) (fun i _ => 4 - (intOf i).toNat)
  case atStart => exact ⟨0, by omega, rfl, FB, F0, F1, F2⟩
  case round =>
    obtain ⟨i, hi, rfl, HB, H0, H1, H2⟩ := hrel
    by_cases hlt : i < 4
    · have e1 : (i : Int) < 4 := by omega
      have sl := arr_mid arr16B s8 ⟨w.heap.size, 0, none⟩ .i64 .i64 (4 * (i : Int)) (4 * (i : Int) + 4) (by omega) (by omega) (by omega)
      have e2 : (4 * (i : Int)).toNat = 4 * i := by omega
      have e3 : (4 * (i : Int) + 4).toNat = 4 * i + 4 := by omega
      rw [e2, e3, show 4 * i + 4 - 4 * i = 4 by omega, show cutA ⟨w.heap.size, 0, none⟩ 16 (4 * i) = ⟨w.heap.size, 4 * i, none⟩ from by unfold cutA; rw [if_neg (by omega), Addr.add_mid, Nat.zero_add]] at sl
      clear e2 e3
      have HWB := Lib.hid (word_big b i)
      have HST := Lib.hid (colN_step b i (by omega))
      go_wp2_with fail
      refine (big_n (some ⟨w.heap.size, 4 * i, none⟩) 4 (16 - 4 * i) ((b.drop (4 * i)).take 4) wr ?_ ?_ ?_ ?_).mono ?_
      · rw [List.length_take, List.length_drop, HBL.out]; omega
      · omega
      · simp [maxLen]; omega
      · exact row_sub H0.out (4 * i) 4 (lt_of_heap H0.out)
      rintro e w1 ⟨rfl, hb1⟩
      rw [HWB.out]
      generalize wordAt b i = x at HST
      have hx := x.isLt
      have H0' : Hid (w1.heap[w.heap.size]? = _) := (hb1.block _ (lt_of_heap H0.out)).trans H0.out
      have H1' : Hid (w1.heap[g1]? = _) := (hb1.block _ (lt_of_heap H1.out)).trans H1.out
      have H2' : Hid (w1.heap[g2]? = _) := (hb1.block _ (lt_of_heap H2.out)).trans H2.out
      have HB' : Hid (Below w.heap.size w w1) := HB.out.step hb1
      have c1 := wcell H2'.out i (by rw [colN_len _ _ (by omega)]; omega)
      have fz := frozen_of_heap H2'.out i
      have hmod : (x.toNat : Int) % 4294967296 = (x.toNat : Int) := by omega
      clear hb1 H0 H1 H2 HB HWB
      go_wp2
      go_roundw
      case rel =>
        have q2 := HG2.out
        have q1 := HG1.out
        refine ⟨i + 1, by omega, by go_num, ?_, ?_, ?_, ?_⟩
        · exact HB'.out.setCell (show w.heap.size ≤ g2 by omega) _
        · exact (Below.heap_setCell w1 _ _ _ (show w.heap.size ≠ g2 by omega)).trans H0'.out
        · exact (Below.heap_setCell w1 _ _ _ (show g1 ≠ g2 by omega)).trans H1'.out
        · have := heap_set H2'.out i (wv x)
          rw [← List.map_set, HST.out] at this
          exact this
      case measure => simp [intOf]; omega
    · have H2' : Hid (wr.heap[g2]? = some (.cells ((colsL b).map wv).toArray 99 (0, 0))) := by have := H2.out; rw [show i = 4 by omega, colN_end] at this; exact this
      have hl : Hid (((colsL b).map wv).length = 4) := by show _ = _; rw [List.length_map, colsL_len]
      obtain ⟨L, HL⟩ : ∃ L, Hid (colsL b = L) := ⟨_, rfl⟩
      rw [HL.out] at hl H2'
      go_wp2_with (first
        | (refine wpList_ld rfl 99 (.tmp 3) rfl (load_arr arr4W rfl (by rw [hl.out]; exact i4W) H2'.out) ?_)
        | (refine wpList_st rfl 99 (.tmp 2) (.tmp 19) rfl (store_arr (cs := L.map wv) (by rw [hl.out]; exact i4W) (wv_one _) H1.out (by rw [hl.out]; simp)) ?_))
      have hres := setRow_heap wr g1 _ (L.map wv).toArray 99 _ H1.out
      rw [HL.out]
      exact bodyPost_ret (results_cell_row (P := Try.prog) rfl _ _ g1 99 (L.map wv).toArray (0, 0) _ rfl hres arr4W rfl (by rw [List.size_toArray, hl.out]; exact i4W)) rfl ⟨rfl, HB.out.trans (grown_below (grown_setRow _ _ _) (by have := HG1.out; omega) HB.out.size)⟩
end Go.Proofs.Ytjmpbcfbfbjenaa

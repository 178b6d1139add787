/- The contract of aes.flat. -/
import Derived.Test.YtjmpbcfbfbjenaaAes2
import Derived.StillTailTactics
namespace Go.Proofs.Ytjmpbcfbfbjenaa
open Go.RowKit
set_option linter.unusedVariables false
set_option maxRecDepth 100000
set_option linter.unusedSimpArgs false
def flatN (h : List W32) (i : Nat) : List UInt8 := outL (h.take i) ++ List.replicate (16 - 4 * i) 0
theorem flatN_len (h : List W32) (i : Nat) (hh : h.length = 4) (hi : i ≤ 4) : (flatN h i).length = 16 := by
  simp [flatN, outL_len, hh]; omega
theorem flatN_step (h : List W32) (i : Nat) (hh : h.length = 4) (hi : i < 4) : splice ((flatN h i).map bv) (4 * i) ((putBig (h.getD i 0).toNat 4).map bv) = (flatN h (i + 1)).map bv := by
  have e0 : List.replicate (16 - 4 * i) (0 : UInt8) = List.replicate 4 0 ++ List.replicate (16 - 4 * (i + 1)) 0 := by
    rw [List.replicate_append_replicate]; congr 1; omega
  have e1 : (flatN h i).map bv = (outL (h.take i)).map bv ++ (List.replicate 4 (0 : UInt8)).map bv ++ (List.replicate (16 - 4 * (i + 1)) (0 : UInt8)).map bv := by
    rw [flatN, e0, List.map_append, List.map_append, List.append_assoc]
  have hl : ((outL (h.take i)).map bv).length = 4 * i := by rw [List.length_map, outL_len, List.length_take, hh]; omega
  have e2 : outL (h.take (i + 1)) = outL (h.take i) ++ putBig (h.getD i 0).toNat 4 := by
    have hi' : i < h.length := by omega
    rw [List.take_succ_eq_append_getElem hi', outL, List.flatMap_append]
    simp [outL, List.getD, hi']
  rw [e1, ← hl, splice_split _ _ _ _ (by simp [putBig_len]), flatN, e2, List.map_append, List.map_append]
theorem flatN_end (h : List W32) (hh : h.length = 4) : flatN h 4 = outL h := by
  simp [flatN, List.take_of_length_le, hh]
theorem arr16B : Try.prog.underlying 23 = some (.array 16 5) := Try.underlying23
theorem i16B : (Try.prog.info? 23).map (·.size) = some 16 := by kernel_rfl
set_option maxHeartbeats 2000000 in
theorem flat_any (h : List W32) (w : World) (hh : h.length = 4) :
    Calls Try.prog 77 #[.agg (h.map wv).toArray] w fun e w' => e = .returned (.agg ((outL h).map bv).toArray) ∧ Below w.heap.size w w' := by
  have HH := Lib.hid hh
  clear hh
  go_enter Try.func77, Try.ntmps77
  go_wp2_with fail
  generalize hV : ((w.alloc _).alloc _).alloc _ = W0
  have F0 : Hid (W0.heap[w.heap.size]? = some (.cells (h.map wv).toArray 99 (0, 0))) := by rw [← hV]; exact (heap3 w _ _ _).1
  have F1 : Hid (W0.heap[w.heap.size + 1]? = some (.cells (List.replicate 16 (Value.int .u8 0)).toArray 23 (0, 0))) := by rw [← hV]; exact (heap3 w _ _ _).2.1
  have F2 : Hid (W0.heap[w.heap.size + 1 + 1]? = some (.cells ((flatN h 0).map bv).toArray 23 (0, 0))) := by rw [← hV]; exact (heap3 w _ _ _).2.2.1
  have FB : Hid (Below w.heap.size w W0) := by rw [← hV]; exact (heap3 w _ _ _).2.2.2
  clear hV
  generalize hg2 : w.heap.size + 1 + 1 = g2 at F2 ⊢
  generalize hg1 : w.heap.size + 1 = g1 at F1 ⊢
  have HG2 : Hid (w.heap.size + 1 + 1 = g2) := hg2
  have HG1 : Hid (w.heap.size + 1 = g1) := hg1
  clear hg1 hg2
  go_loopw [5] (fun vi wr => ∃ (i : Nat), i ≤ 4 ∧ vi = .int .i64 (i : Int) ∧ Hid (Below w.heap.size w wr) ∧ Hid (wr.heap[w.heap.size]? = some (.cells (h.map wv).toArray 99 (0, 0))) ∧ Hid (wr.heap[g1]? = some (.cells (List.replicate 16 (Value.int .u8 0)).toArray 23 (0, 0))) ∧
     Hid (wr.heap[g2]? = some (.cells ((flatN h i).map bv).toArray 23 (0, 0)))) (fun i _ => 4 - (intOf i).toNat)
  case atStart => exact ⟨0, by omega, rfl, FB, F0, F1, F2⟩
  case round =>
    clear F0 F1 F2 FB
    obtain ⟨i, hi, rfl, HB, H0, H1, H2⟩ := hrel
    by_cases hlt : i < 4
    · have e1 : (i : Int) < 4 := by omega
      obtain ⟨q, hq⟩ : ∃ q, q = 4 * i := ⟨_, rfl⟩
      have sl := arr_from arr16B s8 ⟨g2, 0, none⟩ .i64 (q : Int) (by omega) (by omega)
      rw [Int.toNat_natCast, show cutA ⟨g2, 0, none⟩ 16 q = ⟨g2, q, none⟩ from by unfold cutA; rw [if_neg (by omega), Addr.add_mid, Nat.zero_add]] at sl
      have u1 : IntKind.i64.wrap (4 * (i : Int)) = (q : Int) := by rw [IntKind.wrap_i64]; omega
      have c0 := wcell H0.out i (by rw [HH.out]; exact hlt)
      have HST := Lib.hid (flatN_step h i HH.out hlt)
      rw [← hq] at HST
      generalize h.getD i 0 = x at c0 HST
      have hx := x.isLt
      have u2 : IntKind.u64.wrap (x.toNat : Int) = (x.toNat : Int) := by rw [IntKind.wrap_u64]; omega
      have HQ : Hid (q + 4 ≤ 16) := by show _ ≤ _; omega
      have HL32 := Lib.hid (flatN_len h i HH.out hi)
      clear hq
      have HX : Hid (Below g2 wr wr.drew) := (Below.refl _ _).drew
      have q2 : w.heap.size < g2 := by have := HG2.out; omega
      have hg2w : Hid (g2 ≤ wr.heap.size) := Nat.le_of_lt (lt_of_heap H2.out)
      go_wp2_with fail
      refine regB_start (g2) (by kernel_rfl) ?_
      try simp only [Act.put, List.setIfInBounds_toArray, List.set_cons_zero, List.set_cons_succ]
      refine regB_take (v := ?_) 0 (some 8) rfl rfl (by kernel_rfl) (by kernel_rfl) (by kernel_rfl) (fun _ _ _ h => h) (by rfl) (fun W hW => ?_) ?_
      rotate_left
      · (go_simp; try rfl)
      simp only [Act.put, List.setIfInBounds_toArray, List.set_cons_zero, List.set_cons_succ]
      refine regB_take (v := ?_) 1 (some 9) rfl rfl (by kernel_rfl) (by kernel_rfl) (by kernel_rfl) (fun _ _ _ h => h) (by rfl) (fun W hW => ?_) ?_
      rotate_left
      · (go_simp; try rfl)
      simp only [Act.put, List.setIfInBounds_toArray, List.set_cons_zero, List.set_cons_succ]
      refine regB_take (v := ?_) 2 (some 10) rfl rfl (by kernel_rfl) (by kernel_rfl) (by kernel_rfl) (fun _ _ _ h => h) (by rfl) (fun W hW => ?_) ?_
      rotate_left
      · (go_simp; try rfl)
      simp only [Act.put, List.setIfInBounds_toArray, List.set_cons_zero, List.set_cons_succ]
      refine regB_take (v := ?_) 3 (some 11) rfl rfl (by kernel_rfl) (by kernel_rfl) (by kernel_rfl) (fun _ _ _ h => h) (by rfl) (fun W hW => ?_) ?_
      rotate_left
      · (go_simp; try rfl)
      simp only [Act.put, List.setIfInBounds_toArray, List.set_cons_zero, List.set_cons_succ]
      refine regB_take (v := ?_) 4 (some 12) rfl rfl (by kernel_rfl) (by kernel_rfl) (by kernel_rfl) (fun _ _ _ h => h) (by rfl) (fun W hW => ?_) ?_
      rotate_left
      · (go_simp; try rfl)
      simp only [Act.put, List.setIfInBounds_toArray, List.set_cons_zero, List.set_cons_succ]
      refine regB_load 5 (some 13) (fun W hW => load_cell Try.underlying88 ((hW.cell q2).trans c0)) rfl rfl rfl rfl (by kernel_rfl) (by kernel_rfl) (by kernel_rfl) (fun _ _ _ h => h) (by rfl) ?_
      simp only [Act.put, List.setIfInBounds_toArray, List.set_cons_zero, List.set_cons_succ]
      refine regB_take (v := ?_) 6 (some 14) rfl rfl (by kernel_rfl) (by kernel_rfl) (by kernel_rfl) (fun _ _ _ h => h) (by rfl) (fun W hW => ?_) ?_
      rotate_left
      · (go_simp; try rfl)
      simp only [Act.put, List.setIfInBounds_toArray, List.set_cons_zero, List.set_cons_succ]
      refine regB_eff 7 rfl (by kernel_rfl) (fun K hK => ?_)
      go_simp
      refine (putBig_any x.toNat 4 _ (by omega) (by omega)).mono ?_
      rintro e w3 ⟨g3, hg3, rfl, hk3, hE0⟩
      have F3 : Hid (w3.heap[g2]? = _) := (hE0.block _ (lt_of_heap (w := wr.drew) H2.out)).trans H2.out
      have F1' : Hid (w3.heap[g1]? = _) := (hE0.block _ (lt_of_heap (w := wr.drew) H1.out)).trans H1.out
      have F0' : Hid (w3.heap[w.heap.size]? = _) := (hE0.block _ (lt_of_heap (w := wr.drew) H0.out)).trans H0.out
      have FB' : Hid (Below w.heap.size w w3) := Below.step (w1 := wr.drew) HB.out.drew hE0
      have R3 := Lib.hid (row_of_heap hk3 (Nat.lt_succ_self g3))
      have hE : Below g2 wr.drew w3 := RowKit.Below.mono hE0 hg2w.out
      clear hE0 hk3 hg3
      refine hK.out _ _ hE ?_
      have HX := Lib.hid (Below.trans HX.out hE)
      clear hE hK K
      try simp only [Act.put, List.setIfInBounds_toArray, List.set_cons_zero, List.set_cons_succ]
      refine regB_eff 8 rfl (by kernel_rfl) (fun K hK => ?_)
      obtain ⟨w5, hrun, hblk, _, hgr⟩ := copy_run uT s8 (sT := 26) 3 w3 g2 q ((flatN h i).map bv) 23 F3.out (some ⟨g2, q, none⟩) (some ⟨g3, 0, none⟩) (16 - q) (16 - q) 4 4 (g3 + 1) ((putBig x.toNat 4).map bv) (by have := HQ.out; simp [putBig_len]; omega) (fun _ => rfl) R3.out (by have := HQ.out; have := HL32.out; simp [putBig_len]; omega) (bv_one _)
      rw [HST.out] at hblk
      have E2 := Lib.hid hblk
      have EG := Lib.hid hgr
      refine step_cpy rfl (.tmp 10) (.tmp 15) 26 26 rfl hrun ?_
      have hE : Below g2 w3 w5 := grown_below hgr (Nat.le_refl _) (Nat.le_of_lt (lt_of_heap F3.out))
      clear hrun hblk hgr
      refine hK.out _ _ hE ?_
      have HX := Lib.hid (Below.trans HX.out hE)
      clear hE hK K
      try simp only [Act.put, List.setIfInBounds_toArray, List.set_cons_zero, List.set_cons_succ]
      refine regB_done (by kernel_rfl) ?_
      clear u1 u2
      go_wp2
      go_roundw
      case rel =>
        have q3 := HG2.out
        have q1 := HG1.out
        refine ⟨i + 1, by omega, by go_num, ?_, ?_, ?_, E2⟩
        · exact FB'.out.trans (grown_below EG.out (by omega) FB'.out.size)
        · exact (EG.out.block _ (lt_of_heap F0'.out) (by simp; omega)).trans F0'.out
        · exact (EG.out.block _ (lt_of_heap F1'.out) (by simp; omega)).trans F1'.out
      case measure => simp [intOf]; omega
    · have H2' : Hid (wr.heap[g2]? = some (.cells ((outL h).map bv).toArray 23 (0, 0))) := by have := H2.out; rw [show i = 4 by omega, flatN_end h HH.out] at this; exact this
      have hl : Hid (((outL h).map bv).length = 16) := by show _ = _; rw [List.length_map, outL_len, HH.out]
      obtain ⟨L, HL⟩ : ∃ L, Hid (outL h = L) := ⟨_, rfl⟩
      rw [HL.out] at hl H2'
      go_wp2_with (first
        | (refine wpList_ld rfl 23 (.tmp 3) rfl (load_arr arr16B rfl (by rw [hl.out]; exact i16B) H2'.out) ?_)
        | (refine wpList_st rfl 23 (.tmp 2) (.tmp 18) rfl (store_arr (cs := L.map bv) (by rw [hl.out]; exact i16B) (bv_one _) H1.out (by rw [hl.out]; simp)) ?_))
      have hres := setRow_heap wr g1 _ (L.map bv).toArray 23 _ H1.out
      rw [HL.out]
      exact bodyPost_ret (results_cell_row (P := Try.prog) rfl _ _ g1 23 (L.map bv).toArray (0, 0) _ rfl hres arr16B rfl (by rw [List.size_toArray, hl.out]; exact i16B)) rfl ⟨rfl, HB.out.trans (grown_below (grown_setRow _ _ _) (by have := HG1.out; omega) HB.out.size)⟩
end Go.Proofs.Ytjmpbcfbfbjenaa

/- The contract of sha.Block. -/
import Derived.Test.YtimgggpojbpfkaaGreatDoorSha3
import Derived.StillTailTactics
import Derived.Deep.CutRange
namespace Go.Proofs.YtimgggpojbpfkaaGreatDoor
open Go.RowKit
set_option maxRecDepth 100000
set_option linter.unusedVariables false
set_option linter.unusedSimpArgs false

def addL (h m : List W32) : List W32 := List.zipWith (· + ·) h m
def blockL (h : List W32) (b : List UInt8) : List W32 := addL h (mixN (stOf h) (spreadN b 48) 64).list
def addN (h m : List W32) (i : Nat) : List W32 := (addL h m).take i ++ h.drop i
theorem St.list_len (s : St) : s.list.length = 8 := rfl
theorem addL_len (h m : List W32) (hh : h.length = 8) (hm : m.length = 8) : (addL h m).length = 8 := by simp [addL, hh, hm]
theorem blockL_len (h : List W32) (b : List UInt8) (hh : h.length = 8) : (blockL h b).length = 8 := addL_len _ _ hh rfl
theorem addN_len (h m : List W32) (i : Nat) (hh : h.length = 8) (hm : m.length = 8) (hi : i ≤ 8) : (addN h m i).length = 8 := by
  simp [addN, addL_len h m hh hm, hh]; omega
theorem addN_get (h m : List W32) (i : Nat) (hh : h.length = 8) (hm : m.length = 8) (hi : i < 8) : (addN h m i).getD i 0 = h.getD i 0 := by
  have hl : ((addL h m).take i).length = i := by rw [List.length_take, addL_len h m hh hm]; omega
  rw [addN, List.getD_eq_getElem?_getD, List.getElem?_append_right (by omega), hl, List.getElem?_drop, List.getD_eq_getElem?_getD]; simp
theorem addN_step (h m : List W32) (i : Nat) (hh : h.length = 8) (hm : m.length = 8) (hi : i < 8) : (addN h m i).set i (h.getD i 0 + m.getD i 0) = addN h m (i + 1) := by
  have hl : ((addL h m).take i).length = i := by rw [List.length_take, addL_len h m hh hm]; omega
  have ha : i < (addL h m).length := by rw [addL_len h m hh hm]; exact hi
  unfold addN
  rw [List.set_append_right _ _ (by omega), hl, Nat.sub_self, List.drop_eq_getElem_cons (by omega), List.set_cons_zero, List.take_succ_eq_append_getElem ha, List.append_assoc]
  congr 1
  simp [addL, List.getD, hh, hm, hi]
theorem addN_end (h m : List W32) (hh : h.length = 8) (hm : m.length = 8) : addN h m 8 = addL h m := by
  rw [addN, List.take_of_length_le (by rw [addL_len h m hh hm]; omega), List.drop_of_length_le (by omega), List.append_nil]

theorem heap_of_setRow {w W : World} {g : Nat} {new old : Array Value} {t : TypeId} {fr : Nat × Nat} (h : w.setRow g new = W) (hg : w.heap[g]? = some (.cells old t fr)) : W.heap[g]? = some (.cells new t fr) := by
  rw [← h]; exact setRow_heap _ _ _ _ _ _ hg
theorem below_of_setRow {B : Nat} {w W : World} {g : Nat} {new : Array Value} (h : w.setRow g new = W) (hB : B ≤ g) (hs : B ≤ w.heap.size) : Below B w W := by
  rw [← h]; exact grown_below (grown_setRow _ _ _) hB hs

set_option maxHeartbeats 2000000 in
theorem block_any (hs : List W32) (b : List UInt8) (w : World) (hh : hs.length = 8) (hb : b.length = 64) (hR : Rnd w) :
    Calls Tryz.prog 90 #[.agg (hs.map wv).toArray, .agg (b.map bv).toArray] w fun e w' => e = .returned (.agg ((blockL hs b).map wv).toArray) ∧ Below w.heap.size w w' := by
  have HH := Lib.hid hh; have HB := Lib.hid hb; have HR := Lib.hid hR
  clear hh hb hR
  go_enter Tryz.func90, Tryz.ntmps90
  go_wp2_with fail
  generalize hV : ((w.alloc _).alloc _).alloc _ = W0
  have F0 : Hid (W0.heap[w.heap.size]? = some (.cells (hs.map wv).toArray 85 (0, 0))) := by rw [← hV]; exact (heap3 w _ _ _).1
  have F1 : Hid (W0.heap[w.heap.size + 1]? = some (.cells (b.map bv).toArray 109 (0, 0))) := by rw [← hV]; exact (heap3 w _ _ _).2.1
  have F2 : Hid (W0.heap[w.heap.size + 1 + 1]? = some (.cells (List.replicate 8 (Value.int .u32 0)).toArray 85 (0, 0))) := by rw [← hV]; exact (heap3 w _ _ _).2.2.1
  have FB : Hid (Below w.heap.size w W0) := by rw [← hV]; exact (heap3 w _ _ _).2.2.2
  clear hV
  generalize hg2 : w.heap.size + 1 + 1 = g2 at F2 ⊢
  generalize hg1 : w.heap.size + 1 = g1 at F1 ⊢
  have HG2 : Hid (w.heap.size + 1 + 1 = g2) := hg2
  have HG1 : Hid (w.heap.size + 1 = g1) := hg1
  clear hg1 hg2
  obtain ⟨m, HM⟩ : ∃ m, Hid (m = (mixN (stOf hs) (spreadN b 48) 64).list) := ⟨_, rfl⟩
  have HML : Hid (m.length = 8) := by show _ = _; rw [HM.out]; rfl
  go_cut [5] from 7 to 10 (fun v5 wx => ∃ g5 : Nat, v5 = .pointer (some ⟨g5, 0, none⟩) ∧ Hid (W0.heap.size ≤ g5) ∧ Hid (Below W0.heap.size W0 wx) ∧ Hid (wx.heap[g5]? = some (.cells (m.map wv).toArray 85 (0, 0))))
  case first =>
    have ld0 : Hid (∀ W, Below W0.heap.size W0 W → (Instr.loadAt 85 (.pointer (some ⟨w.heap.size, 0, none⟩))).run Tryz.prog W = .ok (.agg (hs.map wv).toArray) W) := fun W hW => load_arr arr8W rfl (by rw [List.length_map, HH.out]; exact i8W) ((hW.block _ (lt_of_heap F0.out)).trans F0.out)
    have ld1 : Hid (∀ W, Below W0.heap.size W0 W → (Instr.loadAt 109 (.pointer (some ⟨g1, 0, none⟩))).run Tryz.prog W = .ok (.agg (b.map bv).toArray) W) := fun W hW => load_arr arr64B rfl (by rw [List.length_map, HB.out]; exact i64B) ((hW.block _ (lt_of_heap F1.out)).trans F1.out)
    have HX : Hid (Below W0.heap.size W0 W0.drew) := (Below.refl _ _).drew
    have hpos : Hid (0 < W0.heap.size) := Nat.lt_of_le_of_lt (Nat.zero_le _) (lt_of_heap F0.out)
    have HR0 : Hid (Rnd W0) := HR.out.ext FB.out
    refine regB_start (W0.heap.size) (by kernel_rfl) ?_
    try simp only [Act.put, List.setIfInBounds_toArray, List.set_cons_zero, List.set_cons_succ]
    generalize W0.drew = W1 at HX ⊢
    refine regB_load 0 (some 7) (fun W hW => ld0.out W (HX.out.trans hW)) rfl rfl rfl rfl (by kernel_rfl) (by kernel_rfl) (by kernel_rfl) (fun _ _ _ h => h) (by rfl) ?_
    simp only [Act.put, List.setIfInBounds_toArray, List.set_cons_zero, List.set_cons_succ]
    refine regB_load 1 (some 8) (fun W hW => ld1.out W (HX.out.trans hW)) rfl rfl rfl rfl (by kernel_rfl) (by kernel_rfl) (by kernel_rfl) (fun _ _ _ h => h) (by rfl) ?_
    simp only [Act.put, List.setIfInBounds_toArray, List.set_cons_zero, List.set_cons_succ]
    refine regB_eff2 2 4 rfl rfl (by kernel_rfl) (fun K hK => ?_) (fun K hK => ?_)
    · skip
      go_simp
      refine (spread_any b _ HB.out).mono ?_
      rintro e w3 ⟨rfl, hE0⟩
      try have F5 := Lib.hid ((hE0.block _ (lt_of_heap F5.out)).trans F5.out)
      have hE := RowKit.Below.mono hE0 HX.out.size
      clear hE0
      refine hK.out _ _ hE ?_
      have HX := Lib.hid (Below.trans HX.out hE)
      clear hE hK K
      try simp only [Act.put, List.setIfInBounds_toArray, List.set_cons_zero, List.set_cons_succ]
      refine regB_eff2 3 4 rfl rfl (by kernel_rfl) (fun K hK => ?_) (fun K hK => ?_)
      · skip
        go_simp
        refine (mix_any hs (spreadN b 48) _ HH.out (spreadN_len b 48) (HR0.out.below HX.out hpos.out)).mono ?_
        rw [← HM.out]
        rintro e w4 ⟨rfl, hE0⟩
        try have F5 := Lib.hid ((hE0.block _ (lt_of_heap F5.out)).trans F5.out)
        have hE := RowKit.Below.mono hE0 HX.out.size
        clear hE0
        refine hK.out _ _ hE ?_
        have HX := Lib.hid (Below.trans HX.out hE)
        clear hE hK K
        try simp only [Act.put, List.setIfInBounds_toArray, List.set_cons_zero, List.set_cons_succ]
        refine regB_eff 4 rfl (by kernel_rfl) (fun K hK => ?_)
        go_simp
        generalize hV : World.alloc _ _ = W5
        have F5 := Lib.hid (heap_of_alloc hV)
        have hE := below_of_alloc hV HX.out.size
        have HG5 := Lib.hid HX.out.size
        clear hV
        refine hK.out _ _ hE ?_
        have HX := Lib.hid (Below.trans HX.out hE)
        clear hE hK K
        try simp only [Act.put, List.setIfInBounds_toArray, List.set_cons_zero, List.set_cons_succ]
        refine regB_eff 5 rfl (by kernel_rfl) (fun K hK => ?_)
        refine step_st1 rfl 85 (.tmp 5) (.tmp 10) rfl (store_arr (cs := m.map wv) (by rw [List.length_map, HML.out]; exact i8W) (wv_one _) (old := List.replicate 8 (Value.int .u32 0)) F5.out (by rw [List.length_map, HML.out]; simp)) ?_
        generalize hV : World.setRow _ _ _ = W6
        have F6 := Lib.hid (heap_of_setRow hV F5.out)
        have hE := below_of_setRow hV HG5.out HX.out.size
        clear hV
        refine hK.out _ _ hE ?_
        have HX := Lib.hid (Below.trans HX.out hE)
        clear hE hK K
        try simp only [Act.put, List.setIfInBounds_toArray, List.set_cons_zero, List.set_cons_succ]
        refine regB_done (by kernel_rfl) ?_
        go_wp2
        go_meet
        exact ⟨_, rfl, HG5, HX, F6⟩
      · skip
        go_simp
        generalize hV : World.alloc _ _ = W5
        have F5 := Lib.hid (heap_of_alloc hV)
        have hE := below_of_alloc hV HX.out.size
        have HG5 := Lib.hid HX.out.size
        clear hV
        refine hK.out _ _ hE ?_
        have HX := Lib.hid (Below.trans HX.out hE)
        clear hE hK K
        try simp only [Act.put, List.setIfInBounds_toArray, List.set_cons_zero, List.set_cons_succ]
        refine regB_eff 3 rfl (by kernel_rfl) (fun K hK => ?_)
        go_simp
        refine (mix_any hs (spreadN b 48) _ HH.out (spreadN_len b 48) (HR0.out.below HX.out hpos.out)).mono ?_
        rw [← HM.out]
        rintro e w4 ⟨rfl, hE0⟩
        try have F5 := Lib.hid ((hE0.block _ (lt_of_heap F5.out)).trans F5.out)
        have hE := RowKit.Below.mono hE0 HX.out.size
        clear hE0
        refine hK.out _ _ hE ?_
        have HX := Lib.hid (Below.trans HX.out hE)
        clear hE hK K
        try simp only [Act.put, List.setIfInBounds_toArray, List.set_cons_zero, List.set_cons_succ]
        refine regB_eff 5 rfl (by kernel_rfl) (fun K hK => ?_)
        refine step_st1 rfl 85 (.tmp 5) (.tmp 10) rfl (store_arr (cs := m.map wv) (by rw [List.length_map, HML.out]; exact i8W) (wv_one _) (old := List.replicate 8 (Value.int .u32 0)) F5.out (by rw [List.length_map, HML.out]; simp)) ?_
        generalize hV : World.setRow _ _ _ = W6
        have F6 := Lib.hid (heap_of_setRow hV F5.out)
        have hE := below_of_setRow hV HG5.out HX.out.size
        clear hV
        refine hK.out _ _ hE ?_
        have HX := Lib.hid (Below.trans HX.out hE)
        clear hE hK K
        try simp only [Act.put, List.setIfInBounds_toArray, List.set_cons_zero, List.set_cons_succ]
        refine regB_done (by kernel_rfl) ?_
        go_wp2
        go_meet
        exact ⟨_, rfl, HG5, HX, F6⟩
    · skip
      go_simp
      generalize hV : World.alloc _ _ = W5
      have F5 := Lib.hid (heap_of_alloc hV)
      have hE := below_of_alloc hV HX.out.size
      have HG5 := Lib.hid HX.out.size
      clear hV
      refine hK.out _ _ hE ?_
      have HX := Lib.hid (Below.trans HX.out hE)
      clear hE hK K
      try simp only [Act.put, List.setIfInBounds_toArray, List.set_cons_zero, List.set_cons_succ]
      refine regB_eff 2 rfl (by kernel_rfl) (fun K hK => ?_)
      go_simp
      refine (spread_any b _ HB.out).mono ?_
      rintro e w3 ⟨rfl, hE0⟩
      try have F5 := Lib.hid ((hE0.block _ (lt_of_heap F5.out)).trans F5.out)
      have hE := RowKit.Below.mono hE0 HX.out.size
      clear hE0
      refine hK.out _ _ hE ?_
      have HX := Lib.hid (Below.trans HX.out hE)
      clear hE hK K
      try simp only [Act.put, List.setIfInBounds_toArray, List.set_cons_zero, List.set_cons_succ]
      refine regB_eff 3 rfl (by kernel_rfl) (fun K hK => ?_)
      go_simp
      refine (mix_any hs (spreadN b 48) _ HH.out (spreadN_len b 48) (HR0.out.below HX.out hpos.out)).mono ?_
      rw [← HM.out]
      rintro e w4 ⟨rfl, hE0⟩
      try have F5 := Lib.hid ((hE0.block _ (lt_of_heap F5.out)).trans F5.out)
      have hE := RowKit.Below.mono hE0 HX.out.size
      clear hE0
      refine hK.out _ _ hE ?_
      have HX := Lib.hid (Below.trans HX.out hE)
      clear hE hK K
      try simp only [Act.put, List.setIfInBounds_toArray, List.set_cons_zero, List.set_cons_succ]
      refine regB_eff 5 rfl (by kernel_rfl) (fun K hK => ?_)
      refine step_st1 rfl 85 (.tmp 5) (.tmp 10) rfl (store_arr (cs := m.map wv) (by rw [List.length_map, HML.out]; exact i8W) (wv_one _) (old := List.replicate 8 (Value.int .u32 0)) F5.out (by rw [List.length_map, HML.out]; simp)) ?_
      generalize hV : World.setRow _ _ _ = W6
      have F6 := Lib.hid (heap_of_setRow hV F5.out)
      have hE := below_of_setRow hV HG5.out HX.out.size
      clear hV
      refine hK.out _ _ hE ?_
      have HX := Lib.hid (Below.trans HX.out hE)
      clear hE hK K
      try simp only [Act.put, List.setIfInBounds_toArray, List.set_cons_zero, List.set_cons_succ]
      refine regB_done (by kernel_rfl) ?_
      go_wp2
      go_meet
      exact ⟨_, rfl, HG5, HX, F6⟩
  case rest =>
    obtain ⟨g5, rfl, HG5, HB5, F5⟩ := hcut
    have A0 : Hid (wc.heap[w.heap.size]? = some (.cells ((addN hs m 0).map wv).toArray 85 (0, 0))) := (HB5.out.block _ (lt_of_heap F0.out)).trans F0.out
    have A2 : Hid (wc.heap[g2]? = _) := (HB5.out.block _ (lt_of_heap F2.out)).trans F2.out
    have AB : Hid (Below w.heap.size w wc) := FB.out.step HB5.out
    have hne : Hid (w.heap.size ≠ g5) := by have h1 := lt_of_heap F0.out; have h2 := HG5.out; show w.heap.size ≠ g5; omega
    clear F0 F1 F2 FB HB5
    go_wp2_with fail
    go_loopw [11] (fun vi wr => ∃ (i : Nat), i ≤ 8 ∧ vi = .int .i64 (i : Int) ∧ Hid (Below w.heap.size w wr) ∧ Hid (wr.heap[w.heap.size]? = some (.cells ((addN hs m i).map wv).toArray 85 (0, 0))) ∧ Hid (wr.heap[g5]? = some (.cells (m.map wv).toArray 85 (0, 0))) ∧
       Hid (wr.heap[g2]? = some (.cells (List.replicate 8 (Value.int .u32 0)).toArray 85 (0, 0)))) (fun i _ => 8 - (intOf i).toNat)
    case atStart => exact ⟨0, by omega, rfl, AB, A0, F5, A2⟩
    case round =>
      clear AB A0 F5 A2
      obtain ⟨i, hi, rfl, HB, H0, H5, H2⟩ := hrel
      by_cases hlt : i < 8
      · have e1 : (i : Int) < 8 := by omega
        have c0 := wcell H0.out i (by rw [addN_len _ _ _ HH.out HML.out (by omega)]; omega)
        have c5 := wcell H5.out i (by rw [HML.out]; omega)
        rw [addN_get hs m i HH.out HML.out hlt] at c0
        have HST := Lib.hid (addN_step hs m i HH.out HML.out hlt)
        have fz := frozen_of_heap H0.out i
        generalize hs.getD i 0 = x at c0 HST
        generalize m.getD i 0 = y at c5 HST
        have u1 := add32 x y
        generalize x + y = z at u1 HST
        go_wp2_with fail
        go_still_tail 8, (by kernel_rfl)
        change wpList _ _ _ _ _ wr.drew
        go_wp2
        go_roundw
        case rel =>
          have q2 := HG2.out
          refine ⟨i + 1, by omega, by go_num, ?_, ?_, ?_, ?_⟩
          · exact HB.out.drew.setCell (Nat.le_refl _) _
          · have := heap_set (w := wr.drew) H0.out i (wv z)
            rw [← List.map_set, HST.out] at this
            exact this
          · exact (Below.heap_setCell wr.drew _ _ _ (Ne.symm hne.out)).trans H5.out
          · exact (Below.heap_setCell wr.drew _ _ _ (show g2 ≠ w.heap.size by omega)).trans H2.out
        case measure => simp [intOf]; omega
      · have hi8 : i = 8 := by omega
        have H0' : Hid (wr.heap[w.heap.size]? = some (.cells ((addL hs m).map wv).toArray 85 (0, 0))) := by have := H0.out; rw [hi8, addN_end hs m HH.out HML.out] at this; exact this
        have HBL : Hid (blockL hs b = addL hs m) := by show _ = _; rw [HM.out]; rfl
        have hl8 : Hid (((addL hs m).map wv).length = 8) := by show _ = _; rw [List.length_map, addL_len hs m HH.out HML.out]
        clear hi8 H0
        generalize addL hs m = L at H0' HBL hl8
        go_wp2_with (first
          | (refine wpList_ld rfl 85 (.tmp 2) rfl (load_arr arr8W rfl (by rw [hl8.out]; exact i8W) H0'.out) ?_)
          | (refine wpList_st rfl 85 (.tmp 4) (.tmp 23) rfl (store_arr (cs := L.map wv) (by rw [hl8.out]; exact i8W) (wv_one _) H2.out (by rw [hl8.out]; simp)) ?_))
        have hres := setRow_heap wr g2 _ (L.map wv).toArray 85 _ H2.out
        rw [HBL.out]
        exact bodyPost_ret (results_cell_row (P := Tryz.prog) rfl _ _ g2 85 (L.map wv).toArray (0, 0) _ rfl hres arr8W rfl (by rw [List.size_toArray, hl8.out]; exact i8W)) rfl ⟨rfl, HB.out.trans (grown_below (grown_setRow _ _ _) (by have := HG2.out; omega) HB.out.size)⟩
end Go.Proofs.YtimgggpojbpfkaaGreatDoor

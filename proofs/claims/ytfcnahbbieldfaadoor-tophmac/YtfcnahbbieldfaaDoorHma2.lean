/- Package hmac: block, New. -/
import Derived.Test.YtfcnahbbieldfaaDoorHma1
import Derived.Test.YtfcnahbbieldfaaDoorRefS1
namespace Go.Proofs.YtfcnahbbieldfaaDoor
open Go.RowKit
set_option maxRecDepth 100000
set_option linter.unusedVariables false
set_option linter.unusedSimpArgs false
theorem splice_zeros (kb : List UInt8) (h : kb.length ≤ 64) : splice (List.replicate 64 (Value.int .u8 0)) 0 (kb.map bv) = (kb ++ List.replicate (64 - kb.length) 0).map bv := by
  have := splice_split [] (List.replicate kb.length (Value.int .u8 0)) (List.replicate (64 - kb.length) (Value.int .u8 0)) (kb.map bv) (by simp)
  simp only [List.length_nil, List.nil_append, List.replicate_append_replicate, show kb.length + (64 - kb.length) = 64 by omega] at this
  rw [this, List.map_append, List.map_replicate]; rfl
set_option maxHeartbeats 1000000 in
theorem hblock_any (A : Option Addr) (n c : Nat) (key : List UInt8) (w : World) (hl : key.length = n) (hS : Sl w A c key) (hR : Rnd w) :
    Calls Tryd.prog 23 #[.slice A n c] w fun e w' => e = .returned (.agg ((hblockL key).map bv).toArray) ∧ Below w.heap.size w w' := by
  have HL := Lib.hid hl; have HS := Lib.hid hS; have HR := Lib.hid hR
  have ar := fun g => arr_all arr64B s8 ⟨g, 0, none⟩
  have HBL := Lib.hid (hblockL_len key)
  have hi64 : Hid ((Tryd.prog.info? 22).map (·.size) = some ((hblockL key).map bv).length) := by show _ = _; rw [List.length_map, HBL.out]; exact i64B
  by_cases hbig : 64 < n
  · have e1 : (64 : Int) < (n : Int) := by omega
    have HK : Hid (keyOf key = sumL key) := by show _ = _; rw [keyOf, if_pos (by omega)]
    have HSA := Lib.hid (fun W hS hW => sum_any A n c key W hl hS hW)
    have hZl : Hid ((sumL key).length = 32) := sumL_len key
    have HSP := Lib.hid (splice_zeros (keyOf key) (keyOf_len key))
    change Hid (_ = (hblockL key).map bv) at HSP
    rw [HK.out] at HSP
    generalize hblockL key = X at HBL hi64 HSP ⊢
    generalize sumL key = Z at HSA hZl HSP
    clear HK hl hS hR
    go_enter Tryd.func23, Tryd.ntmps23
    go_upto_region 2 with (fail)
    generalize hV : (w.alloc _).alloc _ = W0
    have F0 : Hid (W0.heap[w.heap.size]? = some (.cells (List.replicate 64 (Value.int .u8 0)).toArray 22 (0, 0))) := by rw [← hV]; exact (heap2 w _ _).1
    have F1 : Hid (W0.heap[w.heap.size + 1]? = some (.cells (List.replicate 64 (Value.int .u8 0)).toArray 22 (0, 0))) := by rw [← hV]; exact (heap2 w _ _).2.1
    have FB : Hid (Below w.heap.size w W0) := by rw [← hV]; exact (heap2 w _ _).2.2
    clear hV
    go_wp2_with fail
    refine (HSA.out W0 (HS.out.below FB.out) (HR.out.ext FB.out)).mono ?_
    rintro e w1 ⟨rfl, hb1⟩
    have P0 := Lib.hid ((hb1.block _ (lt_of_heap F0.out)).trans F0.out)
    have P1 := Lib.hid ((hb1.block _ (lt_of_heap F1.out)).trans F1.out)
    have PB := Lib.hid (FB.out.step hb1)
    have hi32 : Hid ((Tryd.prog.info? 27).map (·.size) = some (Z.map bv).length) := by show _ = _; rw [List.length_map, hZl.out]; exact i32B
    have ar32 := fun g => arr_all arr32B s8 ⟨g, 0, none⟩
    clear hb1 F0 F1 FB
    go_upto_region 5 with (first
      | (refine wpList_st rfl 27 (.tmp 4) (.tmp 9) rfl (store_arr (cs := Z.map bv) (old := List.replicate 32 (Value.int .u8 0)) hi32.out (bv_one _) (heap_alloc_new' w1 _) (by rw [List.length_map, hZl.out]; simp)) ?_
         generalize hV : World.setRow _ _ _ = W5
         have M0 := Lib.hid (heap_of_setRow hV (heap_alloc_new' w1 _))
         have MB := Lib.hid (((Below.refl w1.heap.size w1).alloc (Nat.le_refl _) _).trans (below_of_setRow hV (Nat.le_refl w1.heap.size) (by simp)))
         clear hV)
      | fail)
    have R0 := Lib.hid ((MB.out.block _ (lt_of_heap P0.out)).trans P0.out)
    have R1 := Lib.hid ((MB.out.block _ (lt_of_heap P1.out)).trans P1.out)
    have RB := Lib.hid (PB.out.step MB.out)
    clear P0 P1 PB MB
    have hrr : RowAt W5 W5.heap.size (some ⟨w1.heap.size, 0, none⟩) (Z.map bv) := row_of_heap M0.out (lt_of_heap M0.out)
    obtain ⟨W6, hrun, hblk, hsz, hgr⟩ := copy_run uT s8 (sT := 23) 3 W5 (w.heap.size + 1) 0 (List.replicate 64 (Value.int .u8 0)) 22 R1.out (some ⟨w.heap.size + 1, 0, none⟩) (some ⟨w1.heap.size, 0, none⟩) 64 64 32 32 W5.heap.size (Z.map bv) (by rw [List.length_map, hZl.out]; omega) (fun _ => rfl) hrr (by rw [List.length_map, hZl.out, List.length_replicate]; omega) (bv_one _)
    rw [HSP.out] at hblk
    rw [List.length_map, hZl.out] at hrun
    have HRUN := Lib.hid hrun
    have Q1 := Lib.hid hblk
    have Q0 := Lib.hid ((hgr.block _ (lt_of_heap R0.out) (by simp)).trans R0.out)
    have QB : Hid (Below w.heap.size w W6) := RB.out.trans (grown_below hgr (Nat.le_succ _) RB.out.size)
    clear hrun hblk hsz hgr hrr R0 R1 RB
    obtain ⟨XC, HXC⟩ : ∃ XC, Hid (X.map bv = XC) := ⟨_, rfl⟩
    have hone : Hid (∀ v ∈ XC, v.oneCell' = true) := by show ∀ v ∈ XC, _; rw [← HXC.out]; exact bv_one _
    have hxl : Hid (XC.length = 64) := by show _ = _; rw [← HXC.out, List.length_map, HBL.out]
    rw [HXC.out] at Q1 hi64
    go_wp2_with (first
      | (refine wpList_cpy rfl (.tmp 11) (.tmp 12) 23 23 rfl HRUN.out ?_)
      | (refine wpList_ld rfl 22 (.tmp 3) rfl (load_arr arr64B rfl hi64.out Q1.out) ?_)
      | (refine wpList_st rfl 22 (.tmp 2) (.tmp 14) rfl (store_arr (cs := XC) (old := List.replicate 64 (Value.int .u8 0)) hi64.out hone.out Q0.out (by rw [hxl.out]; simp)) ?_)
      | fail)
    have hres := setRow_heap W6 w.heap.size _ XC.toArray 22 _ Q0.out
    exact bodyPost_ret (results_cell_row (P := Tryd.prog) rfl _ _ w.heap.size 22 XC.toArray (0, 0) _ rfl hres arr64B rfl (by rw [List.size_toArray, hxl.out]; exact i64B)) rfl ⟨by rw [HXC.out], QB.out.trans (grown_below (grown_setRow _ _ _) (Nat.le_refl _) QB.out.size)⟩
  · have e1 : ¬ ((64 : Int) < (n : Int)) := by omega
    have HK : Hid (keyOf key = key) := by show _ = _; rw [keyOf, if_neg (by omega)]
    have HSP := Lib.hid (splice_zeros (keyOf key) (keyOf_len key))
    change Hid (_ = (hblockL key).map bv) at HSP
    rw [HK.out] at HSP
    generalize hblockL key = X at HBL hi64 HSP ⊢
    have hn64 : n ≤ 64 := by omega
    clear HK hl hS hR hbig
    go_enter Tryd.func23, Tryd.ntmps23
    go_upto_region 2 with (fail)
    generalize hV : (w.alloc _).alloc _ = W0
    have F0 : Hid (W0.heap[w.heap.size]? = some (.cells (List.replicate 64 (Value.int .u8 0)).toArray 22 (0, 0))) := by rw [← hV]; exact (heap2 w _ _).1
    have F1 : Hid (W0.heap[w.heap.size + 1]? = some (.cells (List.replicate 64 (Value.int .u8 0)).toArray 22 (0, 0))) := by rw [← hV]; exact (heap2 w _ _).2.1
    have FB : Hid (Below w.heap.size w W0) := by rw [← hV]; exact (heap2 w _ _).2.2
    clear hV
    go_upto_region 5 with (fail)
    have hrr : RowAt W0 W0.heap.size A (key.map bv) := (HS.out.below FB.out).2.2
    obtain ⟨W6, hrun, hblk, hsz, hgr⟩ := copy_run uT s8 (sT := 23) 3 W0 (w.heap.size + 1) 0 (List.replicate 64 (Value.int .u8 0)) 22 F1.out (some ⟨w.heap.size + 1, 0, none⟩) A 64 64 n c W0.heap.size (key.map bv) (by rw [List.length_map, HL.out]; omega) (fun _ => rfl) hrr (by rw [List.length_map, HL.out, List.length_replicate]; omega) (bv_one _)
    rw [HSP.out] at hblk
    rw [List.length_map, HL.out] at hrun
    have HRUN := Lib.hid hrun
    have Q1 := Lib.hid hblk
    have Q0 := Lib.hid ((hgr.block _ (lt_of_heap F0.out) (by simp)).trans F0.out)
    have QB : Hid (Below w.heap.size w W6) := FB.out.trans (grown_below hgr (Nat.le_succ _) FB.out.size)
    clear hrun hblk hsz hgr hrr F0 F1 FB
    obtain ⟨XC, HXC⟩ : ∃ XC, Hid (X.map bv = XC) := ⟨_, rfl⟩
    have hone : Hid (∀ v ∈ XC, v.oneCell' = true) := by show ∀ v ∈ XC, _; rw [← HXC.out]; exact bv_one _
    have hxl : Hid (XC.length = 64) := by show _ = _; rw [← HXC.out, List.length_map, HBL.out]
    rw [HXC.out] at Q1 hi64
    go_wp2_with (first
      | (refine wpList_cpy rfl (.tmp 11) (.tmp 12) 23 23 rfl HRUN.out ?_)
      | (refine wpList_ld rfl 22 (.tmp 3) rfl (load_arr arr64B rfl hi64.out Q1.out) ?_)
      | (refine wpList_st rfl 22 (.tmp 2) (.tmp 14) rfl (store_arr (cs := XC) (old := List.replicate 64 (Value.int .u8 0)) hi64.out hone.out Q0.out (by rw [hxl.out]; simp)) ?_)
      | fail)
    have hres := setRow_heap W6 w.heap.size _ XC.toArray 22 _ Q0.out
    exact bodyPost_ret (results_cell_row (P := Tryd.prog) rfl _ _ w.heap.size 22 XC.toArray (0, 0) _ rfl hres arr64B rfl (by rw [List.size_toArray, hxl.out]; exact i64B)) rfl ⟨by rw [HXC.out], QB.out.trans (grown_below (grown_setRow _ _ _) (Nat.le_refl _) QB.out.size)⟩
/-- an hmac.State at block g: its key's block K, and the message within -/
def HAt (w : World) (g : Nat) (K m : List UInt8) : Prop := K.length = 64 ∧ StR 54 (K.map bv) w g m
theorem HAt.ext {w w' : World} {g : Nat} {K m : List UInt8} (h : HAt w g K m) (hb : Below w.heap.size w w') : HAt w' g K m := ⟨h.1, h.2.ext hb⟩
theorem HAt.lt {w : World} {g : Nat} {K m : List UInt8} (h : HAt w g K m) : g < w.heap.size := h.2.lt
theorem HAt.other {w w' : World} {g : Nat} {K m : List UInt8} (h : HAt w g K m) (hb : w'.heap[g]? = w.heap[g]?) : HAt w' g K m := by
  obtain ⟨hK, x, h1, h2, h3⟩ := h
  exact ⟨hK, x, h1, h2, hb.trans h3⟩
theorem HAt.key {w : World} {g : Nat} {K m : List UInt8} (h : HAt w g K m) : w.rangeAt g 73 (K.map bv) := fun j v hv => by
  obtain ⟨hK, x, h1, h2, h3⟩ := h
  have hj := (List.getElem?_eq_some_iff.1 hv).1
  rw [cell_of_heap h3, stCells, List.getElem?_append_right (by simp [h1]; omega), List.getElem?_append_right (by simp [h1, tailL_len]; omega)]
  simp only [List.length_map, h1, tailL_len]
  rw [show 73 + j - 8 - 64 = j + 1 by omega, List.getElem?_cons_succ]; exact hv
theorem splice_rest (RR RR' : List Value) (h : List W32) (t : List UInt8) (n : Nat) (hh : h.length = 8) (ht : t.length = 64) (hl : RR'.length = RR.length) : splice (stCells RR h t n) 73 RR' = stCells RR' h t n := by
  have := splice_split (h.map wv ++ (t.map bv ++ [.int .i64 (n : Int)])) RR [] RR' hl
  simp only [List.length_append, List.length_map, hh, ht, List.length_cons, List.length_nil] at this
  simpa [stCells] using this
def z64 : List UInt8 := List.replicate 64 0
theorem z64_len : z64.length = 64 := List.length_replicate
def z137 : List Value := stCells (z64.map bv) (List.replicate 8 0) z64 0
theorem z137_len : z137.length = 137 := by rw [z137, stCells_len _ _ _ (by simp) z64_len, List.length_map, z64_len]
theorem built_fillH (parts : List (Nat × Value)) : Tryd.prog.built 54 parts = Instr.fill (fun i => #[(0, 73), (73, 64)][i]?) z137.toArray parts := by kernel_rfl
theorem hfill_cons {place : Nat → Option (Nat × Nat)} {cells : Array Value} {i : Nat} {v : Value} {rest : List (Nat × Value)} {off size : Nat} (h : place i = some (off, size)) (hs : v.cells.size = size) (ho : off + size ≤ cells.size) :
    Instr.fill place cells ((i, v) :: rest) = Instr.fill place (v.cells.zipIdx.foldl (fun (cs : Array Value) (p : Value × Nat) => cs.setIfInBounds (off + p.2) p.1) cells) rest := by
  rw [Instr.fill]
  simp only [h]
  rw [if_neg (by rw [hs]; simp; omega)]
theorem hfill_fold (off : Nat) : ∀ (L : List Value) (k : Nat) (cs : Array Value), off + k + L.length ≤ cs.size →
    ((L.zipIdx k).foldl (fun (cs : Array Value) (p : Value × Nat) => cs.setIfInBounds (off + p.2) p.1) cs).toList = cs.toList.take (off + k) ++ L ++ cs.toList.drop (off + k + L.length)
  | [], k, cs, _ => by simp
  | v :: rest, k, cs, h => by
    rw [List.zipIdx_cons, List.foldl_cons, hfill_fold off rest (k + 1) _ (by simp at h ⊢; omega)]
    have hk : off + k < cs.toList.length := by simp at h ⊢; omega
    simp only [Array.toList_setIfInBounds]
    rw [show off + (k + 1) = (off + k) + 1 by omega, List.take_succ_eq_append_getElem (by simpa using hk)]
    simp only [List.getElem_set_self, List.length_cons]
    rw [List.take_set_of_le (by omega), List.drop_set_of_lt (by omega), show off + k + 1 + rest.length = off + k + (rest.length + 1) by omega]
    simp
theorem hfold_arr (off : Nat) (L : List Value) (cs : List Value) (h : off + L.length ≤ cs.length) :
    L.toArray.zipIdx.foldl (fun (cs : Array Value) (p : Value × Nat) => cs.setIfInBounds (off + p.2) p.1) cs.toArray = (splice cs off L).toArray := by
  have h1 := hfill_fold off L 0 cs.toArray (by simpa using h)
  simp only [Nat.add_zero] at h1
  apply Array.ext'
  rw [← Array.foldl_toList]
  simp only [Array.toList_zipIdx]
  rw [h1]; simp [splice]
theorem built_state (K : List UInt8) (h : K.length = 64) : Tryd.prog.built 54 [(1, .agg (K.map bv).toArray)] = some (stCells (K.map bv) (List.replicate 8 0) z64 0).toArray := by
  rw [built_fillH]
  have h137 := z137_len
  have e0 : splice z137 73 (K.map bv) = stCells (K.map bv) (List.replicate 8 0) z64 0 := splice_rest _ _ _ _ _ (by simp) z64_len (by rw [List.length_map, List.length_map, h, z64_len])
  generalize z137 = Z at h137 e0
  rw [hfill_cons (off := 73) (size := 64) rfl (by simpa [Value.cells] using h) (by simp [h137])]
  have e1 : (Value.agg (K.map bv).toArray).cells = (K.map bv).toArray := rfl
  rw [e1, hfold_arr 73 (K.map bv) Z (by rw [List.length_map, h, h137]; omega), e0]
  rfl
theorem hexec_build {P : Program} {o : Oper} {a : Act} {W : World} {t : TypeId} {parts : Array (Nat × Operand)} {v : Value} (ho : o.op = .build t parts) (hrun : (Instr.build t (parts.map fun (i, x) => (i, a.eval x))).run P W = .ok v W) : (execOp a.eval o).run P W = .ok (.value v) W := by
  unfold execOp
  simp only [ho, Sem.run_bind, hrun, Result.andThen_ok, Sem.run_pure]
set_option maxHeartbeats 1000000 in
theorem hnew_any (A : Option Addr) (n c : Nat) (key : List UInt8) (w : World) (hl : key.length = n) (hS : Sl w A c key) (hR : Rnd w) :
    Calls Tryd.prog 15 #[.slice A n c] w fun e w' => ∃ g, e = .returned (.pointer (some ⟨g, 0, none⟩)) ∧ w.heap.size ≤ g ∧ HAt w' g (hblockL key) [] ∧ Below w.heap.size w w' := by
  have HB := Lib.hid (hblock_any A n c key w hl hS hR)
  have HKL := Lib.hid (hblockL_len key)
  clear hl hS hR
  generalize hblockL key = K at HB HKL ⊢
  have hb : Hid (∀ W, (Instr.build 54 #[(1, .agg (K.map bv).toArray)]).run Tryd.prog W = .ok (.agg (stCells (K.map bv) (List.replicate 8 0) z64 0).toArray) W) := fun W => run_build W _ _ _ (built_state K HKL.out)
  have HST : Hid (∀ W g, W.heap[g]? = some (.cells (stCells (K.map bv) (List.replicate 8 0) z64 0).toArray 54 (0, 0)) → HAt W g K []) := fun W g h => ⟨HKL.out, List.replicate 8 0, rfl, fun h => absurd rfl h, h⟩
  generalize stCells (K.map bv) (List.replicate 8 0) z64 0 = S0 at hb HST
  go_enter Tryd.func15, Tryd.ntmps15
  go_wp2_with fail
  refine HB.out.mono ?_
  rintro e w1 ⟨rfl, hb1⟩
  have B1 := Lib.hid hb1
  clear hb1
  go_wp2_with (first
    | (refine wpList_run (o := ⟨some 5, _, _, _, _, _⟩) rfl (v := .agg S0.toArray) (w' := w1) (hexec_build rfl (by simp only [List.map_toArray, List.map_cons, List.map_nil]; exact hb.out w1)) ?_)
    | fail)
  go_ret
  exact ⟨_, rfl, B1.out.size, HST.out _ _ (heap_alloc_new' w1 _), B1.out.alloc B1.out.size _⟩
end Go.Proofs.YtfcnahbbieldfaaDoor

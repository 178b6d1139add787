/- package hmac: Sum of a State and Sum (Hma4 without Reset, for seats that have no body of it). -/
import Derived.Test.YtfcnahbbieldfaaDoorHma3
namespace Go.Proofs.YtfcnahbbieldfaaDoor
open Go.RowKit
set_option maxRecDepth 100000
set_option linter.unusedVariables false
set_option linter.unusedSimpArgs false
theorem zero137 (W : World) : (zeroValue 54).run Tryd.prog W = .ok (.agg z137.toArray) W := by kernel_rfl
theorem stCells_one (RR : List Value) (h : List W32) (t : List UInt8) (n : Nat) (hr : ∀ v ∈ RR, v.oneCell' = true) : ∀ v ∈ stCells RR h t n, v.oneCell' = true := by
  intro v hv
  simp only [stCells, List.mem_append, List.mem_cons] at hv
  rcases hv with hv | hv | rfl | hv
  · exact wv_one _ v hv
  · exact bv_one _ v hv
  · rfl
  · exact hr v hv
theorem c_own_ge' {w : World} {base : Nat} {e : TypeId} {s : Nat} {v : Value} {n : Nat} {xs : List Value} (h : w.ownsRow base e s v n xs) {B : Nat} (hB : B ≤ base) : ∀ g, v.ownBlock = some g → B ≤ g := fun g hq => Nat.le_trans hB (h.lt g hq).1
theorem c_own_ne' {w : World} {base : Nat} {e : TypeId} {s : Nat} {v : Value} {n : Nat} {xs : List Value} (h : w.ownsRow base e s v n xs) {g : Nat} (hB : g < base) : some g ≠ v.ownBlock := fun hq => by have := (h.lt g hq.symm).1; omega
set_option maxHeartbeats 1000000 in
theorem hsum_any (g : Nat) (KB m : List UInt8) (w : World) (hm : m.length + 64 ≤ 2147000000) (H : HAt w g KB m) (hR : Rnd w) :
    Calls Tryd.prog 17 #[.pointer (some ⟨g, 0, none⟩)] w fun e w' => e = .returned (.agg ((hsumL KB m).map bv).toArray) ∧ Below w.heap.size w w' := by
  have HH := Lib.hid H; have HR := Lib.hid hR
  have HM := Lib.hid hm
  have HBL := Lib.hid (begun_len KB m H.1)
  obtain ⟨hK, h, h1, h2, h3⟩ := H
  have hT := tailL_len m
  obtain ⟨C, hC⟩ : ∃ C, stCells (KB.map bv) h (tailL m) m.length = C := ⟨_, rfl⟩
  have HCL : Hid (C.length = 137) := by show _ = _; rw [← hC, stCells_len _ _ _ h1 hT, List.length_map, hK]
  have HC1 : Hid (∀ v ∈ C, v.oneCell' = true) := by show ∀ v ∈ C, _; rw [← hC]; exact stCells_one _ _ _ _ (bv_one _)
  have HCI : Hid ((Tryd.prog.info? 54).map (·.size) = some C.length) := by show _ = _; rw [HCL.out]; kernel_rfl
  have HCA : Hid (∀ W g', W.heap[g']? = some (.cells C.toArray 54 (0, 0)) → HAt W g' KB m) := fun W g' hW => ⟨hK, h, h1, h2, by rw [hC]; exact hW⟩
  rw [hC] at h3
  have H3 := Lib.hid h3
  have HLT := Lib.hid (lt_of_heap h3)
  have HKB := Lib.hid hK
  clear hC h1 h2 h3 hT hK hm hR
  have hz := zero137
  have hzl : Hid (z137.length = 137) := z137_len
  generalize z137 = Z at hz hzl
  have HBA := Lib.hid (fun g' W hg hW hRW => begin_any g' KB m W (by have := HM.out; omega) hg hW hRW)
  have HTA := Lib.hid (fun W => (turned_any KB 92 W HKB.out : Calls Tryd.prog 25 #[.agg (KB.map bv).toArray, .int .u8 92] W _))
  have HTL := Lib.hid (twistL_len KB 92 HKB.out)
  have HSA := Lib.hid (fun g' W (hh : HAt W g' KB (begun KB m)) hRW => stSum_any (RR := KB.map bv) (tyS := 54) g' (begun KB m) W (by have h1 := HM.out; have h2 := HBL.out; omega) hh.2 hRW)
  have HSL := Lib.hid (sumL_len (begun KB m))
  have HFL : Hid (hsumL KB m = sumL (twistL KB 92 ++ sumL (begun KB m))) := rfl
  have HZL := Lib.hid (hsumL_len KB m)
  generalize hsumL KB m = F at HFL HZL ⊢
  generalize sumL (begun KB m) = Y at HSA HSL HFL
  generalize begun KB m = m1 at HBA HSA HBL
  generalize twistL KB 92 = T at HTA HTL HFL
  have HXL : Hid ((T ++ Y).length = 96) := by show _ = _; rw [List.length_append, HTL.out, HSL.out]
  have HFA := Lib.hid (fun A c W hS hRW => sum_any A 96 c (T ++ Y) W HXL.out hS hRW)
  rw [← HFL.out] at HFA
  have hi32 : Hid ((Tryd.prog.info? 27).map (·.size) = some (Y.map bv).length) := by show _ = _; rw [List.length_map, HSL.out]; exact i32B
  have hi32F : Hid ((Tryd.prog.info? 27).map (·.size) = some (F.map bv).length) := by show _ = _; rw [List.length_map, HZL.out]; exact i32B
  have hi64 : Hid ((Tryd.prog.info? 22).map (·.size) = some (KB.map bv).length) := by show _ = _; rw [List.length_map, HKB.out]; exact i64B
  have HKY := Lib.hid HH.out.key
  go_enter Tryd.func17, Tryd.ntmps17
  go_upto_region 3 with (fail)
  generalize hV : w.alloc _ = W0
  have F0 : Hid (W0.heap[w.heap.size]? = some (.cells (List.replicate 32 (Value.int .u8 0)).toArray 27 (0, 0))) := heap_of_alloc hV
  have FB := Lib.hid (below_of_alloc hV (Nat.le_refl w.heap.size))
  clear hV
  have HG0 := Lib.hid ((FB.out.block _ HLT.out).trans H3.out)
  go_wp2_with (first
    | (refine wpList_ld rfl 54 (.tmp 9) rfl (load_arr Tryd.underlying54 rfl HCI.out HG0.out) ?_)
    | (refine wpList_st rfl 54 (.tmp 3) (.tmp 10) rfl (store_arr (cs := C) (old := Z) HCI.out HC1.out (heap_alloc_new' W0 _) (by rw [HCL.out, hzl.out])) ?_
       generalize hV : World.setRow _ _ _ = W3
       have M3 := Lib.hid (HCA.out W3 _ (heap_of_setRow hV (heap_alloc_new' W0 _)))
       have MB := Lib.hid (((Below.refl W0.heap.size W0).alloc (Nat.le_refl _) _).trans (below_of_setRow hV (Nat.le_refl W0.heap.size) (by simp)))
       clear hV)
    | fail)
  have HS0 : Hid (w.heap.size < W0.heap.size) := lt_of_heap F0.out
  have B3 : Hid (Below w.heap.size w W3) := FB.out.trans (MB.out.mono FB.out.size)
  have F3 := Lib.hid ((MB.out.block _ (lt_of_heap F0.out)).trans F0.out)
  clear F0 FB MB hz hzl HG0 HH
  generalize W0.heap.size = g3 at M3 HS0 ⊢
  refine (HBA.out g3 W3 (by have := HS0.out; omega) M3.out (HR.out.ext B3.out)).mono ?_
  rintro e w4 ⟨⟨v4, rfl⟩, hH4, hgr⟩
  have H4 := Lib.hid hH4
  have B4 : Hid (Below w.heap.size w w4) := B3.out.trans (grown_below hgr (Nat.le_of_lt HS0.out) B3.out.size)
  have F4 := Lib.hid ((hgr.block _ (lt_of_heap F3.out) (fun e => by injection e with e; have := HS0.out; omega)).trans F3.out)
  clear hH4 hgr B3 F3 M3
  go_wp2_with fail
  refine (HSA.out g3 w4 H4.out (HR.out.ext B4.out)).mono ?_
  rintro e w5 ⟨rfl, hb5⟩
  have B5 := Lib.hid (B4.out.step hb5)
  have F5 := Lib.hid ((hb5.block _ (lt_of_heap F4.out)).trans F4.out)
  clear hb5 B4 F4 H4
  go_upto_region 6 with (first
    | (refine wpList_st rfl 27 (.tmp 4) (.tmp 13) rfl (store_arr (cs := Y.map bv) (old := List.replicate 32 (Value.int .u8 0)) hi32.out (bv_one _) (heap_alloc_new' w5 _) (by rw [List.length_map, HSL.out]; simp)) ?_
       generalize hV : World.setRow _ _ _ = W6
       have M6 := Lib.hid (heap_of_setRow hV (heap_alloc_new' w5 _))
       have MB := Lib.hid (((Below.refl w5.heap.size w5).alloc (Nat.le_refl _) _).trans (below_of_setRow hV (Nat.le_refl w5.heap.size) (by simp)))
       clear hV)
    | fail)
  have B6 := Lib.hid (B5.out.trans (MB.out.mono B5.out.size))
  have F6 := Lib.hid ((MB.out.block _ (lt_of_heap F5.out)).trans F5.out)
  clear B5 F5 MB
  generalize w5.heap.size = g4 at M6 ⊢
  have HG6 : Hid (∀ W, Below w.heap.size w W → W.heap[g]? = some (.cells C.toArray 54 (0, 0))) := fun W hW => (hW.block _ HLT.out).trans H3.out
  have HK6 : Hid (∀ W, Below w.heap.size w W → W.rangeAt g 73 (KB.map bv)) := fun W hW j v hv => (hW.cell HLT.out).trans (HKY.out j v hv)
  have ar := arr_all arr32B s8 ⟨g4, 0, none⟩
  have HX : Hid (Below w.heap.size w W6.drew) := B6.out.drew
  have M7 : Hid (W6.drew.heap[g4]? = _) := M6.out
  have F7 : Hid (W6.drew.heap[w.heap.size]? = _) := F6.out
  refine regB_start (w.heap.size) (by kernel_rfl) ?_
  try simp only [Act.put, List.setIfInBounds_toArray, List.set_cons_zero, List.set_cons_succ]
  generalize W6.drew = W7 at HX M7 F7 ⊢
  have HZ7 := Lib.hid HX.out.size
  refine regB_take (v := ?_) 0 (some 14) rfl rfl (by kernel_rfl) (by kernel_rfl) (by kernel_rfl) (fun _ _ _ h => h) (by rfl) (fun W hW => ?_) ?_
  rotate_left
  · (go_simp; try rfl)
  simp only [Act.put, List.setIfInBounds_toArray, List.set_cons_zero, List.set_cons_succ]
  refine regB_take (v := ?_) 1 (some 15) rfl rfl (by kernel_rfl) (by kernel_rfl) (by kernel_rfl) (fun _ _ _ h => h) (by rfl) (fun W hW => ?_) ?_
  rotate_left
  · (go_simp; try rfl)
  simp only [Act.put, List.setIfInBounds_toArray, List.set_cons_zero, List.set_cons_succ]
  refine regB_take (v := ?_) 2 (some 16) rfl rfl (by kernel_rfl) (by kernel_rfl) (by kernel_rfl) (fun _ _ _ h => h) (by rfl) (fun W hW => ?_) ?_
  rotate_left
  · (go_simp; try rfl)
  simp only [Act.put, List.setIfInBounds_toArray, List.set_cons_zero, List.set_cons_succ]
  refine regB_load 3 (some 17) (fun W hW => run_loadAt_mid W g 73 22 (KB.map bv) _ (HK6.out W (Below.trans HX.out hW)) arr64B rfl hi64.out) rfl rfl rfl rfl (by kernel_rfl) (by kernel_rfl) (by kernel_rfl) (fun _ _ _ h => h) (by rfl) ?_
  simp only [Act.put, List.setIfInBounds_toArray, List.set_cons_zero, List.set_cons_succ]
  refine regB_take (v := ?_) 5 (some 19) rfl rfl (by kernel_rfl) (by kernel_rfl) (by kernel_rfl) (fun _ _ _ h => h) (by rfl) (fun W hW => ?_) ?_
  rotate_left
  · (go_simp; try rfl)
  simp only [Act.put, List.setIfInBounds_toArray, List.set_cons_zero, List.set_cons_succ]
  refine regB_eff 4 rfl (by kernel_rfl) (fun K hK => ?_)
  go_simp
  refine (HTA.out W7).mono ?_
  rintro e w8 ⟨g8, hg8, rfl, hk8, hb8⟩
  have O8 := Lib.hid (own_heap (base := W7.heap.size) hk8 hg8 HTL.out (by simp [maxLen]))
  have M8 := Lib.hid ((hb8.block _ (lt_of_heap M7.out)).trans M7.out)
  have F8 := Lib.hid ((hb8.block _ (lt_of_heap F7.out)).trans F7.out)
  have S8 := Lib.hid (row_of_heap M8.out (lt_of_heap M8.out))
  have hE := RowKit.Below.mono hb8 HX.out.size
  have Z8 := Lib.hid hb8.size
  clear hb8 hk8
  refine hK.out _ _ hE ?_
  have HX := Lib.hid (Below.trans HX.out hE)
  clear hE hK K
  try simp only [Act.put, List.setIfInBounds_toArray, List.set_cons_zero, List.set_cons_succ]
  refine regB_eff 6 rfl (by kernel_rfl) (fun K hK => ?_)
  obtain ⟨v9, w9, hrun, hown, hgr, _⟩ := append_row_at (P := Tryd.prog) w8 W7.heap.size 23 uT made8 rfl (.slice (some ⟨g8, 0, none⟩) 64 64) 64 (T.map bv) O8.out w8.heap.size (some ⟨g4, 0, none⟩) 32 32 (Y.map bv) S8.out (by rw [List.length_map, HSL.out]) (bv_one _) (by omega) (by simp [maxLen]) Z8.out
  rw [← List.map_append] at hown
  obtain ⟨A9, c9, rfl, hl9, hc9, hm9, hr9⟩ := own_read hown
  have S9 := Lib.hid (sl_mk HXL.out hc9 hm9 hr9)
  have F9 := Lib.hid ((hgr.block _ (lt_of_heap F8.out) (c_own_ne' O8.out (lt_of_heap F7.out))).trans F8.out)
  have hE := (RowKit.Below.refl w.heap.size w8).grown hgr HX.out.size (c_own_ge' O8.out HZ7.out)
  refine step_app rfl (.tmp 18) (.tmp 19) 23 23 rfl hrun ?_
  clear hrun hown hgr hl9 hc9 hm9 hr9
  refine hK.out _ _ hE ?_
  have HX := Lib.hid (Below.trans HX.out hE)
  clear hE hK K
  try simp only [Act.put, List.setIfInBounds_toArray, List.set_cons_zero, List.set_cons_succ]
  refine regB_eff 7 rfl (by kernel_rfl) (fun K hK => ?_)
  go_simp
  refine (HFA.out _ _ w9 S9.out (HR.out.ext HX.out)).mono ?_
  rintro e w10 ⟨rfl, hb10⟩
  have F10 := Lib.hid ((hb10.block _ (lt_of_heap F9.out)).trans F9.out)
  have hE := RowKit.Below.mono hb10 HX.out.size
  clear hb10
  refine hK.out _ _ hE ?_
  have HX := Lib.hid (Below.trans HX.out hE)
  clear hE hK K
  try simp only [Act.put, List.setIfInBounds_toArray, List.set_cons_zero, List.set_cons_succ]
  refine regB_eff 8 rfl (by kernel_rfl) (fun K hK => ?_)
  refine step_st1 rfl 27 (.tmp 2) (.tmp 21) rfl (store_arr (cs := F.map bv) (old := List.replicate 32 (Value.int .u8 0)) hi32F.out (bv_one _) F10.out (by rw [List.length_map, HZL.out]; simp)) ?_
  generalize hV : World.setRow _ _ _ = W11
  have hres := Lib.hid (heap_of_setRow hV F10.out)
  have hE := below_of_setRow hV (Nat.le_refl w.heap.size) HX.out.size
  clear hV
  refine hK.out _ _ hE ?_
  have HX := Lib.hid (Below.trans HX.out hE)
  clear hE hK K
  try simp only [Act.put, List.setIfInBounds_toArray, List.set_cons_zero, List.set_cons_succ]
  refine regB_done (by kernel_rfl) ?_
  go_wp2
  exact bodyPost_ret (results_cell_row (P := Tryd.prog) rfl _ _ w.heap.size 27 (F.map bv).toArray (0, 0) _ rfl hres.out arr32B rfl (by rw [List.size_toArray, List.length_map, HZL.out]; exact i32B)) rfl ⟨rfl, HX.out⟩
def z32 : List UInt8 := List.replicate 32 0
theorem z32_len : z32.length = 32 := List.length_replicate
set_option maxHeartbeats 1000000 in
theorem hsum_nil (w : World) : Calls Tryd.prog 17 #[.pointer none] w fun e w' => e = .returned (.agg (z32.map bv).toArray) ∧ Below w.heap.size w w' := by
  have hbd : ∀ W, (Instr.build 27 #[]).run Tryd.prog W = .ok (.agg (z32.map bv).toArray) W := fun W => by kernel_rfl
  have BD := Lib.hid hbd
  have HZL := Lib.hid z32_len
  have hi32 : Hid ((Tryd.prog.info? 27).map (·.size) = some (z32.map bv).length) := by show _ = _; rw [List.length_map, HZL.out]; exact i32B
  generalize z32 = F at BD HZL hi32 hbd ⊢
  go_enter Tryd.func17, Tryd.ntmps17
  go_upto_region 2 with (fail)
  generalize hV : w.alloc _ = W0
  have F0 : Hid (W0.heap[w.heap.size]? = some (.cells (List.replicate 32 (Value.int .u8 0)).toArray 27 (0, 0))) := heap_of_alloc hV
  have FB := Lib.hid (below_of_alloc hV (Nat.le_refl w.heap.size))
  clear hV
  go_wp2_with (first
    | (refine wpList_run (o := ⟨some 7, _, _, _, _, _⟩) rfl (v := .agg (F.map bv).toArray) (w' := W0) (hexec_build rfl (by simp only [List.map_toArray, List.map_nil]; exact BD.out W0)) ?_)
    | (refine wpList_st rfl 27 (.tmp 2) (.tmp 7) rfl (store_arr (cs := F.map bv) (old := List.replicate 32 (Value.int .u8 0)) hi32.out (bv_one _) F0.out (by rw [List.length_map, HZL.out]; simp)) ?_)
    | fail)
  have hres := setRow_heap W0 w.heap.size _ (F.map bv).toArray 27 _ F0.out
  exact bodyPost_ret (results_cell_row (P := Tryd.prog) rfl _ _ w.heap.size 27 (F.map bv).toArray (0, 0) _ rfl hres arr32B rfl (by rw [List.size_toArray, List.length_map, HZL.out]; exact i32B)) rfl ⟨rfl, FB.out.trans (grown_below (grown_setRow _ _ _) (Nat.le_refl _) FB.out.size)⟩
theorem splice_st (RR : List Value) (h h' : List W32) (t t' : List UInt8) (n n' : Nat) (hh : h.length = 8) (hh' : h'.length = 8) (ht : t.length = 64) (ht' : t'.length = 64) : splice (stCells RR h t n) 0 (stCells [] h' t' n') = stCells RR h' t' n' := by
  have := splice_split [] (stCells [] h t n) RR (stCells [] h' t' n') (by rw [stCells_len _ _ _ hh ht, stCells_len _ _ _ hh' ht'])
  simpa [stCells] using this
def hmacL (key b : List UInt8) : List UInt8 := hsumL (hblockL key) (twistL (hblockL key) 54 ++ b)
theorem hmacL_len (key b : List UInt8) : (hmacL key b).length = 32 := hsumL_len _ _
theorem begun_nil (KB : List UInt8) : begun KB [] = twistL KB 54 := by rw [begun, if_pos rfl]
theorem begun_twist (KB b : List UInt8) (hK : KB.length = 64) : begun KB (twistL KB 54 ++ b) = twistL KB 54 ++ b := by
  rw [begun, if_neg]
  intro h
  have := congrArg List.length h
  rw [List.length_append, twistL_len KB 54 hK] at this
  simp at this
theorem sl_apart {w : World} {A : Option Addr} {c g k : Nat} {b : List UInt8} (hS : Sl w A c b) (hb : b.length = k) (hg : w.heap.size ≤ g) : 0 < k → ApartG A g := by
  intro hk
  obtain ⟨b1, o1, rfl, hb1, _⟩ := hS.2.2.at_ (by rw [List.length_map]; omega)
  intro a ha
  injection ha with ha
  rw [← ha]; show b1 ≠ g; omega
set_option maxHeartbeats 1000000 in
theorem hmac_any (A : Option Addr) (n c : Nat) (key : List UInt8) (A' : Option Addr) (k c' : Nat) (b : List UInt8) (w : World) (hl : key.length = n) (hl' : b.length = k) (hk : k ≤ 2146000000) (hS : Sl w A c key) (hS' : Sl w A' c' b) (hR : Rnd w) :
    Calls Tryd.prog 7 #[.slice A n c, .slice A' k c'] w fun e w' => e = .returned (.agg ((hmacL key b).map bv).toArray) ∧ Below w.heap.size w w' := by
  have HS := Lib.hid hS; have HS' := Lib.hid hS'; have HR := Lib.hid hR; have HL := Lib.hid hl; have HL' := Lib.hid hl'
  have HK := Lib.hid (hblockL_len key)
  have NA := Lib.hid (fun W hS hR => hnew_any A n c key W hl hS hR)
  have HM : Hid (hmacL key b = hsumL (hblockL key) (twistL (hblockL key) 54 ++ b)) := rfl
  have HZL := Lib.hid (hmacL_len key b)
  generalize hmacL key b = F at HM HZL ⊢
  generalize hblockL key = KB at HK NA HM
  have HWA := Lib.hid (fun g W hg hA hS H hR => hwrite_any g KB [] A' k c' b W hl' (by simp; omega) hg hA hS H hR)
  have HTL := Lib.hid (twistL_len KB 54 HK.out)
  rw [begun_nil] at HWA
  have HSA := Lib.hid (fun g W H hR => hsum_any g KB (twistL KB 54 ++ b) W (by rw [List.length_append, HTL.out, HL'.out]; omega) H hR)
  rw [← HM.out] at HSA
  generalize twistL KB 54 ++ b = m at HWA HSA
  have hi32 : Hid ((Tryd.prog.info? 27).map (·.size) = some (F.map bv).length) := by show _ = _; rw [List.length_map, HZL.out]; exact i32B
  clear hl hl' hS hS' hR hk
  go_enter Tryd.func7, Tryd.ntmps7
  go_wp2_with fail
  generalize hV : w.alloc _ = W0
  have F0 : Hid (W0.heap[w.heap.size]? = some (.cells (List.replicate 32 (Value.int .u8 0)).toArray 27 (0, 0))) := heap_of_alloc hV
  have FB := Lib.hid (below_of_alloc hV (Nat.le_refl w.heap.size))
  clear hV
  refine (NA.out W0 (HS.out.below FB.out) (HR.out.ext FB.out)).mono ?_
  rintro e w1 ⟨g, rfl, hg, hH, hb1⟩
  have B1 := Lib.hid (FB.out.step hb1)
  have F1 := Lib.hid ((hb1.block _ (lt_of_heap F0.out)).trans F0.out)
  have H1 := Lib.hid hH
  have HG : Hid (w.heap.size < g) := Nat.lt_of_lt_of_le (lt_of_heap F0.out) hg
  clear hH hb1 hg F0 FB
  go_wp2_with fail
  refine (HWA.out g w1 (by have := HG.out; omega) (sl_apart HS'.out HL'.out (Nat.le_of_lt HG.out)) (HS'.out.below B1.out) H1.out (HR.out.ext B1.out)).mono ?_
  rintro e w2 ⟨⟨v2, rfl⟩, hH, hgr⟩
  have H2 := Lib.hid hH
  have B2 : Hid (Below w.heap.size w w2) := B1.out.trans (grown_below hgr (Nat.le_of_lt HG.out) B1.out.size)
  have F2 := Lib.hid ((hgr.block _ (lt_of_heap F1.out) (fun e => by injection e with e; have := HG.out; omega)).trans F1.out)
  clear hH hgr B1 F1 H1
  go_wp2_with fail
  refine (HSA.out g w2 H2.out (HR.out.ext B2.out)).mono ?_
  rintro e w3 ⟨rfl, hb3⟩
  have B3 := Lib.hid (B2.out.step hb3)
  have F3 := Lib.hid ((hb3.block _ (lt_of_heap F2.out)).trans F2.out)
  clear hb3 B2 F2 H2
  go_wp2_with (first
    | (refine wpList_st rfl 27 (.tmp 4) (.tmp 12) rfl (store_arr (cs := F.map bv) (old := List.replicate 32 (Value.int .u8 0)) hi32.out (bv_one _) F3.out (by rw [List.length_map, HZL.out]; simp)) ?_)
    | fail)
  have hres := setRow_heap w3 w.heap.size _ (F.map bv).toArray 27 _ F3.out
  exact bodyPost_ret (results_cell_row (P := Tryd.prog) rfl _ _ w.heap.size 27 (F.map bv).toArray (0, 0) _ rfl hres arr32B rfl (by rw [List.size_toArray, List.length_map, HZL.out]; exact i32B)) rfl ⟨rfl, B3.out.trans (grown_below (grown_setRow _ _ _) (Nat.le_refl _) B3.out.size)⟩
end Go.Proofs.YtfcnahbbieldfaaDoor

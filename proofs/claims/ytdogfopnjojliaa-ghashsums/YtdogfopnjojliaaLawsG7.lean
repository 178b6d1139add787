/- Laws of layer 6: the sum of any bytes, how many noughts make them whole blocks, and any two lengths. -/
import Derived.Test.YtdogfopnjojliaaRefG5
import Derived.Test.YtdogfopnjojliaaLiftH
import Derived.Test.YtdogfopnjojliaaBits3
namespace Go.Proofs.Ytdogfopnjojliaa
open Go.RowKit
set_option linter.unusedVariables false
set_option linter.unusedSimpArgs false
theorem g_load_slice {P : Program} {ty e : TypeId} (hu : P.underlying ty = some (.slice e)) {W : World} {a : Addr} {v : Value} (h : W.cell? a = some v) :
    (Instr.loadAt ty (.pointer (some a))).run P W = .ok v W := by
  simp [Instr.loadAt, Instr.sureAddr, loadVar, isAgg, run_underlying hu, h]
theorem hash_cell {W : World} {g : Nat} {y : HashT} {t : TypeId} {fr : Nat × Nat} (h : W.heap[g]? = some (.cells y.cells.toArray t fr)) (hk : y.h.length = 16) :
    W.rangeAt g 0 (y.h.map bv) ∧ W.cell? ⟨g, 16, none⟩ = some (.slice y.A y.b.length y.cap) ∧ W.cell? ⟨g, 17, none⟩ = some (.int .i64 y.n) ∧ W.cell? ⟨g, 18, none⟩ = some (.int .i64 y.m) := by
  refine ⟨fun j v hv => ?_, ?_, ?_, ?_⟩
  · have hj := (List.getElem?_eq_some_iff.1 hv).1
    rw [cell_of_heap h, HashT.cells, Nat.zero_add, List.getElem?_append_left hj]; exact hv
  · rw [cell_of_heap h, HashT.cells, List.getElem?_append_right (by simp [hk]), List.length_map, hk]; rfl
  · rw [cell_of_heap h, HashT.cells, List.getElem?_append_right (by simp [hk]), List.length_map, hk]; rfl
  · rw [cell_of_heap h, HashT.cells, List.getElem?_append_right (by simp [hk]), List.length_map, hk]; rfl
set_option maxHeartbeats 4000000 in
theorem ghashSums_walk (w : World) (y : HashT) (l : y.ok w) :
    Calls Try.prog 4 #[.agg y.cells.toArray] w fun e w' => e = .returned (.bool true) ∧ Below w.heap.size w w' := by
  have HC : Hid (∀ W, Below (w.heap.size + 1) (w.alloc (.cells y.cells.toArray 28)) W → W.rangeAt w.heap.size 0 (y.h.map bv) ∧ W.cell? ⟨w.heap.size, 16, none⟩ = some (.slice y.A y.b.length y.cap) ∧ W.cell? ⟨w.heap.size, 17, none⟩ = some (.int .i64 y.n) ∧ W.cell? ⟨w.heap.size, 18, none⟩ = some (.int .i64 y.m)) :=
    fun W hW => hash_cell ((hW.block _ (Nat.lt_succ_self _)).trans (heap_alloc_new' w _)) l.1
  have BA : Hid (Below w.heap.size w (w.alloc (.cells y.cells.toArray 28))) := (Below.refl _ _).alloc (Nat.le_refl _) _
  have ZA : Hid ((w.alloc (.cells y.cells.toArray 28)).heap.size = w.heap.size + 1) := by show _ = _; simp
  obtain ⟨Y, HY⟩ : ∃ Y, Hid (y.cells.toArray = Y) := ⟨_, rfl⟩
  rw [HY.out] at HC BA ZA ⊢
  clear HY
  obtain ⟨h, A, c, b, N, M⟩ := y
  obtain ⟨hh, hS⟩ := l
  simp only at hh hS HC
  obtain ⟨n, hn⟩ : ∃ n, b.length = n := ⟨_, rfl⟩
  rw [hn] at HC
  have HSW := Lib.hid hS
  have HN := Lib.hid hn
  have HI := Lib.hid (i16l h hh)
  have HH := Lib.hid hh
  clear hS hn hh
  go_enter Try.func4, Try.ntmps4
  go_upto_region 1 with (fail)
  generalize w.alloc _ = W0 at HC BA ZA ⊢
  obtain ⟨q, hq⟩ : ∃ q, w.heap.size = q := ⟨_, rfl⟩
  rw [hq] at HC ZA ⊢
  have c1 := (HC.out W0 (Below.refl _ _)).2.1
  have c2 := (HC.out W0 (Below.refl _ _)).2.2.1
  have c3 := (HC.out W0 (Below.refl _ _)).2.2.2
  have HQ := Lib.hid hq
  clear hq
  by_cases hbig : 300 < n
  · have e1 : (300 : Int) < (n : Int) := by omega
    go_wp2
    go_ret
    exact ⟨rfl, BA.out⟩
  have e1 : ¬ ((300 : Int) < (n : Int)) := by omega
  have GS := Lib.hid (fun W hS => gsum_any h A n c b W HH.out HN.out (by omega) hS)
  have RS := Lib.hid (fun W hS => refGsum_any h A n c b W HH.out HN.out (by omega) hS)
  have PN := Lib.hid (fun W => gpad_any n W (by omega))
  have PD := Lib.hid (fun W hS => refGpad_any A n c b W HN.out (by omega) hS)
  have GL := Lib.hid (fun W => glen_any N M W)
  have RL := Lib.hid (fun W => refLen_any N M W)
  have hsl : (gsumL h b).length = 16 := gsumL_len h b
  have hqq := eql_bytes (P := Try.prog) arr16B Try.underlying5 s8 (gsumL h b) (gsumL h b) hsl hsl
  rw [show decide (gsumL h b = gsumL h b) = true from by simp] at hqq
  generalize gsumL h b = G at GS RS hqq hsl
  have HLL := Lib.hid (lenL_len N M)
  generalize lenL N M = L at GL RL HLL
  have HP15 : padN n ≤ 15 := by unfold padN; omega
  generalize padN n = d at PN PD HP15
  obtain ⟨s, hs⟩ : ∃ s, s = n + d := ⟨_, rfl⟩
  rw [← hs] at PD
  have u1 : IntKind.i64.wrap ((s : Int) - (n : Int)) = (d : Int) := by rw [IntKind.wrap_i64]; omega
  have hsl2 : ((strOf L).toList == (strOf L).toList) = true := beq_self_eq_true _
  have HLI := Lib.hid (i16l L HLL.out)
  have hz16 : ∀ W, (zeroValue 22).run Try.prog W = .ok (.agg (zerB.map bv).toArray) W := fun W => by kernel_rfl
  have HZ0 : Hid (zerB.length = 16) := rfl
  generalize zerB = Z at hz16 HZ0
  clear hbig hs hsl HH
  go_wp2_with fail
  refine (GL.out W0).mono ?_
  rintro e w1 ⟨rfl, hb1⟩
  have X1 : Hid (Below (q + 1) W0 w1) := by show Below _ _ _; rw [← ZA.out]; exact hb1
  have B1 := Lib.hid (BA.out.step hb1)
  clear hb1 c1 c2 c3
  go_upto_region 4 with (first
    | (refine wpList_st rfl 22 (.tmp 3) (.tmp 12) rfl (store_arr (cs := L.map bv) HLI.out (bv_one _) (old := Z.map bv) (heap_alloc_new' w1 _) (by rw [List.length_map, List.length_map, HLL.out, HZ0.out])) ?_
       generalize hV : World.setRow _ _ _ = W3
       have M3 := Lib.hid (heap_of_setRow hV (heap_alloc_new' w1 _))
       have MX := Lib.hid (((Below.refl w1.heap.size w1).alloc (Nat.le_refl _) _).trans (below_of_setRow hV (Nat.le_refl w1.heap.size) (by simp)))
       clear hV)
    | fail)
  generalize w1.heap.size = g3 at M3 ⊢
  have X3 : Hid (Below (q + 1) W0 W3) := X1.out.trans (MX.out.mono (by have h1 := X1.out.size; have h2 := ZA.out; omega))
  have B3 := Lib.hid (B1.out.step MX.out)
  have HC : Hid (∀ W, Below W3.heap.size W3 W → W.rangeAt q 0 (h.map bv) ∧ W.cell? ⟨q, 16, none⟩ = some (.slice A n c) ∧ W.cell? ⟨q, 17, none⟩ = some (.int .i64 N) ∧ W.cell? ⟨q, 18, none⟩ = some (.int .i64 M)) := fun W hW => HC.out W (X3.out.trans (hW.mono (by have h1 := X3.out.size; have h2 := ZA.out; omega)))
  have S3 := Lib.hid (sl_row HLL.out (by omega) M3.out)
  have HS : Hid (∀ W, Below W3.heap.size W3 W → Sl W A c b) := fun W hW => HSW.out.below (B3.out.step hW)
  have ar := arr_all arr16B s8 ⟨g3, 0, none⟩
  have HX : Hid (Ext W3 W3.drew) := (Below.refl _ _).drew
  clear X1 B1 MX X3 BA ZA GL
  by_cases hpos : 0 < N
  · have e2 : (0 : Int) < N := hpos
    refine reg_start (by kernel_rfl) ?_
    try simp only [Act.put, List.setIfInBounds_toArray, List.set_cons_zero, List.set_cons_succ]
    generalize W3.drew = W4 at HX ⊢
    refine reg_take (v := ?_) 0 (some 13) rfl rfl (by kernel_rfl) (by kernel_rfl) (by kernel_rfl) (fun _ _ _ h => h) (by rfl) (fun W hW => ?_) ?_
    rotate_left
    · (go_simp; try rfl)
    simp only [Act.put, List.setIfInBounds_toArray, List.set_cons_zero, List.set_cons_succ]
    refine reg_load 1 (some 14) (fun W hW => run_loadAt_mid W q 0 22 (h.map bv) _ (HC.out W (Ext.trans HX.out hW)).1 arr16B rfl HI.out) rfl rfl rfl rfl (by kernel_rfl) (by kernel_rfl) (by kernel_rfl) (fun _ _ _ h => h) (by rfl) ?_
    simp only [Act.put, List.setIfInBounds_toArray, List.set_cons_zero, List.set_cons_succ]
    refine reg_take (v := ?_) 2 (some 15) rfl rfl (by kernel_rfl) (by kernel_rfl) (by kernel_rfl) (fun _ _ _ h => h) (by rfl) (fun W hW => ?_) ?_
    rotate_left
    · (go_simp; try rfl)
    simp only [Act.put, List.setIfInBounds_toArray, List.set_cons_zero, List.set_cons_succ]
    refine reg_load 3 (some 16) (fun W hW => g_load_slice uT (HC.out W (Ext.trans HX.out hW)).2.1) rfl rfl rfl rfl (by kernel_rfl) (by kernel_rfl) (by kernel_rfl) (fun _ _ _ h => h) (by rfl) ?_
    simp only [Act.put, List.setIfInBounds_toArray, List.set_cons_zero, List.set_cons_succ]
    refine reg_take (v := ?_) 5 (some 18) rfl rfl (by kernel_rfl) (by kernel_rfl) (by kernel_rfl) (fun _ _ _ h => h) (by rfl) (fun W hW => ?_) ?_
    rotate_left
    · (go_simp; try rfl)
    simp only [Act.put, List.setIfInBounds_toArray, List.set_cons_zero, List.set_cons_succ]
    refine reg_load 6 (some 19) (fun W hW => run_loadAt_mid W q 0 22 (h.map bv) _ (HC.out W (Ext.trans HX.out hW)).1 arr16B rfl HI.out) rfl rfl rfl rfl (by kernel_rfl) (by kernel_rfl) (by kernel_rfl) (fun _ _ _ h => h) (by rfl) ?_
    simp only [Act.put, List.setIfInBounds_toArray, List.set_cons_zero, List.set_cons_succ]
    refine reg_take (v := ?_) 7 (some 20) rfl rfl (by kernel_rfl) (by kernel_rfl) (by kernel_rfl) (fun _ _ _ h => h) (by rfl) (fun W hW => ?_) ?_
    rotate_left
    · (go_simp; try rfl)
    simp only [Act.put, List.setIfInBounds_toArray, List.set_cons_zero, List.set_cons_succ]
    refine reg_load 8 (some 21) (fun W hW => g_load_slice uT (HC.out W (Ext.trans HX.out hW)).2.1) rfl rfl rfl rfl (by kernel_rfl) (by kernel_rfl) (by kernel_rfl) (fun _ _ _ h => h) (by rfl) ?_
    simp only [Act.put, List.setIfInBounds_toArray, List.set_cons_zero, List.set_cons_succ]
    refine reg_eff 4 rfl (by kernel_rfl) (fun K hK => ?_)
    go_simp
    refine (GS.out W4 (HS.out W4 HX.out)).mono ?_
    rintro e w5 ⟨rfl, hE⟩
    refine hK.out _ _ hE ?_
    have HX := Lib.hid (Ext.trans HX.out hE)
    clear hE hK K
    try simp only [Act.put, List.setIfInBounds_toArray, List.set_cons_zero, List.set_cons_succ]
    refine reg_eff 9 rfl (by kernel_rfl) (fun K hK => ?_)
    go_simp
    refine (RS.out w5 (HS.out w5 HX.out)).mono ?_
    rintro e w6 ⟨rfl, hE⟩
    refine hK.out _ _ hE ?_
    have HX := Lib.hid (Ext.trans HX.out hE)
    clear hE hK K
    try simp only [Act.put, List.setIfInBounds_toArray, List.set_cons_zero, List.set_cons_succ]
    refine reg_take (v := ?_) 10 (some 23) rfl rfl (by kernel_rfl) (by kernel_rfl) (by kernel_rfl) (fun _ _ _ h => h) (by rfl) (fun W hW => ?_) ?_
    rotate_left
    · (go_simp; try rfl)
    simp only [Act.put, List.setIfInBounds_toArray, List.set_cons_zero, List.set_cons_succ]
    refine reg_take (v := ?_) 11 (some 24) rfl rfl (by kernel_rfl) (by kernel_rfl) (by kernel_rfl) (fun _ _ _ h => h) (by rfl) (fun W hW => ?_) ?_
    rotate_left
    · (go_simp; try rfl)
    simp only [Act.put, List.setIfInBounds_toArray, List.set_cons_zero, List.set_cons_succ]
    refine reg_take (v := ?_) 12 (some 25) rfl rfl (by kernel_rfl) (by kernel_rfl) (by kernel_rfl) (fun _ _ _ h => h) (by rfl) (fun W hW => ?_) ?_
    rotate_left
    · (go_simp; try rfl)
    simp only [Act.put, List.setIfInBounds_toArray, List.set_cons_zero, List.set_cons_succ]
    refine reg_load 13 (some 26) (fun W hW => g_load_slice uT (HC.out W (Ext.trans HX.out hW)).2.1) rfl rfl rfl rfl (by kernel_rfl) (by kernel_rfl) (by kernel_rfl) (fun _ _ _ h => h) (by rfl) ?_
    simp only [Act.put, List.setIfInBounds_toArray, List.set_cons_zero, List.set_cons_succ]
    refine reg_take (v := ?_) 14 (some 27) rfl rfl (by kernel_rfl) (by kernel_rfl) (by kernel_rfl) (fun _ _ _ h => h) (by rfl) (fun W hW => ?_) ?_
    rotate_left
    · (go_simp; try rfl)
    simp only [Act.put, List.setIfInBounds_toArray, List.set_cons_zero, List.set_cons_succ]
    refine reg_take (v := ?_) 16 (some 29) rfl rfl (by kernel_rfl) (by kernel_rfl) (by kernel_rfl) (fun _ _ _ h => h) (by rfl) (fun W hW => ?_) ?_
    rotate_left
    · (go_simp; try rfl)
    simp only [Act.put, List.setIfInBounds_toArray, List.set_cons_zero, List.set_cons_succ]
    refine reg_load 17 (some 30) (fun W hW => g_load_slice uT (HC.out W (Ext.trans HX.out hW)).2.1) rfl rfl rfl rfl (by kernel_rfl) (by kernel_rfl) (by kernel_rfl) (fun _ _ _ h => h) (by rfl) ?_
    simp only [Act.put, List.setIfInBounds_toArray, List.set_cons_zero, List.set_cons_succ]
    refine reg_take (v := ?_) 20 (some 33) rfl rfl (by kernel_rfl) (by kernel_rfl) (by kernel_rfl) (fun _ _ _ h => h) (by rfl) (fun W hW => ?_) ?_
    rotate_left
    · (go_simp; try rfl)
    simp only [Act.put, List.setIfInBounds_toArray, List.set_cons_zero, List.set_cons_succ]
    refine reg_load 21 (some 34) (fun W hW => g_load_slice uT (HC.out W (Ext.trans HX.out hW)).2.1) rfl rfl rfl rfl (by kernel_rfl) (by kernel_rfl) (by kernel_rfl) (fun _ _ _ h => h) (by rfl) ?_
    simp only [Act.put, List.setIfInBounds_toArray, List.set_cons_zero, List.set_cons_succ]
    refine reg_take (v := ?_) 22 (some 35) rfl rfl (by kernel_rfl) (by kernel_rfl) (by kernel_rfl) (fun _ _ _ h => h) (by rfl) (fun W hW => ?_) ?_
    rotate_left
    · (go_simp; try rfl)
    simp only [Act.put, List.setIfInBounds_toArray, List.set_cons_zero, List.set_cons_succ]
    refine reg_eff 15 rfl (by kernel_rfl) (fun K hK => ?_)
    go_simp
    refine (PN.out w6).mono ?_
    rintro e w7 ⟨rfl, rfl⟩
    have hE : Ext w6 w6 := Below.refl _ _
    refine hK.out _ _ hE ?_
    have HX := Lib.hid (Ext.trans HX.out hE)
    clear hE hK K
    try simp only [Act.put, List.setIfInBounds_toArray, List.set_cons_zero, List.set_cons_succ]
    refine reg_eff 18 rfl (by kernel_rfl) (fun K hK => ?_)
    go_simp
    refine (PD.out w6 (HS.out w6 HX.out)).mono ?_
    rintro e wZ ⟨v7, rfl, hO7, hE⟩
    obtain ⟨A7, c7, rfl, hl7, h71, h72, hr7⟩ := own_read hO7
    clear hO7 hl7 h71 h72 hr7
    refine hK.out _ _ hE ?_
    have HX := Lib.hid (Ext.trans HX.out hE)
    clear hE hK K
    try simp only [Act.put, List.setIfInBounds_toArray, List.set_cons_zero, List.set_cons_succ]
    refine reg_take (v := ?_) 19 (some 32) rfl rfl (by kernel_rfl) (by kernel_rfl) (by kernel_rfl) (fun _ _ _ h => h) (by rfl) (fun W hW => ?_) ?_
    rotate_left
    · (go_simp; try rfl)
    simp only [Act.put, List.setIfInBounds_toArray, List.set_cons_zero, List.set_cons_succ]
    refine reg_take (v := ?_) 23 (some 36) rfl rfl (by kernel_rfl) (by kernel_rfl) (by kernel_rfl) (fun _ _ _ h => h) (by rfl) (fun W hW => ?_) ?_
    rotate_left
    · (go_simp; try rfl)
    simp only [Act.put, List.setIfInBounds_toArray, List.set_cons_zero, List.set_cons_succ]
    refine reg_take (v := ?_) 24 (some 37) rfl rfl (by kernel_rfl) (by kernel_rfl) (by kernel_rfl) (fun _ _ _ h => h) (by rfl) (fun W hW => ?_) ?_
    rotate_left
    · (go_simp; try rfl)
    simp only [Act.put, List.setIfInBounds_toArray, List.set_cons_zero, List.set_cons_succ]
    refine reg_take (v := ?_) 25 (some 38) rfl rfl (by kernel_rfl) (by kernel_rfl) (by kernel_rfl) (fun _ _ _ h => h) (by rfl) (fun W hW => ?_) ?_
    rotate_left
    · (go_simp; try rfl)
    simp only [Act.put, List.setIfInBounds_toArray, List.set_cons_zero, List.set_cons_succ]
    refine reg_take (v := ?_) 26 (some 39) rfl rfl (by kernel_rfl) (by kernel_rfl) (by kernel_rfl) (fun _ _ _ h => h) (by rfl) (fun W hW => ?_) ?_
    rotate_left
    · (go_simp; try rfl)
    simp only [Act.put, List.setIfInBounds_toArray, List.set_cons_zero, List.set_cons_succ]
    refine reg_take (v := ?_) 27 (some 40) rfl rfl (by kernel_rfl) (by kernel_rfl) (by kernel_rfl) (fun _ _ _ h => h) (by rfl) (fun W hW => ?_) ?_
    rotate_left
    · (go_simp; try rfl)
    simp only [Act.put, List.setIfInBounds_toArray, List.set_cons_zero, List.set_cons_succ]
    refine reg_load 28 (some 41) (fun W hW => load_cell Try.underlying3 (HC.out W (Ext.trans HX.out hW)).2.2.1) rfl rfl rfl rfl (by kernel_rfl) (by kernel_rfl) (by kernel_rfl) (fun _ _ _ h => h) (by rfl) ?_
    simp only [Act.put, List.setIfInBounds_toArray, List.set_cons_zero, List.set_cons_succ]
    refine reg_take (v := ?_) 29 (some 42) rfl rfl (by kernel_rfl) (by kernel_rfl) (by kernel_rfl) (fun _ _ _ h => h) (by rfl) (fun W hW => ?_) ?_
    rotate_left
    · (go_simp; try rfl)
    simp only [Act.put, List.setIfInBounds_toArray, List.set_cons_zero, List.set_cons_succ]
    refine reg_take (v := ?_) 30 (some 43) rfl rfl (by kernel_rfl) (by kernel_rfl) (by kernel_rfl) (fun _ _ _ h => h) (by rfl) (fun W hW => ?_) ?_
    rotate_left
    · (go_simp; try rfl)
    simp only [Act.put, List.setIfInBounds_toArray, List.set_cons_zero, List.set_cons_succ]
    refine reg_skip 31 (some 44) rfl rfl (by kernel_rfl) (by kernel_rfl) (by kernel_rfl) (fun _ _ _ h => h) (by rfl) ?_
    simp only [Act.put, List.setIfInBounds_toArray, List.set_cons_zero, List.set_cons_succ]
    refine reg_skip 32 (some 45) rfl rfl (by kernel_rfl) (by kernel_rfl) (by kernel_rfl) (fun _ _ _ h => h) (by rfl) ?_
    simp only [Act.put, List.setIfInBounds_toArray, List.set_cons_zero, List.set_cons_succ]
    refine reg_eff 33 rfl (by kernel_rfl) (fun K hK => ?_)
    go_simp
    refine hK.out _ _ (Ext.refl _) ?_
    clear hK K
    try simp only [Act.put, List.setIfInBounds_toArray, List.set_cons_zero, List.set_cons_succ]
    refine reg_skip 34 (some 47) rfl rfl (by kernel_rfl) (by kernel_rfl) (by kernel_rfl) (fun _ _ _ h => h) (by rfl) ?_
    simp only [Act.put, List.setIfInBounds_toArray, List.set_cons_zero, List.set_cons_succ]
    refine reg_take (v := ?_) 35 (some 48) rfl rfl (by kernel_rfl) (by kernel_rfl) (by kernel_rfl) (fun _ _ _ h => h) (by rfl) (fun W hW => ?_) ?_
    rotate_left
    · (go_simp; try rfl)
    simp only [Act.put, List.setIfInBounds_toArray, List.set_cons_zero, List.set_cons_succ]
    refine reg_take (v := ?_) 36 (some 49) rfl rfl (by kernel_rfl) (by kernel_rfl) (by kernel_rfl) (fun _ _ _ h => h) (by rfl) (fun W hW => ?_) ?_
    rotate_left
    · (go_simp; try rfl)
    simp only [Act.put, List.setIfInBounds_toArray, List.set_cons_zero, List.set_cons_succ]
    refine reg_take (v := ?_) 37 (some 50) rfl rfl (by kernel_rfl) (by kernel_rfl) (by kernel_rfl) (fun _ _ _ h => h) (by rfl) (fun W hW => ?_) ?_
    rotate_left
    · (go_simp; try rfl)
    simp only [Act.put, List.setIfInBounds_toArray, List.set_cons_zero, List.set_cons_succ]
    refine reg_take (v := ?_) 38 (some 51) rfl rfl (by kernel_rfl) (by kernel_rfl) (by kernel_rfl) (fun _ _ _ h => h) (by rfl) (fun W hW => ?_) ?_
    rotate_left
    · (go_simp; try rfl)
    simp only [Act.put, List.setIfInBounds_toArray, List.set_cons_zero, List.set_cons_succ]
    refine reg_conv 39 (some 52) (fun W hW => conv_string W (some ⟨g3, 0, none⟩) 16 16 L HLL.out (S3.out.below (Ext.trans HX.out hW))) rfl rfl rfl rfl (by kernel_rfl) (by kernel_rfl) (by kernel_rfl) (fun _ _ _ h => h) (by rfl) ?_
    simp only [Act.put, List.setIfInBounds_toArray, List.set_cons_zero, List.set_cons_succ]
    refine reg_take (v := ?_) 40 (some 53) rfl rfl (by kernel_rfl) (by kernel_rfl) (by kernel_rfl) (fun _ _ _ h => h) (by rfl) (fun W hW => ?_) ?_
    rotate_left
    · (go_simp; try rfl)
    simp only [Act.put, List.setIfInBounds_toArray, List.set_cons_zero, List.set_cons_succ]
    refine reg_load 41 (some 54) (fun W hW => load_cell Try.underlying3 (HC.out W (Ext.trans HX.out hW)).2.2.1) rfl rfl rfl rfl (by kernel_rfl) (by kernel_rfl) (by kernel_rfl) (fun _ _ _ h => h) (by rfl) ?_
    simp only [Act.put, List.setIfInBounds_toArray, List.set_cons_zero, List.set_cons_succ]
    refine reg_take (v := ?_) 42 (some 55) rfl rfl (by kernel_rfl) (by kernel_rfl) (by kernel_rfl) (fun _ _ _ h => h) (by rfl) (fun W hW => ?_) ?_
    rotate_left
    · (go_simp; try rfl)
    simp only [Act.put, List.setIfInBounds_toArray, List.set_cons_zero, List.set_cons_succ]
    refine reg_load 43 (some 56) (fun W hW => load_cell Try.underlying3 (HC.out W (Ext.trans HX.out hW)).2.2.2) rfl rfl rfl rfl (by kernel_rfl) (by kernel_rfl) (by kernel_rfl) (fun _ _ _ h => h) (by rfl) ?_
    simp only [Act.put, List.setIfInBounds_toArray, List.set_cons_zero, List.set_cons_succ]
    refine reg_eff 44 rfl (by kernel_rfl) (fun K hK => ?_)
    go_simp
    refine (RL.out _).mono ?_
    rintro e w8 ⟨v8, rfl, hO8, hE⟩
    obtain ⟨A8, c8, rfl, hl8, h81, h82, hr8⟩ := own_read hO8
    have S8 : Hid (Sl w8 A8 c8 L) := ⟨by omega, h82, hr8⟩
    clear hO8 hl8 h81 h82 hr8
    refine hK.out _ _ hE ?_
    have HX := Lib.hid (Ext.trans HX.out hE)
    clear hE hK K
    try simp only [Act.put, List.setIfInBounds_toArray, List.set_cons_zero, List.set_cons_succ]
    refine reg_conv 45 (some 58) (fun W hW => conv_string W A8 16 c8 L HLL.out (S8.out.below hW)) rfl rfl rfl rfl (by kernel_rfl) (by kernel_rfl) (by kernel_rfl) (fun _ _ _ h => h) (by rfl) ?_
    simp only [Act.put, List.setIfInBounds_toArray, List.set_cons_zero, List.set_cons_succ]
    refine reg_take (v := ?_) 46 (some 59) rfl rfl (by kernel_rfl) (by kernel_rfl) (by kernel_rfl) (fun _ _ _ h => h) (by rfl) (fun W hW => ?_) ?_
    rotate_left
    · (go_simp; try rfl)
    simp only [Act.put, List.setIfInBounds_toArray, List.set_cons_zero, List.set_cons_succ]
    refine reg_take (v := ?_) 47 (some 60) rfl rfl (by kernel_rfl) (by kernel_rfl) (by kernel_rfl) (fun _ _ _ h => h) (by rfl) (fun W hW => ?_) ?_
    rotate_left
    · (go_simp; try rfl)
    simp only [Act.put, List.setIfInBounds_toArray, List.set_cons_zero, List.set_cons_succ]
    refine reg_take (v := ?_) 48 (some 61) rfl rfl (by kernel_rfl) (by kernel_rfl) (by kernel_rfl) (fun _ _ _ h => h) (by rfl) (fun W hW => ?_) ?_
    rotate_left
    · (go_simp; try rfl)
    simp only [Act.put, List.setIfInBounds_toArray, List.set_cons_zero, List.set_cons_succ]
    refine reg_eff 49 rfl (by kernel_rfl) (fun K hK => ?_)
    go_simp
    refine (gawake_any _).mono ?_
    rintro e w9 ⟨rfl, hE⟩
    refine hK.out _ _ hE ?_
    have HX := Lib.hid (Ext.trans HX.out hE)
    clear hE hK K
    try simp only [Act.put, List.setIfInBounds_toArray, List.set_cons_zero, List.set_cons_succ]
    refine reg_take (v := ?_) 50 (some 63) rfl rfl (by kernel_rfl) (by kernel_rfl) (by kernel_rfl) (fun _ _ _ h => h) (by rfl) (fun W hW => ?_) ?_
    rotate_left
    · (go_simp; try rfl)
    simp only [Act.put, List.setIfInBounds_toArray, List.set_cons_zero, List.set_cons_succ]
    refine reg_take (v := ?_) 51 (some 2) rfl rfl (by kernel_rfl) (by kernel_rfl) (by kernel_rfl) (fun _ _ _ h => h) (by rfl) (fun W hW => ?_) ?_
    rotate_left
    · (go_simp; try rfl)
    simp only [Act.put, List.setIfInBounds_toArray, List.set_cons_zero, List.set_cons_succ]
    refine reg_done (by kernel_rfl) ?_
    go_wp2
    go_ret
    exact ⟨rfl, B3.out.step HX.out⟩
  · have e2 : ¬ ((0 : Int) < N) := hpos
    have hle : N ≤ 0 := by omega
    refine reg_start (by kernel_rfl) ?_
    try simp only [Act.put, List.setIfInBounds_toArray, List.set_cons_zero, List.set_cons_succ]
    generalize W3.drew = W4 at HX ⊢
    refine reg_take (v := ?_) 0 (some 13) rfl rfl (by kernel_rfl) (by kernel_rfl) (by kernel_rfl) (fun _ _ _ h => h) (by rfl) (fun W hW => ?_) ?_
    rotate_left
    · (go_simp; try rfl)
    simp only [Act.put, List.setIfInBounds_toArray, List.set_cons_zero, List.set_cons_succ]
    refine reg_load 1 (some 14) (fun W hW => run_loadAt_mid W q 0 22 (h.map bv) _ (HC.out W (Ext.trans HX.out hW)).1 arr16B rfl HI.out) rfl rfl rfl rfl (by kernel_rfl) (by kernel_rfl) (by kernel_rfl) (fun _ _ _ h => h) (by rfl) ?_
    simp only [Act.put, List.setIfInBounds_toArray, List.set_cons_zero, List.set_cons_succ]
    refine reg_take (v := ?_) 2 (some 15) rfl rfl (by kernel_rfl) (by kernel_rfl) (by kernel_rfl) (fun _ _ _ h => h) (by rfl) (fun W hW => ?_) ?_
    rotate_left
    · (go_simp; try rfl)
    simp only [Act.put, List.setIfInBounds_toArray, List.set_cons_zero, List.set_cons_succ]
    refine reg_load 3 (some 16) (fun W hW => g_load_slice uT (HC.out W (Ext.trans HX.out hW)).2.1) rfl rfl rfl rfl (by kernel_rfl) (by kernel_rfl) (by kernel_rfl) (fun _ _ _ h => h) (by rfl) ?_
    simp only [Act.put, List.setIfInBounds_toArray, List.set_cons_zero, List.set_cons_succ]
    refine reg_take (v := ?_) 5 (some 18) rfl rfl (by kernel_rfl) (by kernel_rfl) (by kernel_rfl) (fun _ _ _ h => h) (by rfl) (fun W hW => ?_) ?_
    rotate_left
    · (go_simp; try rfl)
    simp only [Act.put, List.setIfInBounds_toArray, List.set_cons_zero, List.set_cons_succ]
    refine reg_load 6 (some 19) (fun W hW => run_loadAt_mid W q 0 22 (h.map bv) _ (HC.out W (Ext.trans HX.out hW)).1 arr16B rfl HI.out) rfl rfl rfl rfl (by kernel_rfl) (by kernel_rfl) (by kernel_rfl) (fun _ _ _ h => h) (by rfl) ?_
    simp only [Act.put, List.setIfInBounds_toArray, List.set_cons_zero, List.set_cons_succ]
    refine reg_take (v := ?_) 7 (some 20) rfl rfl (by kernel_rfl) (by kernel_rfl) (by kernel_rfl) (fun _ _ _ h => h) (by rfl) (fun W hW => ?_) ?_
    rotate_left
    · (go_simp; try rfl)
    simp only [Act.put, List.setIfInBounds_toArray, List.set_cons_zero, List.set_cons_succ]
    refine reg_load 8 (some 21) (fun W hW => g_load_slice uT (HC.out W (Ext.trans HX.out hW)).2.1) rfl rfl rfl rfl (by kernel_rfl) (by kernel_rfl) (by kernel_rfl) (fun _ _ _ h => h) (by rfl) ?_
    simp only [Act.put, List.setIfInBounds_toArray, List.set_cons_zero, List.set_cons_succ]
    refine reg_eff 4 rfl (by kernel_rfl) (fun K hK => ?_)
    go_simp
    refine (GS.out W4 (HS.out W4 HX.out)).mono ?_
    rintro e w5 ⟨rfl, hE⟩
    refine hK.out _ _ hE ?_
    have HX := Lib.hid (Ext.trans HX.out hE)
    clear hE hK K
    try simp only [Act.put, List.setIfInBounds_toArray, List.set_cons_zero, List.set_cons_succ]
    refine reg_eff 9 rfl (by kernel_rfl) (fun K hK => ?_)
    go_simp
    refine (RS.out w5 (HS.out w5 HX.out)).mono ?_
    rintro e w6 ⟨rfl, hE⟩
    refine hK.out _ _ hE ?_
    have HX := Lib.hid (Ext.trans HX.out hE)
    clear hE hK K
    try simp only [Act.put, List.setIfInBounds_toArray, List.set_cons_zero, List.set_cons_succ]
    refine reg_take (v := ?_) 10 (some 23) rfl rfl (by kernel_rfl) (by kernel_rfl) (by kernel_rfl) (fun _ _ _ h => h) (by rfl) (fun W hW => ?_) ?_
    rotate_left
    · (go_simp; try rfl)
    simp only [Act.put, List.setIfInBounds_toArray, List.set_cons_zero, List.set_cons_succ]
    refine reg_take (v := ?_) 11 (some 24) rfl rfl (by kernel_rfl) (by kernel_rfl) (by kernel_rfl) (fun _ _ _ h => h) (by rfl) (fun W hW => ?_) ?_
    rotate_left
    · (go_simp; try rfl)
    simp only [Act.put, List.setIfInBounds_toArray, List.set_cons_zero, List.set_cons_succ]
    refine reg_take (v := ?_) 12 (some 25) rfl rfl (by kernel_rfl) (by kernel_rfl) (by kernel_rfl) (fun _ _ _ h => h) (by rfl) (fun W hW => ?_) ?_
    rotate_left
    · (go_simp; try rfl)
    simp only [Act.put, List.setIfInBounds_toArray, List.set_cons_zero, List.set_cons_succ]
    refine reg_load 13 (some 26) (fun W hW => g_load_slice uT (HC.out W (Ext.trans HX.out hW)).2.1) rfl rfl rfl rfl (by kernel_rfl) (by kernel_rfl) (by kernel_rfl) (fun _ _ _ h => h) (by rfl) ?_
    simp only [Act.put, List.setIfInBounds_toArray, List.set_cons_zero, List.set_cons_succ]
    refine reg_take (v := ?_) 14 (some 27) rfl rfl (by kernel_rfl) (by kernel_rfl) (by kernel_rfl) (fun _ _ _ h => h) (by rfl) (fun W hW => ?_) ?_
    rotate_left
    · (go_simp; try rfl)
    simp only [Act.put, List.setIfInBounds_toArray, List.set_cons_zero, List.set_cons_succ]
    refine reg_take (v := ?_) 16 (some 29) rfl rfl (by kernel_rfl) (by kernel_rfl) (by kernel_rfl) (fun _ _ _ h => h) (by rfl) (fun W hW => ?_) ?_
    rotate_left
    · (go_simp; try rfl)
    simp only [Act.put, List.setIfInBounds_toArray, List.set_cons_zero, List.set_cons_succ]
    refine reg_load 17 (some 30) (fun W hW => g_load_slice uT (HC.out W (Ext.trans HX.out hW)).2.1) rfl rfl rfl rfl (by kernel_rfl) (by kernel_rfl) (by kernel_rfl) (fun _ _ _ h => h) (by rfl) ?_
    simp only [Act.put, List.setIfInBounds_toArray, List.set_cons_zero, List.set_cons_succ]
    refine reg_take (v := ?_) 20 (some 33) rfl rfl (by kernel_rfl) (by kernel_rfl) (by kernel_rfl) (fun _ _ _ h => h) (by rfl) (fun W hW => ?_) ?_
    rotate_left
    · (go_simp; try rfl)
    simp only [Act.put, List.setIfInBounds_toArray, List.set_cons_zero, List.set_cons_succ]
    refine reg_load 21 (some 34) (fun W hW => g_load_slice uT (HC.out W (Ext.trans HX.out hW)).2.1) rfl rfl rfl rfl (by kernel_rfl) (by kernel_rfl) (by kernel_rfl) (fun _ _ _ h => h) (by rfl) ?_
    simp only [Act.put, List.setIfInBounds_toArray, List.set_cons_zero, List.set_cons_succ]
    refine reg_take (v := ?_) 22 (some 35) rfl rfl (by kernel_rfl) (by kernel_rfl) (by kernel_rfl) (fun _ _ _ h => h) (by rfl) (fun W hW => ?_) ?_
    rotate_left
    · (go_simp; try rfl)
    simp only [Act.put, List.setIfInBounds_toArray, List.set_cons_zero, List.set_cons_succ]
    refine reg_eff 15 rfl (by kernel_rfl) (fun K hK => ?_)
    go_simp
    refine (PN.out w6).mono ?_
    rintro e w7 ⟨rfl, rfl⟩
    have hE : Ext w6 w6 := Below.refl _ _
    refine hK.out _ _ hE ?_
    have HX := Lib.hid (Ext.trans HX.out hE)
    clear hE hK K
    try simp only [Act.put, List.setIfInBounds_toArray, List.set_cons_zero, List.set_cons_succ]
    refine reg_eff 18 rfl (by kernel_rfl) (fun K hK => ?_)
    go_simp
    refine (PD.out w6 (HS.out w6 HX.out)).mono ?_
    rintro e wZ ⟨v7, rfl, hO7, hE⟩
    obtain ⟨A7, c7, rfl, hl7, h71, h72, hr7⟩ := own_read hO7
    clear hO7 hl7 h71 h72 hr7
    refine hK.out _ _ hE ?_
    have HX := Lib.hid (Ext.trans HX.out hE)
    clear hE hK K
    try simp only [Act.put, List.setIfInBounds_toArray, List.set_cons_zero, List.set_cons_succ]
    refine reg_take (v := ?_) 19 (some 32) rfl rfl (by kernel_rfl) (by kernel_rfl) (by kernel_rfl) (fun _ _ _ h => h) (by rfl) (fun W hW => ?_) ?_
    rotate_left
    · (go_simp; try rfl)
    simp only [Act.put, List.setIfInBounds_toArray, List.set_cons_zero, List.set_cons_succ]
    refine reg_take (v := ?_) 23 (some 36) rfl rfl (by kernel_rfl) (by kernel_rfl) (by kernel_rfl) (fun _ _ _ h => h) (by rfl) (fun W hW => ?_) ?_
    rotate_left
    · (go_simp; try rfl)
    simp only [Act.put, List.setIfInBounds_toArray, List.set_cons_zero, List.set_cons_succ]
    refine reg_take (v := ?_) 24 (some 37) rfl rfl (by kernel_rfl) (by kernel_rfl) (by kernel_rfl) (fun _ _ _ h => h) (by rfl) (fun W hW => ?_) ?_
    rotate_left
    · (go_simp; try rfl)
    simp only [Act.put, List.setIfInBounds_toArray, List.set_cons_zero, List.set_cons_succ]
    refine reg_take (v := ?_) 25 (some 38) rfl rfl (by kernel_rfl) (by kernel_rfl) (by kernel_rfl) (fun _ _ _ h => h) (by rfl) (fun W hW => ?_) ?_
    rotate_left
    · (go_simp; try rfl)
    simp only [Act.put, List.setIfInBounds_toArray, List.set_cons_zero, List.set_cons_succ]
    refine reg_take (v := ?_) 26 (some 39) rfl rfl (by kernel_rfl) (by kernel_rfl) (by kernel_rfl) (fun _ _ _ h => h) (by rfl) (fun W hW => ?_) ?_
    rotate_left
    · (go_simp; try rfl)
    simp only [Act.put, List.setIfInBounds_toArray, List.set_cons_zero, List.set_cons_succ]
    refine reg_take (v := ?_) 27 (some 40) rfl rfl (by kernel_rfl) (by kernel_rfl) (by kernel_rfl) (fun _ _ _ h => h) (by rfl) (fun W hW => ?_) ?_
    rotate_left
    · (go_simp; try rfl)
    simp only [Act.put, List.setIfInBounds_toArray, List.set_cons_zero, List.set_cons_succ]
    refine reg_load 28 (some 41) (fun W hW => load_cell Try.underlying3 (HC.out W (Ext.trans HX.out hW)).2.2.1) rfl rfl rfl rfl (by kernel_rfl) (by kernel_rfl) (by kernel_rfl) (fun _ _ _ h => h) (by rfl) ?_
    simp only [Act.put, List.setIfInBounds_toArray, List.set_cons_zero, List.set_cons_succ]
    refine reg_take (v := ?_) 29 (some 42) rfl rfl (by kernel_rfl) (by kernel_rfl) (by kernel_rfl) (fun _ _ _ h => h) (by rfl) (fun W hW => ?_) ?_
    rotate_left
    · (go_simp; try rfl)
    simp only [Act.put, List.setIfInBounds_toArray, List.set_cons_zero, List.set_cons_succ]
    refine reg_take (v := ?_) 30 (some 43) rfl rfl (by kernel_rfl) (by kernel_rfl) (by kernel_rfl) (fun _ _ _ h => h) (by rfl) (fun W hW => ?_) ?_
    rotate_left
    · (go_simp; try rfl)
    simp only [Act.put, List.setIfInBounds_toArray, List.set_cons_zero, List.set_cons_succ]
    refine reg_take (v := ?_) 31 (some 44) rfl rfl (by kernel_rfl) (by kernel_rfl) (by kernel_rfl) (fun _ _ _ h => h) (by rfl) (fun W hW => ?_) ?_
    rotate_left
    · (go_simp; try rfl)
    simp only [Act.put, List.setIfInBounds_toArray, List.set_cons_zero, List.set_cons_succ]
    refine reg_load 32 (some 45) (fun W hW => load_cell Try.underlying3 (HC.out W (Ext.trans HX.out hW)).2.2.1) rfl rfl rfl rfl (by kernel_rfl) (by kernel_rfl) (by kernel_rfl) (fun _ _ _ h => h) (by rfl) ?_
    simp only [Act.put, List.setIfInBounds_toArray, List.set_cons_zero, List.set_cons_succ]
    refine reg_eff 33 rfl (by kernel_rfl) (fun K hK => ?_)
    go_simp
    refine (gpad_neg N _ hle).mono ?_
    rintro e w6 ⟨rfl, rfl⟩
    have hE : Ext wZ wZ := Below.refl _ _
    refine hK.out _ _ hE ?_
    have HX := Lib.hid (Ext.trans HX.out hE)
    clear hE hK K
    try simp only [Act.put, List.setIfInBounds_toArray, List.set_cons_zero, List.set_cons_succ]
    refine reg_take (v := ?_) 34 (some 47) rfl rfl (by kernel_rfl) (by kernel_rfl) (by kernel_rfl) (fun _ _ _ h => h) (by rfl) (fun W hW => ?_) ?_
    rotate_left
    · (go_simp; try rfl)
    simp only [Act.put, List.setIfInBounds_toArray, List.set_cons_zero, List.set_cons_succ]
    refine reg_take (v := ?_) 35 (some 48) rfl rfl (by kernel_rfl) (by kernel_rfl) (by kernel_rfl) (fun _ _ _ h => h) (by rfl) (fun W hW => ?_) ?_
    rotate_left
    · (go_simp; try rfl)
    simp only [Act.put, List.setIfInBounds_toArray, List.set_cons_zero, List.set_cons_succ]
    refine reg_take (v := ?_) 36 (some 49) rfl rfl (by kernel_rfl) (by kernel_rfl) (by kernel_rfl) (fun _ _ _ h => h) (by rfl) (fun W hW => ?_) ?_
    rotate_left
    · (go_simp; try rfl)
    simp only [Act.put, List.setIfInBounds_toArray, List.set_cons_zero, List.set_cons_succ]
    refine reg_take (v := ?_) 37 (some 50) rfl rfl (by kernel_rfl) (by kernel_rfl) (by kernel_rfl) (fun _ _ _ h => h) (by rfl) (fun W hW => ?_) ?_
    rotate_left
    · (go_simp; try rfl)
    simp only [Act.put, List.setIfInBounds_toArray, List.set_cons_zero, List.set_cons_succ]
    refine reg_take (v := ?_) 38 (some 51) rfl rfl (by kernel_rfl) (by kernel_rfl) (by kernel_rfl) (fun _ _ _ h => h) (by rfl) (fun W hW => ?_) ?_
    rotate_left
    · (go_simp; try rfl)
    simp only [Act.put, List.setIfInBounds_toArray, List.set_cons_zero, List.set_cons_succ]
    refine reg_conv 39 (some 52) (fun W hW => conv_string W (some ⟨g3, 0, none⟩) 16 16 L HLL.out (S3.out.below (Ext.trans HX.out hW))) rfl rfl rfl rfl (by kernel_rfl) (by kernel_rfl) (by kernel_rfl) (fun _ _ _ h => h) (by rfl) ?_
    simp only [Act.put, List.setIfInBounds_toArray, List.set_cons_zero, List.set_cons_succ]
    refine reg_take (v := ?_) 40 (some 53) rfl rfl (by kernel_rfl) (by kernel_rfl) (by kernel_rfl) (fun _ _ _ h => h) (by rfl) (fun W hW => ?_) ?_
    rotate_left
    · (go_simp; try rfl)
    simp only [Act.put, List.setIfInBounds_toArray, List.set_cons_zero, List.set_cons_succ]
    refine reg_load 41 (some 54) (fun W hW => load_cell Try.underlying3 (HC.out W (Ext.trans HX.out hW)).2.2.1) rfl rfl rfl rfl (by kernel_rfl) (by kernel_rfl) (by kernel_rfl) (fun _ _ _ h => h) (by rfl) ?_
    simp only [Act.put, List.setIfInBounds_toArray, List.set_cons_zero, List.set_cons_succ]
    refine reg_take (v := ?_) 42 (some 55) rfl rfl (by kernel_rfl) (by kernel_rfl) (by kernel_rfl) (fun _ _ _ h => h) (by rfl) (fun W hW => ?_) ?_
    rotate_left
    · (go_simp; try rfl)
    simp only [Act.put, List.setIfInBounds_toArray, List.set_cons_zero, List.set_cons_succ]
    refine reg_load 43 (some 56) (fun W hW => load_cell Try.underlying3 (HC.out W (Ext.trans HX.out hW)).2.2.2) rfl rfl rfl rfl (by kernel_rfl) (by kernel_rfl) (by kernel_rfl) (fun _ _ _ h => h) (by rfl) ?_
    simp only [Act.put, List.setIfInBounds_toArray, List.set_cons_zero, List.set_cons_succ]
    refine reg_eff 44 rfl (by kernel_rfl) (fun K hK => ?_)
    go_simp
    refine (RL.out _).mono ?_
    rintro e w8 ⟨v8, rfl, hO8, hE⟩
    obtain ⟨A8, c8, rfl, hl8, h81, h82, hr8⟩ := own_read hO8
    have S8 : Hid (Sl w8 A8 c8 L) := ⟨by omega, h82, hr8⟩
    clear hO8 hl8 h81 h82 hr8
    refine hK.out _ _ hE ?_
    have HX := Lib.hid (Ext.trans HX.out hE)
    clear hE hK K
    try simp only [Act.put, List.setIfInBounds_toArray, List.set_cons_zero, List.set_cons_succ]
    refine reg_conv 45 (some 58) (fun W hW => conv_string W A8 16 c8 L HLL.out (S8.out.below hW)) rfl rfl rfl rfl (by kernel_rfl) (by kernel_rfl) (by kernel_rfl) (fun _ _ _ h => h) (by rfl) ?_
    simp only [Act.put, List.setIfInBounds_toArray, List.set_cons_zero, List.set_cons_succ]
    refine reg_take (v := ?_) 46 (some 59) rfl rfl (by kernel_rfl) (by kernel_rfl) (by kernel_rfl) (fun _ _ _ h => h) (by rfl) (fun W hW => ?_) ?_
    rotate_left
    · (go_simp; try rfl)
    simp only [Act.put, List.setIfInBounds_toArray, List.set_cons_zero, List.set_cons_succ]
    refine reg_take (v := ?_) 47 (some 60) rfl rfl (by kernel_rfl) (by kernel_rfl) (by kernel_rfl) (fun _ _ _ h => h) (by rfl) (fun W hW => ?_) ?_
    rotate_left
    · (go_simp; try rfl)
    simp only [Act.put, List.setIfInBounds_toArray, List.set_cons_zero, List.set_cons_succ]
    refine reg_take (v := ?_) 48 (some 61) rfl rfl (by kernel_rfl) (by kernel_rfl) (by kernel_rfl) (fun _ _ _ h => h) (by rfl) (fun W hW => ?_) ?_
    rotate_left
    · (go_simp; try rfl)
    simp only [Act.put, List.setIfInBounds_toArray, List.set_cons_zero, List.set_cons_succ]
    refine reg_eff 49 rfl (by kernel_rfl) (fun K hK => ?_)
    go_simp
    refine (gawake_any _).mono ?_
    rintro e w9 ⟨rfl, hE⟩
    refine hK.out _ _ hE ?_
    have HX := Lib.hid (Ext.trans HX.out hE)
    clear hE hK K
    try simp only [Act.put, List.setIfInBounds_toArray, List.set_cons_zero, List.set_cons_succ]
    refine reg_take (v := ?_) 50 (some 63) rfl rfl (by kernel_rfl) (by kernel_rfl) (by kernel_rfl) (fun _ _ _ h => h) (by rfl) (fun W hW => ?_) ?_
    rotate_left
    · (go_simp; try rfl)
    simp only [Act.put, List.setIfInBounds_toArray, List.set_cons_zero, List.set_cons_succ]
    refine reg_take (v := ?_) 51 (some 2) rfl rfl (by kernel_rfl) (by kernel_rfl) (by kernel_rfl) (fun _ _ _ h => h) (by rfl) (fun W hW => ?_) ?_
    rotate_left
    · (go_simp; try rfl)
    simp only [Act.put, List.setIfInBounds_toArray, List.set_cons_zero, List.set_cons_succ]
    refine reg_done (by kernel_rfl) ?_
    go_wp2
    go_ret
    exact ⟨rfl, B3.out.step HX.out⟩
end Go.Proofs.Ytdogfopnjojliaa

/- The contract of sha.whole once more: what it hands back lies in what it was handed. -/
import Derived.Test.YtimgggpojbpfkaaGreatDoorSha7
namespace Go.Proofs.YtimgggpojbpfkaaGreatDoor
open Go.RowKit
set_option maxRecDepth 100000
set_option linter.unusedVariables false
set_option linter.unusedSimpArgs false
/-- nothing at A lies in block g -/
def ApartG (A : Option Addr) (g : Nat) : Prop := ∀ a, A = some a → a.block ≠ g
theorem apart_cut {A : Option Addr} {g c k : Nat} (h : ApartG A g) : ApartG (cutS A c k) g := by
  intro a ha
  unfold cutS at ha
  split at ha
  · exact h a ha
  · cases A with
    | none => simp at ha
    | some x =>
      simp only [Option.map_some, Option.some.injEq] at ha
      rw [← ha]
      have : (x.add k).block = x.block := by unfold Addr.add; split <;> rfl
      rw [this]; exact h x rfl
set_option maxHeartbeats 2000000 in
theorem whole_ap (h : List W32) (A : Option Addr) (n c : Nat) (bs : List UInt8) (w : World) (hh : h.length = 8) (hl : bs.length = n) (hS : Sl w A c bs) (hR : Rnd w) :
    Calls Tryz.prog 58 #[.agg (h.map wv).toArray, .slice A n c] w fun e w' => ∃ A' c', e = .returned (.tuple #[.agg ((wholeN h bs (n / 64)).map wv).toArray, .slice A' (n % 64) c']) ∧ Sl w A' c' (bs.drop (64 * (n / 64))) ∧ (∀ g, ApartG A g → ApartG A' g) ∧ Below w.heap.size w w' := by
  have HH := Lib.hid hh; have HL := Lib.hid hl; have HS := Lib.hid hS; have HR := Lib.hid hR
  clear hh hl hS hR
  go_enter Tryz.func58, Tryz.ntmps58
  go_wp2
  refine wp_scope_label 0 (fun a' w' => ∃ (j : Nat) (A' : Option Addr) (m c' : Nat) (u6 u7 u8 u9 u10 u11 u12 u13 u14 u15 u16 u17 u18 u19 : Value),
      a' = { tmps := #[.agg (h.map wv).toArray, .slice A' m c', .pointer (some ⟨w.heap.size, 0, none⟩), undef, .pointer (some ⟨w.heap.size + 1, 0, none⟩), .slice none 0 0, u6, u7, u8, u9, u10, u11, u12, u13, u14, u15, u16, u17, u18, u19], defers := [] } ∧
      Hid (64 * j + m = n) ∧ Hid (Sl w A' c' (bs.drop (64 * j))) ∧ Hid (Below w.heap.size w w') ∧ Hid (w'.heap[w.heap.size]? = some (.cells ((wholeN h bs j).map wv).toArray 85 (0, 0))) ∧
      Hid (w'.heap[w.heap.size + 1]? = some (.cells (List.replicate 8 (Value.int .u32 0)).toArray 85 (0, 0))) ∧ Hid (∀ g, ApartG A g → ApartG A' g)) (fun a' _ => (sliceLen (a'.tmps.getD 1 undef))) rfl ?first ?pass
  case first =>
    refine ⟨0, A, n, c, _, _, _, _, _, _, _, _, _, _, _, _, _, _, rfl, ?_, HS, ?_, ?_, ?_, fun g h => h⟩
    · show _ = _; omega
    · exact (heap2 w _ _).2.2
    · exact (heap2 w _ _).1
    · exact (heap2 w _ _).2.1
  case pass =>
    rintro a' w' ⟨j, A', m, c', u6, u7, u8, u9, u10, u11, u12, u13, u14, u15, u16, u17, u18, u19, rfl, HJ, HA, HB, H0, H1, HAP⟩
    generalize hg1 : w.heap.size + 1 = g1 at H1 ⊢
    have HG1 := Lib.hid hg1
    clear hg1
    have hdl : (bs.drop (64 * j)).length = m := by have h1 := HL.out; have h2 := HJ.out; rw [List.length_drop]; omega
    by_cases hm : 64 ≤ m
    · have e1 : (64 : Int) ≤ (m : Int) := by omega
      obtain ⟨W1, hW1⟩ : ∃ W1, W1 = w'.alloc (.cells (List.replicate 64 (Value.int .u8 0)).toArray 109) := ⟨_, rfl⟩
      have F6 : W1.heap[w'.heap.size]? = some (.cells (List.replicate 64 (Value.int .u8 0)).toArray 109 (0, 0)) := by rw [hW1]; exact heap_alloc_new' w' _
      have B1 : Below w'.heap.size w' W1 := by rw [hW1]; exact (Below.refl _ _).alloc (Nat.le_refl _) _
      have B1' := HB.out.step B1
      obtain ⟨X, hX⟩ : ∃ X, X = (bs.drop (64 * j)).take 64 := ⟨_, rfl⟩
      have hXl : X.length = 64 := by rw [hX, List.length_take, hdl]; omega
      have hrow : RowAt W1 w.heap.size A' (X.map bv) := by
        have := ((HA.out.2.2.below B1').take 64); rw [← List.map_take, ← hX] at this; exact this
      obtain ⟨w2, hrun, hblk, hsz, hgr⟩ := copy_run uT s8 (sT := 22) 3 W1 w'.heap.size 0 (List.replicate 64 (Value.int .u8 0)) 109 F6 (some ⟨w'.heap.size, 0, none⟩) A' 64 64 m c' w.heap.size (X.map bv) (by simp [hXl]; omega) (fun _ => rfl) hrow (by simp [hXl]) (bv_one _)
      have hsp : splice (List.replicate 64 (Value.int .u8 0)) 0 (X.map bv) = X.map bv := by
        have := splice_first (Value.int .u8 0) 64 0 (X.map bv) (by simp [hXl]); simpa using this
      rw [hsp] at hblk
      have HRUN := Lib.hid hrun
      have K6 := Lib.hid hblk
      have h0lt := lt_of_heap H0.out
      have h1lt := lt_of_heap H1.out
      have K0 : Hid (w2.heap[w.heap.size]? = _) := (hgr.block _ (Nat.lt_of_lt_of_le h0lt B1.size) (by simp; omega)).trans ((B1.block _ h0lt).trans H0.out)
      have K1 : Hid (w2.heap[g1]? = _) := (hgr.block _ (Nat.lt_of_lt_of_le h1lt B1.size) (by simp; omega)).trans ((B1.block _ h1lt).trans H1.out)
      have KB : Hid (Below w.heap.size w w2) := B1'.trans (grown_below hgr (Nat.le_of_lt h0lt) B1'.size)
      have HW1 := Lib.hid hW1
      have HX := Lib.hid hX; have HXL := Lib.hid hXl
      have hcut := cut_from uT s8 A' m c' .i64 64 (by omega) e1
      rw [show (64 : Int).toNat = 64 from rfl] at hcut
      clear hrun hblk hgr hsp hrow B1 B1' F6 hXl hX hdl h0lt h1lt hW1
      have HRUN' := HRUN.out
      rw [HW1.out] at HRUN'
      have HRUN2 := Lib.hid HRUN'
      clear HRUN HRUN' HW1 hsz W1
      go_wp2_with (first
        | (refine wpList_cpy rfl (.tmp 10) (.tmp 11) 22 22 rfl HRUN2.out ?_)
        | fail)
      have hwl := Lib.hid (wholeN_len h bs j HH.out)
      have HRW : Hid (Rnd w2) := HR.out.ext KB.out
      have HBL : Hid (blockL (wholeN h bs j) X = wholeN h bs (j + 1)) := by show _ = _; rw [HX.out]; rfl
      have hbl : Hid ((blockL (wholeN h bs j) X).length = 8) := blockL_len _ _ hwl.out
      obtain ⟨Y, HY⟩ : ∃ Y, Hid (blockL (wholeN h bs j) X = Y) := ⟨_, rfl⟩
      rw [HY.out] at HBL hbl
      have HXO := HX
      clear HX
      have N0 : Hid (w2.drew.heap[w.heap.size]? = some (.cells ((wholeN h bs j).map wv).toArray 85 (0, 0))) := K0.out
      have N1 : Hid (w2.drew.heap[g1]? = some (.cells (List.replicate 8 (Value.int .u32 0)).toArray 85 (0, 0))) := K1.out
      have N6 : Hid (w2.drew.heap[w'.heap.size]? = some (.cells (X.map bv).toArray 109 (0, 0))) := K6.out
      have NB : Hid (Below w.heap.size w w2.drew) := KB.out.drew
      have NR : Hid (Rnd w2.drew) := HR.out.ext NB.out
      clear K0 K1 K6 KB HRW HRUN2
      refine regS_start (AnyR) (by kernel_rfl) ?_
      try simp only [Act.put, List.setIfInBounds_toArray, List.set_cons_zero, List.set_cons_succ]
      generalize w2.drew = W3 at N0 N1 N6 NB NR ⊢
      have HX : Hid (AnyR W3 W3) := trivial
      refine regS_take (v := ?_) 3 (some 16) rfl rfl (by kernel_rfl) (by kernel_rfl) (by kernel_rfl) (fun _ _ _ h => h) (by rfl) (fun W hW => ?_) ?_
      rotate_left
      · (go_simp; try rfl)
      simp only [Act.put, List.setIfInBounds_toArray, List.set_cons_zero, List.set_cons_succ]
      refine regS_take (v := ?_) 4 (some 17) rfl rfl (by kernel_rfl) (by kernel_rfl) (by kernel_rfl) (fun _ _ _ h => h) (by rfl) (fun W hW => ?_) ?_
      rotate_left
      · (go_simp; try rfl)
      simp only [Act.put, List.setIfInBounds_toArray, List.set_cons_zero, List.set_cons_succ]
      refine regS_eff2 0 1 rfl rfl (by kernel_rfl) (fun K hK => ?_) (fun K hK => ?_)
      · skip
        refine step_ld rfl 85 (.tmp 2) rfl (load_arr arr8W rfl (by rw [List.length_map, hwl.out]; exact i8W) N0.out) ?_
        have hE : AnyR W3 W3 := trivial
        refine hK.out _ _ hE ?_
        have HX := Lib.hid (Pre.trans HX.out hE)
        clear hE hK K
        try simp only [Act.put, List.setIfInBounds_toArray, List.set_cons_zero, List.set_cons_succ]
        refine regS_eff 1 rfl (by kernel_rfl) (fun K hK => ?_)
        refine step_ld rfl 109 (.tmp 6) rfl (load_arr arr64B rfl (by rw [List.length_map, HXL.out]; exact i64B) N6.out) ?_
        have hE : AnyR W3 W3 := trivial
        refine hK.out _ _ hE ?_
        have HX := Lib.hid (Pre.trans HX.out hE)
        clear hE hK K
        try simp only [Act.put, List.setIfInBounds_toArray, List.set_cons_zero, List.set_cons_succ]
        refine regS_eff 2 rfl (by kernel_rfl) (fun K hK => ?_)
        go_simp
        refine (block_any (wholeN h bs j) X W3 hwl.out HXL.out NR.out).mono ?_
        rw [HY.out]
        rintro e w4 ⟨rfl, hE0⟩
        have L0 := Lib.hid ((hE0.block _ (lt_of_heap N0.out)).trans N0.out)
        have L1 := Lib.hid ((hE0.block _ (lt_of_heap N1.out)).trans N1.out)
        have LB := Lib.hid (NB.out.step hE0)
        have hE : AnyR W3 w4 := trivial
        clear hE0
        refine hK.out _ _ hE ?_
        have HX := Lib.hid (Pre.trans HX.out hE)
        clear hE hK K
        try simp only [Act.put, List.setIfInBounds_toArray, List.set_cons_zero, List.set_cons_succ]
        refine regS_eff 5 rfl (by kernel_rfl) (fun K hK => ?_)
        refine step_st1 rfl 85 (.tmp 2) (.tmp 15) rfl (store_arr (cs := Y.map wv) (by rw [List.length_map, hbl.out]; exact i8W) (wv_one _) L0.out (by rw [List.length_map, List.length_map, hbl.out, hwl.out])) ?_
        generalize hV : World.setRow _ _ _ = W5
        have M0 := Lib.hid (heap_of_setRow hV L0.out)
        have M1 := Lib.hid (heap_of_other hV (by have := HG1.out; omega) L1.out)
        have MB := Lib.hid (LB.out.trans (below_of_setRow hV (Nat.le_refl _) LB.out.size))
        have hE : AnyR w4 W5 := trivial
        clear hV
        refine hK.out _ _ hE ?_
        have HX := Lib.hid (Pre.trans HX.out hE)
        clear hE hK K
        try simp only [Act.put, List.setIfInBounds_toArray, List.set_cons_zero, List.set_cons_succ]
        refine regS_take (v := ?_) 6 (some 1) rfl rfl (by kernel_rfl) (by kernel_rfl) (by kernel_rfl) (fun _ _ _ h => h) (by rfl) (fun W hW => ?_) ?_
        rotate_left
        · (go_simp; try rfl)
        simp only [Act.put, List.setIfInBounds_toArray, List.set_cons_zero, List.set_cons_succ]
        refine regS_done (by kernel_rfl) ?_
        go_wp2
        go_step3
        have hg := HG1.out
        subst hg
        rw [HBL.out] at M0
        have hA := sl_cut HA.out (k := 64) (by have h1 := HL.out; have h2 := HJ.out; rw [List.length_drop]; omega)
        rw [List.drop_drop] at hA
        refine ⟨rfl, ⟨j + 1, cutS A' c' 64, m - 64, c' - 64, _, _, _, _, _, _, _, _, _, _, _, _, _, _, rfl, ?_, ?_, MB, M0, M1, fun g h => apart_cut (HAP.out g h)⟩, ?_⟩
        · have h2 := HJ.out; show _ = _; omega
        · exact hA
        · show m - 64 < m; omega
      · skip
        refine step_ld rfl 109 (.tmp 6) rfl (load_arr arr64B rfl (by rw [List.length_map, HXL.out]; exact i64B) N6.out) ?_
        have hE : AnyR W3 W3 := trivial
        refine hK.out _ _ hE ?_
        have HX := Lib.hid (Pre.trans HX.out hE)
        clear hE hK K
        try simp only [Act.put, List.setIfInBounds_toArray, List.set_cons_zero, List.set_cons_succ]
        refine regS_eff 0 rfl (by kernel_rfl) (fun K hK => ?_)
        refine step_ld rfl 85 (.tmp 2) rfl (load_arr arr8W rfl (by rw [List.length_map, hwl.out]; exact i8W) N0.out) ?_
        have hE : AnyR W3 W3 := trivial
        refine hK.out _ _ hE ?_
        have HX := Lib.hid (Pre.trans HX.out hE)
        clear hE hK K
        try simp only [Act.put, List.setIfInBounds_toArray, List.set_cons_zero, List.set_cons_succ]
        refine regS_eff 2 rfl (by kernel_rfl) (fun K hK => ?_)
        go_simp
        refine (block_any (wholeN h bs j) X W3 hwl.out HXL.out NR.out).mono ?_
        rw [HY.out]
        rintro e w4 ⟨rfl, hE0⟩
        have L0 := Lib.hid ((hE0.block _ (lt_of_heap N0.out)).trans N0.out)
        have L1 := Lib.hid ((hE0.block _ (lt_of_heap N1.out)).trans N1.out)
        have LB := Lib.hid (NB.out.step hE0)
        have hE : AnyR W3 w4 := trivial
        clear hE0
        refine hK.out _ _ hE ?_
        have HX := Lib.hid (Pre.trans HX.out hE)
        clear hE hK K
        try simp only [Act.put, List.setIfInBounds_toArray, List.set_cons_zero, List.set_cons_succ]
        refine regS_eff 5 rfl (by kernel_rfl) (fun K hK => ?_)
        refine step_st1 rfl 85 (.tmp 2) (.tmp 15) rfl (store_arr (cs := Y.map wv) (by rw [List.length_map, hbl.out]; exact i8W) (wv_one _) L0.out (by rw [List.length_map, List.length_map, hbl.out, hwl.out])) ?_
        generalize hV : World.setRow _ _ _ = W5
        have M0 := Lib.hid (heap_of_setRow hV L0.out)
        have M1 := Lib.hid (heap_of_other hV (by have := HG1.out; omega) L1.out)
        have MB := Lib.hid (LB.out.trans (below_of_setRow hV (Nat.le_refl _) LB.out.size))
        have hE : AnyR w4 W5 := trivial
        clear hV
        refine hK.out _ _ hE ?_
        have HX := Lib.hid (Pre.trans HX.out hE)
        clear hE hK K
        try simp only [Act.put, List.setIfInBounds_toArray, List.set_cons_zero, List.set_cons_succ]
        refine regS_take (v := ?_) 6 (some 1) rfl rfl (by kernel_rfl) (by kernel_rfl) (by kernel_rfl) (fun _ _ _ h => h) (by rfl) (fun W hW => ?_) ?_
        rotate_left
        · (go_simp; try rfl)
        simp only [Act.put, List.setIfInBounds_toArray, List.set_cons_zero, List.set_cons_succ]
        refine regS_done (by kernel_rfl) ?_
        go_wp2
        go_step3
        have hg := HG1.out
        subst hg
        rw [HBL.out] at M0
        have hA := sl_cut HA.out (k := 64) (by have h1 := HL.out; have h2 := HJ.out; rw [List.length_drop]; omega)
        rw [List.drop_drop] at hA
        refine ⟨rfl, ⟨j + 1, cutS A' c' 64, m - 64, c' - 64, _, _, _, _, _, _, _, _, _, _, _, _, _, _, rfl, ?_, ?_, MB, M0, M1, fun g h => apart_cut (HAP.out g h)⟩, ?_⟩
        · have h2 := HJ.out; show _ = _; omega
        · exact hA
        · show m - 64 < m; omega
    · have hq : n / 64 = j ∧ n % 64 = m := by have h2 := HJ.out; omega
      have HQ1 := Lib.hid hq.1; have HQ2 := Lib.hid hq.2
      have hwl := Lib.hid (wholeN_len h bs j HH.out)
      clear hq hdl
      have e1 : ¬ ((64 : Int) ≤ (m : Int)) := by omega
      obtain ⟨Y, HY⟩ : ∃ Y, Hid (wholeN h bs j = Y) := ⟨_, rfl⟩
      rw [HY.out] at H0 hwl
      go_wp2_with (first
        | (refine wpList_ld rfl 85 (.tmp 2) rfl (load_arr arr8W rfl (by rw [List.length_map, hwl.out]; exact i8W) H0.out) ?_)
        | (refine wpList_st rfl 85 (.tmp 4) (.tmp 18) rfl (store_arr (cs := Y.map wv) (by rw [List.length_map, hwl.out]; exact i8W) (wv_one _) H1.out (by rw [List.length_map, hwl.out]; simp)) ?_))
      have hres := setRow_heap w' g1 _ (Y.map wv).toArray 85 _ H1.out
      simp only [Exit.jump]
      refine bodyPost_ret (results_row_tmp (P := Tryz.prog) rfl _ _ g1 85 (Y.map wv).toArray (0, 0) _ rfl hres arr8W rfl (by rw [List.size_toArray, List.length_map, hwl.out]; exact i8W)) rfl ?_
      rw [HQ1.out, HQ2.out, HY.out]
      exact ⟨A', c', rfl, HA.out, HAP.out, HB.out.trans (grown_below (grown_setRow _ _ _) (by have := HG1.out; omega) HB.out.size)⟩
end Go.Proofs.YtimgggpojbpfkaaGreatDoor

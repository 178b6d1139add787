/- Laws of layer 4: the block of any key, nonce and counter, and any quarter round. -/
import Derived.Test.YteboeeijgpghoaaLawsC1
import Derived.Test.YteboeeijgpghoaaRefC3
namespace Go.Proofs.Yteboeeijgpghoaa
open Go.RowKit
set_option linter.unusedVariables false
set_option linter.unusedSimpArgs false
theorem range_row {W : World} {g o B : Nat} {cs : List Value} (h : W.rangeAt g o cs) (hg : g < B) : RowAt W B (some ⟨g, o, none⟩) cs := .inr ⟨g, o, rfl, hg, fun j u hu => h j u hu⟩
theorem ZAt.key {W : World} {g : Nat} {k n : List UInt8} {c : W32} (h : ZAt W g k n c) (hk : k.length = 32) : Sl W (some ⟨g, 0, none⟩) 32 k := ⟨by omega, by simp [maxLen], range_row h.2.1 h.1⟩
theorem ZAt.nonce {W : World} {g : Nat} {k n : List UInt8} {c : W32} (h : ZAt W g k n c) (hn : n.length = 12) : Sl W (some ⟨g, 32, none⟩) 12 n := ⟨by omega, by simp [maxLen], range_row h.2.2.1 h.1⟩
theorem eql_four (a b c d : W32) (W : World) : (binOp .eql 27 (.agg ([a, b, c, d].map wv).toArray) (.agg ([a, b, c, d].map wv).toArray)).run Try.prog W = .ok (.bool true) W := by
  have h := eql_arr (P := Try.prog) arr4Wc Try.underlying24 s32 ([a, b, c, d].map fun x => (x.toNat : Int)) ([a, b, c, d].map fun x => (x.toNat : Int)) rfl rfl W
  rw [decide_eq_true rfl] at h
  exact h
theorem list4 {α : Type} {l : List α} (h : l.length = 4) : ∃ a b c d, l = [a, b, c, d] := by
  match l, h with
  | [a, b, c, d], _ => exact ⟨a, b, c, d, rfl⟩
set_option maxHeartbeats 4000000 in
theorem chachaBlocks_walk (w : World) (y : List UInt8 × List UInt8 × BitVec 32) (l : y.1.length = 32 ∧ y.2.1.length = 12) (q : List W32) (hq : q.length = 4) :
    Calls Try.prog 3 #[.agg (zCells y.1 y.2.1 y.2.2).toArray, .agg (q.map wv).toArray] w fun e w' => e = .returned (.bool true) ∧ Below w.heap.size w w' := by
  obtain ⟨k, n, ct⟩ := y
  obtain ⟨hk, hn⟩ := l
  simp only at hk hn ⊢
  obtain ⟨qa, qb, qc, qd, rfl⟩ := list4 hq
  have HK := Lib.hid hk; have HN := Lib.hid hn
  clear hk hn hq
  obtain ⟨Z, HZ⟩ : ∃ Z, Hid ((zCells k n ct).toArray = Z) := ⟨_, rfl⟩
  rw [HZ.out]
  obtain ⟨QV, HQV⟩ : ∃ Z, Hid (([qa, qb, qc, qd].map wv).toArray = Z) := ⟨_, rfl⟩
  rw [HQV.out]
  have BL := Lib.hid (fun W => cblock_any k n ct W HK.out HN.out)
  have RB := Lib.hid (fun A A' c c' W h h' => refBlockC_any A A' c c' k n ct W HK.out HN.out h h')
  have hXl := blockC_len k n ct
  generalize blockC k n ct = X at BL RB hXl
  have HXL := Lib.hid hXl
  clear hXl
  have QU := Lib.hid (fun W => quarter_any qa qb qc qd W)
  have RQ := Lib.hid (fun W => refQuarter_any qa qb qc qd W)
  generalize qA qa qb qc qd = ra at QU RQ
  generalize qB qa qb qc qd = rb at QU RQ
  generalize qC qa qb qc qd = rc at QU RQ
  generalize qD qa qb qc qd = rd at QU RQ
  have Z0 := zat_new w k n ct 26 HK.out HN.out
  rw [HZ.out] at Z0
  have Z1 := Z0.ext ((Below.refl _ (w.alloc (.cells Z 26))).alloc (Nat.le_refl _) (.cells QV 27))
  have R3 := Z1.2.2.2
  have Z1 := Lib.hid Z1
  obtain ⟨f0, f1, f2⟩ := heap2c w (.cells Z 26) (.cells QV 27)
  have F1 := Lib.hid f1; have F2 := Lib.hid f2
  clear HZ Z0 f0 f1 f2
  go_enter Try.func3, Try.ntmps3
  go_wp2_with (first
    | (refine wpList_ld rfl 22 (.tmp 7) rfl (run_loadAt_mid _ w.heap.size 0 22 (k.map bv) _ Z1.out.2.1 arr32K rfl (i32K' k HK.out)) ?_)
    | (refine wpList_ld rfl 23 (.tmp 9) rfl (run_loadAt_mid _ w.heap.size 32 23 (n.map bv) _ Z1.out.2.2.1 arr12B rfl (i12B' n HN.out)) ?_))
  clear R3
  generalize hV : (w.alloc _).alloc _ = W0 at Z1 F1 F2 ⊢
  clear hV
  refine (BL.out W0).mono ?_
  rintro e w1 ⟨rfl, hb1⟩
  have Z2 := Lib.hid (Z1.out.ext hb1)
  have G1 := Lib.hid ((hb1.block _ (lt_of_heap F1.out)).trans F1.out)
  have G2 := Lib.hid (F2.out.step hb1)
  clear Z1 F1 F2 hb1 BL
  go_wp2_with (first
    | (refine wpList_st rfl 28 (.tmp 5) (.tmp 13) rfl (store_arr (cs := X.map bv) (old := List.replicate 64 (Value.int .u8 0)) (by rw [List.length_map, HXL.out]; exact i64Bc) (bv_one _) (heap_alloc_new' w1 _) (by rw [List.length_map, HXL.out]; exact List.length_replicate)) ?_
       generalize hV : World.setRow _ _ _ = W4
       have M0 := Lib.hid (heap_of_setRow hV (heap_alloc_new' w1 _))
       have MB := Lib.hid (((Below.refl w1.heap.size w1).alloc (Nat.le_refl _) _).trans (below_of_setRow hV (Nat.le_refl w1.heap.size) (by simp)))
       have Z3 := Lib.hid (Z2.out.ext MB.out)
       have G3 := Lib.hid ((MB.out.block _ (lt_of_heap G1.out)).trans G1.out)
       have G4 := Lib.hid (G2.out.step MB.out)
       have q3 := G3.out
       rw [← HQV.out] at q3
       have k0 := wcell q3 0 (by simp)
       have k1 := wcell q3 1 (by simp)
       have k2 := wcell q3 2 (by simp)
       have k3 := wcell q3 3 (by simp)
       simp only [List.getD_cons_zero, List.getD_cons_succ] at k0 k1 k2 k3
       have t0 := (Below.refl W4.heap.size W4).alloc (Nat.le_refl _) (.cells #[.int .u32 0, .int .u32 0, .int .u32 0, .int .u32 0] 27)
       have k0 := (t0.cell (lt_of_heap q3)).trans k0
       have k1 := (t0.cell (lt_of_heap q3)).trans k1
       have k2 := (t0.cell (lt_of_heap q3)).trans k2
       have k3 := (t0.cell (lt_of_heap q3)).trans k3
       clear hV q3 t0)
    | fail)
  refine (QU.out _).mono ?_
  rintro e w5 ⟨rfl, rfl⟩
  go_wp2_with fail
  generalize hV : W4.alloc _ = W6
  have N6 : Hid (W6.heap[W4.heap.size]? = some (.cells ([ra, rb, rc, rd].map wv).toArray 27 (0, 0)) ∧ Below W4.heap.size W4 W6) := by
    rw [← hV]
    exact ⟨heap_alloc_new' W4 _, (Below.refl _ _).alloc (Nat.le_refl _) _⟩
  clear hV k0 k1 k2 k3
  have Z6 := Lib.hid (Z3.out.ext N6.out.2)
  have q6 : Hid (W6.heap[w.heap.size + 1]? = some (.cells ([qa, qb, qc, qd].map wv).toArray 27 (0, 0))) := by rw [HQV.out]; exact (N6.out.2.block _ (lt_of_heap G3.out)).trans G3.out
  have B6 := Lib.hid (G4.out.step N6.out.2)
  have M6 := Lib.hid ((N6.out.2.block _ (lt_of_heap M0.out)).trans M0.out)
  have R6 := Lib.hid N6.out.1
  clear Z2 Z3 G1 G2 G3 G4 MB M0 N6
  generalize w1.heap.size = p5 at M6 ⊢
  generalize W4.heap.size = p6 at R6 ⊢
  have ar5 := arr_all arr64B s8 ⟨p5, 0, none⟩
  have ar1 := arr_all arr32K s8 ⟨w.heap.size, 0, none⟩
  have ar2 := arr_all arr12B s8 ⟨w.heap.size, 32, none⟩
  have hxx : ((strOf X).toList == (strOf X).toList) = true := by simp
  have he4 := eql_four ra rb rc rd
  obtain ⟨RV, HRV⟩ : ∃ Z, Hid (([ra, rb, rc, rd].map wv).toArray = Z) := ⟨_, rfl⟩
  have S5 : Hid (Sl W6 (some ⟨p5, 0, none⟩) 64 X) := sl_row HXL.out (by omega) M6.out
  have c0 := Lib.hid (wcell q6.out 0 (by simp)); have c1 := Lib.hid (wcell q6.out 1 (by simp)); have c2 := Lib.hid (wcell q6.out 2 (by simp)); have c3 := Lib.hid (wcell q6.out 3 (by simp))
  simp only [List.getD_cons_zero, List.getD_cons_succ] at c0 c1 c2 c3
  rw [HRV.out] at he4 RQ R6
  have hp1 := lt_of_heap q6.out
  have hp6 := lt_of_heap R6.out
  have RL : Hid (∀ W, Ext W6 W → (Instr.loadAt 27 (.pointer (some ⟨p6, 0, none⟩))).run Try.prog W = .ok (.agg RV) W) := by
    intro W hW
    have hh := (hW.block _ hp6).trans R6.out
    rw [← HRV.out] at hh ⊢
    exact load_arr (cs := [ra, rb, rc, rd].map wv) arr4Wc rfl i4Wc hh
  have HX : Hid (Ext W6 W6.drew) := (Below.refl _ _).drew
  refine reg_start (by kernel_rfl) ?_
  try simp only [Act.put, List.setIfInBounds_toArray, List.set_cons_zero, List.set_cons_succ]
  refine reg_take (v := ?_) 0 (some 32) rfl rfl (by kernel_rfl) (by kernel_rfl) (by kernel_rfl) (fun _ _ _ h => h) (by rfl) (fun W hW => ?_) ?_
  rotate_left
  · (go_simp; try rfl)
  simp only [Act.put, List.setIfInBounds_toArray, List.set_cons_zero, List.set_cons_succ]
  refine reg_conv 1 (some 33) (fun W hW => conv_string W (some ⟨p5, 0, none⟩) 64 64 X HXL.out (S5.out.ext' (HX.out.trans hW))) rfl rfl rfl rfl (by kernel_rfl) (by kernel_rfl) (by kernel_rfl) (fun _ _ _ h => h) (by rfl) ?_
  simp only [Act.put, List.setIfInBounds_toArray, List.set_cons_zero, List.set_cons_succ]
  refine reg_take (v := ?_) 2 (some 34) rfl rfl (by kernel_rfl) (by kernel_rfl) (by kernel_rfl) (fun _ _ _ h => h) (by rfl) (fun W hW => ?_) ?_
  rotate_left
  · (go_simp; try rfl)
  simp only [Act.put, List.setIfInBounds_toArray, List.set_cons_zero, List.set_cons_succ]
  refine reg_take (v := ?_) 3 (some 35) rfl rfl (by kernel_rfl) (by kernel_rfl) (by kernel_rfl) (fun _ _ _ h => h) (by rfl) (fun W hW => ?_) ?_
  rotate_left
  · (go_simp; try rfl)
  simp only [Act.put, List.setIfInBounds_toArray, List.set_cons_zero, List.set_cons_succ]
  refine reg_take (v := ?_) 4 (some 36) rfl rfl (by kernel_rfl) (by kernel_rfl) (by kernel_rfl) (fun _ _ _ h => h) (by rfl) (fun W hW => ?_) ?_
  rotate_left
  · (go_simp; try rfl)
  simp only [Act.put, List.setIfInBounds_toArray, List.set_cons_zero, List.set_cons_succ]
  refine reg_take (v := ?_) 5 (some 37) rfl rfl (by kernel_rfl) (by kernel_rfl) (by kernel_rfl) (fun _ _ _ h => h) (by rfl) (fun W hW => ?_) ?_
  rotate_left
  · (go_simp; try rfl)
  simp only [Act.put, List.setIfInBounds_toArray, List.set_cons_zero, List.set_cons_succ]
  refine reg_take (v := ?_) 6 (some 38) rfl rfl (by kernel_rfl) (by kernel_rfl) (by kernel_rfl) (fun _ _ _ h => h) (by rfl) (fun W hW => ?_) ?_
  rotate_left
  · (go_simp; try rfl)
  simp only [Act.put, List.setIfInBounds_toArray, List.set_cons_zero, List.set_cons_succ]
  refine reg_load 7 (some 39) (fun W hW => load_cell Try.underlying24 (Z6.out.ext (HX.out.trans hW)).2.2.2) rfl rfl rfl rfl (by kernel_rfl) (by kernel_rfl) (by kernel_rfl) (fun _ _ _ h => h) (by rfl) ?_
  simp only [Act.put, List.setIfInBounds_toArray, List.set_cons_zero, List.set_cons_succ]
  refine reg_eff 8 rfl (by kernel_rfl) (fun K hK => ?_)
  go_simp
  refine (RB.out (some ⟨w.heap.size, 0, none⟩) (some ⟨w.heap.size, 32, none⟩) 32 12 _ ((Z6.out.ext HX.out).key HK.out) ((Z6.out.ext HX.out).nonce HN.out)).mono ?_
  rintro e w7 ⟨v7, rfl, hO7, hE⟩
  obtain ⟨A7, c7, rfl, hl7, hc7, hm7, hr7⟩ := own_read hO7
  have S7 : Hid (Sl w7 A7 c7 X) := ⟨by omega, hm7, hr7⟩
  clear hO7 hl7 hc7 hm7 hr7
  refine hK.out _ _ hE ?_
  have HX := Lib.hid (Ext.trans HX.out hE)
  clear hE hK K
  try simp only [Act.put, List.setIfInBounds_toArray, List.set_cons_zero, List.set_cons_succ]
  refine reg_conv 9 (some 41) (fun W hW => conv_string W A7 64 c7 X HXL.out (S7.out.ext' hW)) rfl rfl rfl rfl (by kernel_rfl) (by kernel_rfl) (by kernel_rfl) (fun _ _ _ h => h) (by rfl) ?_
  simp only [Act.put, List.setIfInBounds_toArray, List.set_cons_zero, List.set_cons_succ]
  refine reg_take (v := ?_) 10 (some 42) rfl rfl (by kernel_rfl) (by kernel_rfl) (by kernel_rfl) (fun _ _ _ h => h) (by rfl) (fun W hW => ?_) ?_
  rotate_left
  · (go_simp; try rfl)
  simp only [Act.put, List.setIfInBounds_toArray, List.set_cons_zero, List.set_cons_succ]
  refine reg_take (v := ?_) 11 (some 43) rfl rfl (by kernel_rfl) (by kernel_rfl) (by kernel_rfl) (fun _ _ _ h => h) (by rfl) (fun W hW => ?_) ?_
  rotate_left
  · (go_simp; try rfl)
  simp only [Act.put, List.setIfInBounds_toArray, List.set_cons_zero, List.set_cons_succ]
  refine reg_load 12 (some 44) (fun W hW => RL.out W (HX.out.trans hW)) rfl rfl rfl rfl (by kernel_rfl) (by kernel_rfl) (by kernel_rfl) (fun _ _ _ h => h) (by rfl) ?_
  simp only [Act.put, List.setIfInBounds_toArray, List.set_cons_zero, List.set_cons_succ]
  refine reg_take (v := ?_) 13 (some 45) rfl rfl (by kernel_rfl) (by kernel_rfl) (by kernel_rfl) (fun _ _ _ h => h) (by rfl) (fun W hW => ?_) ?_
  rotate_left
  · (go_simp; try rfl)
  simp only [Act.put, List.setIfInBounds_toArray, List.set_cons_zero, List.set_cons_succ]
  refine reg_load 14 (some 46) (fun W hW => load_cell Try.underlying24 (((HX.out.trans hW).cell hp1).trans c0.out)) rfl rfl rfl rfl (by kernel_rfl) (by kernel_rfl) (by kernel_rfl) (fun _ _ _ h => h) (by rfl) ?_
  simp only [Act.put, List.setIfInBounds_toArray, List.set_cons_zero, List.set_cons_succ]
  refine reg_take (v := ?_) 15 (some 47) rfl rfl (by kernel_rfl) (by kernel_rfl) (by kernel_rfl) (fun _ _ _ h => h) (by rfl) (fun W hW => ?_) ?_
  rotate_left
  · (go_simp; try rfl)
  simp only [Act.put, List.setIfInBounds_toArray, List.set_cons_zero, List.set_cons_succ]
  refine reg_load 16 (some 48) (fun W hW => load_cell Try.underlying24 (((HX.out.trans hW).cell hp1).trans c1.out)) rfl rfl rfl rfl (by kernel_rfl) (by kernel_rfl) (by kernel_rfl) (fun _ _ _ h => h) (by rfl) ?_
  simp only [Act.put, List.setIfInBounds_toArray, List.set_cons_zero, List.set_cons_succ]
  refine reg_take (v := ?_) 17 (some 49) rfl rfl (by kernel_rfl) (by kernel_rfl) (by kernel_rfl) (fun _ _ _ h => h) (by rfl) (fun W hW => ?_) ?_
  rotate_left
  · (go_simp; try rfl)
  simp only [Act.put, List.setIfInBounds_toArray, List.set_cons_zero, List.set_cons_succ]
  refine reg_load 18 (some 50) (fun W hW => load_cell Try.underlying24 (((HX.out.trans hW).cell hp1).trans c2.out)) rfl rfl rfl rfl (by kernel_rfl) (by kernel_rfl) (by kernel_rfl) (fun _ _ _ h => h) (by rfl) ?_
  simp only [Act.put, List.setIfInBounds_toArray, List.set_cons_zero, List.set_cons_succ]
  refine reg_take (v := ?_) 19 (some 51) rfl rfl (by kernel_rfl) (by kernel_rfl) (by kernel_rfl) (fun _ _ _ h => h) (by rfl) (fun W hW => ?_) ?_
  rotate_left
  · (go_simp; try rfl)
  simp only [Act.put, List.setIfInBounds_toArray, List.set_cons_zero, List.set_cons_succ]
  refine reg_load 20 (some 52) (fun W hW => load_cell Try.underlying24 (((HX.out.trans hW).cell hp1).trans c3.out)) rfl rfl rfl rfl (by kernel_rfl) (by kernel_rfl) (by kernel_rfl) (fun _ _ _ h => h) (by rfl) ?_
  simp only [Act.put, List.setIfInBounds_toArray, List.set_cons_zero, List.set_cons_succ]
  refine reg_eff 21 rfl (by kernel_rfl) (fun K hK => ?_)
  go_simp
  refine (RQ.out _).mono ?_
  rintro e w8 ⟨rfl, hE⟩
  refine hK.out _ _ hE ?_
  have HX := Lib.hid (Ext.trans HX.out hE)
  clear hE hK K
  try simp only [Act.put, List.setIfInBounds_toArray, List.set_cons_zero, List.set_cons_succ]
  refine reg_take (v := ?_) 22 (some 54) rfl rfl (by kernel_rfl) (by kernel_rfl) (by kernel_rfl) (fun _ _ _ h => h) (by rfl) (fun W hW => ?_) ?_
  rotate_left
  · (go_simp; try rfl)
  simp only [Act.put, List.setIfInBounds_toArray, List.set_cons_zero, List.set_cons_succ]
  refine reg_take (v := ?_) 23 (some 55) rfl rfl (by kernel_rfl) (by kernel_rfl) (by kernel_rfl) (fun _ _ _ h => h) (by rfl) (fun W hW => ?_) ?_
  rotate_left
  · (go_simp; try rfl)
  simp only [Act.put, List.setIfInBounds_toArray, List.set_cons_zero, List.set_cons_succ]
  refine reg_take (v := ?_) 24 (some 56) rfl rfl (by kernel_rfl) (by kernel_rfl) (by kernel_rfl) (fun _ _ _ h => h) (by rfl) (fun W hW => ?_) ?_
  rotate_left
  · (go_simp; try rfl)
  simp only [Act.put, List.setIfInBounds_toArray, List.set_cons_zero, List.set_cons_succ]
  refine reg_eff 25 rfl (by kernel_rfl) (fun K hK => ?_)
  go_simp
  refine (cawake_any _).mono ?_
  rintro e w9 ⟨rfl, rfl⟩
  have hE : Ext w8 w8 := Ext.refl _
  refine hK.out _ _ hE ?_
  have HX := Lib.hid (Ext.trans HX.out hE)
  clear hE hK K
  try simp only [Act.put, List.setIfInBounds_toArray, List.set_cons_zero, List.set_cons_succ]
  refine reg_take (v := ?_) 26 (some 58) rfl rfl (by kernel_rfl) (by kernel_rfl) (by kernel_rfl) (fun _ _ _ h => h) (by rfl) (fun W hW => ?_) ?_
  rotate_left
  · (go_simp; try rfl)
  simp only [Act.put, List.setIfInBounds_toArray, List.set_cons_zero, List.set_cons_succ]
  refine reg_take (v := ?_) 27 (some 4) rfl rfl (by kernel_rfl) (by kernel_rfl) (by kernel_rfl) (fun _ _ _ h => h) (by rfl) (fun W hW => ?_) ?_
  rotate_left
  · (go_simp; try rfl)
  simp only [Act.put, List.setIfInBounds_toArray, List.set_cons_zero, List.set_cons_succ]
  refine reg_done (by kernel_rfl) ?_
  go_wp2
  go_ret
  exact ⟨rfl, B6.out.step HX.out⟩
end Go.Proofs.Yteboeeijgpghoaa

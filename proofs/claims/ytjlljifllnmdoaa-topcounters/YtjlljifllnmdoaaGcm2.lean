/- gcm: counter, and crypt. -/
import Derived.Test.YtjlljifllnmdoaaGcm1
namespace Go.Proofs.Ytjlljifllnmdoaa
open Go.RowKit
set_option maxRecDepth 100000
set_option linter.unusedVariables false
set_option linter.unusedSimpArgs false
/-- the first counter and n more -/
def cntG (F : List UInt8) (n : Nat) : List UInt8 := F.take 12 ++ putBig (big (F.drop 12) + n) 4
theorem cntG_len (F : List UInt8) (n : Nat) (h : F.length = 16) : (cntG F n).length = 16 := by simp [cntG, putBig_len, h]
theorem cntG_splice (F : List UInt8) (n : Nat) (h : F.length = 16) : splice (F.map bv) 12 ((putBig (big (F.drop 12) + n) 4).map bv) = (cntG F n).map bv := by
  have h1 : F = F.take 12 ++ F.drop 12 := (List.take_append_drop 12 F).symm
  have h2 : (F.take 12).length = 12 := by rw [List.length_take, h]; rfl
  have h3 : (F.drop 12).length = 4 := by rw [List.length_drop, h]
  unfold cntG
  generalize big (F.drop 12) + n = x
  generalize F.take 12 = A at h1 h2 ⊢
  generalize F.drop 12 = D at h1 h3
  rw [h1, List.map_append, List.map_append]
  have := splice_split (A.map bv) (D.map bv) [] ((putBig x 4).map bv) (by simp [h3, putBig_len])
  rw [List.length_map, h2, List.append_nil, List.append_nil] at this
  exact this
theorem bigF_lt (D : List UInt8) (h : D.length = 4) : big D < 4294967296 := by
  unfold big
  rw [h, show 4 - 8 = 0 from rfl, List.drop_zero]
  have := bigN_lt D
  rw [h] at this
  simpa using this
set_option maxHeartbeats 2000000 in
theorem gcounter_any (F : List UInt8) (n : Nat) (w : World) (hF : F.length = 16) (hn : n ≤ 1000000) :
    Calls Try.prog 71 #[.agg (F.map bv).toArray, .int .i64 (n : Int)] w fun e w' => e = .returned (.agg ((cntG F n).map bv).toArray) ∧ Below w.heap.size w w' := by
  have hz : ∀ W, (zeroValue 23).run Try.prog W = .ok (.agg zeros16.toArray) W := fun W => by kernel_rfl
  have HZL : Hid (zeros16.length = 16) := rfl
  generalize zeros16 = Z at hz HZL
  have HFL := Lib.hid hF
  have D4 : Hid ((F.drop 12).length = 4) := by show _ = _; rw [List.length_drop, hF]
  have BG := Lib.hid (fun A c W h1 h2 hr => big_n A 4 c (F.drop 12) W D4.out h1 h2 hr)
  have hx := bigF_lt (F.drop 12) D4.out
  have PB := Lib.hid (fun W => putBig_any (big (F.drop 12) + n) 4 W (by omega) (by omega))
  have HSP := Lib.hid (cntG_splice F n hF)
  have HCL := Lib.hid (cntG_len F n hF)
  have HPL := Lib.hid (putBig_len (big (F.drop 12) + n) 4)
  generalize cntG F n = R at HSP HCL ⊢
  generalize putBig (big (F.drop 12) + n) 4 = T at PB HSP HPL
  obtain ⟨x, hx0⟩ : ∃ x, big (F.drop 12) = x := ⟨_, rfl⟩
  rw [hx0] at BG hx PB
  obtain ⟨y, hy⟩ : ∃ y, y = x + n := ⟨_, rfl⟩
  rw [← hy] at PB
  have u1 : (x : Int) + (n : Int) = (y : Int) := by omega
  have u2 : IntKind.u64.wrap (y : Int) = (y : Int) := by rw [IntKind.wrap_u64]; omega
  have u3 : IntKind.u64.wrap (n : Int) = (n : Int) := by rw [IntKind.wrap_u64]; omega
  have hy6 : (y : Int) ≤ 5000000000 := by omega
  clear hF hx0 hx hn hy
  have G := Lib.hid (heap2 w (.cells (F.map bv).toArray 23) (.cells Z.toArray 23))
  go_enter Try.func71, Try.ntmps71
  go_upto_region 1 with (fail)
  generalize hV : (w.alloc _).alloc _ = W0 at G ⊢
  clear hV
  have sl := arr_from arr16B s8 ⟨w.heap.size, 0, none⟩ .i64 12 (by omega) (by omega)
  rw [show (12 : Int).toNat = 12 from rfl, show cutA ⟨w.heap.size, 0, none⟩ 16 12 = ⟨w.heap.size, 12, none⟩ from by unfold cutA; rw [if_neg (by omega), Addr.add_mid]] at sl
  have H0 : Hid (W0.drew.heap[w.heap.size]? = _) := G.out.1
  have H1 : Hid (W0.drew.heap[w.heap.size + 1]? = _) := G.out.2.1
  have HB : Hid (Below w.heap.size w W0.drew) := G.out.2.2.drew
  have HX : Hid (Below w.heap.size W0.drew W0.drew) := Below.refl _ _
  have HSR : Hid (Sl W0.drew (some ⟨w.heap.size, 12, none⟩) 4 (F.drop 12)) := by
    have h := row_sub H0.out 12 4 (lt_of_heap H0.out)
    rw [List.take_of_length_le (by rw [D4.out]; omega)] at h
    exact ⟨by rw [D4.out]; omega, by decide, h⟩
  refine regB_start (w.heap.size) (by kernel_rfl) ?_
  try simp only [Act.put, List.setIfInBounds_toArray, List.set_cons_zero, List.set_cons_succ]
  refine regB_take (v := ?_) 0 (some 5) rfl rfl (by kernel_rfl) (by kernel_rfl) (by kernel_rfl) (fun _ _ _ h => h) (by rfl) (fun W hW => ?_) ?_
  rotate_left
  · (go_simp; try rfl)
  simp only [Act.put, List.setIfInBounds_toArray, List.set_cons_zero, List.set_cons_succ]
  refine regB_take (v := ?_) 1 (some 6) rfl rfl (by kernel_rfl) (by kernel_rfl) (by kernel_rfl) (fun _ _ _ h => h) (by rfl) (fun W hW => ?_) ?_
  rotate_left
  · (go_simp; try rfl)
  simp only [Act.put, List.setIfInBounds_toArray, List.set_cons_zero, List.set_cons_succ]
  refine regB_take (v := ?_) 3 (some 8) rfl rfl (by kernel_rfl) (by kernel_rfl) (by kernel_rfl) (fun _ _ _ h => h) (by rfl) (fun W hW => ?_) ?_
  rotate_left
  · (go_simp; try rfl)
  simp only [Act.put, List.setIfInBounds_toArray, List.set_cons_zero, List.set_cons_succ]
  refine regB_take (v := ?_) 4 (some 9) rfl rfl (by kernel_rfl) (by kernel_rfl) (by kernel_rfl) (fun _ _ _ h => h) (by rfl) (fun W hW => ?_) ?_
  rotate_left
  · (go_simp; try rfl)
  simp only [Act.put, List.setIfInBounds_toArray, List.set_cons_zero, List.set_cons_succ]
  refine regB_eff 2 rfl (by kernel_rfl) (fun K hK => ?_)
  go_simp
  refine (BG.out _ 4 _ (by omega) (by decide) HSR.out.2.2).mono ?_
  rintro e w2 ⟨rfl, hb⟩
  have H0 := Lib.hid ((hb.block _ (lt_of_heap H0.out)).trans H0.out)
  have H1 := Lib.hid ((hb.block _ (lt_of_heap H1.out)).trans H1.out)
  have hE := hb.mono HB.out.size
  have HB := Lib.hid (HB.out.step hb)
  clear hb
  refine hK.out _ _ hE ?_
  have HX := Lib.hid (Below.trans HX.out hE)
  clear hE hK K
  try simp only [Act.put, List.setIfInBounds_toArray, List.set_cons_zero, List.set_cons_succ]
  refine regB_take (v := ?_) 5 (some 10) rfl rfl (by kernel_rfl) (by kernel_rfl) (by kernel_rfl) (fun _ _ _ h => h) (by rfl) (fun W hW => ?_) ?_
  rotate_left
  · (go_simp; try rfl)
  simp only [Act.put, List.setIfInBounds_toArray, List.set_cons_zero, List.set_cons_succ]
  refine regB_eff 6 rfl (by kernel_rfl) (fun K hK => ?_)
  go_simp
  refine (PB.out w2).mono ?_
  rintro e w3 ⟨g, hg, rfl, hk, hb⟩
  have H0 := Lib.hid ((hb.block _ (lt_of_heap H0.out)).trans H0.out)
  have H1 := Lib.hid ((hb.block _ (lt_of_heap H1.out)).trans H1.out)
  have hE := hb.mono HB.out.size
  have HB := Lib.hid (HB.out.step hb)
  have HT := Lib.hid hk
  clear hb hg hk
  refine hK.out _ _ hE ?_
  have HX := Lib.hid (Below.trans HX.out hE)
  clear hE hK K
  try simp only [Act.put, List.setIfInBounds_toArray, List.set_cons_zero, List.set_cons_succ]
  refine regB_eff 7 rfl (by kernel_rfl) (fun K hK => ?_)
  obtain ⟨w5, hrun, hblk, _, hgr⟩ := copy_run uT s8 (sT := 26) 3 w3 w.heap.size 12 (F.map bv) 23 H0.out (some ⟨w.heap.size, 12, none⟩) (some ⟨g, 0, none⟩) 4 4 4 4 w3.heap.size (T.map bv) (by rw [List.length_map, HPL.out]; rfl) (fun _ => rfl) (sl_row HPL.out (by omega) HT.out).2.2 (by rw [List.length_map, List.length_map, HPL.out, HFL.out]; omega) (bv_one _)
  rw [HSP.out] at hblk
  have E2 := Lib.hid hblk
  have E3 := Lib.hid ((hgr.block _ (lt_of_heap H1.out) (by simp)).trans H1.out)
  have hE : Below w.heap.size w3 w5 := grown_below hgr (Nat.le_refl _) HB.out.size
  have HB := Lib.hid (HB.out.trans hE)
  refine step_cpy rfl (.tmp 5) (.tmp 11) 26 26 rfl hrun ?_
  clear hrun hblk hgr
  refine hK.out _ _ hE ?_
  have HX := Lib.hid (Below.trans HX.out hE)
  clear hE hK K
  try simp only [Act.put, List.setIfInBounds_toArray, List.set_cons_zero, List.set_cons_succ]
  refine regB_done (by kernel_rfl) ?_
  simp only [List.getElem_toArray, List.getElem_cons_succ, List.getElem_cons_zero, Act.put, List.setIfInBounds_toArray, List.set_cons_zero, List.set_cons_succ]
  go_wp2_with (first
    | (refine wpList_ld rfl 23 (.tmp 2) rfl (load_arr arr16B rfl (i16c R HCL.out) E2.out) ?_)
    | (refine wpList_st rfl 23 (.tmp 4) (.tmp 13) rfl (store_arr (cs := R.map bv) (i16c R HCL.out) (bv_one _) E3.out (by rw [List.length_map, HCL.out]; exact HZL.out)) ?_))
  have hres := setRow_heap w5 (w.heap.size + 1) _ (R.map bv).toArray 23 _ E3.out
  exact bodyPost_ret (results_cell_row (P := Try.prog) rfl _ _ (w.heap.size + 1) 23 (R.map bv).toArray (0, 0) _ rfl hres arr16B rfl (by rw [List.size_toArray]; exact i16c R HCL.out)) rfl ⟨rfl, HB.out.trans (grown_below (grown_setRow _ _ _) (by omega) HB.out.size)⟩
end Go.Proofs.Ytjlljifllnmdoaa

/- The contract of (*State).Sum. -/
import Derived.Test.YtimgggpojbpfkaaGreatDoorSha13
namespace Go.Proofs.YtimgggpojbpfkaaGreatDoor
open Go.RowKit
set_option maxRecDepth 100000
set_option linter.unusedVariables false
set_option linter.unusedSimpArgs false
variable {RR : List Value} {tyS : TypeId}
theorem nil_row (w : World) : Sl w none 0 [] := ⟨by simp, by simp [maxLen], .inl rfl⟩
set_option maxHeartbeats 1000000 in
theorem stSum_none (p : Value) (w : World) (hR : Rnd w) (hlen : ∀ W, Below w.heap.size w W → Calls Tryz.prog 129 #[p] W fun e w' => e = .returned (.int .i64 0) ∧ W = w') :
    Calls Tryz.prog 96 #[p] w fun e w' => e = .returned (.agg ((sumL []).map bv).toArray) ∧ Below w.heap.size w w' := by
  have HR := Lib.hid hR
  have HLN := Lib.hid hlen
  have hZl : Hid (((sumL []).map bv).length = 32) := by show _ = _; rw [List.length_map, sumL_len]
  have HSA := Lib.hid (fun W hW => sum_any none 0 0 [] W rfl (nil_row W) hW)
  generalize sumL [] = Z at hZl HSA ⊢
  clear hR hlen
  go_enter Tryz.func96, Tryz.ntmps96
  go_wp2_with fail
  generalize hV : w.alloc _ = W0
  have F0 : Hid (W0.heap[w.heap.size]? = some (.cells (List.replicate 32 (Value.int .u8 0)).toArray 65 (0, 0))) := heap_of_alloc hV
  have FB := Lib.hid (below_of_alloc hV (Nat.le_refl w.heap.size))
  clear hV
  refine (HLN.out W0 FB.out).mono ?_
  rintro e w1 ⟨rfl, rfl⟩
  go_wp2_with fail
  refine (HSA.out W0 (HR.out.ext FB.out)).mono ?_
  rintro e w6 ⟨rfl, hB6⟩
  have P1 := Lib.hid ((hB6.block _ (lt_of_heap F0.out)).trans F0.out)
  have PB := Lib.hid (FB.out.step hB6)
  have hi32 : Hid ((Tryz.prog.info? 65).map (·.size) = some (Z.map bv).length) := by show _ = _; rw [hZl.out]; exact i32B
  clear hB6
  go_wp2_with (first
    | (refine wpList_st rfl 65 (.tmp 2) (.tmp 6) rfl (store_arr (cs := Z.map bv) (old := List.replicate 32 (Value.int .u8 0)) hi32.out (bv_one _) P1.out (by rw [hZl.out]; simp)) ?_)
    | fail)
  have hres := setRow_heap w6 w.heap.size _ (Z.map bv).toArray 65 _ P1.out
  exact bodyPost_ret (results_cell_row (P := Tryz.prog) rfl _ _ w.heap.size 65 (Z.map bv).toArray (0, 0) _ rfl hres arr32B rfl (by rw [List.size_toArray, hZl.out]; exact i32B)) rfl ⟨rfl, PB.out.trans (grown_below (grown_setRow _ _ _) (Nat.le_refl _) PB.out.size)⟩
theorem stSum_nil (w : World) (hR : Rnd w) : Calls Tryz.prog 96 #[.pointer none] w fun e w' => e = .returned (.agg ((sumL []).map bv).toArray) ∧ Below w.heap.size w w' :=
  stSum_none _ w hR (fun W _ => len_nil W)
set_option maxHeartbeats 2000000 in
theorem stSum_any (g : Nat) (m : List UInt8) (w : World) (hm : m.length ≤ 2147000000) (H : StR tyS RR w g m) (hR : Rnd w) :
    Calls Tryz.prog 96 #[.pointer (some ⟨g, 0, none⟩)] w fun e w' => e = .returned (.agg ((sumL m).map bv).toArray) ∧ Below w.heap.size w w' := by
  by_cases h0 : m = []
  · subst h0
    exact stSum_none _ w hR (fun W hW => len_any g [] 0 W rfl (H.ext hW))
  have HLN := Lib.hid (fun W hW => len_any g m m.length W rfl (H.ext hW))
  obtain ⟨h, h1, h2, h3⟩ := H
  have h2' := h2 h0
  have hpos : 0 < m.length := List.length_pos_iff.2 h0
  have hsum := sumL_state m
  rw [← h2'] at hsum
  obtain ⟨n, hn⟩ : ∃ n, n = m.length := ⟨_, rfl⟩
  rw [← hn] at hsum HLN h3 hm hpos
  obtain ⟨r, hr⟩ : ∃ r, r = n % 64 := ⟨_, rfl⟩
  rw [← hr] at hsum
  have htl := tailL_len m
  generalize tailL m = T at hsum h3 htl
  have hrl : (T.take r).length = r := by rw [List.length_take]; omega
  have hZl : Hid (((sumL m).map bv).length = 32) := by show _ = _; rw [List.length_map, sumL_len]
  have HSL : Hid (∀ W, Below w.heap.size w W → Sl W (some ⟨g, 8, none⟩) 64 (T.take r)) := fun W hW => by
    refine ⟨by omega, by simp [maxLen], .inr ⟨g, 8, rfl, Nat.lt_of_lt_of_le (lt_of_heap h3) hW.size, fun j u hu => ?_⟩⟩
    have := range_t ((hW.block _ (lt_of_heap h3)).trans h3) h1 j u
    apply this
    rw [List.map_take, List.getElem?_take] at hu
    split at hu
    · exact hu
    · cases hu
  have HFA := Lib.hid (fun W hS hRW => finish_any h (some ⟨g, 8, none⟩) r 64 n (T.take r) W h1 hrl (by omega) (by omega) hS hRW)
  rw [hsum] at HFA
  generalize sumL m = Z at HFA hZl ⊢
  have G0 : Hid (∀ W, Below w.heap.size w W → (Instr.loadAt 85 (.pointer (some ⟨g, 0, none⟩))).run Tryz.prog W = .ok (.agg (h.map wv).toArray) W) := fun W hW =>
    run_loadAt_mid W g 0 85 (h.map wv) _ (range_h ((hW.block _ (lt_of_heap h3)).trans h3)) arr8W rfl (by rw [List.length_map, h1]; exact i8W)
  have G2 : Hid (∀ W, Below w.heap.size w W → (Instr.loadAt 3 (.pointer (some ⟨g, 72, none⟩))).run Tryz.prog W = .ok (.int .i64 (n : Int)) W) := fun W hW =>
    load_cell Tryz.underlying3 (cell_n ((hW.block _ (lt_of_heap h3)).trans h3) h1 htl)
  have sl := arr_to arr64B s8 ⟨g, 8, none⟩ .i64 (r : Int) (by omega) (by omega)
  rw [Int.toNat_natCast] at sl
  have e1 : (n : Int) % 64 = (r : Int) := by omega
  have e2 : (n : Int).tmod 64 = (r : Int) := by rw [Int.tmod_eq_emod_of_nonneg (by omega)]; omega
  have e3 : IntKind.i64.wrap (r : Int) = (r : Int) := by rw [IntKind.wrap_i64]; omega
  have e4 : ((n : Int) == 0) = false := by simp; omega
  have HR := Lib.hid hR
  have HN := Lib.hid hn; have HRR := Lib.hid hr
  have hi32 : Hid ((Tryz.prog.info? 65).map (·.size) = some (Z.map bv).length) := by show _ = _; rw [hZl.out]; exact i32B
  clear h1 h2 h3 h2' hsum htl hrl hn hr hR h0
  go_enter Tryz.func96, Tryz.ntmps96
  go_wp2_with fail
  generalize hV : w.alloc _ = W0
  have F0 : Hid (W0.heap[w.heap.size]? = some (.cells (List.replicate 32 (Value.int .u8 0)).toArray 65 (0, 0))) := heap_of_alloc hV
  have FB := Lib.hid (below_of_alloc hV (Nat.le_refl w.heap.size))
  clear hV
  refine (HLN.out W0 FB.out).mono ?_
  rintro e w1 ⟨rfl, rfl⟩
  have F1 : Hid (W0.drew.heap[w.heap.size]? = _) := F0.out
  have HX : Hid (Below w.heap.size w W0.drew) := FB.out.drew
  clear FB F0
  go_wp2_with fail
  refine regB_start (w.heap.size) (by kernel_rfl) ?_
  try simp only [Act.put, List.setIfInBounds_toArray, List.set_cons_zero, List.set_cons_succ]
  generalize W0.drew = W1 at F1 HX ⊢
  refine regB_take (v := ?_) 0 (some 7) rfl rfl (by kernel_rfl) (by kernel_rfl) (by kernel_rfl) (fun _ _ _ h => h) (by rfl) (fun W hW => ?_) ?_
  rotate_left
  · (go_simp; try rfl)
  simp only [Act.put, List.setIfInBounds_toArray, List.set_cons_zero, List.set_cons_succ]
  refine regB_take (v := ?_) 1 (some 8) rfl rfl (by kernel_rfl) (by kernel_rfl) (by kernel_rfl) (fun _ _ _ h => h) (by rfl) (fun W hW => ?_) ?_
  rotate_left
  · (go_simp; try rfl)
  simp only [Act.put, List.setIfInBounds_toArray, List.set_cons_zero, List.set_cons_succ]
  refine regB_take (v := ?_) 2 (some 9) rfl rfl (by kernel_rfl) (by kernel_rfl) (by kernel_rfl) (fun _ _ _ h => h) (by rfl) (fun W hW => ?_) ?_
  rotate_left
  · (go_simp; try rfl)
  simp only [Act.put, List.setIfInBounds_toArray, List.set_cons_zero, List.set_cons_succ]
  refine regB_load 3 (some 10) (fun W hW => G0.out W (Below.trans HX.out hW)) rfl rfl rfl rfl (by kernel_rfl) (by kernel_rfl) (by kernel_rfl) (fun _ _ _ h => h) (by rfl) ?_
  simp only [Act.put, List.setIfInBounds_toArray, List.set_cons_zero, List.set_cons_succ]
  refine regB_take (v := ?_) 4 (some 11) rfl rfl (by kernel_rfl) (by kernel_rfl) (by kernel_rfl) (fun _ _ _ h => h) (by rfl) (fun W hW => ?_) ?_
  rotate_left
  · (go_simp; try rfl)
  simp only [Act.put, List.setIfInBounds_toArray, List.set_cons_zero, List.set_cons_succ]
  refine regB_take (v := ?_) 5 (some 12) rfl rfl (by kernel_rfl) (by kernel_rfl) (by kernel_rfl) (fun _ _ _ h => h) (by rfl) (fun W hW => ?_) ?_
  rotate_left
  · (go_simp; try rfl)
  simp only [Act.put, List.setIfInBounds_toArray, List.set_cons_zero, List.set_cons_succ]
  refine regB_take (v := ?_) 6 (some 13) rfl rfl (by kernel_rfl) (by kernel_rfl) (by kernel_rfl) (fun _ _ _ h => h) (by rfl) (fun W hW => ?_) ?_
  rotate_left
  · (go_simp; try rfl)
  simp only [Act.put, List.setIfInBounds_toArray, List.set_cons_zero, List.set_cons_succ]
  refine regB_take (v := ?_) 7 (some 14) rfl rfl (by kernel_rfl) (by kernel_rfl) (by kernel_rfl) (fun _ _ _ h => h) (by rfl) (fun W hW => ?_) ?_
  rotate_left
  · (go_simp; try rfl)
  simp only [Act.put, List.setIfInBounds_toArray, List.set_cons_zero, List.set_cons_succ]
  refine regB_take (v := ?_) 8 (some 15) rfl rfl (by kernel_rfl) (by kernel_rfl) (by kernel_rfl) (fun _ _ _ h => h) (by rfl) (fun W hW => ?_) ?_
  rotate_left
  · (go_simp; try rfl)
  simp only [Act.put, List.setIfInBounds_toArray, List.set_cons_zero, List.set_cons_succ]
  refine regB_take (v := ?_) 9 (some 16) rfl rfl (by kernel_rfl) (by kernel_rfl) (by kernel_rfl) (fun _ _ _ h => h) (by rfl) (fun W hW => ?_) ?_
  rotate_left
  · (go_simp; try rfl)
  simp only [Act.put, List.setIfInBounds_toArray, List.set_cons_zero, List.set_cons_succ]
  refine regB_load 10 (some 17) (fun W hW => G2.out W (Below.trans HX.out hW)) rfl rfl rfl rfl (by kernel_rfl) (by kernel_rfl) (by kernel_rfl) (fun _ _ _ h => h) (by rfl) ?_
  simp only [Act.put, List.setIfInBounds_toArray, List.set_cons_zero, List.set_cons_succ]
  refine regB_take (v := ?_) 11 (some 18) rfl rfl (by kernel_rfl) (by kernel_rfl) (by kernel_rfl) (fun _ _ _ h => h) (by rfl) (fun W hW => ?_) ?_
  rotate_left
  · (go_simp; try rfl)
  simp only [Act.put, List.setIfInBounds_toArray, List.set_cons_zero, List.set_cons_succ]
  refine regB_take (v := ?_) 12 (some 19) rfl rfl (by kernel_rfl) (by kernel_rfl) (by kernel_rfl) (fun _ _ _ h => h) (by rfl) (fun W hW => ?_) ?_
  rotate_left
  · (go_simp; try rfl)
  simp only [Act.put, List.setIfInBounds_toArray, List.set_cons_zero, List.set_cons_succ]
  refine regB_take (v := ?_) 13 (some 20) rfl rfl (by kernel_rfl) (by kernel_rfl) (by kernel_rfl) (fun _ _ _ h => h) (by rfl) (fun W hW => ?_) ?_
  rotate_left
  · (go_simp; try rfl)
  simp only [Act.put, List.setIfInBounds_toArray, List.set_cons_zero, List.set_cons_succ]
  refine regB_take (v := ?_) 14 (some 21) rfl rfl (by kernel_rfl) (by kernel_rfl) (by kernel_rfl) (fun _ _ _ h => h) (by rfl) (fun W hW => ?_) ?_
  rotate_left
  · (go_simp; try rfl)
  simp only [Act.put, List.setIfInBounds_toArray, List.set_cons_zero, List.set_cons_succ]
  refine regB_take (v := ?_) 15 (some 22) rfl rfl (by kernel_rfl) (by kernel_rfl) (by kernel_rfl) (fun _ _ _ h => h) (by rfl) (fun W hW => ?_) ?_
  rotate_left
  · (go_simp; try rfl)
  simp only [Act.put, List.setIfInBounds_toArray, List.set_cons_zero, List.set_cons_succ]
  refine regB_load 16 (some 23) (fun W hW => G2.out W (Below.trans HX.out hW)) rfl rfl rfl rfl (by kernel_rfl) (by kernel_rfl) (by kernel_rfl) (fun _ _ _ h => h) (by rfl) ?_
  simp only [Act.put, List.setIfInBounds_toArray, List.set_cons_zero, List.set_cons_succ]
  refine regB_eff 17 rfl (by kernel_rfl) (fun K hK => ?_)
  go_simp
  refine (HFA.out W1 (HSL.out _ HX.out) (HR.out.ext HX.out)).mono ?_
  rintro e w2 ⟨rfl, hE0⟩
  have P1 := Lib.hid ((hE0.block _ (lt_of_heap F1.out)).trans F1.out)
  have hE := RowKit.Below.mono hE0 HX.out.size
  clear hE0
  refine hK.out _ _ hE ?_
  have HX := Lib.hid (Below.trans HX.out hE)
  clear hE hK K
  try simp only [Act.put, List.setIfInBounds_toArray, List.set_cons_zero, List.set_cons_succ]
  refine regB_eff 18 rfl (by kernel_rfl) (fun K hK => ?_)
  refine step_st1 rfl 65 (.tmp 2) (.tmp 24) rfl (store_arr (cs := Z.map bv) (old := List.replicate 32 (Value.int .u8 0)) hi32.out (bv_one _) P1.out (by rw [hZl.out]; simp)) ?_
  generalize hV : World.setRow _ _ _ = W6
  have hres := Lib.hid (heap_of_setRow hV P1.out)
  have hE := below_of_setRow hV (Nat.le_refl w.heap.size) HX.out.size
  clear hV
  refine hK.out _ _ hE ?_
  have HX := Lib.hid (Below.trans HX.out hE)
  clear hE hK K
  try simp only [Act.put, List.setIfInBounds_toArray, List.set_cons_zero, List.set_cons_succ]
  refine regB_done (by kernel_rfl) ?_
  go_wp2
  exact bodyPost_ret (results_cell_row (P := Tryz.prog) rfl _ _ w.heap.size 65 (Z.map bv).toArray (0, 0) _ rfl hres.out arr32B rfl (by rw [List.size_toArray, hZl.out]; exact i32B)) rfl ⟨rfl, HX.out⟩
end Go.Proofs.YtimgggpojbpfkaaGreatDoor

/- palfreyref12: Check, Class, Room. -/
import Derived.Test.YtnhhgiebnhlfcaaGreatDoorAlg7
import Derived.Test.YtnhhgiebnhlfcaaGreatDoorOwn
namespace Go.Proofs.YtnhhgiebnhlfcaaGreatDoor
open Go.RowKit Go.Shelf
set_option linter.unusedVariables false
set_option linter.unusedSimpArgs false
set_option maxRecDepth 100000
theorem checkR_1 (kn vn an : Nat) : checkR 1 false kn vn an = if kn = 0 then (if vn = 0 then (if 0 < an then 10 else 0) else 6) else 5 := by
  unfold checkR hasA hasW keyP ivP aadK
  by_cases h1 : kn = 0 <;> by_cases h2 : vn = 0 <;> simp [h1, h2]
set_option maxHeartbeats 4000000 in
theorem refCheck_1 (Ak : Option Addr) (kn kc : Nat) (Ai : Option Addr) (vn ic : Nat) (Aa : Option Addr) (an ac : Nat) (w : World) (h1 : kn ≤ 9223372036854775807) (h2 : vn ≤ 9223372036854775807) (h3 : an ≤ 9223372036854775807) :
    Calls Tryz.prog 17 #[.agg (parV 1 false Ak kn kc Ai vn ic Aa an ac).toArray] w fun e w' => e = .returned (.int .i64 (checkR 1 false kn vn an)) ∧ Below w.heap.size w w' := by
  have PC := Lib.hid (fun (W : World) (g : Nat) (t : TypeId) (fr : Nat × Nat) (h : W.heap[g]? = some (.cells (parV 1 false Ak kn kc Ai vn ic Aa an ac).toArray t fr)) => par_cells h)
  obtain ⟨y, hy⟩ : ∃ y, y = checkR 1 false kn vn an := ⟨_, rfl⟩
  rw [← hy]
  have HY := Lib.hid hy
  clear hy
  generalize parV 1 false Ak kn kc Ai vn ic Aa an ac = PV at PC ⊢
  go_enter Tryz.func17, Tryz.ntmps17
  go_upto_region 1 with (fail)
  have HB := Lib.hid (heap_alloc_new' w (.cells PV.toArray 24))
  have B0 : Hid (Below w.heap.size w (w.alloc (.cells PV.toArray 24))) := (Below.refl _ _).alloc (Nat.le_refl _) _
  generalize w.alloc _ = W0 at HB B0 ⊢
  have c0 := (PC.out _ _ _ _ HB.out).1
  have c1 := (PC.out _ _ _ _ HB.out).2.1
  have c2 := (PC.out _ _ _ _ HB.out).2.2.1
  have c3 := (PC.out _ _ _ _ HB.out).2.2.2.1
  have c4 := (PC.out _ _ _ _ HB.out).2.2.2.2
  have HL := lt_of_heap HB.out
  clear PC HB
  have HLT : w.heap.size < W0.heap.size := HL
  go_upto_region 3 with (fail)
  have HX : Hid (Ext W0 W0.drew) := (Below.refl _ _).drew
  refine reg_start (by kernel_rfl) ?_
  try simp only [Act.put, List.setIfInBounds_toArray, List.set_cons_zero, List.set_cons_succ]
  refine reg_take (v := ?_) 0 (some 25) rfl rfl (by kernel_rfl) (by kernel_rfl) (by kernel_rfl) (fun _ _ _ h => h) (by rfl) (fun W hW => ?_) ?_
  rotate_left
  · (go_simp; try rfl)
  simp only [Act.put, List.setIfInBounds_toArray, List.set_cons_zero, List.set_cons_succ]
  refine reg_load 1 (some 26) (fun W hW => o_load_slice uT (((HX.out.trans hW).cell (p := ⟨w.heap.size, 2, none⟩) HLT).trans c2)) rfl rfl rfl rfl (by kernel_rfl) (by kernel_rfl) (by kernel_rfl) (fun _ _ _ h => h) (by rfl) ?_
  simp only [Act.put, List.setIfInBounds_toArray, List.set_cons_zero, List.set_cons_succ]
  refine reg_take (v := ?_) 2 (some 27) rfl rfl (by kernel_rfl) (by kernel_rfl) (by kernel_rfl) (fun _ _ _ h => h) (by rfl) (fun W hW => ?_) ?_
  rotate_left
  · (go_simp; try rfl)
  simp only [Act.put, List.setIfInBounds_toArray, List.set_cons_zero, List.set_cons_succ]
  refine reg_take (v := ?_) 3 (some 28) rfl rfl (by kernel_rfl) (by kernel_rfl) (by kernel_rfl) (fun _ _ _ h => h) (by rfl) (fun W hW => ?_) ?_
  rotate_left
  · (go_simp; try rfl)
  simp only [Act.put, List.setIfInBounds_toArray, List.set_cons_zero, List.set_cons_succ]
  refine reg_load 4 (some 29) (fun W hW => o_load_slice uT (((HX.out.trans hW).cell (p := ⟨w.heap.size, 3, none⟩) HLT).trans c3)) rfl rfl rfl rfl (by kernel_rfl) (by kernel_rfl) (by kernel_rfl) (fun _ _ _ h => h) (by rfl) ?_
  simp only [Act.put, List.setIfInBounds_toArray, List.set_cons_zero, List.set_cons_succ]
  refine reg_take (v := ?_) 5 (some 30) rfl rfl (by kernel_rfl) (by kernel_rfl) (by kernel_rfl) (fun _ _ _ h => h) (by rfl) (fun W hW => ?_) ?_
  rotate_left
  · (go_simp; try rfl)
  simp only [Act.put, List.setIfInBounds_toArray, List.set_cons_zero, List.set_cons_succ]
  refine reg_take (v := ?_) 6 (some 3) rfl rfl (by kernel_rfl) (by kernel_rfl) (by kernel_rfl) (fun _ _ _ h => h) (by rfl) (fun W hW => ?_) ?_
  rotate_left
  · (go_simp; try rfl)
  simp only [Act.put, List.setIfInBounds_toArray, List.set_cons_zero, List.set_cons_succ]
  refine reg_take (v := ?_) 7 (some 4) rfl rfl (by kernel_rfl) (by kernel_rfl) (by kernel_rfl) (fun _ _ _ h => h) (by rfl) (fun W hW => ?_) ?_
  rotate_left
  · (go_simp; try rfl)
  simp only [Act.put, List.setIfInBounds_toArray, List.set_cons_zero, List.set_cons_succ]
  refine reg_done (by kernel_rfl) ?_
  replace c4 := (HX.out.cell (p := ⟨w.heap.size, 4, none⟩) HLT).trans c4
  replace c0 := (HX.out.cell (p := ⟨w.heap.size, 0, none⟩) HLT).trans c0
  go_wp2
  all_goals
    go_ret
    refine ⟨?_, B0.out.step HX.out⟩
    refine congrArg (fun z => Ending.returned (Value.int .i64 z)) ?_
    rw [HY.out, checkR_1]
    clear HY
    (try simp only [Bool.not_eq_true', Bool.not_eq_false', beq_eq_false_iff_ne, ne_eq, beq_iff_eq, Bool.not_eq_true, Bool.not_eq_false, decide_eq_true_eq, decide_eq_false_iff_not] at *)
    (try (repeat' split)) <;> first | rfl | omega
theorem checkR_2 (kn vn an : Nat) : checkR 2 false kn vn an = if 1 ≤ kn ∧ kn ≤ 100 then (if vn = 0 then (if 0 < an then 10 else 0) else 6) else 5 := by
  have h1 : hasA 2 false = true := by decide
  have h2 : keyP (2 : Int).toNat kn = decide (1 ≤ kn ∧ kn ≤ 100) := by
    show keyP 2 kn = _
    simp only [keyP, List.mem_cons, List.not_mem_nil, or_false, Bool.decide_and]
  have h3 : ivP (2 : Int).toNat vn = decide (vn = 0) := by
    show ivP 2 vn = _
    simp only [ivP, List.mem_cons, List.not_mem_nil, or_false, Bool.decide_and]
  have h4 : aadK (2 : Int).toNat = 0 := rfl
  unfold checkR
  rw [h1, h2, h3, h4, if_neg (by decide)]
  by_cases ha : 1 ≤ kn ∧ kn ≤ 100
  · rw [if_pos ha, if_neg (by simp [ha])]
    by_cases hb : vn = 0
    · rw [if_pos hb, if_neg (by simp [hb])]
      (repeat' split) <;> first | rfl | omega
    · rw [if_neg hb, if_pos (by simp only [decide_eq_false_iff_not]; exact hb)]
  · rw [if_neg ha, if_pos (by simp only [decide_eq_false_iff_not]; exact ha)]
set_option maxHeartbeats 4000000 in
theorem refCheck_2 (Ak : Option Addr) (kn kc : Nat) (Ai : Option Addr) (vn ic : Nat) (Aa : Option Addr) (an ac : Nat) (w : World) (h1 : kn ≤ 9223372036854775807) (h2 : vn ≤ 9223372036854775807) (h3 : an ≤ 9223372036854775807) :
    Calls Tryz.prog 17 #[.agg (parV 2 false Ak kn kc Ai vn ic Aa an ac).toArray] w fun e w' => e = .returned (.int .i64 (checkR 2 false kn vn an)) ∧ Below w.heap.size w w' := by
  have PC := Lib.hid (fun (W : World) (g : Nat) (t : TypeId) (fr : Nat × Nat) (h : W.heap[g]? = some (.cells (parV 2 false Ak kn kc Ai vn ic Aa an ac).toArray t fr)) => par_cells h)
  obtain ⟨y, hy⟩ : ∃ y, y = checkR 2 false kn vn an := ⟨_, rfl⟩
  rw [← hy]
  have HY := Lib.hid hy
  clear hy
  generalize parV 2 false Ak kn kc Ai vn ic Aa an ac = PV at PC ⊢
  go_enter Tryz.func17, Tryz.ntmps17
  go_upto_region 1 with (fail)
  have HB := Lib.hid (heap_alloc_new' w (.cells PV.toArray 24))
  have B0 : Hid (Below w.heap.size w (w.alloc (.cells PV.toArray 24))) := (Below.refl _ _).alloc (Nat.le_refl _) _
  generalize w.alloc _ = W0 at HB B0 ⊢
  have c0 := (PC.out _ _ _ _ HB.out).1
  have c1 := (PC.out _ _ _ _ HB.out).2.1
  have c2 := (PC.out _ _ _ _ HB.out).2.2.1
  have c3 := (PC.out _ _ _ _ HB.out).2.2.2.1
  have c4 := (PC.out _ _ _ _ HB.out).2.2.2.2
  have HL := lt_of_heap HB.out
  clear PC HB
  have HLT : w.heap.size < W0.heap.size := HL
  go_upto_region 3 with (fail)
  have HX : Hid (Ext W0 W0.drew) := (Below.refl _ _).drew
  refine reg_start (by kernel_rfl) ?_
  try simp only [Act.put, List.setIfInBounds_toArray, List.set_cons_zero, List.set_cons_succ]
  refine reg_take (v := ?_) 0 (some 25) rfl rfl (by kernel_rfl) (by kernel_rfl) (by kernel_rfl) (fun _ _ _ h => h) (by rfl) (fun W hW => ?_) ?_
  rotate_left
  · (go_simp; try rfl)
  simp only [Act.put, List.setIfInBounds_toArray, List.set_cons_zero, List.set_cons_succ]
  refine reg_load 1 (some 26) (fun W hW => o_load_slice uT (((HX.out.trans hW).cell (p := ⟨w.heap.size, 2, none⟩) HLT).trans c2)) rfl rfl rfl rfl (by kernel_rfl) (by kernel_rfl) (by kernel_rfl) (fun _ _ _ h => h) (by rfl) ?_
  simp only [Act.put, List.setIfInBounds_toArray, List.set_cons_zero, List.set_cons_succ]
  refine reg_take (v := ?_) 2 (some 27) rfl rfl (by kernel_rfl) (by kernel_rfl) (by kernel_rfl) (fun _ _ _ h => h) (by rfl) (fun W hW => ?_) ?_
  rotate_left
  · (go_simp; try rfl)
  simp only [Act.put, List.setIfInBounds_toArray, List.set_cons_zero, List.set_cons_succ]
  refine reg_take (v := ?_) 3 (some 28) rfl rfl (by kernel_rfl) (by kernel_rfl) (by kernel_rfl) (fun _ _ _ h => h) (by rfl) (fun W hW => ?_) ?_
  rotate_left
  · (go_simp; try rfl)
  simp only [Act.put, List.setIfInBounds_toArray, List.set_cons_zero, List.set_cons_succ]
  refine reg_load 4 (some 29) (fun W hW => o_load_slice uT (((HX.out.trans hW).cell (p := ⟨w.heap.size, 3, none⟩) HLT).trans c3)) rfl rfl rfl rfl (by kernel_rfl) (by kernel_rfl) (by kernel_rfl) (fun _ _ _ h => h) (by rfl) ?_
  simp only [Act.put, List.setIfInBounds_toArray, List.set_cons_zero, List.set_cons_succ]
  refine reg_take (v := ?_) 5 (some 30) rfl rfl (by kernel_rfl) (by kernel_rfl) (by kernel_rfl) (fun _ _ _ h => h) (by rfl) (fun W hW => ?_) ?_
  rotate_left
  · (go_simp; try rfl)
  simp only [Act.put, List.setIfInBounds_toArray, List.set_cons_zero, List.set_cons_succ]
  refine reg_take (v := ?_) 6 (some 3) rfl rfl (by kernel_rfl) (by kernel_rfl) (by kernel_rfl) (fun _ _ _ h => h) (by rfl) (fun W hW => ?_) ?_
  rotate_left
  · (go_simp; try rfl)
  simp only [Act.put, List.setIfInBounds_toArray, List.set_cons_zero, List.set_cons_succ]
  refine reg_take (v := ?_) 7 (some 4) rfl rfl (by kernel_rfl) (by kernel_rfl) (by kernel_rfl) (fun _ _ _ h => h) (by rfl) (fun W hW => ?_) ?_
  rotate_left
  · (go_simp; try rfl)
  simp only [Act.put, List.setIfInBounds_toArray, List.set_cons_zero, List.set_cons_succ]
  refine reg_done (by kernel_rfl) ?_
  replace c4 := (HX.out.cell (p := ⟨w.heap.size, 4, none⟩) HLT).trans c4
  replace c0 := (HX.out.cell (p := ⟨w.heap.size, 0, none⟩) HLT).trans c0
  go_wp2
  all_goals
    go_ret
    refine ⟨?_, B0.out.step HX.out⟩
    refine congrArg (fun z => Ending.returned (Value.int .i64 z)) ?_
    rw [HY.out, checkR_2]
    clear HY
    (try simp only [Bool.not_eq_true', Bool.not_eq_false', beq_eq_false_iff_ne, ne_eq, beq_iff_eq, Bool.not_eq_true, Bool.not_eq_false, decide_eq_true_eq, decide_eq_false_iff_not] at *)
    (try (repeat' split)) <;> first | rfl | omega
theorem checkR_3 (kn vn an : Nat) : checkR 3 false kn vn an = if kn = 16 ∨ kn = 32 then (if vn = 16 then (if 0 < an then 10 else 0) else 6) else 5 := by
  have h1 : hasA 3 false = true := by decide
  have h2 : keyP (3 : Int).toNat kn = decide (kn = 16 ∨ kn = 32) := by
    show keyP 3 kn = _
    simp only [keyP, List.mem_cons, List.not_mem_nil, or_false, Bool.decide_and]
  have h3 : ivP (3 : Int).toNat vn = decide (vn = 16) := by
    show ivP 3 vn = _
    simp only [ivP, List.mem_cons, List.not_mem_nil, or_false, Bool.decide_and]
  have h4 : aadK (3 : Int).toNat = 0 := rfl
  unfold checkR
  rw [h1, h2, h3, h4, if_neg (by decide)]
  by_cases ha : kn = 16 ∨ kn = 32
  · rw [if_pos ha, if_neg (by simp [ha])]
    by_cases hb : vn = 16
    · rw [if_pos hb, if_neg (by simp [hb])]
      (repeat' split) <;> first | rfl | omega
    · rw [if_neg hb, if_pos (by simp only [decide_eq_false_iff_not]; exact hb)]
  · rw [if_neg ha, if_pos (by simp only [decide_eq_false_iff_not]; exact ha)]
set_option maxHeartbeats 4000000 in
theorem refCheck_3 (Ak : Option Addr) (kn kc : Nat) (Ai : Option Addr) (vn ic : Nat) (Aa : Option Addr) (an ac : Nat) (w : World) (h1 : kn ≤ 9223372036854775807) (h2 : vn ≤ 9223372036854775807) (h3 : an ≤ 9223372036854775807) :
    Calls Tryz.prog 17 #[.agg (parV 3 false Ak kn kc Ai vn ic Aa an ac).toArray] w fun e w' => e = .returned (.int .i64 (checkR 3 false kn vn an)) ∧ Below w.heap.size w w' := by
  have PC := Lib.hid (fun (W : World) (g : Nat) (t : TypeId) (fr : Nat × Nat) (h : W.heap[g]? = some (.cells (parV 3 false Ak kn kc Ai vn ic Aa an ac).toArray t fr)) => par_cells h)
  obtain ⟨y, hy⟩ : ∃ y, y = checkR 3 false kn vn an := ⟨_, rfl⟩
  rw [← hy]
  have HY := Lib.hid hy
  clear hy
  generalize parV 3 false Ak kn kc Ai vn ic Aa an ac = PV at PC ⊢
  go_enter Tryz.func17, Tryz.ntmps17
  go_upto_region 1 with (fail)
  have HB := Lib.hid (heap_alloc_new' w (.cells PV.toArray 24))
  have B0 : Hid (Below w.heap.size w (w.alloc (.cells PV.toArray 24))) := (Below.refl _ _).alloc (Nat.le_refl _) _
  generalize w.alloc _ = W0 at HB B0 ⊢
  have c0 := (PC.out _ _ _ _ HB.out).1
  have c1 := (PC.out _ _ _ _ HB.out).2.1
  have c2 := (PC.out _ _ _ _ HB.out).2.2.1
  have c3 := (PC.out _ _ _ _ HB.out).2.2.2.1
  have c4 := (PC.out _ _ _ _ HB.out).2.2.2.2
  have HL := lt_of_heap HB.out
  clear PC HB
  have HLT : w.heap.size < W0.heap.size := HL
  go_upto_region 3 with (fail)
  have HX : Hid (Ext W0 W0.drew) := (Below.refl _ _).drew
  refine reg_start (by kernel_rfl) ?_
  try simp only [Act.put, List.setIfInBounds_toArray, List.set_cons_zero, List.set_cons_succ]
  refine reg_take (v := ?_) 0 (some 25) rfl rfl (by kernel_rfl) (by kernel_rfl) (by kernel_rfl) (fun _ _ _ h => h) (by rfl) (fun W hW => ?_) ?_
  rotate_left
  · (go_simp; try rfl)
  simp only [Act.put, List.setIfInBounds_toArray, List.set_cons_zero, List.set_cons_succ]
  refine reg_load 1 (some 26) (fun W hW => o_load_slice uT (((HX.out.trans hW).cell (p := ⟨w.heap.size, 2, none⟩) HLT).trans c2)) rfl rfl rfl rfl (by kernel_rfl) (by kernel_rfl) (by kernel_rfl) (fun _ _ _ h => h) (by rfl) ?_
  simp only [Act.put, List.setIfInBounds_toArray, List.set_cons_zero, List.set_cons_succ]
  refine reg_take (v := ?_) 2 (some 27) rfl rfl (by kernel_rfl) (by kernel_rfl) (by kernel_rfl) (fun _ _ _ h => h) (by rfl) (fun W hW => ?_) ?_
  rotate_left
  · (go_simp; try rfl)
  simp only [Act.put, List.setIfInBounds_toArray, List.set_cons_zero, List.set_cons_succ]
  refine reg_take (v := ?_) 3 (some 28) rfl rfl (by kernel_rfl) (by kernel_rfl) (by kernel_rfl) (fun _ _ _ h => h) (by rfl) (fun W hW => ?_) ?_
  rotate_left
  · (go_simp; try rfl)
  simp only [Act.put, List.setIfInBounds_toArray, List.set_cons_zero, List.set_cons_succ]
  refine reg_load 4 (some 29) (fun W hW => o_load_slice uT (((HX.out.trans hW).cell (p := ⟨w.heap.size, 3, none⟩) HLT).trans c3)) rfl rfl rfl rfl (by kernel_rfl) (by kernel_rfl) (by kernel_rfl) (fun _ _ _ h => h) (by rfl) ?_
  simp only [Act.put, List.setIfInBounds_toArray, List.set_cons_zero, List.set_cons_succ]
  refine reg_take (v := ?_) 5 (some 30) rfl rfl (by kernel_rfl) (by kernel_rfl) (by kernel_rfl) (fun _ _ _ h => h) (by rfl) (fun W hW => ?_) ?_
  rotate_left
  · (go_simp; try rfl)
  simp only [Act.put, List.setIfInBounds_toArray, List.set_cons_zero, List.set_cons_succ]
  refine reg_take (v := ?_) 6 (some 3) rfl rfl (by kernel_rfl) (by kernel_rfl) (by kernel_rfl) (fun _ _ _ h => h) (by rfl) (fun W hW => ?_) ?_
  rotate_left
  · (go_simp; try rfl)
  simp only [Act.put, List.setIfInBounds_toArray, List.set_cons_zero, List.set_cons_succ]
  refine reg_take (v := ?_) 7 (some 4) rfl rfl (by kernel_rfl) (by kernel_rfl) (by kernel_rfl) (fun _ _ _ h => h) (by rfl) (fun W hW => ?_) ?_
  rotate_left
  · (go_simp; try rfl)
  simp only [Act.put, List.setIfInBounds_toArray, List.set_cons_zero, List.set_cons_succ]
  refine reg_done (by kernel_rfl) ?_
  replace c4 := (HX.out.cell (p := ⟨w.heap.size, 4, none⟩) HLT).trans c4
  replace c0 := (HX.out.cell (p := ⟨w.heap.size, 0, none⟩) HLT).trans c0
  go_wp2
  all_goals
    go_ret
    refine ⟨?_, B0.out.step HX.out⟩
    refine congrArg (fun z => Ending.returned (Value.int .i64 z)) ?_
    rw [HY.out, checkR_3]
    clear HY
    (try simp only [Bool.not_eq_true', Bool.not_eq_false', beq_eq_false_iff_ne, ne_eq, beq_iff_eq, Bool.not_eq_true, Bool.not_eq_false, decide_eq_true_eq, decide_eq_false_iff_not] at *)
    (try (repeat' split)) <;> first | rfl | omega
theorem checkR_3o (kn vn an : Nat) : checkR 3 true kn vn an = if kn = 16 ∨ kn = 32 then (if vn = 16 then (if 0 < an then 10 else 0) else 6) else 5 := by
  have h1 : hasA 3 true = true := by decide
  have h2 : keyP (3 : Int).toNat kn = decide (kn = 16 ∨ kn = 32) := by
    show keyP 3 kn = _
    simp only [keyP, List.mem_cons, List.not_mem_nil, or_false, Bool.decide_and]
  have h3 : ivP (3 : Int).toNat vn = decide (vn = 16) := by
    show ivP 3 vn = _
    simp only [ivP, List.mem_cons, List.not_mem_nil, or_false, Bool.decide_and]
  have h4 : aadK (3 : Int).toNat = 0 := rfl
  unfold checkR
  rw [h1, h2, h3, h4, if_neg (by decide)]
  by_cases ha : kn = 16 ∨ kn = 32
  · rw [if_pos ha, if_neg (by simp [ha])]
    by_cases hb : vn = 16
    · rw [if_pos hb, if_neg (by simp [hb])]
      (repeat' split) <;> first | rfl | omega
    · rw [if_neg hb, if_pos (by simp only [decide_eq_false_iff_not]; exact hb)]
  · rw [if_neg ha, if_pos (by simp only [decide_eq_false_iff_not]; exact ha)]
set_option maxHeartbeats 4000000 in
theorem refCheck_3o (Ak : Option Addr) (kn kc : Nat) (Ai : Option Addr) (vn ic : Nat) (Aa : Option Addr) (an ac : Nat) (w : World) (h1 : kn ≤ 9223372036854775807) (h2 : vn ≤ 9223372036854775807) (h3 : an ≤ 9223372036854775807) :
    Calls Tryz.prog 17 #[.agg (parV 3 true Ak kn kc Ai vn ic Aa an ac).toArray] w fun e w' => e = .returned (.int .i64 (checkR 3 true kn vn an)) ∧ Below w.heap.size w w' := by
  have PC := Lib.hid (fun (W : World) (g : Nat) (t : TypeId) (fr : Nat × Nat) (h : W.heap[g]? = some (.cells (parV 3 true Ak kn kc Ai vn ic Aa an ac).toArray t fr)) => par_cells h)
  obtain ⟨y, hy⟩ : ∃ y, y = checkR 3 true kn vn an := ⟨_, rfl⟩
  rw [← hy]
  have HY := Lib.hid hy
  clear hy
  generalize parV 3 true Ak kn kc Ai vn ic Aa an ac = PV at PC ⊢
  go_enter Tryz.func17, Tryz.ntmps17
  go_upto_region 1 with (fail)
  have HB := Lib.hid (heap_alloc_new' w (.cells PV.toArray 24))
  have B0 : Hid (Below w.heap.size w (w.alloc (.cells PV.toArray 24))) := (Below.refl _ _).alloc (Nat.le_refl _) _
  generalize w.alloc _ = W0 at HB B0 ⊢
  have c0 := (PC.out _ _ _ _ HB.out).1
  have c1 := (PC.out _ _ _ _ HB.out).2.1
  have c2 := (PC.out _ _ _ _ HB.out).2.2.1
  have c3 := (PC.out _ _ _ _ HB.out).2.2.2.1
  have c4 := (PC.out _ _ _ _ HB.out).2.2.2.2
  have HL := lt_of_heap HB.out
  clear PC HB
  have HLT : w.heap.size < W0.heap.size := HL
  go_upto_region 3 with (fail)
  have HX : Hid (Ext W0 W0.drew) := (Below.refl _ _).drew
  refine reg_start (by kernel_rfl) ?_
  try simp only [Act.put, List.setIfInBounds_toArray, List.set_cons_zero, List.set_cons_succ]
  refine reg_take (v := ?_) 0 (some 25) rfl rfl (by kernel_rfl) (by kernel_rfl) (by kernel_rfl) (fun _ _ _ h => h) (by rfl) (fun W hW => ?_) ?_
  rotate_left
  · (go_simp; try rfl)
  simp only [Act.put, List.setIfInBounds_toArray, List.set_cons_zero, List.set_cons_succ]
  refine reg_load 1 (some 26) (fun W hW => o_load_slice uT (((HX.out.trans hW).cell (p := ⟨w.heap.size, 2, none⟩) HLT).trans c2)) rfl rfl rfl rfl (by kernel_rfl) (by kernel_rfl) (by kernel_rfl) (fun _ _ _ h => h) (by rfl) ?_
  simp only [Act.put, List.setIfInBounds_toArray, List.set_cons_zero, List.set_cons_succ]
  refine reg_take (v := ?_) 2 (some 27) rfl rfl (by kernel_rfl) (by kernel_rfl) (by kernel_rfl) (fun _ _ _ h => h) (by rfl) (fun W hW => ?_) ?_
  rotate_left
  · (go_simp; try rfl)
  simp only [Act.put, List.setIfInBounds_toArray, List.set_cons_zero, List.set_cons_succ]
  refine reg_take (v := ?_) 3 (some 28) rfl rfl (by kernel_rfl) (by kernel_rfl) (by kernel_rfl) (fun _ _ _ h => h) (by rfl) (fun W hW => ?_) ?_
  rotate_left
  · (go_simp; try rfl)
  simp only [Act.put, List.setIfInBounds_toArray, List.set_cons_zero, List.set_cons_succ]
  refine reg_load 4 (some 29) (fun W hW => o_load_slice uT (((HX.out.trans hW).cell (p := ⟨w.heap.size, 3, none⟩) HLT).trans c3)) rfl rfl rfl rfl (by kernel_rfl) (by kernel_rfl) (by kernel_rfl) (fun _ _ _ h => h) (by rfl) ?_
  simp only [Act.put, List.setIfInBounds_toArray, List.set_cons_zero, List.set_cons_succ]
  refine reg_take (v := ?_) 5 (some 30) rfl rfl (by kernel_rfl) (by kernel_rfl) (by kernel_rfl) (fun _ _ _ h => h) (by rfl) (fun W hW => ?_) ?_
  rotate_left
  · (go_simp; try rfl)
  simp only [Act.put, List.setIfInBounds_toArray, List.set_cons_zero, List.set_cons_succ]
  refine reg_take (v := ?_) 6 (some 3) rfl rfl (by kernel_rfl) (by kernel_rfl) (by kernel_rfl) (fun _ _ _ h => h) (by rfl) (fun W hW => ?_) ?_
  rotate_left
  · (go_simp; try rfl)
  simp only [Act.put, List.setIfInBounds_toArray, List.set_cons_zero, List.set_cons_succ]
  refine reg_take (v := ?_) 7 (some 4) rfl rfl (by kernel_rfl) (by kernel_rfl) (by kernel_rfl) (fun _ _ _ h => h) (by rfl) (fun W hW => ?_) ?_
  rotate_left
  · (go_simp; try rfl)
  simp only [Act.put, List.setIfInBounds_toArray, List.set_cons_zero, List.set_cons_succ]
  refine reg_done (by kernel_rfl) ?_
  replace c4 := (HX.out.cell (p := ⟨w.heap.size, 4, none⟩) HLT).trans c4
  replace c0 := (HX.out.cell (p := ⟨w.heap.size, 0, none⟩) HLT).trans c0
  go_wp2
  all_goals
    go_ret
    refine ⟨?_, B0.out.step HX.out⟩
    refine congrArg (fun z => Ending.returned (Value.int .i64 z)) ?_
    rw [HY.out, checkR_3o]
    clear HY
    (try simp only [Bool.not_eq_true', Bool.not_eq_false', beq_eq_false_iff_ne, ne_eq, beq_iff_eq, Bool.not_eq_true, Bool.not_eq_false, decide_eq_true_eq, decide_eq_false_iff_not] at *)
    (try (repeat' split)) <;> first | rfl | omega
theorem checkR_4 (kn vn an : Nat) : checkR 4 false kn vn an = if kn = 16 ∨ kn = 32 then (if vn = 16 then (if 0 < an then 10 else 0) else 6) else 5 := by
  have h1 : hasA 4 false = true := by decide
  have h2 : keyP (4 : Int).toNat kn = decide (kn = 16 ∨ kn = 32) := by
    show keyP 4 kn = _
    simp only [keyP, List.mem_cons, List.not_mem_nil, or_false, Bool.decide_and]
  have h3 : ivP (4 : Int).toNat vn = decide (vn = 16) := by
    show ivP 4 vn = _
    simp only [ivP, List.mem_cons, List.not_mem_nil, or_false, Bool.decide_and]
  have h4 : aadK (4 : Int).toNat = 0 := rfl
  unfold checkR
  rw [h1, h2, h3, h4, if_neg (by decide)]
  by_cases ha : kn = 16 ∨ kn = 32
  · rw [if_pos ha, if_neg (by simp [ha])]
    by_cases hb : vn = 16
    · rw [if_pos hb, if_neg (by simp [hb])]
      (repeat' split) <;> first | rfl | omega
    · rw [if_neg hb, if_pos (by simp only [decide_eq_false_iff_not]; exact hb)]
  · rw [if_neg ha, if_pos (by simp only [decide_eq_false_iff_not]; exact ha)]
set_option maxHeartbeats 4000000 in
theorem refCheck_4 (Ak : Option Addr) (kn kc : Nat) (Ai : Option Addr) (vn ic : Nat) (Aa : Option Addr) (an ac : Nat) (w : World) (h1 : kn ≤ 9223372036854775807) (h2 : vn ≤ 9223372036854775807) (h3 : an ≤ 9223372036854775807) :
    Calls Tryz.prog 17 #[.agg (parV 4 false Ak kn kc Ai vn ic Aa an ac).toArray] w fun e w' => e = .returned (.int .i64 (checkR 4 false kn vn an)) ∧ Below w.heap.size w w' := by
  have PC := Lib.hid (fun (W : World) (g : Nat) (t : TypeId) (fr : Nat × Nat) (h : W.heap[g]? = some (.cells (parV 4 false Ak kn kc Ai vn ic Aa an ac).toArray t fr)) => par_cells h)
  obtain ⟨y, hy⟩ : ∃ y, y = checkR 4 false kn vn an := ⟨_, rfl⟩
  rw [← hy]
  have HY := Lib.hid hy
  clear hy
  generalize parV 4 false Ak kn kc Ai vn ic Aa an ac = PV at PC ⊢
  go_enter Tryz.func17, Tryz.ntmps17
  go_upto_region 1 with (fail)
  have HB := Lib.hid (heap_alloc_new' w (.cells PV.toArray 24))
  have B0 : Hid (Below w.heap.size w (w.alloc (.cells PV.toArray 24))) := (Below.refl _ _).alloc (Nat.le_refl _) _
  generalize w.alloc _ = W0 at HB B0 ⊢
  have c0 := (PC.out _ _ _ _ HB.out).1
  have c1 := (PC.out _ _ _ _ HB.out).2.1
  have c2 := (PC.out _ _ _ _ HB.out).2.2.1
  have c3 := (PC.out _ _ _ _ HB.out).2.2.2.1
  have c4 := (PC.out _ _ _ _ HB.out).2.2.2.2
  have HL := lt_of_heap HB.out
  clear PC HB
  have HLT : w.heap.size < W0.heap.size := HL
  go_upto_region 3 with (fail)
  have HX : Hid (Ext W0 W0.drew) := (Below.refl _ _).drew
  refine reg_start (by kernel_rfl) ?_
  try simp only [Act.put, List.setIfInBounds_toArray, List.set_cons_zero, List.set_cons_succ]
  refine reg_take (v := ?_) 0 (some 25) rfl rfl (by kernel_rfl) (by kernel_rfl) (by kernel_rfl) (fun _ _ _ h => h) (by rfl) (fun W hW => ?_) ?_
  rotate_left
  · (go_simp; try rfl)
  simp only [Act.put, List.setIfInBounds_toArray, List.set_cons_zero, List.set_cons_succ]
  refine reg_load 1 (some 26) (fun W hW => o_load_slice uT (((HX.out.trans hW).cell (p := ⟨w.heap.size, 2, none⟩) HLT).trans c2)) rfl rfl rfl rfl (by kernel_rfl) (by kernel_rfl) (by kernel_rfl) (fun _ _ _ h => h) (by rfl) ?_
  simp only [Act.put, List.setIfInBounds_toArray, List.set_cons_zero, List.set_cons_succ]
  refine reg_take (v := ?_) 2 (some 27) rfl rfl (by kernel_rfl) (by kernel_rfl) (by kernel_rfl) (fun _ _ _ h => h) (by rfl) (fun W hW => ?_) ?_
  rotate_left
  · (go_simp; try rfl)
  simp only [Act.put, List.setIfInBounds_toArray, List.set_cons_zero, List.set_cons_succ]
  refine reg_take (v := ?_) 3 (some 28) rfl rfl (by kernel_rfl) (by kernel_rfl) (by kernel_rfl) (fun _ _ _ h => h) (by rfl) (fun W hW => ?_) ?_
  rotate_left
  · (go_simp; try rfl)
  simp only [Act.put, List.setIfInBounds_toArray, List.set_cons_zero, List.set_cons_succ]
  refine reg_load 4 (some 29) (fun W hW => o_load_slice uT (((HX.out.trans hW).cell (p := ⟨w.heap.size, 3, none⟩) HLT).trans c3)) rfl rfl rfl rfl (by kernel_rfl) (by kernel_rfl) (by kernel_rfl) (fun _ _ _ h => h) (by rfl) ?_
  simp only [Act.put, List.setIfInBounds_toArray, List.set_cons_zero, List.set_cons_succ]
  refine reg_take (v := ?_) 5 (some 30) rfl rfl (by kernel_rfl) (by kernel_rfl) (by kernel_rfl) (fun _ _ _ h => h) (by rfl) (fun W hW => ?_) ?_
  rotate_left
  · (go_simp; try rfl)
  simp only [Act.put, List.setIfInBounds_toArray, List.set_cons_zero, List.set_cons_succ]
  refine reg_take (v := ?_) 6 (some 3) rfl rfl (by kernel_rfl) (by kernel_rfl) (by kernel_rfl) (fun _ _ _ h => h) (by rfl) (fun W hW => ?_) ?_
  rotate_left
  · (go_simp; try rfl)
  simp only [Act.put, List.setIfInBounds_toArray, List.set_cons_zero, List.set_cons_succ]
  refine reg_take (v := ?_) 7 (some 4) rfl rfl (by kernel_rfl) (by kernel_rfl) (by kernel_rfl) (fun _ _ _ h => h) (by rfl) (fun W hW => ?_) ?_
  rotate_left
  · (go_simp; try rfl)
  simp only [Act.put, List.setIfInBounds_toArray, List.set_cons_zero, List.set_cons_succ]
  refine reg_done (by kernel_rfl) ?_
  replace c4 := (HX.out.cell (p := ⟨w.heap.size, 4, none⟩) HLT).trans c4
  replace c0 := (HX.out.cell (p := ⟨w.heap.size, 0, none⟩) HLT).trans c0
  go_wp2
  all_goals
    go_ret
    refine ⟨?_, B0.out.step HX.out⟩
    refine congrArg (fun z => Ending.returned (Value.int .i64 z)) ?_
    rw [HY.out, checkR_4]
    clear HY
    (try simp only [Bool.not_eq_true', Bool.not_eq_false', beq_eq_false_iff_ne, ne_eq, beq_iff_eq, Bool.not_eq_true, Bool.not_eq_false, decide_eq_true_eq, decide_eq_false_iff_not] at *)
    (try (repeat' split)) <;> first | rfl | omega
theorem checkR_4o (kn vn an : Nat) : checkR 4 true kn vn an = if kn = 16 ∨ kn = 32 then (if vn = 16 then (if 0 < an then 10 else 0) else 6) else 5 := by
  have h1 : hasA 4 true = true := by decide
  have h2 : keyP (4 : Int).toNat kn = decide (kn = 16 ∨ kn = 32) := by
    show keyP 4 kn = _
    simp only [keyP, List.mem_cons, List.not_mem_nil, or_false, Bool.decide_and]
  have h3 : ivP (4 : Int).toNat vn = decide (vn = 16) := by
    show ivP 4 vn = _
    simp only [ivP, List.mem_cons, List.not_mem_nil, or_false, Bool.decide_and]
  have h4 : aadK (4 : Int).toNat = 0 := rfl
  unfold checkR
  rw [h1, h2, h3, h4, if_neg (by decide)]
  by_cases ha : kn = 16 ∨ kn = 32
  · rw [if_pos ha, if_neg (by simp [ha])]
    by_cases hb : vn = 16
    · rw [if_pos hb, if_neg (by simp [hb])]
      (repeat' split) <;> first | rfl | omega
    · rw [if_neg hb, if_pos (by simp only [decide_eq_false_iff_not]; exact hb)]
  · rw [if_neg ha, if_pos (by simp only [decide_eq_false_iff_not]; exact ha)]
set_option maxHeartbeats 4000000 in
theorem refCheck_4o (Ak : Option Addr) (kn kc : Nat) (Ai : Option Addr) (vn ic : Nat) (Aa : Option Addr) (an ac : Nat) (w : World) (h1 : kn ≤ 9223372036854775807) (h2 : vn ≤ 9223372036854775807) (h3 : an ≤ 9223372036854775807) :
    Calls Tryz.prog 17 #[.agg (parV 4 true Ak kn kc Ai vn ic Aa an ac).toArray] w fun e w' => e = .returned (.int .i64 (checkR 4 true kn vn an)) ∧ Below w.heap.size w w' := by
  have PC := Lib.hid (fun (W : World) (g : Nat) (t : TypeId) (fr : Nat × Nat) (h : W.heap[g]? = some (.cells (parV 4 true Ak kn kc Ai vn ic Aa an ac).toArray t fr)) => par_cells h)
  obtain ⟨y, hy⟩ : ∃ y, y = checkR 4 true kn vn an := ⟨_, rfl⟩
  rw [← hy]
  have HY := Lib.hid hy
  clear hy
  generalize parV 4 true Ak kn kc Ai vn ic Aa an ac = PV at PC ⊢
  go_enter Tryz.func17, Tryz.ntmps17
  go_upto_region 1 with (fail)
  have HB := Lib.hid (heap_alloc_new' w (.cells PV.toArray 24))
  have B0 : Hid (Below w.heap.size w (w.alloc (.cells PV.toArray 24))) := (Below.refl _ _).alloc (Nat.le_refl _) _
  generalize w.alloc _ = W0 at HB B0 ⊢
  have c0 := (PC.out _ _ _ _ HB.out).1
  have c1 := (PC.out _ _ _ _ HB.out).2.1
  have c2 := (PC.out _ _ _ _ HB.out).2.2.1
  have c3 := (PC.out _ _ _ _ HB.out).2.2.2.1
  have c4 := (PC.out _ _ _ _ HB.out).2.2.2.2
  have HL := lt_of_heap HB.out
  clear PC HB
  have HLT : w.heap.size < W0.heap.size := HL
  go_upto_region 3 with (fail)
  have HX : Hid (Ext W0 W0.drew) := (Below.refl _ _).drew
  refine reg_start (by kernel_rfl) ?_
  try simp only [Act.put, List.setIfInBounds_toArray, List.set_cons_zero, List.set_cons_succ]
  refine reg_take (v := ?_) 0 (some 25) rfl rfl (by kernel_rfl) (by kernel_rfl) (by kernel_rfl) (fun _ _ _ h => h) (by rfl) (fun W hW => ?_) ?_
  rotate_left
  · (go_simp; try rfl)
  simp only [Act.put, List.setIfInBounds_toArray, List.set_cons_zero, List.set_cons_succ]
  refine reg_load 1 (some 26) (fun W hW => o_load_slice uT (((HX.out.trans hW).cell (p := ⟨w.heap.size, 2, none⟩) HLT).trans c2)) rfl rfl rfl rfl (by kernel_rfl) (by kernel_rfl) (by kernel_rfl) (fun _ _ _ h => h) (by rfl) ?_
  simp only [Act.put, List.setIfInBounds_toArray, List.set_cons_zero, List.set_cons_succ]
  refine reg_take (v := ?_) 2 (some 27) rfl rfl (by kernel_rfl) (by kernel_rfl) (by kernel_rfl) (fun _ _ _ h => h) (by rfl) (fun W hW => ?_) ?_
  rotate_left
  · (go_simp; try rfl)
  simp only [Act.put, List.setIfInBounds_toArray, List.set_cons_zero, List.set_cons_succ]
  refine reg_take (v := ?_) 3 (some 28) rfl rfl (by kernel_rfl) (by kernel_rfl) (by kernel_rfl) (fun _ _ _ h => h) (by rfl) (fun W hW => ?_) ?_
  rotate_left
  · (go_simp; try rfl)
  simp only [Act.put, List.setIfInBounds_toArray, List.set_cons_zero, List.set_cons_succ]
  refine reg_load 4 (some 29) (fun W hW => o_load_slice uT (((HX.out.trans hW).cell (p := ⟨w.heap.size, 3, none⟩) HLT).trans c3)) rfl rfl rfl rfl (by kernel_rfl) (by kernel_rfl) (by kernel_rfl) (fun _ _ _ h => h) (by rfl) ?_
  simp only [Act.put, List.setIfInBounds_toArray, List.set_cons_zero, List.set_cons_succ]
  refine reg_take (v := ?_) 5 (some 30) rfl rfl (by kernel_rfl) (by kernel_rfl) (by kernel_rfl) (fun _ _ _ h => h) (by rfl) (fun W hW => ?_) ?_
  rotate_left
  · (go_simp; try rfl)
  simp only [Act.put, List.setIfInBounds_toArray, List.set_cons_zero, List.set_cons_succ]
  refine reg_take (v := ?_) 6 (some 3) rfl rfl (by kernel_rfl) (by kernel_rfl) (by kernel_rfl) (fun _ _ _ h => h) (by rfl) (fun W hW => ?_) ?_
  rotate_left
  · (go_simp; try rfl)
  simp only [Act.put, List.setIfInBounds_toArray, List.set_cons_zero, List.set_cons_succ]
  refine reg_take (v := ?_) 7 (some 4) rfl rfl (by kernel_rfl) (by kernel_rfl) (by kernel_rfl) (fun _ _ _ h => h) (by rfl) (fun W hW => ?_) ?_
  rotate_left
  · (go_simp; try rfl)
  simp only [Act.put, List.setIfInBounds_toArray, List.set_cons_zero, List.set_cons_succ]
  refine reg_done (by kernel_rfl) ?_
  replace c4 := (HX.out.cell (p := ⟨w.heap.size, 4, none⟩) HLT).trans c4
  replace c0 := (HX.out.cell (p := ⟨w.heap.size, 0, none⟩) HLT).trans c0
  go_wp2
  all_goals
    go_ret
    refine ⟨?_, B0.out.step HX.out⟩
    refine congrArg (fun z => Ending.returned (Value.int .i64 z)) ?_
    rw [HY.out, checkR_4o]
    clear HY
    (try simp only [Bool.not_eq_true', Bool.not_eq_false', beq_eq_false_iff_ne, ne_eq, beq_iff_eq, Bool.not_eq_true, Bool.not_eq_false, decide_eq_true_eq, decide_eq_false_iff_not] at *)
    (try (repeat' split)) <;> first | rfl | omega
theorem checkR_5 (kn vn an : Nat) : checkR 5 false kn vn an = if kn = 16 ∨ kn = 32 then (if 1 ≤ vn ∧ vn ≤ 64 then (if 1000 < an then 10 else 0) else 6) else 5 := by
  have h1 : hasA 5 false = true := by decide
  have h2 : keyP (5 : Int).toNat kn = decide (kn = 16 ∨ kn = 32) := by
    show keyP 5 kn = _
    simp only [keyP, List.mem_cons, List.not_mem_nil, or_false, Bool.decide_and]
  have h3 : ivP (5 : Int).toNat vn = decide (1 ≤ vn ∧ vn ≤ 64) := by
    show ivP 5 vn = _
    simp only [ivP, List.mem_cons, List.not_mem_nil, or_false, Bool.decide_and]
  have h4 : aadK (5 : Int).toNat = 1000 := rfl
  unfold checkR
  rw [h1, h2, h3, h4, if_neg (by decide)]
  by_cases ha : kn = 16 ∨ kn = 32
  · rw [if_pos ha, if_neg (by simp [ha])]
    by_cases hb : 1 ≤ vn ∧ vn ≤ 64
    · rw [if_pos hb, if_neg (by simp [hb])]
      (repeat' split) <;> first | rfl | omega
    · rw [if_neg hb, if_pos (by simp only [decide_eq_false_iff_not]; exact hb)]
  · rw [if_neg ha, if_pos (by simp only [decide_eq_false_iff_not]; exact ha)]
set_option maxHeartbeats 4000000 in
theorem refCheck_5 (Ak : Option Addr) (kn kc : Nat) (Ai : Option Addr) (vn ic : Nat) (Aa : Option Addr) (an ac : Nat) (w : World) (h1 : kn ≤ 9223372036854775807) (h2 : vn ≤ 9223372036854775807) (h3 : an ≤ 9223372036854775807) :
    Calls Tryz.prog 17 #[.agg (parV 5 false Ak kn kc Ai vn ic Aa an ac).toArray] w fun e w' => e = .returned (.int .i64 (checkR 5 false kn vn an)) ∧ Below w.heap.size w w' := by
  have PC := Lib.hid (fun (W : World) (g : Nat) (t : TypeId) (fr : Nat × Nat) (h : W.heap[g]? = some (.cells (parV 5 false Ak kn kc Ai vn ic Aa an ac).toArray t fr)) => par_cells h)
  obtain ⟨y, hy⟩ : ∃ y, y = checkR 5 false kn vn an := ⟨_, rfl⟩
  rw [← hy]
  have HY := Lib.hid hy
  clear hy
  generalize parV 5 false Ak kn kc Ai vn ic Aa an ac = PV at PC ⊢
  go_enter Tryz.func17, Tryz.ntmps17
  go_upto_region 1 with (fail)
  have HB := Lib.hid (heap_alloc_new' w (.cells PV.toArray 24))
  have B0 : Hid (Below w.heap.size w (w.alloc (.cells PV.toArray 24))) := (Below.refl _ _).alloc (Nat.le_refl _) _
  generalize w.alloc _ = W0 at HB B0 ⊢
  have c0 := (PC.out _ _ _ _ HB.out).1
  have c1 := (PC.out _ _ _ _ HB.out).2.1
  have c2 := (PC.out _ _ _ _ HB.out).2.2.1
  have c3 := (PC.out _ _ _ _ HB.out).2.2.2.1
  have c4 := (PC.out _ _ _ _ HB.out).2.2.2.2
  have HL := lt_of_heap HB.out
  clear PC HB
  have HLT : w.heap.size < W0.heap.size := HL
  go_upto_region 3 with (fail)
  have HX : Hid (Ext W0 W0.drew) := (Below.refl _ _).drew
  refine reg_start (by kernel_rfl) ?_
  try simp only [Act.put, List.setIfInBounds_toArray, List.set_cons_zero, List.set_cons_succ]
  refine reg_take (v := ?_) 0 (some 25) rfl rfl (by kernel_rfl) (by kernel_rfl) (by kernel_rfl) (fun _ _ _ h => h) (by rfl) (fun W hW => ?_) ?_
  rotate_left
  · (go_simp; try rfl)
  simp only [Act.put, List.setIfInBounds_toArray, List.set_cons_zero, List.set_cons_succ]
  refine reg_load 1 (some 26) (fun W hW => o_load_slice uT (((HX.out.trans hW).cell (p := ⟨w.heap.size, 2, none⟩) HLT).trans c2)) rfl rfl rfl rfl (by kernel_rfl) (by kernel_rfl) (by kernel_rfl) (fun _ _ _ h => h) (by rfl) ?_
  simp only [Act.put, List.setIfInBounds_toArray, List.set_cons_zero, List.set_cons_succ]
  refine reg_take (v := ?_) 2 (some 27) rfl rfl (by kernel_rfl) (by kernel_rfl) (by kernel_rfl) (fun _ _ _ h => h) (by rfl) (fun W hW => ?_) ?_
  rotate_left
  · (go_simp; try rfl)
  simp only [Act.put, List.setIfInBounds_toArray, List.set_cons_zero, List.set_cons_succ]
  refine reg_take (v := ?_) 3 (some 28) rfl rfl (by kernel_rfl) (by kernel_rfl) (by kernel_rfl) (fun _ _ _ h => h) (by rfl) (fun W hW => ?_) ?_
  rotate_left
  · (go_simp; try rfl)
  simp only [Act.put, List.setIfInBounds_toArray, List.set_cons_zero, List.set_cons_succ]
  refine reg_load 4 (some 29) (fun W hW => o_load_slice uT (((HX.out.trans hW).cell (p := ⟨w.heap.size, 3, none⟩) HLT).trans c3)) rfl rfl rfl rfl (by kernel_rfl) (by kernel_rfl) (by kernel_rfl) (fun _ _ _ h => h) (by rfl) ?_
  simp only [Act.put, List.setIfInBounds_toArray, List.set_cons_zero, List.set_cons_succ]
  refine reg_take (v := ?_) 5 (some 30) rfl rfl (by kernel_rfl) (by kernel_rfl) (by kernel_rfl) (fun _ _ _ h => h) (by rfl) (fun W hW => ?_) ?_
  rotate_left
  · (go_simp; try rfl)
  simp only [Act.put, List.setIfInBounds_toArray, List.set_cons_zero, List.set_cons_succ]
  refine reg_take (v := ?_) 6 (some 3) rfl rfl (by kernel_rfl) (by kernel_rfl) (by kernel_rfl) (fun _ _ _ h => h) (by rfl) (fun W hW => ?_) ?_
  rotate_left
  · (go_simp; try rfl)
  simp only [Act.put, List.setIfInBounds_toArray, List.set_cons_zero, List.set_cons_succ]
  refine reg_take (v := ?_) 7 (some 4) rfl rfl (by kernel_rfl) (by kernel_rfl) (by kernel_rfl) (fun _ _ _ h => h) (by rfl) (fun W hW => ?_) ?_
  rotate_left
  · (go_simp; try rfl)
  simp only [Act.put, List.setIfInBounds_toArray, List.set_cons_zero, List.set_cons_succ]
  refine reg_done (by kernel_rfl) ?_
  replace c4 := (HX.out.cell (p := ⟨w.heap.size, 4, none⟩) HLT).trans c4
  replace c0 := (HX.out.cell (p := ⟨w.heap.size, 0, none⟩) HLT).trans c0
  go_wp2
  all_goals
    go_ret
    refine ⟨?_, B0.out.step HX.out⟩
    refine congrArg (fun z => Ending.returned (Value.int .i64 z)) ?_
    rw [HY.out, checkR_5]
    clear HY
    (try simp only [Bool.not_eq_true', Bool.not_eq_false', beq_eq_false_iff_ne, ne_eq, beq_iff_eq, Bool.not_eq_true, Bool.not_eq_false, decide_eq_true_eq, decide_eq_false_iff_not] at *)
    (try (repeat' split)) <;> first | rfl | omega
theorem checkR_5o (kn vn an : Nat) : checkR 5 true kn vn an = if kn = 16 ∨ kn = 32 then (if 1 ≤ vn ∧ vn ≤ 64 then (if 1000 < an then 10 else 0) else 6) else 5 := by
  have h1 : hasA 5 true = true := by decide
  have h2 : keyP (5 : Int).toNat kn = decide (kn = 16 ∨ kn = 32) := by
    show keyP 5 kn = _
    simp only [keyP, List.mem_cons, List.not_mem_nil, or_false, Bool.decide_and]
  have h3 : ivP (5 : Int).toNat vn = decide (1 ≤ vn ∧ vn ≤ 64) := by
    show ivP 5 vn = _
    simp only [ivP, List.mem_cons, List.not_mem_nil, or_false, Bool.decide_and]
  have h4 : aadK (5 : Int).toNat = 1000 := rfl
  unfold checkR
  rw [h1, h2, h3, h4, if_neg (by decide)]
  by_cases ha : kn = 16 ∨ kn = 32
  · rw [if_pos ha, if_neg (by simp [ha])]
    by_cases hb : 1 ≤ vn ∧ vn ≤ 64
    · rw [if_pos hb, if_neg (by simp [hb])]
      (repeat' split) <;> first | rfl | omega
    · rw [if_neg hb, if_pos (by simp only [decide_eq_false_iff_not]; exact hb)]
  · rw [if_neg ha, if_pos (by simp only [decide_eq_false_iff_not]; exact ha)]
set_option maxHeartbeats 4000000 in
theorem refCheck_5o (Ak : Option Addr) (kn kc : Nat) (Ai : Option Addr) (vn ic : Nat) (Aa : Option Addr) (an ac : Nat) (w : World) (h1 : kn ≤ 9223372036854775807) (h2 : vn ≤ 9223372036854775807) (h3 : an ≤ 9223372036854775807) :
    Calls Tryz.prog 17 #[.agg (parV 5 true Ak kn kc Ai vn ic Aa an ac).toArray] w fun e w' => e = .returned (.int .i64 (checkR 5 true kn vn an)) ∧ Below w.heap.size w w' := by
  have PC := Lib.hid (fun (W : World) (g : Nat) (t : TypeId) (fr : Nat × Nat) (h : W.heap[g]? = some (.cells (parV 5 true Ak kn kc Ai vn ic Aa an ac).toArray t fr)) => par_cells h)
  obtain ⟨y, hy⟩ : ∃ y, y = checkR 5 true kn vn an := ⟨_, rfl⟩
  rw [← hy]
  have HY := Lib.hid hy
  clear hy
  generalize parV 5 true Ak kn kc Ai vn ic Aa an ac = PV at PC ⊢
  go_enter Tryz.func17, Tryz.ntmps17
  go_upto_region 1 with (fail)
  have HB := Lib.hid (heap_alloc_new' w (.cells PV.toArray 24))
  have B0 : Hid (Below w.heap.size w (w.alloc (.cells PV.toArray 24))) := (Below.refl _ _).alloc (Nat.le_refl _) _
  generalize w.alloc _ = W0 at HB B0 ⊢
  have c0 := (PC.out _ _ _ _ HB.out).1
  have c1 := (PC.out _ _ _ _ HB.out).2.1
  have c2 := (PC.out _ _ _ _ HB.out).2.2.1
  have c3 := (PC.out _ _ _ _ HB.out).2.2.2.1
  have c4 := (PC.out _ _ _ _ HB.out).2.2.2.2
  have HL := lt_of_heap HB.out
  clear PC HB
  have HLT : w.heap.size < W0.heap.size := HL
  go_upto_region 3 with (fail)
  have HX : Hid (Ext W0 W0.drew) := (Below.refl _ _).drew
  refine reg_start (by kernel_rfl) ?_
  try simp only [Act.put, List.setIfInBounds_toArray, List.set_cons_zero, List.set_cons_succ]
  refine reg_take (v := ?_) 0 (some 25) rfl rfl (by kernel_rfl) (by kernel_rfl) (by kernel_rfl) (fun _ _ _ h => h) (by rfl) (fun W hW => ?_) ?_
  rotate_left
  · (go_simp; try rfl)
  simp only [Act.put, List.setIfInBounds_toArray, List.set_cons_zero, List.set_cons_succ]
  refine reg_load 1 (some 26) (fun W hW => o_load_slice uT (((HX.out.trans hW).cell (p := ⟨w.heap.size, 2, none⟩) HLT).trans c2)) rfl rfl rfl rfl (by kernel_rfl) (by kernel_rfl) (by kernel_rfl) (fun _ _ _ h => h) (by rfl) ?_
  simp only [Act.put, List.setIfInBounds_toArray, List.set_cons_zero, List.set_cons_succ]
  refine reg_take (v := ?_) 2 (some 27) rfl rfl (by kernel_rfl) (by kernel_rfl) (by kernel_rfl) (fun _ _ _ h => h) (by rfl) (fun W hW => ?_) ?_
  rotate_left
  · (go_simp; try rfl)
  simp only [Act.put, List.setIfInBounds_toArray, List.set_cons_zero, List.set_cons_succ]
  refine reg_take (v := ?_) 3 (some 28) rfl rfl (by kernel_rfl) (by kernel_rfl) (by kernel_rfl) (fun _ _ _ h => h) (by rfl) (fun W hW => ?_) ?_
  rotate_left
  · (go_simp; try rfl)
  simp only [Act.put, List.setIfInBounds_toArray, List.set_cons_zero, List.set_cons_succ]
  refine reg_load 4 (some 29) (fun W hW => o_load_slice uT (((HX.out.trans hW).cell (p := ⟨w.heap.size, 3, none⟩) HLT).trans c3)) rfl rfl rfl rfl (by kernel_rfl) (by kernel_rfl) (by kernel_rfl) (fun _ _ _ h => h) (by rfl) ?_
  simp only [Act.put, List.setIfInBounds_toArray, List.set_cons_zero, List.set_cons_succ]
  refine reg_take (v := ?_) 5 (some 30) rfl rfl (by kernel_rfl) (by kernel_rfl) (by kernel_rfl) (fun _ _ _ h => h) (by rfl) (fun W hW => ?_) ?_
  rotate_left
  · (go_simp; try rfl)
  simp only [Act.put, List.setIfInBounds_toArray, List.set_cons_zero, List.set_cons_succ]
  refine reg_take (v := ?_) 6 (some 3) rfl rfl (by kernel_rfl) (by kernel_rfl) (by kernel_rfl) (fun _ _ _ h => h) (by rfl) (fun W hW => ?_) ?_
  rotate_left
  · (go_simp; try rfl)
  simp only [Act.put, List.setIfInBounds_toArray, List.set_cons_zero, List.set_cons_succ]
  refine reg_take (v := ?_) 7 (some 4) rfl rfl (by kernel_rfl) (by kernel_rfl) (by kernel_rfl) (fun _ _ _ h => h) (by rfl) (fun W hW => ?_) ?_
  rotate_left
  · (go_simp; try rfl)
  simp only [Act.put, List.setIfInBounds_toArray, List.set_cons_zero, List.set_cons_succ]
  refine reg_done (by kernel_rfl) ?_
  replace c4 := (HX.out.cell (p := ⟨w.heap.size, 4, none⟩) HLT).trans c4
  replace c0 := (HX.out.cell (p := ⟨w.heap.size, 0, none⟩) HLT).trans c0
  go_wp2
  all_goals
    go_ret
    refine ⟨?_, B0.out.step HX.out⟩
    refine congrArg (fun z => Ending.returned (Value.int .i64 z)) ?_
    rw [HY.out, checkR_5o]
    clear HY
    (try simp only [Bool.not_eq_true', Bool.not_eq_false', beq_eq_false_iff_ne, ne_eq, beq_iff_eq, Bool.not_eq_true, Bool.not_eq_false, decide_eq_true_eq, decide_eq_false_iff_not] at *)
    (try (repeat' split)) <;> first | rfl | omega
theorem checkR_6 (kn vn an : Nat) : checkR 6 false kn vn an = if kn = 32 then (if vn = 12 then (if 1000 < an then 10 else 0) else 6) else 5 := by
  have h1 : hasA 6 false = true := by decide
  have h2 : keyP (6 : Int).toNat kn = decide (kn = 32) := by
    show keyP 6 kn = _
    simp only [keyP, List.mem_cons, List.not_mem_nil, or_false, Bool.decide_and]
  have h3 : ivP (6 : Int).toNat vn = decide (vn = 12) := by
    show ivP 6 vn = _
    simp only [ivP, List.mem_cons, List.not_mem_nil, or_false, Bool.decide_and]
  have h4 : aadK (6 : Int).toNat = 1000 := rfl
  unfold checkR
  rw [h1, h2, h3, h4, if_neg (by decide)]
  by_cases ha : kn = 32
  · rw [if_pos ha, if_neg (by simp [ha])]
    by_cases hb : vn = 12
    · rw [if_pos hb, if_neg (by simp [hb])]
      (repeat' split) <;> first | rfl | omega
    · rw [if_neg hb, if_pos (by simp only [decide_eq_false_iff_not]; exact hb)]
  · rw [if_neg ha, if_pos (by simp only [decide_eq_false_iff_not]; exact ha)]
set_option maxHeartbeats 4000000 in
theorem refCheck_6 (Ak : Option Addr) (kn kc : Nat) (Ai : Option Addr) (vn ic : Nat) (Aa : Option Addr) (an ac : Nat) (w : World) (h1 : kn ≤ 9223372036854775807) (h2 : vn ≤ 9223372036854775807) (h3 : an ≤ 9223372036854775807) :
    Calls Tryz.prog 17 #[.agg (parV 6 false Ak kn kc Ai vn ic Aa an ac).toArray] w fun e w' => e = .returned (.int .i64 (checkR 6 false kn vn an)) ∧ Below w.heap.size w w' := by
  have PC := Lib.hid (fun (W : World) (g : Nat) (t : TypeId) (fr : Nat × Nat) (h : W.heap[g]? = some (.cells (parV 6 false Ak kn kc Ai vn ic Aa an ac).toArray t fr)) => par_cells h)
  obtain ⟨y, hy⟩ : ∃ y, y = checkR 6 false kn vn an := ⟨_, rfl⟩
  rw [← hy]
  have HY := Lib.hid hy
  clear hy
  generalize parV 6 false Ak kn kc Ai vn ic Aa an ac = PV at PC ⊢
  go_enter Tryz.func17, Tryz.ntmps17
  go_upto_region 1 with (fail)
  have HB := Lib.hid (heap_alloc_new' w (.cells PV.toArray 24))
  have B0 : Hid (Below w.heap.size w (w.alloc (.cells PV.toArray 24))) := (Below.refl _ _).alloc (Nat.le_refl _) _
  generalize w.alloc _ = W0 at HB B0 ⊢
  have c0 := (PC.out _ _ _ _ HB.out).1
  have c1 := (PC.out _ _ _ _ HB.out).2.1
  have c2 := (PC.out _ _ _ _ HB.out).2.2.1
  have c3 := (PC.out _ _ _ _ HB.out).2.2.2.1
  have c4 := (PC.out _ _ _ _ HB.out).2.2.2.2
  have HL := lt_of_heap HB.out
  clear PC HB
  have HLT : w.heap.size < W0.heap.size := HL
  go_upto_region 3 with (fail)
  have HX : Hid (Ext W0 W0.drew) := (Below.refl _ _).drew
  refine reg_start (by kernel_rfl) ?_
  try simp only [Act.put, List.setIfInBounds_toArray, List.set_cons_zero, List.set_cons_succ]
  refine reg_take (v := ?_) 0 (some 25) rfl rfl (by kernel_rfl) (by kernel_rfl) (by kernel_rfl) (fun _ _ _ h => h) (by rfl) (fun W hW => ?_) ?_
  rotate_left
  · (go_simp; try rfl)
  simp only [Act.put, List.setIfInBounds_toArray, List.set_cons_zero, List.set_cons_succ]
  refine reg_load 1 (some 26) (fun W hW => o_load_slice uT (((HX.out.trans hW).cell (p := ⟨w.heap.size, 2, none⟩) HLT).trans c2)) rfl rfl rfl rfl (by kernel_rfl) (by kernel_rfl) (by kernel_rfl) (fun _ _ _ h => h) (by rfl) ?_
  simp only [Act.put, List.setIfInBounds_toArray, List.set_cons_zero, List.set_cons_succ]
  refine reg_take (v := ?_) 2 (some 27) rfl rfl (by kernel_rfl) (by kernel_rfl) (by kernel_rfl) (fun _ _ _ h => h) (by rfl) (fun W hW => ?_) ?_
  rotate_left
  · (go_simp; try rfl)
  simp only [Act.put, List.setIfInBounds_toArray, List.set_cons_zero, List.set_cons_succ]
  refine reg_take (v := ?_) 3 (some 28) rfl rfl (by kernel_rfl) (by kernel_rfl) (by kernel_rfl) (fun _ _ _ h => h) (by rfl) (fun W hW => ?_) ?_
  rotate_left
  · (go_simp; try rfl)
  simp only [Act.put, List.setIfInBounds_toArray, List.set_cons_zero, List.set_cons_succ]
  refine reg_load 4 (some 29) (fun W hW => o_load_slice uT (((HX.out.trans hW).cell (p := ⟨w.heap.size, 3, none⟩) HLT).trans c3)) rfl rfl rfl rfl (by kernel_rfl) (by kernel_rfl) (by kernel_rfl) (fun _ _ _ h => h) (by rfl) ?_
  simp only [Act.put, List.setIfInBounds_toArray, List.set_cons_zero, List.set_cons_succ]
  refine reg_take (v := ?_) 5 (some 30) rfl rfl (by kernel_rfl) (by kernel_rfl) (by kernel_rfl) (fun _ _ _ h => h) (by rfl) (fun W hW => ?_) ?_
  rotate_left
  · (go_simp; try rfl)
  simp only [Act.put, List.setIfInBounds_toArray, List.set_cons_zero, List.set_cons_succ]
  refine reg_take (v := ?_) 6 (some 3) rfl rfl (by kernel_rfl) (by kernel_rfl) (by kernel_rfl) (fun _ _ _ h => h) (by rfl) (fun W hW => ?_) ?_
  rotate_left
  · (go_simp; try rfl)
  simp only [Act.put, List.setIfInBounds_toArray, List.set_cons_zero, List.set_cons_succ]
  refine reg_take (v := ?_) 7 (some 4) rfl rfl (by kernel_rfl) (by kernel_rfl) (by kernel_rfl) (fun _ _ _ h => h) (by rfl) (fun W hW => ?_) ?_
  rotate_left
  · (go_simp; try rfl)
  simp only [Act.put, List.setIfInBounds_toArray, List.set_cons_zero, List.set_cons_succ]
  refine reg_done (by kernel_rfl) ?_
  replace c4 := (HX.out.cell (p := ⟨w.heap.size, 4, none⟩) HLT).trans c4
  replace c0 := (HX.out.cell (p := ⟨w.heap.size, 0, none⟩) HLT).trans c0
  go_wp2
  all_goals
    go_ret
    refine ⟨?_, B0.out.step HX.out⟩
    refine congrArg (fun z => Ending.returned (Value.int .i64 z)) ?_
    rw [HY.out, checkR_6]
    clear HY
    (try simp only [Bool.not_eq_true', Bool.not_eq_false', beq_eq_false_iff_ne, ne_eq, beq_iff_eq, Bool.not_eq_true, Bool.not_eq_false, decide_eq_true_eq, decide_eq_false_iff_not] at *)
    (try (repeat' split)) <;> first | rfl | omega
theorem checkR_6o (kn vn an : Nat) : checkR 6 true kn vn an = if kn = 32 then (if vn = 12 then (if 1000 < an then 10 else 0) else 6) else 5 := by
  have h1 : hasA 6 true = true := by decide
  have h2 : keyP (6 : Int).toNat kn = decide (kn = 32) := by
    show keyP 6 kn = _
    simp only [keyP, List.mem_cons, List.not_mem_nil, or_false, Bool.decide_and]
  have h3 : ivP (6 : Int).toNat vn = decide (vn = 12) := by
    show ivP 6 vn = _
    simp only [ivP, List.mem_cons, List.not_mem_nil, or_false, Bool.decide_and]
  have h4 : aadK (6 : Int).toNat = 1000 := rfl
  unfold checkR
  rw [h1, h2, h3, h4, if_neg (by decide)]
  by_cases ha : kn = 32
  · rw [if_pos ha, if_neg (by simp [ha])]
    by_cases hb : vn = 12
    · rw [if_pos hb, if_neg (by simp [hb])]
      (repeat' split) <;> first | rfl | omega
    · rw [if_neg hb, if_pos (by simp only [decide_eq_false_iff_not]; exact hb)]
  · rw [if_neg ha, if_pos (by simp only [decide_eq_false_iff_not]; exact ha)]
set_option maxHeartbeats 4000000 in
theorem refCheck_6o (Ak : Option Addr) (kn kc : Nat) (Ai : Option Addr) (vn ic : Nat) (Aa : Option Addr) (an ac : Nat) (w : World) (h1 : kn ≤ 9223372036854775807) (h2 : vn ≤ 9223372036854775807) (h3 : an ≤ 9223372036854775807) :
    Calls Tryz.prog 17 #[.agg (parV 6 true Ak kn kc Ai vn ic Aa an ac).toArray] w fun e w' => e = .returned (.int .i64 (checkR 6 true kn vn an)) ∧ Below w.heap.size w w' := by
  have PC := Lib.hid (fun (W : World) (g : Nat) (t : TypeId) (fr : Nat × Nat) (h : W.heap[g]? = some (.cells (parV 6 true Ak kn kc Ai vn ic Aa an ac).toArray t fr)) => par_cells h)
  obtain ⟨y, hy⟩ : ∃ y, y = checkR 6 true kn vn an := ⟨_, rfl⟩
  rw [← hy]
  have HY := Lib.hid hy
  clear hy
  generalize parV 6 true Ak kn kc Ai vn ic Aa an ac = PV at PC ⊢
  go_enter Tryz.func17, Tryz.ntmps17
  go_upto_region 1 with (fail)
  have HB := Lib.hid (heap_alloc_new' w (.cells PV.toArray 24))
  have B0 : Hid (Below w.heap.size w (w.alloc (.cells PV.toArray 24))) := (Below.refl _ _).alloc (Nat.le_refl _) _
  generalize w.alloc _ = W0 at HB B0 ⊢
  have c0 := (PC.out _ _ _ _ HB.out).1
  have c1 := (PC.out _ _ _ _ HB.out).2.1
  have c2 := (PC.out _ _ _ _ HB.out).2.2.1
  have c3 := (PC.out _ _ _ _ HB.out).2.2.2.1
  have c4 := (PC.out _ _ _ _ HB.out).2.2.2.2
  have HL := lt_of_heap HB.out
  clear PC HB
  have HLT : w.heap.size < W0.heap.size := HL
  go_upto_region 3 with (fail)
  have HX : Hid (Ext W0 W0.drew) := (Below.refl _ _).drew
  refine reg_start (by kernel_rfl) ?_
  try simp only [Act.put, List.setIfInBounds_toArray, List.set_cons_zero, List.set_cons_succ]
  refine reg_take (v := ?_) 0 (some 25) rfl rfl (by kernel_rfl) (by kernel_rfl) (by kernel_rfl) (fun _ _ _ h => h) (by rfl) (fun W hW => ?_) ?_
  rotate_left
  · (go_simp; try rfl)
  simp only [Act.put, List.setIfInBounds_toArray, List.set_cons_zero, List.set_cons_succ]
  refine reg_load 1 (some 26) (fun W hW => o_load_slice uT (((HX.out.trans hW).cell (p := ⟨w.heap.size, 2, none⟩) HLT).trans c2)) rfl rfl rfl rfl (by kernel_rfl) (by kernel_rfl) (by kernel_rfl) (fun _ _ _ h => h) (by rfl) ?_
  simp only [Act.put, List.setIfInBounds_toArray, List.set_cons_zero, List.set_cons_succ]
  refine reg_take (v := ?_) 2 (some 27) rfl rfl (by kernel_rfl) (by kernel_rfl) (by kernel_rfl) (fun _ _ _ h => h) (by rfl) (fun W hW => ?_) ?_
  rotate_left
  · (go_simp; try rfl)
  simp only [Act.put, List.setIfInBounds_toArray, List.set_cons_zero, List.set_cons_succ]
  refine reg_take (v := ?_) 3 (some 28) rfl rfl (by kernel_rfl) (by kernel_rfl) (by kernel_rfl) (fun _ _ _ h => h) (by rfl) (fun W hW => ?_) ?_
  rotate_left
  · (go_simp; try rfl)
  simp only [Act.put, List.setIfInBounds_toArray, List.set_cons_zero, List.set_cons_succ]
  refine reg_load 4 (some 29) (fun W hW => o_load_slice uT (((HX.out.trans hW).cell (p := ⟨w.heap.size, 3, none⟩) HLT).trans c3)) rfl rfl rfl rfl (by kernel_rfl) (by kernel_rfl) (by kernel_rfl) (fun _ _ _ h => h) (by rfl) ?_
  simp only [Act.put, List.setIfInBounds_toArray, List.set_cons_zero, List.set_cons_succ]
  refine reg_take (v := ?_) 5 (some 30) rfl rfl (by kernel_rfl) (by kernel_rfl) (by kernel_rfl) (fun _ _ _ h => h) (by rfl) (fun W hW => ?_) ?_
  rotate_left
  · (go_simp; try rfl)
  simp only [Act.put, List.setIfInBounds_toArray, List.set_cons_zero, List.set_cons_succ]
  refine reg_take (v := ?_) 6 (some 3) rfl rfl (by kernel_rfl) (by kernel_rfl) (by kernel_rfl) (fun _ _ _ h => h) (by rfl) (fun W hW => ?_) ?_
  rotate_left
  · (go_simp; try rfl)
  simp only [Act.put, List.setIfInBounds_toArray, List.set_cons_zero, List.set_cons_succ]
  refine reg_take (v := ?_) 7 (some 4) rfl rfl (by kernel_rfl) (by kernel_rfl) (by kernel_rfl) (fun _ _ _ h => h) (by rfl) (fun W hW => ?_) ?_
  rotate_left
  · (go_simp; try rfl)
  simp only [Act.put, List.setIfInBounds_toArray, List.set_cons_zero, List.set_cons_succ]
  refine reg_done (by kernel_rfl) ?_
  replace c4 := (HX.out.cell (p := ⟨w.heap.size, 4, none⟩) HLT).trans c4
  replace c0 := (HX.out.cell (p := ⟨w.heap.size, 0, none⟩) HLT).trans c0
  go_wp2
  all_goals
    go_ret
    refine ⟨?_, B0.out.step HX.out⟩
    refine congrArg (fun z => Ending.returned (Value.int .i64 z)) ?_
    rw [HY.out, checkR_6o]
    clear HY
    (try simp only [Bool.not_eq_true', Bool.not_eq_false', beq_eq_false_iff_ne, ne_eq, beq_iff_eq, Bool.not_eq_true, Bool.not_eq_false, decide_eq_true_eq, decide_eq_false_iff_not] at *)
    (try (repeat' split)) <;> first | rfl | omega
set_option maxHeartbeats 4000000 in
theorem refCheck_low (x : Int) (o : Bool) (hx : x < 1) (Ak : Option Addr) (kn kc : Nat) (Ai : Option Addr) (vn ic : Nat) (Aa : Option Addr) (an ac : Nat) (w : World) (h1 : kn ≤ 9223372036854775807) (h2 : vn ≤ 9223372036854775807) (h3 : an ≤ 9223372036854775807) :
    Calls Tryz.prog 17 #[.agg (parV x o Ak kn kc Ai vn ic Aa an ac).toArray] w fun e w' => e = .returned (.int .i64 (checkR x o kn vn an)) ∧ Below w.heap.size w w' := by
  have PC := Lib.hid (fun (W : World) (g : Nat) (t : TypeId) (fr : Nat × Nat) (h : W.heap[g]? = some (.cells (parV x o Ak kn kc Ai vn ic Aa an ac).toArray t fr)) => par_cells h)
  obtain ⟨y, hy⟩ : ∃ y, y = checkR x o kn vn an := ⟨_, rfl⟩
  rw [← hy]
  have HY := Lib.hid hy
  clear hy
  generalize parV x o Ak kn kc Ai vn ic Aa an ac = PV at PC ⊢
  go_enter Tryz.func17, Tryz.ntmps17
  go_upto_region 1 with (fail)
  have HB := Lib.hid (heap_alloc_new' w (.cells PV.toArray 24))
  have B0 : Hid (Below w.heap.size w (w.alloc (.cells PV.toArray 24))) := (Below.refl _ _).alloc (Nat.le_refl _) _
  generalize w.alloc _ = W0 at HB B0 ⊢
  have c0 := (PC.out _ _ _ _ HB.out).1
  have c1 := (PC.out _ _ _ _ HB.out).2.1
  have c2 := (PC.out _ _ _ _ HB.out).2.2.1
  have c3 := (PC.out _ _ _ _ HB.out).2.2.2.1
  have c4 := (PC.out _ _ _ _ HB.out).2.2.2.2
  have HL := lt_of_heap HB.out
  clear PC HB
  have t1 : x < 1 := hx
  have HYV : y = 4 := by rw [HY.out, checkR, hasA_no (.inl hx), if_pos rfl]
  subst HYV
  go_wp2
  go_ret
  exact ⟨rfl, B0.out⟩
set_option maxHeartbeats 4000000 in
theorem refCheck_high (x : Int) (o : Bool) (hx : 6 < x) (Ak : Option Addr) (kn kc : Nat) (Ai : Option Addr) (vn ic : Nat) (Aa : Option Addr) (an ac : Nat) (w : World) (h1 : kn ≤ 9223372036854775807) (h2 : vn ≤ 9223372036854775807) (h3 : an ≤ 9223372036854775807) :
    Calls Tryz.prog 17 #[.agg (parV x o Ak kn kc Ai vn ic Aa an ac).toArray] w fun e w' => e = .returned (.int .i64 (checkR x o kn vn an)) ∧ Below w.heap.size w w' := by
  have PC := Lib.hid (fun (W : World) (g : Nat) (t : TypeId) (fr : Nat × Nat) (h : W.heap[g]? = some (.cells (parV x o Ak kn kc Ai vn ic Aa an ac).toArray t fr)) => par_cells h)
  obtain ⟨y, hy⟩ : ∃ y, y = checkR x o kn vn an := ⟨_, rfl⟩
  rw [← hy]
  have HY := Lib.hid hy
  clear hy
  generalize parV x o Ak kn kc Ai vn ic Aa an ac = PV at PC ⊢
  go_enter Tryz.func17, Tryz.ntmps17
  go_upto_region 1 with (fail)
  have HB := Lib.hid (heap_alloc_new' w (.cells PV.toArray 24))
  have B0 : Hid (Below w.heap.size w (w.alloc (.cells PV.toArray 24))) := (Below.refl _ _).alloc (Nat.le_refl _) _
  generalize w.alloc _ = W0 at HB B0 ⊢
  have c0 := (PC.out _ _ _ _ HB.out).1
  have c1 := (PC.out _ _ _ _ HB.out).2.1
  have c2 := (PC.out _ _ _ _ HB.out).2.2.1
  have c3 := (PC.out _ _ _ _ HB.out).2.2.2.1
  have c4 := (PC.out _ _ _ _ HB.out).2.2.2.2
  have HL := lt_of_heap HB.out
  clear PC HB
  have t0 : ¬ (x < 1) := by omega
  have t1 : 6 < x := hx
  have HYV : y = 4 := by rw [HY.out, checkR, hasA_no (.inr (.inl hx)), if_pos rfl]
  subst HYV
  go_wp2
  go_ret
  exact ⟨rfl, B0.out⟩
set_option maxHeartbeats 4000000 in
theorem refCheck_one1  (Ak : Option Addr) (kn kc : Nat) (Ai : Option Addr) (vn ic : Nat) (Aa : Option Addr) (an ac : Nat) (w : World) (h1 : kn ≤ 9223372036854775807) (h2 : vn ≤ 9223372036854775807) (h3 : an ≤ 9223372036854775807) :
    Calls Tryz.prog 17 #[.agg (parV 1 true Ak kn kc Ai vn ic Aa an ac).toArray] w fun e w' => e = .returned (.int .i64 (checkR 1 true kn vn an)) ∧ Below w.heap.size w w' := by
  have PC := Lib.hid (fun (W : World) (g : Nat) (t : TypeId) (fr : Nat × Nat) (h : W.heap[g]? = some (.cells (parV 1 true Ak kn kc Ai vn ic Aa an ac).toArray t fr)) => par_cells h)
  obtain ⟨y, hy⟩ : ∃ y, y = checkR 1 true kn vn an := ⟨_, rfl⟩
  rw [← hy]
  have HY := Lib.hid hy
  clear hy
  generalize parV 1 true Ak kn kc Ai vn ic Aa an ac = PV at PC ⊢
  go_enter Tryz.func17, Tryz.ntmps17
  go_upto_region 1 with (fail)
  have HB := Lib.hid (heap_alloc_new' w (.cells PV.toArray 24))
  have B0 : Hid (Below w.heap.size w (w.alloc (.cells PV.toArray 24))) := (Below.refl _ _).alloc (Nat.le_refl _) _
  generalize w.alloc _ = W0 at HB B0 ⊢
  have c0 := (PC.out _ _ _ _ HB.out).1
  have c1 := (PC.out _ _ _ _ HB.out).2.1
  have c2 := (PC.out _ _ _ _ HB.out).2.2.1
  have c3 := (PC.out _ _ _ _ HB.out).2.2.2.1
  have c4 := (PC.out _ _ _ _ HB.out).2.2.2.2
  have HL := lt_of_heap HB.out
  clear PC HB
  have HYV : y = 4 := by rw [HY.out, checkR, (by decide : hasA 1 true = false), if_pos rfl]
  subst HYV
  go_wp2
  go_ret
  exact ⟨rfl, B0.out⟩
set_option maxHeartbeats 4000000 in
theorem refCheck_one2  (Ak : Option Addr) (kn kc : Nat) (Ai : Option Addr) (vn ic : Nat) (Aa : Option Addr) (an ac : Nat) (w : World) (h1 : kn ≤ 9223372036854775807) (h2 : vn ≤ 9223372036854775807) (h3 : an ≤ 9223372036854775807) :
    Calls Tryz.prog 17 #[.agg (parV 2 true Ak kn kc Ai vn ic Aa an ac).toArray] w fun e w' => e = .returned (.int .i64 (checkR 2 true kn vn an)) ∧ Below w.heap.size w w' := by
  have PC := Lib.hid (fun (W : World) (g : Nat) (t : TypeId) (fr : Nat × Nat) (h : W.heap[g]? = some (.cells (parV 2 true Ak kn kc Ai vn ic Aa an ac).toArray t fr)) => par_cells h)
  obtain ⟨y, hy⟩ : ∃ y, y = checkR 2 true kn vn an := ⟨_, rfl⟩
  rw [← hy]
  have HY := Lib.hid hy
  clear hy
  generalize parV 2 true Ak kn kc Ai vn ic Aa an ac = PV at PC ⊢
  go_enter Tryz.func17, Tryz.ntmps17
  go_upto_region 1 with (fail)
  have HB := Lib.hid (heap_alloc_new' w (.cells PV.toArray 24))
  have B0 : Hid (Below w.heap.size w (w.alloc (.cells PV.toArray 24))) := (Below.refl _ _).alloc (Nat.le_refl _) _
  generalize w.alloc _ = W0 at HB B0 ⊢
  have c0 := (PC.out _ _ _ _ HB.out).1
  have c1 := (PC.out _ _ _ _ HB.out).2.1
  have c2 := (PC.out _ _ _ _ HB.out).2.2.1
  have c3 := (PC.out _ _ _ _ HB.out).2.2.2.1
  have c4 := (PC.out _ _ _ _ HB.out).2.2.2.2
  have HL := lt_of_heap HB.out
  clear PC HB
  have HYV : y = 4 := by rw [HY.out, checkR, (by decide : hasA 2 true = false), if_pos rfl]
  subst HYV
  go_wp2
  go_ret
  exact ⟨rfl, B0.out⟩
theorem refCheck_any (x : Int) (o : Bool) (Ak : Option Addr) (kn kc : Nat) (Ai : Option Addr) (vn ic : Nat) (Aa : Option Addr) (an ac : Nat) (w : World) (h1 : kn ≤ 9223372036854775807) (h2 : vn ≤ 9223372036854775807) (h3 : an ≤ 9223372036854775807) :
    Calls Tryz.prog 17 #[.agg (parV x o Ak kn kc Ai vn ic Aa an ac).toArray] w fun e w' => e = .returned (.int .i64 (checkR x o kn vn an)) ∧ Below w.heap.size w w' := by
  by_cases hl : x < 1
  · exact refCheck_low x o hl Ak kn kc Ai vn ic Aa an ac w h1 h2 h3
  by_cases hh : 6 < x
  · exact refCheck_high x o hh Ak kn kc Ai vn ic Aa an ac w h1 h2 h3
  have hx : x = 1 ∨ x = 2 ∨ x = 3 ∨ x = 4 ∨ x = 5 ∨ x = 6 := by omega
  rcases hx with rfl | rfl | rfl | rfl | rfl | rfl <;> cases o
  · exact refCheck_1 Ak kn kc Ai vn ic Aa an ac w h1 h2 h3
  · exact refCheck_one1 Ak kn kc Ai vn ic Aa an ac w h1 h2 h3
  · exact refCheck_2 Ak kn kc Ai vn ic Aa an ac w h1 h2 h3
  · exact refCheck_one2 Ak kn kc Ai vn ic Aa an ac w h1 h2 h3
  · exact refCheck_3 Ak kn kc Ai vn ic Aa an ac w h1 h2 h3
  · exact refCheck_3o Ak kn kc Ai vn ic Aa an ac w h1 h2 h3
  · exact refCheck_4 Ak kn kc Ai vn ic Aa an ac w h1 h2 h3
  · exact refCheck_4o Ak kn kc Ai vn ic Aa an ac w h1 h2 h3
  · exact refCheck_5 Ak kn kc Ai vn ic Aa an ac w h1 h2 h3
  · exact refCheck_5o Ak kn kc Ai vn ic Aa an ac w h1 h2 h3
  · exact refCheck_6 Ak kn kc Ai vn ic Aa an ac w h1 h2 h3
  · exact refCheck_6o Ak kn kc Ai vn ic Aa an ac w h1 h2 h3
end Go.Proofs.YtnhhgiebnhlfcaaGreatDoor

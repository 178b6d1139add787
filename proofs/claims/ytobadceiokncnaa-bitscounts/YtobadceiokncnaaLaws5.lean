/- The walk of the law BitsCounts. -/
import Derived.Test.YtobadceiokncnaaCount
import Derived.Test.YtobadceiokncnaaAwake1
import Derived.Test.YtobadceiokncnaaLiftT
import Derived.Test.YtobadceiokncnaaReg
import Derived.Test.YtobadceiokncnaaRef2
import Derived.Test.YtobadceiokncnaaRef3
import Derived.Deep.MidRow
namespace Go.Proofs.Ytobadceiokncnaa
open Go.RowKit
set_option linter.unusedVariables false
set_option linter.unusedSimpArgs false
theorem step_st {P : Program} {w w' : World} {ops : Array Oper} {o : Oper} {a : Act} {K : Act → World → Prop} {Q : Exit → Act → World → Prop} {E : Prop} (hg : o.guard = none) (ty : TypeId) (x y : Operand)
    (ho : o.op = .store ty x y) (hrun : (Instr.storeAt ty (a.eval x) (a.eval y)).run P w = .ok () w') (h : K (a.put o.dst undef) w') : if Region.wanted o (yielded ops a.tmps) = true then Oper.wp P o a w K Q else E := by
  have hw : Region.wanted o (yielded ops a.tmps) = true := by simp [Region.wanted, hg]
  rw [if_pos hw]
  unfold Oper.wp execOp
  simp only [ho, Sem.run_bind, hrun, Result.andThen_ok]
  exact h
theorem turn_cell {W : World} {g : Nat} {x : BitVec 32} {n : Int} {c : List UInt8} {m : Nat} {t : TypeId} {fr : Nat × Nat} (h : W.heap[g]? = some (.cells (turnCells x n c m).toArray t fr)) (hc : c.length = 16) :
    W.cell? ⟨g, 0, none⟩ = some (.int .u32 (x.toNat : Int)) ∧ W.cell? ⟨g, 1, none⟩ = some (.int .i64 n) ∧ W.cell? ⟨g, 18, none⟩ = some (.int .u64 (m : Int)) ∧ W.rangeAt g 2 (c.map bv) := by
  refine ⟨?_, ?_, ?_, ?_⟩
  · rw [cell_of_heap h]; rfl
  · rw [cell_of_heap h]; rfl
  · rw [cell_of_heap h]; simp [turnCells, List.getElem?_append, hc]
  · intro j v hv
    rw [cell_of_heap h]
    have hj : j < (c.map bv).length := by
      rcases Nat.lt_or_ge j (c.map bv).length with h | h
      · exact h
      · rw [List.getElem?_eq_none h] at hv; cases hv
    rw [show 2 + j = j + 1 + 1 by omega]
    simp only [turnCells, List.getElem?_cons_succ]
    rw [List.getElem?_append_left hj]; exact hv
theorem countL_len' (c : List UInt8) (n : Nat) : (countL c n).length = 16 := by simp [countL, putBig_len]
theorem i16'' (bs : List UInt8) (h : bs.length = 16) : (Try.prog.info? 32).map (·.size) = some (bs.map bv).length := by rw [List.length_map, h]; exact i16

set_option maxHeartbeats 2000000 in
theorem bitsCounts_walk (w : World) (y : BitVec 32 × Int × List UInt8 × Nat) (l : y.2.2.1.length = 16 ∧ y.2.2.2 < 18446744073709551616) :
    Calls Try.prog 5 #[.agg (turnCells y.1 y.2.1 y.2.2.1 y.2.2.2).toArray] w fun e w' => e = .returned (.bool true) ∧ Below w.heap.size w w' := by
  obtain ⟨x, n, c, m⟩ := y
  obtain ⟨hc, hm⟩ := l
  simp only at hc hm ⊢
  have HC := Lib.hid hc
  have HM := Lib.hid hm
  have G0 : (w.alloc (.cells (turnCells x n c m).toArray 34)).heap[w.heap.size]? = some (.cells (turnCells x n c m).toArray 34 (0, 0)) := heap_alloc_new' w _
  obtain ⟨k0, k1, k2, k3⟩ := turn_cell G0 hc
  have K0 := Lib.hid k0; have K1 := Lib.hid k1; have K2 := Lib.hid k2; have K3 := Lib.hid k3
  have D0 := Lib.hid G0
  have q1 := eql_bytes arr16T Try.underlying5 s8 (countL c m) (countL c m) (countL_len' _ _) (countL_len' _ _)
  rw [decide_eq_true rfl] at q1
  clear hc hm G0 k0 k1 k2 k3
  generalize hT : (turnCells x n c m).toArray = T at D0 K0 K1 K2 K3 ⊢
  clear hT
  go_enter Try.func5, Try.ntmps5
  go_wp2_with fail
  generalize hW0 : w.alloc _ = W0 at D0 K0 K1 K2 K3 ⊢
  have hz0 : W0.heap.size = w.heap.size + 1 := by rw [← hW0]; simp
  have B0 : Hid (Below w.heap.size w W0) := by rw [← hW0]; exact (Below.refl _ _).alloc (Nat.le_refl _) _
  have HZ0 := Lib.hid hz0
  clear hW0 hz0
  have HX : Hid (Below (w.heap.size + 1) W0 W0.drew) := (Below.refl _ _).drew
  have hlt : w.heap.size < w.heap.size + 1 := Nat.lt_succ_self _
  refine regB_start (w.heap.size + 1) (by kernel_rfl) ?_
  try simp only [Act.put, List.setIfInBounds_toArray, List.set_cons_zero, List.set_cons_succ]
  refine regB_take (v := ?_) 0 (some 7) rfl rfl (by kernel_rfl) (by kernel_rfl) (by kernel_rfl) (fun _ _ _ h => h) (by rfl) (fun W hW => ?_) ?_
  rotate_left
  · (go_simp; try rfl)
  simp only [Act.put, List.setIfInBounds_toArray, List.set_cons_zero, List.set_cons_succ]
  refine regB_load 1 (some 8) (fun W hW => load_cell Try.underlying31 ((hW.cell hlt).trans ((HX.out.cell hlt).trans K0.out))) rfl rfl rfl rfl (by kernel_rfl) (by kernel_rfl) (by kernel_rfl) (fun _ _ _ h => h) (by rfl) ?_
  simp only [Act.put, List.setIfInBounds_toArray, List.set_cons_zero, List.set_cons_succ]
  refine regB_take (v := ?_) 2 (some 9) rfl rfl (by kernel_rfl) (by kernel_rfl) (by kernel_rfl) (fun _ _ _ h => h) (by rfl) (fun W hW => ?_) ?_
  rotate_left
  · (go_simp; try rfl)
  simp only [Act.put, List.setIfInBounds_toArray, List.set_cons_zero, List.set_cons_succ]
  refine regB_load 3 (some 10) (fun W hW => load_cell Try.underlying3 ((hW.cell hlt).trans ((HX.out.cell hlt).trans K1.out))) rfl rfl rfl rfl (by kernel_rfl) (by kernel_rfl) (by kernel_rfl) (fun _ _ _ h => h) (by rfl) ?_
  simp only [Act.put, List.setIfInBounds_toArray, List.set_cons_zero, List.set_cons_succ]
  refine regB_take (v := ?_) 4 (some 11) rfl rfl (by kernel_rfl) (by kernel_rfl) (by kernel_rfl) (fun _ _ _ h => h) (by rfl) (fun W hW => ?_) ?_
  rotate_left
  · (go_simp; try rfl)
  simp only [Act.put, List.setIfInBounds_toArray, List.set_cons_zero, List.set_cons_succ]
  refine regB_load 5 (some 12) (fun W hW => run_loadAt_mid W w.heap.size 2 32 (c.map bv) _ (fun j v hv => (hW.cell hlt).trans ((HX.out.cell hlt).trans (K3.out j v hv))) arr16T rfl (i16'' c HC.out)) rfl rfl rfl rfl (by kernel_rfl) (by kernel_rfl) (by kernel_rfl) (fun _ _ _ h => h) (by rfl) ?_
  simp only [Act.put, List.setIfInBounds_toArray, List.set_cons_zero, List.set_cons_succ]
  refine regB_take (v := ?_) 6 (some 13) rfl rfl (by kernel_rfl) (by kernel_rfl) (by kernel_rfl) (fun _ _ _ h => h) (by rfl) (fun W hW => ?_) ?_
  rotate_left
  · (go_simp; try rfl)
  simp only [Act.put, List.setIfInBounds_toArray, List.set_cons_zero, List.set_cons_succ]
  refine regB_load 7 (some 14) (fun W hW => load_cell Try.underlying23 ((hW.cell hlt).trans ((HX.out.cell hlt).trans K2.out))) rfl rfl rfl rfl (by kernel_rfl) (by kernel_rfl) (by kernel_rfl) (fun _ _ _ h => h) (by rfl) ?_
  simp only [Act.put, List.setIfInBounds_toArray, List.set_cons_zero, List.set_cons_succ]
  refine regB_eff 8 rfl (by kernel_rfl) (fun K hK => ?_)
  go_simp
  have hE : Below (w.heap.size + 1) W0.drew (W0.alloc (.cells (List.replicate 16 (Value.int .u8 0)).toArray 32)).drew := ((Below.refl _ W0.drew).alloc (Nat.le_of_eq HZ0.out.symm) _)
  refine hK.out _ _ hE ?_
  have HX := Lib.hid (Below.trans HX.out hE)
  clear hE hK K
  try simp only [Act.put, List.setIfInBounds_toArray, List.set_cons_zero, List.set_cons_succ]
  refine regB_take (v := ?_) 9 (some 3) rfl rfl (by kernel_rfl) (by kernel_rfl) (by kernel_rfl) (fun _ _ _ h => h) (by rfl) (fun W hW => ?_) ?_
  rotate_left
  · (go_simp; try rfl)
  simp only [Act.put, List.setIfInBounds_toArray, List.set_cons_zero, List.set_cons_succ]
  refine regB_take (v := ?_) 10 (some 4) rfl rfl (by kernel_rfl) (by kernel_rfl) (by kernel_rfl) (fun _ _ _ h => h) (by rfl) (fun W hW => ?_) ?_
  rotate_left
  · (go_simp; try rfl)
  simp only [Act.put, List.setIfInBounds_toArray, List.set_cons_zero, List.set_cons_succ]
  refine regB_eff 11 rfl (by kernel_rfl) (fun K hK => ?_)
  refine step_st rfl 32 (.tmp 5) (.tmp 12) rfl (store_arr (i16'' _ HC.out) (bv_one _) (old := List.replicate 16 (Value.int .u8 0)) (heap_alloc_new' W0 _) (by simp [HC.out])) ?_
  generalize hV : World.setRow _ _ _ = W2
  have F2 : Hid (W2.heap[W0.heap.size]? = some (.cells (c.map bv).toArray 32 (0, 0))) := by rw [← hV]; exact setRow_heap _ _ _ _ _ _ (heap_alloc_new' W0 _)
  have hE : Below (w.heap.size + 1) (W0.alloc (.cells (List.replicate 16 (Value.int .u8 0)).toArray 32)).drew W2 := by rw [← hV]; exact grown_below (grown_setRow _ _ _) (Nat.le_of_eq HZ0.out.symm) (by have := HZ0.out; simp; omega)
  clear hV
  refine hK.out _ _ hE ?_
  have HX := Lib.hid (Below.trans HX.out hE)
  clear hE hK K
  try simp only [Act.put, List.setIfInBounds_toArray, List.set_cons_zero, List.set_cons_succ]
  refine regB_take (v := ?_) 12 (some 6) rfl rfl (by kernel_rfl) (by kernel_rfl) (by kernel_rfl) (fun _ _ _ h => h) (by rfl) (fun W hW => ?_) ?_
  rotate_left
  · (go_simp; try rfl)
  simp only [Act.put, List.setIfInBounds_toArray, List.set_cons_zero, List.set_cons_succ]
  refine regB_done (by kernel_rfl) ?_
  have HB2 : Hid (Below w.heap.size w W2) := B0.out.trans (HX.out.mono (Nat.le_succ _))
  clear HX K0 K1 K2 K3 D0 B0 hlt
  have ld1 : Hid (∀ W, Ext W2 W → (Instr.loadAt 32 (.pointer (some ⟨W0.heap.size, 0, none⟩))).run Try.prog W = .ok (.agg (c.map bv).toArray) W) := fun W hW => load_arr arr16T rfl (i16'' c HC.out) ((hW.block _ (lt_of_heap F2.out)).trans F2.out)
  generalize W0.heap.size = g1 at ld1 ⊢
  go_wp2_with fail
  have HX : Hid (Ext W2 W2.drew) := (Below.refl _ _).drew
  refine reg_start (by kernel_rfl) ?_
  try simp only [Act.put, List.setIfInBounds_toArray, List.set_cons_zero, List.set_cons_succ]
  refine reg_take (v := ?_) 0 (some 15) rfl rfl (by kernel_rfl) (by kernel_rfl) (by kernel_rfl) (fun _ _ _ h => h) (by rfl) (fun W hW => ?_) ?_
  rotate_left
  · (go_simp; try rfl)
  simp only [Act.put, List.setIfInBounds_toArray, List.set_cons_zero, List.set_cons_succ]
  refine reg_take (v := ?_) 1 (some 16) rfl rfl (by kernel_rfl) (by kernel_rfl) (by kernel_rfl) (fun _ _ _ h => h) (by rfl) (fun W hW => ?_) ?_
  rotate_left
  · (go_simp; try rfl)
  simp only [Act.put, List.setIfInBounds_toArray, List.set_cons_zero, List.set_cons_succ]
  refine reg_take (v := ?_) 3 (some 18) rfl rfl (by kernel_rfl) (by kernel_rfl) (by kernel_rfl) (fun _ _ _ h => h) (by rfl) (fun W hW => ?_) ?_
  rotate_left
  · (go_simp; try rfl)
  simp only [Act.put, List.setIfInBounds_toArray, List.set_cons_zero, List.set_cons_succ]
  refine reg_take (v := ?_) 4 (some 19) rfl rfl (by kernel_rfl) (by kernel_rfl) (by kernel_rfl) (fun _ _ _ h => h) (by rfl) (fun W hW => ?_) ?_
  rotate_left
  · (go_simp; try rfl)
  simp only [Act.put, List.setIfInBounds_toArray, List.set_cons_zero, List.set_cons_succ]
  refine reg_eff 2 rfl (by kernel_rfl) (fun K hK => ?_)
  go_simp
  refine (left_any x n _).mono ?_
  rintro e w3 ⟨rfl, rfl⟩
  have hE := (Ext.refl W2.drew)
  refine hK.out _ _ hE ?_
  have HX := Lib.hid (Ext.trans HX.out hE)
  clear hE hK K
  try simp only [Act.put, List.setIfInBounds_toArray, List.set_cons_zero, List.set_cons_succ]
  refine reg_eff 5 rfl (by kernel_rfl) (fun K hK => ?_)
  go_simp
  refine (refLeft_any x n _).mono ?_
  rintro e w4 ⟨rfl, rfl⟩
  have hE := (Ext.refl W2.drew)
  refine hK.out _ _ hE ?_
  have HX := Lib.hid (Ext.trans HX.out hE)
  clear hE hK K
  try simp only [Act.put, List.setIfInBounds_toArray, List.set_cons_zero, List.set_cons_succ]
  refine reg_take (v := ?_) 6 (some 21) rfl rfl (by kernel_rfl) (by kernel_rfl) (by kernel_rfl) (fun _ _ _ h => h) (by rfl) (fun W hW => ?_) ?_
  rotate_left
  · (go_simp; try rfl)
  simp only [Act.put, List.setIfInBounds_toArray, List.set_cons_zero, List.set_cons_succ]
  refine reg_take (v := ?_) 7 (some 22) rfl rfl (by kernel_rfl) (by kernel_rfl) (by kernel_rfl) (fun _ _ _ h => h) (by rfl) (fun W hW => ?_) ?_
  rotate_left
  · (go_simp; try rfl)
  simp only [Act.put, List.setIfInBounds_toArray, List.set_cons_zero, List.set_cons_succ]
  refine reg_load 8 (some 23) (fun W hW => ld1.out W (HX.out.trans hW)) rfl rfl rfl rfl (by kernel_rfl) (by kernel_rfl) (by kernel_rfl) (fun _ _ _ h => h) (by rfl) ?_
  simp only [Act.put, List.setIfInBounds_toArray, List.set_cons_zero, List.set_cons_succ]
  refine reg_take (v := ?_) 9 (some 24) rfl rfl (by kernel_rfl) (by kernel_rfl) (by kernel_rfl) (fun _ _ _ h => h) (by rfl) (fun W hW => ?_) ?_
  rotate_left
  · (go_simp; try rfl)
  simp only [Act.put, List.setIfInBounds_toArray, List.set_cons_zero, List.set_cons_succ]
  refine reg_load 11 (some 26) (fun W hW => ld1.out W (HX.out.trans hW)) rfl rfl rfl rfl (by kernel_rfl) (by kernel_rfl) (by kernel_rfl) (fun _ _ _ h => h) (by rfl) ?_
  simp only [Act.put, List.setIfInBounds_toArray, List.set_cons_zero, List.set_cons_succ]
  refine reg_take (v := ?_) 12 (some 27) rfl rfl (by kernel_rfl) (by kernel_rfl) (by kernel_rfl) (fun _ _ _ h => h) (by rfl) (fun W hW => ?_) ?_
  rotate_left
  · (go_simp; try rfl)
  simp only [Act.put, List.setIfInBounds_toArray, List.set_cons_zero, List.set_cons_succ]
  refine reg_eff 10 rfl (by kernel_rfl) (fun K hK => ?_)
  go_simp
  refine (count_any c m _ HC.out HM.out).mono ?_
  rintro e w5 ⟨rfl, hE⟩
  refine hK.out _ _ hE ?_
  have HX := Lib.hid (Ext.trans HX.out hE)
  clear hE hK K
  try simp only [Act.put, List.setIfInBounds_toArray, List.set_cons_zero, List.set_cons_succ]
  refine reg_eff 13 rfl (by kernel_rfl) (fun K hK => ?_)
  go_simp
  refine (refCount_any c m _ HC.out HM.out).mono ?_
  rintro e w6 ⟨rfl, hE⟩
  refine hK.out _ _ hE ?_
  have HX := Lib.hid (Ext.trans HX.out hE)
  clear hE hK K
  try simp only [Act.put, List.setIfInBounds_toArray, List.set_cons_zero, List.set_cons_succ]
  refine reg_take (v := ?_) 14 (some 29) rfl rfl (by kernel_rfl) (by kernel_rfl) (by kernel_rfl) (fun _ _ _ h => h) (by rfl) (fun W hW => ?_) ?_
  rotate_left
  · (go_simp; try rfl)
  simp only [Act.put, List.setIfInBounds_toArray, List.set_cons_zero, List.set_cons_succ]
  refine reg_take (v := ?_) 15 (some 30) rfl rfl (by kernel_rfl) (by kernel_rfl) (by kernel_rfl) (fun _ _ _ h => h) (by rfl) (fun W hW => ?_) ?_
  rotate_left
  · (go_simp; try rfl)
  simp only [Act.put, List.setIfInBounds_toArray, List.set_cons_zero, List.set_cons_succ]
  refine reg_take (v := ?_) 16 (some 31) rfl rfl (by kernel_rfl) (by kernel_rfl) (by kernel_rfl) (fun _ _ _ h => h) (by rfl) (fun W hW => ?_) ?_
  rotate_left
  · (go_simp; try rfl)
  simp only [Act.put, List.setIfInBounds_toArray, List.set_cons_zero, List.set_cons_succ]
  refine reg_eff 17 rfl (by kernel_rfl) (fun K hK => ?_)
  go_simp
  refine (awake_any _).mono ?_
  rintro e w7 ⟨rfl, hE⟩
  refine hK.out _ _ hE ?_
  have HX := Lib.hid (Ext.trans HX.out hE)
  clear hE hK K
  try simp only [Act.put, List.setIfInBounds_toArray, List.set_cons_zero, List.set_cons_succ]
  refine reg_take (v := ?_) 18 (some 33) rfl rfl (by kernel_rfl) (by kernel_rfl) (by kernel_rfl) (fun _ _ _ h => h) (by rfl) (fun W hW => ?_) ?_
  rotate_left
  · (go_simp; try rfl)
  simp only [Act.put, List.setIfInBounds_toArray, List.set_cons_zero, List.set_cons_succ]
  refine reg_take (v := ?_) 19 (some 2) rfl rfl (by kernel_rfl) (by kernel_rfl) (by kernel_rfl) (fun _ _ _ h => h) (by rfl) (fun W hW => ?_) ?_
  rotate_left
  · (go_simp; try rfl)
  simp only [Act.put, List.setIfInBounds_toArray, List.set_cons_zero, List.set_cons_succ]
  refine reg_done (by kernel_rfl) ?_
  go_wp2
  go_ret
  exact ⟨rfl, HB2.out.step HX.out⟩
end Go.Proofs.Ytobadceiokncnaa

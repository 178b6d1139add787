/- The reference's small functions of layer 2: right, Round, Start. -/
import Derived.Test.YtnhhgiebnhlfcaaGreatDoorSha5
import Derived.Deep.QuietTactic
import Derived.BigQuiet
namespace Go.Proofs.YtnhhgiebnhlfcaaGreatDoor
open Go.RowKit
set_option linter.unusedVariables false
set_option maxRecDepth 100000
set_option linter.unusedSimpArgs false
theorem right_math (x : W32) (n : Nat) (h1 : 1 ≤ n) (h2 : n ≤ 31) :
    (((x.toNat : Int) / ((2 ^ n : Nat) : Int) % 4294967296 + (x.toNat : Int) * (2 ^ min (32 - n) 32 % 4294967296) % 4294967296) % 4294967296) = ((rotl x (-(n : Int))).toNat : Int) := by
  have e0 : (-(n : Int) % 32).toNat = 32 - n := by omega
  have hlt : (2 : Nat) ^ (32 - n) < 4294967296 := Nat.lt_of_lt_of_le (Nat.pow_lt_pow_right (by omega) (show 32 - n < 32 by omega)) (by decide)
  have e1 : ((2 : Int) ^ min (32 - n) 32 % 4294967296) = ((2 ^ (32 - n) : Nat) : Int) := by
    rw [Nat.min_eq_left (by omega), show ((2 : Int) ^ (32 - n)) = ((2 ^ (32 - n) : Nat) : Int) by simp]; generalize 2 ^ (32 - n) = q at hlt ⊢; omega
  have hx := x.isLt
  have hq : x.toNat / 2 ^ n < 2 ^ (32 - n) := by
    rw [Nat.div_lt_iff_lt_mul (Nat.pow_pos (by omega)), ← Nat.pow_add, show 32 - n + n = 32 by omega]; exact hx
  have hm : x.toNat * 2 ^ (32 - n) % 4294967296 % 2 ^ (32 - n) = 0 := by
    have : (4294967296 : Nat) = 2 ^ (32 - n) * 2 ^ n := by rw [← Nat.pow_add, show 32 - n + n = 32 by omega]
    rw [this, Nat.mod_mul_right_mod]; exact Nat.mul_mod_left _ _
  have hs : x.toNat * 2 ^ (32 - n) % 4294967296 + x.toNat / 2 ^ n < 4294967296 := by
    rw [← nat_join (32 - n) _ _ hm hq]
    exact Nat.or_lt_two_pow (n := 32) (Nat.mod_lt _ (by decide)) (Nat.lt_trans hq hlt)
  rw [rotl, e0, BitVec.rotateLeft_def, Nat.mod_eq_of_lt (show 32 - n < 32 by omega), show 32 - (32 - n) = n by omega, BitVec.toNat_or, BitVec.toNat_shiftLeft, BitVec.toNat_ushiftRight, Nat.shiftLeft_eq, Nat.shiftRight_eq_div_pow, nat_join (32 - n) _ _ hm hq, e1]
  generalize 2 ^ (32 - n) = Q at *
  generalize 2 ^ n = P at *
  have : ((x.toNat : Int) / (P : Int)) = ((x.toNat / P : Nat) : Int) := by simp
  rw [this, ← Int.natCast_mul]
  generalize x.toNat / P = A at *
  generalize x.toNat * Q = B at *
  clear this e1 hm
  simp only [Nat.reducePow] at *
  omega
theorem wpList_run {P : Program} {w w' : World} {ops : Array Oper} {rest : List Oper} {o : Oper} {a : Act} {Q : Exit → Act → World → Prop} (hw : Region.wanted o (yielded ops a.tmps) = true) {v : Value}
    (hrun : (execOp a.eval o).run P w = .ok (.value v) w') (h : wpList P ops Q rest (a.put o.dst v) w') : wpList P ops Q (o :: rest) a w := by
  unfold wpList
  rw [if_pos hw]
  refine .inl ?_
  unfold Oper.wp
  simp only [hrun]
  exact h
theorem refRight_any (x : W32) (n : Nat) (w : World) (h1 : 1 ≤ n) (h2 : n ≤ 31) :
    Calls Tryz.prog 68 #[wv x, .int .i64 (n : Int)] w fun e w' => e = .returned (wv (rotl x (-(n : Int)))) ∧ Below w.heap.size w w' := by
  unfold wv
  obtain ⟨P, hP⟩ : ∃ P : Nat, P = 2 ^ n := ⟨_, rfl⟩
  obtain ⟨m, hm⟩ : ∃ m : Nat, m = 32 - n := ⟨_, rfl⟩
  obtain ⟨Q, hQ⟩ : ∃ Q : Nat, Q = 2 ^ m := ⟨_, rfl⟩
  have u1 : IntKind.u32.wrap ((2 : Int) ^ n) = (P : Int) := by
    rw [IntKind.wrap_u32, hP]; have : (2 : Nat) ^ n < 2 ^ 32 := Nat.pow_lt_pow_right (by omega) (by omega)
    have e : ((2 : Int) ^ n) = ((2 ^ n : Nat) : Int) := by simp
    rw [e]; omega
  have u2 : IntKind.u32.wrap ((2 : Int) ^ m) = (Q : Int) := by
    rw [IntKind.wrap_u32, hQ]; have : (2 : Nat) ^ m < 2 ^ 32 := Nat.pow_lt_pow_right (by omega) (by omega)
    have e : ((2 : Int) ^ m) = ((2 ^ m : Nat) : Int) := by simp
    rw [e]; omega
  have u3 : IntKind.i64.wrap (32 - (n : Int)) = (m : Int) := by rw [IntKind.wrap_i64]; omega
  have hP0 : (P : Int) ≠ 0 := by have := Nat.pow_pos (n := n) (show 0 < 2 by omega); omega
  have u4 : ((P : Int) == 0) = false := by simpa using hP0
  have HP := Lib.hid hP; have HM := Lib.hid hm; have HQ := Lib.hid hQ
  clear hP hm hQ
  go_enter Tryz.func68, Tryz.ntmps68
  go_wp2_with fail
  go_quiet (fail)
  go_wp2
  go_ret
  refine ⟨ret_int ?_, ⟨rfl, rfl, rfl, Nat.le_refl _, fun _ _ => rfl⟩⟩
  rw [HP.out, HM.out]
  exact right_math x n h1 h2
theorem roundCells : ∀ i, i < 64 → (roundsL.map fun (n : Nat) => Value.int .u32 (n : Int))[i]? = some (wv (kL i)) := by
  intro i hi
  have h3 : i < roundsL.length := hi
  have h5 : roundsL.getD i 0 < 4294967296 := by revert i; decide
  simp only [List.getD, List.getElem?_eq_getElem h3, Option.getD_some] at h5
  simp only [wv, kL, List.getElem?_map, List.getD, List.getElem?_eq_getElem h3, Option.getD_some, Option.map_some, BitVec.toNat_ofNat, Nat.mod_eq_of_lt h5]
def roundsV : List Value := roundsL.map fun (n : Nat) => Value.int .u32 (n : Int)
theorem roundsV_one : ∀ v ∈ roundsV, v.oneCell' = true := by
  intro v hv
  obtain ⟨x, _, rfl⟩ := List.mem_map.1 hv
  rfl
set_option maxRecDepth 100000 in
theorem refRound_any (i : Nat) (w : World) (hi : i < 64) :
    Calls Tryz.prog 69 #[.int .i64 (i : Int)] w fun e w' => e = .returned (wv (kL i)) ∧ Below w.heap.size w w' := by
  have HC : Hid (roundsV[i]? = some (wv (kL i))) := roundCells i hi
  have F0 : Hid ((w.alloc (.cells (List.replicate 64 (Value.int .u32 0)).toArray 93)).heap[w.heap.size]? = some (.cells (List.replicate 64 (Value.int .u32 0)).toArray 93 (0, 0))) := heap_alloc_new' w _
  have HO := Lib.hid roundsV_one
  have HI : Hid ((Tryz.prog.info? 93).map (·.size) = some roundsV.length) := i64W
  have HE : Hid ((List.replicate 64 (Value.int .u32 0)).length = roundsV.length) := rfl
  go_enter Tryz.func69, Tryz.ntmps69
  go_wp2_with (first
    | (refine wpList_run (o := ⟨some 4, _, _, _, _, _⟩) rfl (v := .agg roundsV.toArray) (w' := w) (by kernel_rfl) ?_
       generalize roundsV = R at HC HO HI HE ⊢)
    | (refine wpList_st rfl 93 (.tmp 3) (.tmp 4) rfl (store_arr (cs := R) (old := List.replicate 64 (Value.int .u32 0)) HI.out HO.out F0.out HE.out) ?_
       generalize hV : World.setRow _ _ _ = W5
       have M0 := Lib.hid (heap_of_setRow hV (heap_alloc_new' w _))
       have MB := Lib.hid (((Below.refl w.heap.size w).alloc (Nat.le_refl _) _).trans (below_of_setRow hV (Nat.le_refl w.heap.size) (by simp)))
       have c0 : W5.cell? ⟨w.heap.size, i, none⟩ = some (.int .u32 ((kL i).toNat : Int)) := (cell_of_heap M0.out i).trans HC.out
       have e1 : (i : Int) < 64 := by omega
       clear hV F0))
  go_ret
  exact ⟨rfl, MB.out⟩
theorem refStart_any (w : World) : Calls Tryz.prog 33 #[] w fun e w' => e = .returned (.agg (startL.map wv).toArray) ∧ Below w.heap.size w w' := by
  have F0 : Hid ((w.alloc (.cells (List.replicate 8 (Value.int .u32 0)).toArray 69)).heap[w.heap.size]? = some (.cells (List.replicate 8 (Value.int .u32 0)).toArray 69 (0, 0))) := heap_alloc_new' w _
  go_enter Tryz.func33, Tryz.ntmps33
  go_wp2_with (first
    | (refine wpList_st rfl 69 (.tmp 0) (.tmp 1) rfl (store_arr (cs := startL.map wv) i8W (wv_one _) F0.out (by rfl)) ?_)
    | fail)
  have hres := setRow_heap _ w.heap.size _ (startL.map wv).toArray 69 _ F0.out
  exact bodyPost_ret (results_cell_row (P := Tryz.prog) rfl _ _ w.heap.size 69 (startL.map wv).toArray (0, 0) _ rfl hres arr8W rfl i8W) rfl ⟨rfl, ((Below.refl _ _).alloc (Nat.le_refl _) _).trans (grown_below (grown_setRow _ _ _) (Nat.le_refl _) (by simp))⟩
end Go.Proofs.YtnhhgiebnhlfcaaGreatDoor

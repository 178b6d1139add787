/- Numbers of three words: plus. -/
import Derived.Test.YtimgggpojbpfkaaGreatDoorPoly1
namespace Go.Proofs.YtimgggpojbpfkaaGreatDoor
open Go.RowKit
set_option maxRecDepth 100000
set_option linter.unusedVariables false
set_option linter.unusedSimpArgs false
def uv (n : Nat) : Value := .int .u64 (n : Int)
theorem uv_one (l : List Nat) : ∀ v ∈ l.map uv, v.oneCell' = true := by
  intro v hv
  obtain ⟨b, _, rfl⟩ := List.mem_map.1 hv
  rfl
theorem ucell {w : World} {g : Nat} {l : List Nat} {t : TypeId} {fr : Nat × Nat} (h : w.heap[g]? = some (.cells (l.map uv).toArray t fr)) (i : Nat) (hi : i < l.length) : w.cell? ⟨g, i, none⟩ = some (.int .u64 ((l.getD i 0 : Nat) : Int)) := by
  rw [cell_of_heap h, List.getElem?_map]
  simp [List.getD, hi, uv]
theorem ust_row {W W' : World} {g i B : Nat} {l : List Nat} {t : TypeId} {v : Nat} (hW : W.setCell ⟨g, i, none⟩ (.int .u64 (v : Int)) = W') (hB : B ≤ g) (H : W.heap[g]? = some (.cells (l.map uv).toArray t (0, 0))) :
    W'.heap[g]? = some (.cells ((l.set i v).map uv).toArray t (0, 0)) ∧ Below B W W' ∧ ∀ k, k ≠ g → W'.heap[k]? = W.heap[k]? := by
  subst hW
  refine ⟨?_, (Below.refl _ _).setCell hB _, fun k hk => Below.heap_setCell W _ _ _ hk⟩
  have := heap_set H i (uv v)
  rw [← List.map_set] at this
  exact this
theorem cell_eq' {W W0 : World} (h : W = W0) {a : Addr} {v : Value} (hc : W0.cell? a = some v) : W.cell? a = some v := by rw [h]; exact hc
theorem arr3 : Tryz.prog.underlying 154 = some (.array 3 115) := Tryz.underlying154
theorem i3 : (Tryz.prog.info? 154).map (·.size) = some 3 := by kernel_rfl
theorem s64 : (Tryz.prog.info? 115).map (·.size) = some 1 := by kernel_rfl
/-- a number's three words, the lowest one first -/
def numL (n : Nat) : List Nat := [n % 18446744073709551616, n / 18446744073709551616 % 18446744073709551616, n / 340282366920938463463374607431768211456 % 18446744073709551616]
def plusN (x y : Nat) : Nat → List Nat
  | 0 => numL x
  | 1 => [(x + y) % 18446744073709551616, x / 18446744073709551616 % 18446744073709551616, x / 340282366920938463463374607431768211456 % 18446744073709551616]
  | 2 => [(x + y) % 18446744073709551616, (x + y) / 18446744073709551616 % 18446744073709551616, x / 340282366920938463463374607431768211456 % 18446744073709551616]
  | _ => numL (x + y)
def carryN (x y : Nat) : Nat → Nat
  | 0 => 0
  | 1 => (x % 18446744073709551616 + y % 18446744073709551616) / 18446744073709551616
  | 2 => (x % 340282366920938463463374607431768211456 + y % 340282366920938463463374607431768211456) / 340282366920938463463374607431768211456
  | _ => (x % 6277101735386680763835789423207666416102355444464034512896 + y % 6277101735386680763835789423207666416102355444464034512896) / 6277101735386680763835789423207666416102355444464034512896
theorem plusN_len (x y i : Nat) : (plusN x y i).length = 3 := by
  match i with
  | 0 => rfl
  | 1 => rfl
  | 2 => rfl
  | _ + 3 => rfl
theorem plus_math (x y i : Nat) (hi : i < 3) : ∃ a b c s c', (plusN x y i).getD i 0 = a ∧ (numL y).getD i 0 = b ∧ carryN x y i = c ∧ c ≤ 1 ∧ (a + b + c) % 18446744073709551616 = s ∧ (a + b + c) / 18446744073709551616 = c' ∧
    carryN x y (i + 1) = c' ∧ (plusN x y i).set i s = plusN x y (i + 1) := by
  match i, hi with
  | 0, _ =>
    refine ⟨_, _, _, _, _, rfl, rfl, rfl, by simp [carryN], rfl, rfl, ?_, ?_⟩
    · simp only [carryN, plusN, numL, List.getD_cons_zero]; omega
    · simp only [carryN, plusN, numL, List.getD_cons_zero, List.set_cons_zero]
      congr 1; omega
  | 1, _ =>
    refine ⟨_, _, _, _, _, rfl, rfl, rfl, by simp only [carryN]; omega, rfl, rfl, ?_, ?_⟩
    · simp only [carryN, plusN, numL, List.getD_cons_zero, List.getD_cons_succ]; omega
    · simp only [carryN, plusN, numL, List.getD_cons_zero, List.getD_cons_succ, List.set_cons_zero, List.set_cons_succ]
      congr 2; omega
  | 2, _ =>
    refine ⟨_, _, _, _, _, rfl, rfl, rfl, by simp only [carryN]; omega, rfl, rfl, ?_, ?_⟩
    · simp only [carryN, plusN, numL, List.getD_cons_zero, List.getD_cons_succ]; omega
    · simp only [carryN, plusN, numL, List.getD_cons_zero, List.getD_cons_succ, List.set_cons_zero, List.set_cons_succ]
      congr 3; omega
theorem heap3p (w : World) (o1 o2 o3 : Obj) : (((w.alloc o1).alloc o2).alloc o3).heap[w.heap.size]? = some o1 ∧ (((w.alloc o1).alloc o2).alloc o3).heap[w.heap.size + 1]? = some o2 ∧ (((w.alloc o1).alloc o2).alloc o3).heap[w.heap.size + 2]? = some o3 ∧
    Below w.heap.size w (((w.alloc o1).alloc o2).alloc o3) := heap3 w o1 o2 o3
def zeros3 : List Value := List.replicate 3 (Value.int .u64 0)
set_option maxHeartbeats 4000000 in
theorem plus_any (x y : Nat) (w : World) :
    Calls Tryz.prog 126 #[.agg ((numL x).map uv).toArray, .agg ((numL y).map uv).toArray] w fun e w' => e = .returned (.agg ((numL (x + y)).map uv).toArray) ∧ Below w.heap.size w w' := by
  have hz : ∀ W, (zeroValue 154).run Tryz.prog W = .ok (.agg zeros3.toArray) W := fun W => by kernel_rfl
  have hlz : Hid (zeros3.length = 3) := rfl
  generalize zeros3 = Z3 at hz hlz
  have ly : Hid ((numL y).length = 3) := rfl
  have P0 : Hid ((numL x) = plusN x y 0) := rfl
  have C0 : Hid (carryN x y 0 = 0) := rfl
  have P3 : Hid (numL (x + y) = plusN x y 3) := rfl
  have PM := Lib.hid (plus_math x y)
  rw [P0.out, P3.out]
  obtain ⟨Y, HY⟩ : ∃ Y, Hid (numL y = Y) := ⟨_, rfl⟩
  rw [HY.out] at ly PM ⊢
  clear P0 P3
  obtain ⟨p, HP⟩ : ∃ p, Hid (w.heap.size = p) := ⟨_, rfl⟩
  go_enter Tryz.func126, Tryz.ntmps126
  go_wp2_with fail
  generalize hV : ((w.alloc _).alloc _).alloc _ = W0
  obtain ⟨f0, f1, f2, fb⟩ := heap3p w (.cells ((plusN x y 0).map uv).toArray 154) (.cells (Y.map uv).toArray 154) (.cells Z3.toArray 154)
  rw [hV] at f0 f1 f2 fb
  have F0 := Lib.hid f0; have F1 := Lib.hid f1; have F2 := Lib.hid f2; have FB := Lib.hid fb
  clear f0 f1 f2 fb hV
  go_loopw [5, 7] (fun vc vi wr => ∃ (i c : Nat), i ≤ 3 ∧ vi = .int .i64 (i : Int) ∧ vc = .int .u64 (c : Int) ∧ Hid (c = carryN x y i) ∧ Hid (Below w.heap.size w wr) ∧ Hid (wr.heap[w.heap.size]? = some (.cells ((plusN x y i).map uv).toArray 154 (0, 0))) ∧
      Hid (wr.heap[w.heap.size + 1]? = some (.cells (Y.map uv).toArray 154 (0, 0))) ∧ Hid (wr.heap[w.heap.size + 2]? = some (.cells Z3.toArray 154 (0, 0)))) (fun _ i _ => 3 - (intOf i).toNat)
  case atStart => exact ⟨0, 0, by omega, rfl, rfl, rfl, FB, F0, F1, F2⟩
  case round =>
    clear FB F0 F1 F2
    obtain ⟨i, c, hi, rfl, rfl, HC, HB, H0, H1, H2⟩ := hrel
    by_cases hlt : i < 3
    · have e1 : (i : Int) < 3 := by omega
      obtain ⟨a, b, c0, s, c', ha, hb, hc0, hc1, hs, hc', hcn, hset⟩ := PM.out i hlt
      obtain rfl : c = c0 := HC.out.trans hc0
      have k0 := ucell (w := wr.drew) H0.out i (by rw [plusN_len]; exact hlt)
      have k1 := ucell (w := wr.drew) H1.out i (by rw [ly.out]; exact hlt)
      rw [ha] at k0
      rw [hb] at k1
      have A1 := fun W => add64_run (a : Int) (b : Int) (c : Int) (by omega) (by omega) (by omega) (by omega) W
      rw [show ((a : Int) + (b : Int) + (c : Int)) % 18446744073709551616 = (s : Int) by omega, show ((a : Int) + (b : Int) + (c : Int)) / 18446744073709551616 = (c' : Int) by omega] at A1
      have K0 := Lib.hid k0; have K1 := Lib.hid k1; have HSET := Lib.hid hset; have HCN := Lib.hid hcn
      clear ha hb hc0 hc1 hs hc' hcn hset k0 k1 HC
      go_wp2_with fail
      have HS : Hid (wr.drew = wr.drew) := rfl
      have D0 : Hid (wr.drew.heap[w.heap.size]? = some (.cells ((plusN x y i).map uv).toArray 154 (0, 0))) := H0.out
      have D1 : Hid (wr.drew.heap[w.heap.size + 1]? = some (.cells (Y.map uv).toArray 154 (0, 0))) := H1.out
      have D2 : Hid (wr.drew.heap[w.heap.size + 2]? = some (.cells Z3.toArray 154 (0, 0))) := H2.out
      have DB : Hid (Below w.heap.size w wr.drew) := HB.out.drew
      refine regK_start (8) (fun W => W = wr.drew) (by kernel_rfl) ?_
      try simp only [Act.put, List.setIfInBounds_toArray, List.set_cons_zero, List.set_cons_succ]
      refine regK_take (v := ?_) 0 (some 11) rfl rfl (by kernel_rfl) (by kernel_rfl) (by kernel_rfl) (fun _ _ _ h => h) (by rfl) (by kernel_rfl) HS.out (fun W => ?_) ?_
      rotate_left
      · (go_simp; try rfl)
      simp only [Act.put, List.setIfInBounds_toArray, List.set_cons_zero, List.set_cons_succ]
      refine regK_take (v := ?_) 1 (some 12) rfl rfl (by kernel_rfl) (by kernel_rfl) (by kernel_rfl) (fun _ _ _ h => h) (by rfl) (by kernel_rfl) HS.out (fun W => ?_) ?_
      rotate_left
      · (go_simp; try rfl)
      simp only [Act.put, List.setIfInBounds_toArray, List.set_cons_zero, List.set_cons_succ]
      refine regK_take (v := ?_) 2 (some 13) rfl rfl (by kernel_rfl) (by kernel_rfl) (by kernel_rfl) (fun _ _ _ h => h) (by rfl) (by kernel_rfl) HS.out (fun W => ?_) ?_
      rotate_left
      · (go_simp; try rfl)
      simp only [Act.put, List.setIfInBounds_toArray, List.set_cons_zero, List.set_cons_succ]
      refine regK_load 3 (some 14) (fun W hW => load_cell Tryz.underlying115 (cell_eq' hW K0.out)) rfl rfl rfl rfl (by kernel_rfl) (by kernel_rfl) (by kernel_rfl) (fun _ _ _ h => h) (by rfl) (by kernel_rfl) HS.out ?_
      simp only [Act.put, List.setIfInBounds_toArray, List.set_cons_zero, List.set_cons_succ]
      refine regK_take (v := ?_) 4 (some 15) rfl rfl (by kernel_rfl) (by kernel_rfl) (by kernel_rfl) (fun _ _ _ h => h) (by rfl) (by kernel_rfl) HS.out (fun W => ?_) ?_
      rotate_left
      · (go_simp; try rfl)
      simp only [Act.put, List.setIfInBounds_toArray, List.set_cons_zero, List.set_cons_succ]
      refine regK_take (v := ?_) 5 (some 16) rfl rfl (by kernel_rfl) (by kernel_rfl) (by kernel_rfl) (fun _ _ _ h => h) (by rfl) (by kernel_rfl) HS.out (fun W => ?_) ?_
      rotate_left
      · (go_simp; try rfl)
      simp only [Act.put, List.setIfInBounds_toArray, List.set_cons_zero, List.set_cons_succ]
      refine regK_load 6 (some 17) (fun W hW => load_cell Tryz.underlying115 (cell_eq' hW K1.out)) rfl rfl rfl rfl (by kernel_rfl) (by kernel_rfl) (by kernel_rfl) (fun _ _ _ h => h) (by rfl) (by kernel_rfl) HS.out ?_
      simp only [Act.put, List.setIfInBounds_toArray, List.set_cons_zero, List.set_cons_succ]
      refine regK_take (v := ?_) 7 (some 18) rfl rfl (by kernel_rfl) (by kernel_rfl) (by kernel_rfl) (fun _ _ _ h => h) (by rfl) (by kernel_rfl) HS.out (fun W => ?_) ?_
      rotate_left
      · (go_simp; try rfl)
      simp only [Act.put, List.setIfInBounds_toArray, List.set_cons_zero, List.set_cons_succ]
      refine regK_bar 8 rfl (by kernel_rfl) (by kernel_rfl) (fun K hK => ?_)
      go_simp
      refine hK.out _ _ trivial ?_
      clear hK K
      try simp only [Act.put, List.setIfInBounds_toArray, List.set_cons_zero, List.set_cons_succ]
      refine regS_take (v := ?_) 9 (some 10) rfl rfl (by kernel_rfl) (by kernel_rfl) (by kernel_rfl) (fun _ _ _ h => h) (by rfl) (fun W hW => ?_) ?_
      rotate_left
      · (go_simp; try rfl)
      simp only [Act.put, List.setIfInBounds_toArray, List.set_cons_zero, List.set_cons_succ]
      refine regS_take (v := ?_) 10 (some 20) rfl rfl (by kernel_rfl) (by kernel_rfl) (by kernel_rfl) (fun _ _ _ h => h) (by rfl) (fun W hW => ?_) ?_
      rotate_left
      · (go_simp; try rfl)
      simp only [Act.put, List.setIfInBounds_toArray, List.set_cons_zero, List.set_cons_succ]
      refine regS_take (v := ?_) 11 (some 21) rfl rfl (by kernel_rfl) (by kernel_rfl) (by kernel_rfl) (fun _ _ _ h => h) (by rfl) (fun W hW => ?_) ?_
      rotate_left
      · (go_simp; try rfl)
      simp only [Act.put, List.setIfInBounds_toArray, List.set_cons_zero, List.set_cons_succ]
      refine regS_take (v := ?_) 12 (some 22) rfl rfl (by kernel_rfl) (by kernel_rfl) (by kernel_rfl) (fun _ _ _ h => h) (by rfl) (fun W hW => ?_) ?_
      rotate_left
      · (go_simp; try rfl)
      simp only [Act.put, List.setIfInBounds_toArray, List.set_cons_zero, List.set_cons_succ]
      refine regS_eff 13 rfl (by kernel_rfl) (fun K hK => ?_)
      refine step_st1 rfl 115 (.tmp 22) (.tmp 20) rfl (store_cell (k := .u64) Tryz.underlying115 s64 (w := wr.drew) K0.out (frozen_of_heap D0.out _)) ?_
      generalize hV : World.setCell _ _ _ = W1
      obtain ⟨m1, m2, m3⟩ := ust_row (B := w.heap.size) hV (Nat.le_refl _) D0.out
      rw [HSET.out] at m1
      have M1 := Lib.hid m1; have N1 := Lib.hid (DB.out.trans m2); have E1 := Lib.hid ((m3 (w.heap.size + 1) (Nat.succ_ne_self _)).trans D1.out); have E2 := Lib.hid ((m3 (w.heap.size + 2) (by omega)).trans D2.out)
      clear m1 m2 m3 hV
      refine hK.out _ _ trivial ?_
      clear hK K
      try simp only [Act.put, List.setIfInBounds_toArray, List.set_cons_zero, List.set_cons_succ]
      refine regS_take (v := ?_) 14 (some 5) rfl rfl (by kernel_rfl) (by kernel_rfl) (by kernel_rfl) (fun _ _ _ h => h) (by rfl) (fun W hW => ?_) ?_
      rotate_left
      · (go_simp; try rfl)
      simp only [Act.put, List.setIfInBounds_toArray, List.set_cons_zero, List.set_cons_succ]
      refine regS_done (by kernel_rfl) ?_
      go_wp2
      go_roundw
      case rel => exact ⟨i + 1, c', by omega, by go_num, rfl, HCN.out.symm, N1, M1, E1, E2⟩
      case measure => simp [intOf]; omega
    · have H0' : Hid (wr.heap[w.heap.size]? = some (.cells ((plusN x y 3).map uv).toArray 154 (0, 0))) := by have := H0.out; rw [show i = 3 by omega] at this; exact this
      have hl4 : Hid (((plusN x y 3).map uv).length = 3) := rfl
      clear H0 HC
      obtain ⟨L, HLL⟩ : ∃ L, Hid ((plusN x y 3).map uv = L) := ⟨_, rfl⟩
      have hone : Hid (∀ v ∈ L, v.oneCell' = true) := by show ∀ v ∈ L, _; rw [← HLL.out]; exact uv_one _
      rw [HLL.out] at H0' hl4
      have e1 : ¬ ((i : Int) < 3) := by omega
      go_wp2_with (first
        | (refine wpList_ld rfl 154 (.tmp 2) rfl (load_arr arr3 rfl (by rw [hl4.out]; exact i3) H0'.out) ?_)
        | (refine wpList_st rfl 154 (.tmp 4) (.tmp 24) rfl (store_arr (cs := L) (by rw [hl4.out]; exact i3) hone.out H2.out (by rw [hl4.out]; exact hlz.out)) ?_))
      have hres := setRow_heap wr (w.heap.size + 2) _ L.toArray 154 _ H2.out
      exact bodyPost_ret (results_cell_row (P := Tryz.prog) rfl _ _ (w.heap.size + 2) 154 L.toArray (0, 0) _ rfl hres arr3 rfl (by rw [List.size_toArray, hl4.out]; exact i3)) rfl ⟨by rw [← HLL.out], HB.out.trans (grown_below (grown_setRow _ _ _) (by omega) HB.out.size)⟩
end Go.Proofs.YtimgggpojbpfkaaGreatDoor

/- Numbers of five words, brought to three: fold. -/
import Derived.Test.YtimgggpojbpfkaaGreatDoorPoly2
import Derived.Test.YtimgggpojbpfkaaGreatDoorRefS1
namespace Go.Proofs.YtimgggpojbpfkaaGreatDoor
open Go.RowKit
set_option maxRecDepth 100000
set_option linter.unusedVariables false
set_option linter.unusedSimpArgs false
/-- all blocks but g are as they were -/
def Grow (g : Nat) (w W : World) : Prop := w.grownBy W (some g)
instance (g : Nat) : Pre (Grow g) where
  refl w := World.grownBy.refl w _
  trans h k := ⟨k.os.trans h.os, k.tape.trans h.tape, k.output.trans h.output, Nat.le_trans h.size k.size, fun i hi hn => (k.block i (Nat.lt_of_lt_of_le hi h.size) hn).trans (h.block i hi hn)⟩
theorem Grow.trans {g : Nat} {a b c : World} (h : Grow g a b) (k : Grow g b c) : Grow g a c := Pre.trans h k
theorem Grow.of_ext {g : Nat} {w W : World} (h : Ext w W) : Grow g w W := ⟨h.os, h.tape, h.output, h.size, fun k hk _ => h.block k hk⟩
theorem Grow.heap {g b : Nat} {w W : World} {o : Obj} (h : Grow g w W) (hb : b ≠ g) (hc : w.heap[b]? = some o) : W.heap[b]? = some o :=
  (h.block b (lt_of_heap hc) (fun e => hb (by injection e))).trans hc
theorem Grow.setRow (g : Nat) (W : World) (cs : Array Value) : Grow g W (W.setRow g cs) := grown_setRow W g cs
theorem Grow.below {g B : Nat} {w W : World} (h : Grow g w W) (hB : B ≤ g) (hs : B ≤ w.heap.size) : Below B w W := grown_below h hB hs
theorem Grow.drew (g : Nat) (w : World) : Grow g w w.drew := Grow.of_ext (Below.refl _ _).drew
/-- the words of a number, five of them -/
def numL5 (n : Nat) : List Nat := [n % 18446744073709551616, n / 18446744073709551616 % 18446744073709551616, n / 340282366920938463463374607431768211456 % 18446744073709551616, n / 6277101735386680763835789423207666416102355444464034512896 % 18446744073709551616, n / 115792089237316195423570985008687907853269984665640564039457584007913129639936 % 18446744073709551616]
theorem andNot3 (x : Nat) (hx : x < 18446744073709551616) : bits .andNot .u64 (x : Int) 3 = ((4 * (x / 4) : Nat) : Int) := by
  have h := u64_andNot_nat x 3 hx (by decide)
  have e : x &&& (18446744073709551615 - 3) = 4 * (x / 4) := by
    have e1 : (18446744073709551615 - 3 : Nat) = (2 ^ 62 - 1) <<< 2 := by decide
    have e2 : 4 * (x / 4) = (x >>> 2) <<< 2 := by rw [Nat.shiftRight_eq_div_pow, Nat.shiftLeft_eq]; omega
    rw [e1, e2]
    apply Nat.eq_of_testBit_eq
    intro i
    simp only [Nat.testBit_and, Nat.testBit_shiftLeft, Nat.testBit_two_pow_sub_one, Nat.testBit_shiftRight]
    by_cases h2 : 2 ≤ i
    · have e3 : 2 + (i - 2) = i := by omega
      rw [e3]
      by_cases h64 : i < 64
      · have : i - 2 < 62 := by omega
        simp [h2, this]
      · have hf : x.testBit i = false := Nat.testBit_lt_two_pow (Nat.lt_of_lt_of_le hx (Nat.le_trans (by decide : 18446744073709551616 ≤ 2 ^ 64) (Nat.pow_le_pow_right (by decide) (by omega))))
        simp [hf]
    · simp [h2]
  rw [e] at h
  exact h
theorem and3 (x : Nat) (hx : x < 18446744073709551616) : bits .and .u64 (x : Int) 3 = ((x % 4 : Nat) : Int) := by
  have h := u64_and_nat x 3 hx (by decide)
  have e : x &&& 3 = x % 4 := Nat.and_two_pow_sub_one_eq_mod x 2
  rw [e] at h
  exact h
theorem or62 (a b : Nat) (ha : a < 4611686018427387904) : bits .or .u64 (a : Int) (((b * 4611686018427387904 % 18446744073709551616 : Nat)) : Int) = ((a + b % 4 * 4611686018427387904 : Nat) : Int) := by
  have e : b * 4611686018427387904 % 18446744073709551616 = b % 4 * 4611686018427387904 := by omega
  have hb1 : b % 4 * 4611686018427387904 < 18446744073709551616 := by omega
  have ha1 : a < 18446744073709551616 := by omega
  have hj : ∀ i, (2 : Nat) ^ i = 4611686018427387904 → (b % 4 * 4611686018427387904) ||| a = b % 4 * 4611686018427387904 + a := fun i hi => nat_join i _ a (by rw [hi]; exact Nat.mul_mod_left _ _) (by rw [hi]; exact ha)
  rw [e, u64_or_nat _ _ ha1 hb1, Nat.or_comm, hj 62 (by decide), Nat.add_comm]
/-- what stands above the lowest 130 bits is taken five times -/
def foldN (n : Nat) : Nat := n % 1361129467683753853853498429727072845824 + 5 * (n / 1361129467683753853853498429727072845824)
theorem fold_math (n x0 x1 x2 x3 : Nat) (hn : n < 115792089237316195423570985008687907853269984665640564039457584007913129639936) (h0 : x0 = n % 18446744073709551616) (h1 : x1 = n / 18446744073709551616 % 18446744073709551616) (h2 : x2 = n / 340282366920938463463374607431768211456 % 18446744073709551616)
    (h3 : x3 = n / 6277101735386680763835789423207666416102355444464034512896 % 18446744073709551616) :
    [x0, x1, x2 % 4] = numL (n % 1361129467683753853853498429727072845824) ∧ [4 * (x2 / 4), x3, 0] = numL (4 * (n / 1361129467683753853853498429727072845824)) ∧
      [x2 / 4 + x3 % 4 * 4611686018427387904, x3 / 4, 0] = numL (n / 1361129467683753853853498429727072845824) ∧ n % 1361129467683753853853498429727072845824 + (4 * (n / 1361129467683753853853498429727072845824) + n / 1361129467683753853853498429727072845824) = foldN n := by
  refine ⟨?_, ?_, ?_, ?_⟩
  · unfold numL; congr 1
    · omega
    · congr 1
      · omega
      · congr 1; omega
  · unfold numL; congr 1
    · omega
    · congr 1
      · omega
      · congr 1; omega
  · unfold numL; congr 1
    · omega
    · congr 1
      · omega
      · congr 1; omega
  · unfold foldN; omega
theorem exec_bld {P : Program} {o : Oper} {a : Act} {W : World} {t : TypeId} {parts : Array (Nat × Operand)} {v : Value} (ho : o.op = .build t parts) (hrun : (Instr.build t (parts.map fun (i, x) => (i, a.eval x))).run P W = .ok v W) :
    (execOp a.eval o).run P W = .ok (.value v) W := by
  unfold execOp
  simp only [ho, Sem.run_bind, hrun, Result.andThen_ok, Sem.run_pure]
theorem arr5 : Tryz.prog.underlying 185 = some (.array 5 115) := Tryz.underlying185
theorem i5 : (Tryz.prog.info? 185).map (·.size) = some 5 := by kernel_rfl
theorem i3l (l : List Nat) (h : l.length = 3) : (Tryz.prog.info? 154).map (·.size) = some (l.map uv).length := by rw [List.length_map, h]; exact i3
theorem heap2p (w : World) (o1 o2 : Obj) : ((w.alloc o1).alloc o2).heap[w.heap.size]? = some o1 ∧ ((w.alloc o1).alloc o2).heap[w.heap.size + 1]? = some o2 ∧ Below w.heap.size w ((w.alloc o1).alloc o2) := by
  have h := heap3 w o1 o2 o1
  refine ⟨?_, ?_, two_below w o1 o2⟩
  · rw [← h.1]; exact (Below.heap_alloc ((w.alloc o1).alloc o2) o1 _ (by simp; omega)).symm
  · rw [← h.2.1]; exact (Below.heap_alloc ((w.alloc o1).alloc o2) o1 _ (by simp)).symm
set_option maxHeartbeats 4000000 in
theorem fold_any (n : Nat) (w : World) (hn : n < 115792089237316195423570985008687907853269984665640564039457584007913129639936) :
    Calls Tryz.prog 147 #[.agg ((numL5 n).map uv).toArray] w fun e w' => e = .returned (.agg ((numL (foldN n)).map uv).toArray) ∧ Below w.heap.size w w' := by
  have hz : ∀ W, (zeroValue 154).run Tryz.prog W = .ok (.agg zeros3.toArray) W := fun W => by kernel_rfl
  have hlz : Hid (zeros3.length = 3) := rfl
  generalize zeros3 = Z3 at hz hlz
  obtain ⟨x0, h0⟩ : ∃ x0, x0 = n % 18446744073709551616 := ⟨_, rfl⟩
  obtain ⟨x1, h1⟩ : ∃ x0, x0 = n / 18446744073709551616 % 18446744073709551616 := ⟨_, rfl⟩
  obtain ⟨x2, h2⟩ : ∃ x0, x0 = n / 340282366920938463463374607431768211456 % 18446744073709551616 := ⟨_, rfl⟩
  obtain ⟨x3, h3⟩ : ∃ x0, x0 = n / 6277101735386680763835789423207666416102355444464034512896 % 18446744073709551616 := ⟨_, rfl⟩
  obtain ⟨x4, h4⟩ : ∃ x0, x0 = n / 115792089237316195423570985008687907853269984665640564039457584007913129639936 % 18446744073709551616 := ⟨_, rfl⟩
  obtain ⟨f1, f2, f3, f4⟩ := fold_math n x0 x1 x2 x3 hn h0 h1 h2 h3
  have e5 : numL5 n = [x0, x1, x2, x3, x4] := by rw [h0, h1, h2, h3, h4]; rfl
  rw [e5, ← f4]
  have b2 : x2 < 18446744073709551616 := by omega
  have b3 : x3 < 18446744073709551616 := by omega
  clear h0 h1 h2 h3 h4 e5 f4 hn
  generalize n % 1361129467683753853853498429727072845824 = A at f1 ⊢
  generalize 4 * (n / 1361129467683753853853498429727072845824) = B at f2 ⊢
  generalize n / 1361129467683753853853498429727072845824 = C at f3 ⊢
  have k1 := andNot3 x2 b2
  have k2 := and3 x2 b2
  have k3 := or62 (x2 / 4) x3 (by omega)
  obtain ⟨y2, hy2⟩ : ∃ y, y = 4 * (x2 / 4) := ⟨_, rfl⟩
  obtain ⟨z2, hz2⟩ : ∃ y, y = x2 / 4 := ⟨_, rfl⟩
  obtain ⟨z3, hz3⟩ : ∃ y, y = x3 / 4 := ⟨_, rfl⟩
  obtain ⟨u2, hu2⟩ : ∃ y, y = x2 % 4 := ⟨_, rfl⟩
  obtain ⟨v2, hv2⟩ : ∃ y, y = x2 / 4 + x3 % 4 * 4611686018427387904 := ⟨_, rfl⟩
  obtain ⟨s3, hs3⟩ : ∃ y, y = x3 * 4611686018427387904 % 18446744073709551616 := ⟨_, rfl⟩
  rw [← hy2] at k1 f2
  rw [← hu2] at k2 f1
  rw [← hv2] at k3 f3
  rw [← hz3] at f3
  rw [← hz2, ← hs3] at k3
  have d2 : (x2 : Int) / 4 = (z2 : Int) := by omega
  have d3 : (x3 : Int) / 4 = (z3 : Int) := by omega
  have d4 : IntKind.u64.wrap ((x3 : Int) * 4611686018427387904) = (s3 : Int) := by rw [IntKind.wrap_u64]; omega
  clear hy2 hz2 hz3 hu2 hv2 hs3 b2 b3
  have PL := Lib.hid (fun X Y W => plus_any X Y W)
  have hb1 : ∀ W, (Instr.build 154 #[(0, .int .u64 (y2 : Int)), (1, .int .u64 (x3 : Int))]).run Tryz.prog W = .ok (.agg (([y2, x3, 0] : List Nat).map uv).toArray) W := fun W => by kernel_rfl
  have hb2 : ∀ W, (Instr.build 154 #[(0, .int .u64 (v2 : Int)), (1, .int .u64 (z3 : Int))]).run Tryz.prog W = .ok (.agg (([v2, z3, 0] : List Nat).map uv).toArray) W := fun W => by kernel_rfl
  have hb3 : ∀ W, (Instr.build 154 #[(0, .int .u64 (x0 : Int)), (1, .int .u64 (x1 : Int)), (2, .int .u64 (u2 : Int))]).run Tryz.prog W = .ok (.agg (([x0, x1, u2] : List Nat).map uv).toArray) W := fun W => by kernel_rfl
  rw [f1] at hb3
  rw [f2] at hb1
  rw [f3] at hb2
  clear f1 f2 f3
  have HB1 := Lib.hid hb1; have HB2 := Lib.hid hb2; have HB3 := Lib.hid hb3
  clear hb1 hb2 hb3
  have LB : Hid ((numL B).length = 3) := rfl
  have LC : Hid ((numL C).length = 3) := rfl
  have LS : Hid ((numL (A + (B + C))).length = 3) := rfl
  have P1 := Lib.hid (fun W => plus_any B C W)
  have P2 := Lib.hid (fun W => plus_any A (B + C) W)
  generalize numL (A + (B + C)) = NS at P2 LS ⊢
  generalize numL (B + C) = NT at P1 P2
  generalize numL A = NA at P2 HB3
  generalize numL B = NB at P1 HB1 LB
  generalize numL C = NC at P1 HB2 LC
  clear PL A B C
  have G0 := Lib.hid (heap2p w (.cells ([x0, x1, x2, x3, x4].map uv).toArray 185) (.cells Z3.toArray 154))
  generalize hX : ([x0, x1, x2, x3, x4].map uv).toArray = X5 at G0 ⊢
  have HX5 := Lib.hid hX
  clear hX
  go_enter Tryz.func147, Tryz.ntmps147
  go_upto_region 1 with (fail)
  generalize hV : (w.alloc _).alloc _ = W0 at G0 ⊢
  clear hV
  have hc : ∀ (i v : Nat), [x0, x1, x2, x3, x4][i]? = some v → W0.cell? ⟨w.heap.size, i, none⟩ = some (.int .u64 (v : Int)) := by
    intro i v h
    have h1 := G0.out.1
    rw [← HX5.out] at h1
    rw [cell_of_heap h1 i, List.getElem?_map, h]; rfl
  have c2 := hc 2 x2 rfl
  have c3 := hc 3 x3 rfl
  have HC := Lib.hid hc
  have hsz : Hid (w.heap.size + 1 < W0.heap.size) := lt_of_heap G0.out.2.1
  clear hc
  go_upto_region 2 with (first
    | (refine wpList_run (o := ⟨some 10, _, _, _, _, _⟩) rfl (v := .agg (NB.map uv).toArray) (w' := W0) (exec_bld rfl (by simp only [List.map_toArray, List.map_cons, List.map_nil]; exact HB1.out W0)) ?_)
    | (refine wpList_st rfl 154 (.tmp 3) (.tmp 10) rfl (store_arr (cs := NB.map uv) (i3l NB LB.out) (uv_one _) (heap_alloc_new' W0 _) (by rw [List.length_map, LB.out]; exact hlz.out)) ?_
       generalize hV : World.setRow _ _ _ = W1
       have M1 := Lib.hid (heap_of_setRow hV (heap_alloc_new' W0 _))
       have MB := Lib.hid (((Below.refl W0.heap.size W0).alloc (Nat.le_refl _) _).trans (below_of_setRow hV (Nat.le_refl W0.heap.size) (by simp)))
       clear hV)
    | fail)
  clear c2 c3
  have c2 := (MB.out.cell (p := ⟨w.heap.size, 2, none⟩) (by have := hsz.out; show w.heap.size < _; omega)).trans (HC.out 2 x2 rfl)
  have c3 := (MB.out.cell (p := ⟨w.heap.size, 3, none⟩) (by have := hsz.out; show w.heap.size < _; omega)).trans (HC.out 3 x3 rfl)
  go_upto_region 3 with (first
    | (refine wpList_run (o := ⟨some 21, _, _, _, _, _⟩) rfl (v := .agg (NC.map uv).toArray) (w' := W1) (exec_bld rfl (by simp only [List.map_toArray, List.map_cons, List.map_nil]; exact HB2.out W1)) ?_)
    | (refine wpList_st rfl 154 (.tmp 4) (.tmp 21) rfl (store_arr (cs := NC.map uv) (i3l NC LC.out) (uv_one _) (heap_alloc_new' W1 _) (by rw [List.length_map, LC.out]; exact hlz.out)) ?_
       generalize hV : World.setRow _ _ _ = W2
       have M2 := Lib.hid (heap_of_setRow hV (heap_alloc_new' W1 _))
       have MB2 := Lib.hid (((Below.refl W1.heap.size W1).alloc (Nat.le_refl _) _).trans (below_of_setRow hV (Nat.le_refl W1.heap.size) (by simp)))
       clear hV)
    | fail)
  have E2 : Hid (Ext W0 W2) := Ext.trans MB.out MB2.out
  have N1 : Hid (W2.heap[W0.heap.size]? = some (.cells (NB.map uv).toArray 154 (0, 0))) := (MB2.out.block _ (lt_of_heap M1.out)).trans M1.out
  have N0 : Hid (W2.heap[w.heap.size + 1]? = some (.cells Z3.toArray 154 (0, 0))) := (E2.out.block _ hsz.out).trans G0.out.2.1
  have NX : Hid (W2.heap[w.heap.size]? = some (.cells X5 185 (0, 0))) := (E2.out.block _ (by have := hsz.out; omega)).trans G0.out.1
  have FB : Hid (Below w.heap.size w W2) := G0.out.2.2.trans (E2.out.mono G0.out.2.2.size)
  have hg1 : Hid (w.heap.size + 1 < W1.heap.size) := Nat.lt_of_lt_of_le hsz.out MB.out.size
  have HCX : Hid (∀ (W : World) (i v : Nat), W.heap[w.heap.size]? = some (.cells X5 185 (0, 0)) → [x0, x1, x2, x3, x4][i]? = some v → W.cell? ⟨w.heap.size, i, none⟩ = some (.int .u64 (v : Int))) := by
    intro W i v h1 h
    rw [← HX5.out] at h1
    rw [cell_of_heap h1 i, List.getElem?_map, h]; rfl
  clear c2 c3 MB MB2 M1 G0 HC HX5 E2
  generalize hq0 : W0.heap.size = q0 at N1 hsz ⊢
  generalize hq1 : W1.heap.size = q1 at M2 hg1 ⊢
  clear hq0 hq1
  have HX : Hid (Grow (w.heap.size + 1) W2 W2.drew) := Grow.drew _ _
  have hne0 : Hid (w.heap.size ≠ w.heap.size + 1) := by show _ ≠ _; omega
  have hne1 : Hid (q0 ≠ w.heap.size + 1) := by have := hsz.out; show _ ≠ _; omega
  have hne2 : Hid (q1 ≠ w.heap.size + 1) := by have := hg1.out; show _ ≠ _; omega
  refine regS_start (Grow (w.heap.size + 1)) (by kernel_rfl) ?_
  try simp only [Act.put, List.setIfInBounds_toArray, List.set_cons_zero, List.set_cons_succ]
  refine regS_take (v := ?_) 0 (some 22) rfl rfl (by kernel_rfl) (by kernel_rfl) (by kernel_rfl) (fun _ _ _ h => h) (by rfl) (fun W hW => ?_) ?_
  rotate_left
  · (go_simp; try rfl)
  simp only [Act.put, List.setIfInBounds_toArray, List.set_cons_zero, List.set_cons_succ]
  refine regS_load 1 (some 23) (fun W hW => load_cell Tryz.underlying115 (HCX.out W 0 x0 (hW.heap hne0.out (HX.out.heap hne0.out NX.out)) rfl)) rfl rfl rfl rfl (by kernel_rfl) (by kernel_rfl) (by kernel_rfl) (fun _ _ _ h => h) (by rfl) ?_
  simp only [Act.put, List.setIfInBounds_toArray, List.set_cons_zero, List.set_cons_succ]
  refine regS_take (v := ?_) 2 (some 24) rfl rfl (by kernel_rfl) (by kernel_rfl) (by kernel_rfl) (fun _ _ _ h => h) (by rfl) (fun W hW => ?_) ?_
  rotate_left
  · (go_simp; try rfl)
  simp only [Act.put, List.setIfInBounds_toArray, List.set_cons_zero, List.set_cons_succ]
  refine regS_load 3 (some 25) (fun W hW => load_cell Tryz.underlying115 (HCX.out W 1 x1 (hW.heap hne0.out (HX.out.heap hne0.out NX.out)) rfl)) rfl rfl rfl rfl (by kernel_rfl) (by kernel_rfl) (by kernel_rfl) (fun _ _ _ h => h) (by rfl) ?_
  simp only [Act.put, List.setIfInBounds_toArray, List.set_cons_zero, List.set_cons_succ]
  refine regS_take (v := ?_) 4 (some 26) rfl rfl (by kernel_rfl) (by kernel_rfl) (by kernel_rfl) (fun _ _ _ h => h) (by rfl) (fun W hW => ?_) ?_
  rotate_left
  · (go_simp; try rfl)
  simp only [Act.put, List.setIfInBounds_toArray, List.set_cons_zero, List.set_cons_succ]
  refine regS_load 5 (some 27) (fun W hW => load_cell Tryz.underlying115 (HCX.out W 2 x2 (hW.heap hne0.out (HX.out.heap hne0.out NX.out)) rfl)) rfl rfl rfl rfl (by kernel_rfl) (by kernel_rfl) (by kernel_rfl) (fun _ _ _ h => h) (by rfl) ?_
  simp only [Act.put, List.setIfInBounds_toArray, List.set_cons_zero, List.set_cons_succ]
  refine regS_take (v := ?_) 6 (some 28) rfl rfl (by kernel_rfl) (by kernel_rfl) (by kernel_rfl) (fun _ _ _ h => h) (by rfl) (fun W hW => ?_) ?_
  rotate_left
  · (go_simp; try rfl)
  simp only [Act.put, List.setIfInBounds_toArray, List.set_cons_zero, List.set_cons_succ]
  refine regS_take (v := ?_) 7 (some 29) rfl rfl (by kernel_rfl) (by kernel_rfl) (by kernel_rfl) (fun _ _ _ h => h) (by rfl) (fun W hW => ?_) ?_
  rotate_left
  · exact exec_bld rfl (by simp only [List.map_toArray, List.map_cons, List.map_nil]; exact HB3.out W)
  simp only [Act.put, List.setIfInBounds_toArray, List.set_cons_zero, List.set_cons_succ]
  refine regS_load 8 (some 30) (fun W hW => load_arr arr3 rfl (i3l NB LB.out) (hW.heap hne1.out (HX.out.heap hne1.out N1.out))) rfl rfl rfl rfl (by kernel_rfl) (by kernel_rfl) (by kernel_rfl) (fun _ _ _ h => h) (by rfl) ?_
  simp only [Act.put, List.setIfInBounds_toArray, List.set_cons_zero, List.set_cons_succ]
  refine regS_load 9 (some 31) (fun W hW => load_arr arr3 rfl (i3l NC LC.out) (hW.heap hne2.out (HX.out.heap hne2.out M2.out))) rfl rfl rfl rfl (by kernel_rfl) (by kernel_rfl) (by kernel_rfl) (fun _ _ _ h => h) (by rfl) ?_
  simp only [Act.put, List.setIfInBounds_toArray, List.set_cons_zero, List.set_cons_succ]
  refine regS_eff 10 rfl (by kernel_rfl) (fun K hK => ?_)
  go_simp
  refine (P1.out _).mono ?_
  rintro e w3 ⟨rfl, hb⟩
  have N3 := Lib.hid ((hb.block _ (lt_of_heap (w := W2.drew) N0.out)).trans N0.out)
  have hE := Grow.of_ext (g := w.heap.size + 1) hb
  clear hb
  refine hK.out _ _ hE ?_
  have HX := Lib.hid (Pre.trans HX.out hE)
  clear hE hK K
  try simp only [Act.put, List.setIfInBounds_toArray, List.set_cons_zero, List.set_cons_succ]
  refine regS_eff 11 rfl (by kernel_rfl) (fun K hK => ?_)
  go_simp
  refine (P2.out _).mono ?_
  rintro e w4 ⟨rfl, hb⟩
  have N4 := Lib.hid ((hb.block _ (lt_of_heap N3.out)).trans N3.out)
  have hE := Grow.of_ext (g := w.heap.size + 1) hb
  clear hb
  refine hK.out _ _ hE ?_
  have HX := Lib.hid (Pre.trans HX.out hE)
  clear hE hK K
  try simp only [Act.put, List.setIfInBounds_toArray, List.set_cons_zero, List.set_cons_succ]
  refine regS_eff 12 rfl (by kernel_rfl) (fun K hK => ?_)
  refine step_st1 rfl 154 (.tmp 2) (.tmp 33) rfl (store_arr (cs := NS.map uv) (i3l NS LS.out) (uv_one _) N4.out (by rw [List.length_map, LS.out]; exact hlz.out)) ?_
  generalize hV : World.setRow _ _ _ = W5
  have hres := Lib.hid (heap_of_setRow hV N4.out)
  have hE : Grow (w.heap.size + 1) w4 W5 := by rw [← hV]; exact Grow.setRow _ _ _
  clear hV
  refine hK.out _ _ hE ?_
  have HX := Lib.hid (Pre.trans HX.out hE)
  clear hE hK K
  try simp only [Act.put, List.setIfInBounds_toArray, List.set_cons_zero, List.set_cons_succ]
  refine regS_done (by kernel_rfl) ?_
  go_wp2
  exact bodyPost_ret (results_cell_row (P := Tryz.prog) rfl _ _ (w.heap.size + 1) 154 (NS.map uv).toArray (0, 0) _ rfl hres.out arr3 rfl (by rw [List.size_toArray]; exact i3l NS LS.out)) rfl ⟨rfl, FB.out.trans (HX.out.below (Nat.le_succ _) FB.out.size)⟩
end Go.Proofs.YtimgggpojbpfkaaGreatDoor

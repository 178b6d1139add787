/- The contract of sha.spread. -/
import Derived.Test.YtimgggpojbpfkaaGreatDoorSha2
import Derived.Test.YtimgggpojbpfkaaGreatDoorBits2
import Derived.Test.YtimgggpojbpfkaaGreatDoorReg2
import Derived.Deep.MidRow
namespace Go.Proofs.YtimgggpojbpfkaaGreatDoor
open Go.RowKit
set_option maxRecDepth 100000
set_option linter.unusedVariables false
set_option linter.unusedSimpArgs false

/-- the i-th number of a block -/
def wordAt (b : List UInt8) (i : Nat) : W32 := BitVec.ofNat 32 (bigN ((b.drop (4 * i)).take 4))
def next (l : List W32) (i : Nat) : W32 := l.getD i 0 + shiftL (l.getD (i + 1) 0) 7 18 3 + l.getD (i + 9) 0 + shiftL (l.getD (i + 14) 0) 17 19 10
def spreadN (b : List UInt8) : Nat → List W32
  | 0 => (List.range 16).map (wordAt b)
  | n + 1 => spreadN b n ++ [next (spreadN b n) n]
theorem spreadN_len (b : List UInt8) (n : Nat) : (spreadN b n).length = 16 + n := by
  induction n with
  | zero => simp [spreadN]
  | succ n ih => simp [spreadN, ih]; omega
/-- the row as it lies in memory behind i numbers of the first 16, behind n of the other 48 -/
def rowA (b : List UInt8) (i : Nat) : List W32 := (List.range i).map (wordAt b) ++ List.replicate (64 - i) 0
def rowB (b : List UInt8) (n : Nat) : List W32 := spreadN b n ++ List.replicate (48 - n) 0
theorem rowA_step (b : List UInt8) (i : Nat) (hi : i < 64) : (rowA b i).set i (wordAt b i) = rowA b (i + 1) := by
  unfold rowA
  rw [List.range_succ, List.map_append, List.append_assoc, show 64 - i = (64 - (i + 1)) + 1 by omega, List.replicate_succ]
  rw [List.set_append_right _ _ (by simp)]
  simp
theorem rowB_step (b : List UInt8) (n : Nat) (hn : n < 48) : (rowB b n).set (n + 16) (next (rowB b n) n) = rowB b (n + 1) := by
  have hg : ∀ j, j < 16 + n → (rowB b n).getD j 0 = (spreadN b n).getD j 0 := by
    intro j hj
    unfold rowB
    rw [List.getD_eq_getElem?_getD, List.getD_eq_getElem?_getD, List.getElem?_append_left (by rw [spreadN_len]; exact hj)]
  have hx : next (rowB b n) n = next (spreadN b n) n := by
    unfold next
    rw [hg n (by omega), hg (n + 1) (by omega), hg (n + 9) (by omega), hg (n + 14) (by omega)]
  rw [hx]
  unfold rowB
  rw [spreadN, List.append_assoc, show 48 - n = (48 - (n + 1)) + 1 by omega, List.replicate_succ, List.set_append_right _ _ (by rw [spreadN_len]; omega), spreadN_len]
  simp [show n + 16 - (16 + n) = 0 by omega]
theorem rowA_end (b : List UInt8) : rowA b 16 = rowB b 0 := rfl
theorem rowB_end (b : List UInt8) : rowB b 48 = spreadN b 48 := by simp [rowB]
theorem rowA_len (b : List UInt8) (i : Nat) (hi : i ≤ 64) : (rowA b i).length = 64 := by simp [rowA]; omega
theorem rowB_len (b : List UInt8) (i : Nat) (hi : i ≤ 48) : (rowB b i).length = 64 := by simp [rowB, spreadN_len]; omega
theorem rowA_zero (b : List UInt8) : ((rowA b 0).map wv) = List.replicate 64 (Value.int .u32 0) := by simp [rowA, wv]
theorem word_big (b : List UInt8) (i : Nat) : big ((b.drop (4 * i)).take 4) = (wordAt b i).toNat := by
  have hl : ((b.drop (4 * i)).take 4).length ≤ 4 := by simp; omega
  have h := bigN_lt ((b.drop (4 * i)).take 4)
  have h4 : 256 ^ ((b.drop (4 * i)).take 4).length ≤ 256 ^ 4 := Nat.pow_le_pow_right (by decide) hl
  unfold wordAt
  rw [big, show ((b.drop (4 * i)).take 4).length - 8 = 0 by omega, List.drop_zero, BitVec.toNat_ofNat, Nat.mod_eq_of_lt]
  calc _ < _ := h
    _ ≤ 256 ^ 4 := h4
    _ = 2 ^ 32 := by decide
theorem arr64B : Tryz.prog.underlying 109 = some (.array 64 5) := Tryz.underlying109
theorem i64B : (Tryz.prog.info? 109).map (·.size) = some 64 := by kernel_rfl

theorem store_cell {P : Program} {ty : TypeId} {k : IntKind} (hu : P.underlying ty = some (.int k)) (hs : (P.info? ty).map (·.size) = some 1) {w : World} {b o : Nat} {v : Value} {z : Int} (h : w.cell? ⟨b, o, none⟩ = some v) (hf : w.frozen? ⟨b, o, none⟩ = false) :
    (Instr.storeAt ty (.pointer (some ⟨b, o, none⟩)) (.int k z)).run P w = .ok () (w.setCell ⟨b, o, none⟩ (.int k z)) := by
  simp [go_sem, Instr.storeAt, Instr.sureAddr, storeVar, isAgg, run_underlying hu, sizeOf_one hs, Value.cells, storeCells, Result.andThen, Addr.add_mid, h, hf]
theorem step_st1 {P : Program} {w w' : World} {ops : Array Oper} {o : Oper} {a : Act} {K : Act → World → Prop} {Q : Exit → Act → World → Prop} {E : Prop} (hg : o.guard = none) (ty : TypeId) (x y : Operand)
    (ho : o.op = .store ty x y) (hrun : (Instr.storeAt ty (a.eval x) (a.eval y)).run P w = .ok () w') (h : K (a.put o.dst undef) w') : if Region.wanted o (yielded ops a.tmps) = true then Oper.wp P o a w K Q else E := by
  have hw : Region.wanted o (yielded ops a.tmps) = true := by simp [Region.wanted, hg]
  rw [if_pos hw]
  unfold Oper.wp execOp
  simp only [ho, Sem.run_bind, hrun, Result.andThen_ok]
  exact h

set_option maxHeartbeats 2000000 in
theorem spread_any (b : List UInt8) (w : World) (hb : b.length = 64) :
    Calls Tryz.prog 128 #[.agg (b.map bv).toArray] w fun e w' => e = .returned (.agg ((spreadN b 48).map wv).toArray) ∧ Below w.heap.size w w' := by
  have HBL := Lib.hid hb
  clear hb
  go_enter Tryz.func128, Tryz.ntmps128
  go_wp2_with fail
  generalize hV : ((w.alloc _).alloc _).alloc _ = W0
  have F0 : Hid (W0.heap[w.heap.size]? = some (.cells (b.map bv).toArray 109 (0, 0))) := by rw [← hV]; exact (heap3 w _ _ _).1
  have F1 : Hid (W0.heap[w.heap.size + 1]? = some (.cells (List.replicate 64 (Value.int .u32 0)).toArray 168 (0, 0))) := by rw [← hV]; exact (heap3 w _ _ _).2.1
  have F2 : Hid (W0.heap[w.heap.size + 1 + 1]? = some (.cells ((rowA b 0).map wv).toArray 168 (0, 0))) := by rw [← hV, rowA_zero]; exact (heap3 w _ _ _).2.2.1
  have FB : Hid (Below w.heap.size w W0) := by rw [← hV]; exact (heap3 w _ _ _).2.2.2
  clear hV
  generalize hg2 : w.heap.size + 1 + 1 = g2 at F2 ⊢
  generalize hg1 : w.heap.size + 1 = g1 at F1 ⊢
  have HG2 : Hid (w.heap.size + 1 + 1 = g2) := hg2
  have HG1 : Hid (w.heap.size + 1 = g1) := hg1
  clear hg1 hg2
  go_loopw [6] (fun vi wr => ∃ (i : Nat), i ≤ 16 ∧ vi = .int .i64 (i : Int) ∧ Hid (Below w.heap.size w wr) ∧ Hid (wr.heap[w.heap.size]? = some (.cells (b.map bv).toArray 109 (0, 0))) ∧ Hid (wr.heap[g1]? = some (.cells (List.replicate 64 (Value.int .u32 0)).toArray 168 (0, 0))) ∧
     Hid (wr.heap[g2]? = some (.cells ((rowA b i).map wv).toArray 168 (0, 0)))) (fun i _ => 16 - (intOf i).toNat)
  case atStart => exact ⟨0, by omega, rfl, FB, F0, F1, F2⟩
  case round =>
    obtain ⟨i, hi, rfl, HB, H0, H1, H2⟩ := hrel
    by_cases hlt : i < 16
    · have e1 : (i : Int) < 16 := by omega
      have sl := arr_mid arr64B s8 ⟨w.heap.size, 0, none⟩ .i64 .i64 (4 * (i : Int)) (4 * (i : Int) + 4) (by omega) (by omega) (by omega)
      have e2 : (4 * (i : Int)).toNat = 4 * i := by omega
      have e3 : (4 * (i : Int) + 4).toNat = 4 * i + 4 := by omega
      rw [e2, e3, show 4 * i + 4 - 4 * i = 4 by omega, show cutA ⟨w.heap.size, 0, none⟩ 64 (4 * i) = ⟨w.heap.size, 4 * i, none⟩ from by unfold cutA; rw [if_neg (by omega), Addr.add_mid, Nat.zero_add]] at sl
      clear e2 e3
      have HWB := Lib.hid (word_big b i)
      have HST := Lib.hid (rowA_step b i (by omega))
      go_wp2_with fail
      refine (big_n (some ⟨w.heap.size, 4 * i, none⟩) 4 (64 - 4 * i) ((b.drop (4 * i)).take 4) wr ?_ ?_ ?_ ?_).mono ?_
      · rw [List.length_take, List.length_drop, HBL.out]; omega
      · omega
      · simp [maxLen]; omega
      · exact row_sub H0.out (4 * i) 4 (lt_of_heap H0.out)
      rintro e w1 ⟨rfl, hb1⟩
      rw [HWB.out]
      generalize wordAt b i = x at HST
      have hx := x.isLt
      have H0' : Hid (w1.heap[w.heap.size]? = _) := (hb1.block _ (lt_of_heap H0.out)).trans H0.out
      have H1' : Hid (w1.heap[g1]? = _) := (hb1.block _ (lt_of_heap H1.out)).trans H1.out
      have H2' : Hid (w1.heap[g2]? = _) := (hb1.block _ (lt_of_heap H2.out)).trans H2.out
      have HB' : Hid (Below w.heap.size w w1) := HB.out.step hb1
      have c1 := wcell H2'.out i (by rw [rowA_len _ _ (by omega)]; omega)
      have fz := frozen_of_heap H2'.out i
      have hmod : (x.toNat : Int) % 4294967296 = (x.toNat : Int) := by omega
      clear hb1 H0 H1 H2 HB HWB
      go_wp2
      go_roundw
      case rel =>
        have q2 := HG2.out
        have q1 := HG1.out
        refine ⟨i + 1, by omega, by go_num, ?_, ?_, ?_, ?_⟩
        · exact HB'.out.setCell (show w.heap.size ≤ g2 by omega) _
        · exact (Below.heap_setCell w1 _ _ _ (show w.heap.size ≠ g2 by omega)).trans H0'.out
        · exact (Below.heap_setCell w1 _ _ _ (show g1 ≠ g2 by omega)).trans H1'.out
        · have := heap_set H2'.out i (wv x)
          rw [← List.map_set, HST.out] at this
          exact this
      case measure => simp [intOf]; omega
    · have hi16 : i = 16 := by omega
      have HB1 := HB; have A0 := H0; have A1 := H1
      have A2 : Hid (wr.heap[g2]? = some (.cells ((rowB b 0).map wv).toArray 168 (0, 0))) := by have := H2.out; rw [hi16, rowA_end] at this; exact this
      clear hi16
      clear HB H0 H1 H2 FB F0 F1 F2
      go_wp2_with fail
      go_loopw [20] (fun vi wr => ∃ (i : Nat), i ≤ 48 ∧ vi = .int .i64 (i : Int) ∧ Hid (Below w.heap.size w wr) ∧ Hid (wr.heap[g1]? = some (.cells (List.replicate 64 (Value.int .u32 0)).toArray 168 (0, 0))) ∧
         Hid (wr.heap[g2]? = some (.cells ((rowB b i).map wv).toArray 168 (0, 0)))) (fun i _ => 48 - (intOf i).toNat)
      case atStart => exact ⟨0, by omega, rfl, HB1, A1, A2⟩
      case round =>
        clear HB1 A0 A1 A2
        obtain ⟨n, hn, rfl, HB, H1, H2⟩ := hrel
        by_cases hlt : n < 48
        · have e1 : (n : Int) < 48 := by omega
          have hl64 : (rowB b n).length = 64 := rowB_len b n (by omega)
          obtain ⟨m1, hm1⟩ : ∃ m, m = n + 1 := ⟨_, rfl⟩
          obtain ⟨m9, hm9⟩ : ∃ m, m = n + 9 := ⟨_, rfl⟩
          obtain ⟨m14, hm14⟩ : ∃ m, m = n + 14 := ⟨_, rfl⟩
          obtain ⟨m16, hm16⟩ : ∃ m, m = n + 16 := ⟨_, rfl⟩
          have c0 := Lib.hid (wcell H2.out n (by omega))
          have c1 := Lib.hid (wcell H2.out m1 (by omega))
          have c9 := Lib.hid (wcell H2.out m9 (by omega))
          have c14 := Lib.hid (wcell H2.out m14 (by omega))
          have c16 := Lib.hid (wcell H2.out m16 (by omega))
          have hg2 := lt_of_heap H2.out
          have HST := Lib.hid (rowB_step b n hlt)
          obtain ⟨x, hx⟩ : ∃ x, x = next (rowB b n) n := ⟨_, rfl⟩
          rw [← hx, ← hm16] at HST
          unfold next at hx
          rw [← hm1, ← hm9, ← hm14] at hx
          generalize (rowB b n).getD n 0 = y0 at c0 hx
          generalize (rowB b n).getD m1 0 = y1 at c1 hx
          generalize (rowB b n).getD m9 0 = y9 at c9 hx
          generalize (rowB b n).getD m14 0 = y14 at c14 hx
          generalize (rowB b n).getD m16 0 = y16 at c16
          obtain ⟨s1, hs1⟩ : ∃ x, x = shiftL y1 7 18 3 := ⟨_, rfl⟩
          obtain ⟨s2, hs2⟩ : ∃ x, x = shiftL y14 17 19 10 := ⟨_, rfl⟩
          rw [← hs1, ← hs2] at hx
          obtain ⟨r1, hr1⟩ : ∃ x, x = y0 + s1 := ⟨_, rfl⟩
          rw [← hr1] at hx
          obtain ⟨r2, hr2⟩ : ∃ x, x = r1 + y9 := ⟨_, rfl⟩
          rw [← hr2] at hx
          have u1 : IntKind.u32.wrap ((y0.toNat : Int) + (s1.toNat : Int)) = (r1.toNat : Int) := by rw [hr1]; exact addw32 _ _
          have u2 : IntKind.u32.wrap ((r1.toNat : Int) + (y9.toNat : Int)) = (r2.toNat : Int) := by rw [hr2]; exact addw32 _ _
          have u3 : IntKind.u32.wrap ((r2.toNat : Int) + (s2.toNat : Int)) = (x.toNat : Int) := by rw [hx]; exact addw32 _ _
          have HS1 := Lib.hid hs1; have HS2 := Lib.hid hs2
          clear hs1 hs2 hr1 hr2 hx hl64
          have o1 : IntKind.i64.wrap ((n : Int) + 1) = (m1 : Int) := by rw [IntKind.wrap_i64]; omega
          have o9 : IntKind.i64.wrap ((n : Int) + 9) = (m9 : Int) := by rw [IntKind.wrap_i64]; omega
          have o14 : IntKind.i64.wrap ((n : Int) + 14) = (m14 : Int) := by rw [IntKind.wrap_i64]; omega
          have o16 : IntKind.i64.wrap ((n : Int) + 16) = (m16 : Int) := by rw [IntKind.wrap_i64]; omega
          have q0 : (n : Int) < 64 := by omega
          have q1 : (m1 : Int) < 64 := by omega
          have q9 : (m9 : Int) < 64 := by omega
          have q14 : (m14 : Int) < 64 := by omega
          have q16 : (m16 : Int) < 64 := by omega
          have p0 : Hid (n ≠ m16) := by show n ≠ m16; omega
          have p1 : Hid (m1 ≠ m16) := by show m1 ≠ m16; omega
          have p9 : Hid (m9 ≠ m16) := by show m9 ≠ m16; omega
          have p14 : Hid (m14 ≠ m16) := by show m14 ≠ m16; omega
          clear hm1 hm9 hm14 hm16
          have HX : Hid (But g2 m16 wr wr.drew) := But.of_ext ((Below.refl _ _).drew)
          go_wp2_with fail
          refine regS_start (But g2 m16) (by kernel_rfl) ?_
          try simp only [Act.put, List.setIfInBounds_toArray, List.set_cons_zero, List.set_cons_succ]
          refine regS_take (v := ?_) 0 (some 23) rfl rfl (by kernel_rfl) (by kernel_rfl) (by kernel_rfl) (fun _ _ _ h => h) (by rfl) (fun W hW => ?_) ?_
          rotate_left
          · (go_simp; try rfl)
          simp only [Act.put, List.setIfInBounds_toArray, List.set_cons_zero, List.set_cons_succ]
          refine regS_take (v := ?_) 1 (some 24) rfl rfl (by kernel_rfl) (by kernel_rfl) (by kernel_rfl) (fun _ _ _ h => h) (by rfl) (fun W hW => ?_) ?_
          rotate_left
          · (go_simp; try rfl)
          simp only [Act.put, List.setIfInBounds_toArray, List.set_cons_zero, List.set_cons_succ]
          refine regS_take (v := ?_) 2 (some 25) rfl rfl (by kernel_rfl) (by kernel_rfl) (by kernel_rfl) (fun _ _ _ h => h) (by rfl) (fun W hW => ?_) ?_
          rotate_left
          · (go_simp; try rfl)
          simp only [Act.put, List.setIfInBounds_toArray, List.set_cons_zero, List.set_cons_succ]
          refine regS_take (v := ?_) 3 (some 26) rfl rfl (by kernel_rfl) (by kernel_rfl) (by kernel_rfl) (fun _ _ _ h => h) (by rfl) (fun W hW => ?_) ?_
          rotate_left
          · (go_simp; try rfl)
          simp only [Act.put, List.setIfInBounds_toArray, List.set_cons_zero, List.set_cons_succ]
          refine regS_load 4 (some 27) (fun W hW => load_cell Tryz.underlying76 ((hW.2 _ _ hg2 (fun h => p0.out h.2)).trans c0.out)) rfl rfl rfl rfl (by kernel_rfl) (by kernel_rfl) (by kernel_rfl) (fun _ _ _ h => h) (by rfl) ?_
          simp only [Act.put, List.setIfInBounds_toArray, List.set_cons_zero, List.set_cons_succ]
          refine regS_take (v := ?_) 5 (some 28) rfl rfl (by kernel_rfl) (by kernel_rfl) (by kernel_rfl) (fun _ _ _ h => h) (by rfl) (fun W hW => ?_) ?_
          rotate_left
          · (go_simp; try rfl)
          simp only [Act.put, List.setIfInBounds_toArray, List.set_cons_zero, List.set_cons_succ]
          refine regS_take (v := ?_) 6 (some 29) rfl rfl (by kernel_rfl) (by kernel_rfl) (by kernel_rfl) (fun _ _ _ h => h) (by rfl) (fun W hW => ?_) ?_
          rotate_left
          · (go_simp; try rfl)
          simp only [Act.put, List.setIfInBounds_toArray, List.set_cons_zero, List.set_cons_succ]
          refine regS_take (v := ?_) 7 (some 30) rfl rfl (by kernel_rfl) (by kernel_rfl) (by kernel_rfl) (fun _ _ _ h => h) (by rfl) (fun W hW => ?_) ?_
          rotate_left
          · (go_simp; try rfl)
          simp only [Act.put, List.setIfInBounds_toArray, List.set_cons_zero, List.set_cons_succ]
          refine regS_load 8 (some 31) (fun W hW => load_cell Tryz.underlying76 ((hW.2 _ _ hg2 (fun h => p1.out h.2)).trans c1.out)) rfl rfl rfl rfl (by kernel_rfl) (by kernel_rfl) (by kernel_rfl) (fun _ _ _ h => h) (by rfl) ?_
          simp only [Act.put, List.setIfInBounds_toArray, List.set_cons_zero, List.set_cons_succ]
          refine regS_take (v := ?_) 11 (some 34) rfl rfl (by kernel_rfl) (by kernel_rfl) (by kernel_rfl) (fun _ _ _ h => h) (by rfl) (fun W hW => ?_) ?_
          rotate_left
          · (go_simp; try rfl)
          simp only [Act.put, List.setIfInBounds_toArray, List.set_cons_zero, List.set_cons_succ]
          refine regS_take (v := ?_) 12 (some 35) rfl rfl (by kernel_rfl) (by kernel_rfl) (by kernel_rfl) (fun _ _ _ h => h) (by rfl) (fun W hW => ?_) ?_
          rotate_left
          · (go_simp; try rfl)
          simp only [Act.put, List.setIfInBounds_toArray, List.set_cons_zero, List.set_cons_succ]
          refine regS_take (v := ?_) 13 (some 36) rfl rfl (by kernel_rfl) (by kernel_rfl) (by kernel_rfl) (fun _ _ _ h => h) (by rfl) (fun W hW => ?_) ?_
          rotate_left
          · (go_simp; try rfl)
          simp only [Act.put, List.setIfInBounds_toArray, List.set_cons_zero, List.set_cons_succ]
          refine regS_load 14 (some 37) (fun W hW => load_cell Tryz.underlying76 ((hW.2 _ _ hg2 (fun h => p9.out h.2)).trans c9.out)) rfl rfl rfl rfl (by kernel_rfl) (by kernel_rfl) (by kernel_rfl) (fun _ _ _ h => h) (by rfl) ?_
          simp only [Act.put, List.setIfInBounds_toArray, List.set_cons_zero, List.set_cons_succ]
          refine regS_take (v := ?_) 16 (some 39) rfl rfl (by kernel_rfl) (by kernel_rfl) (by kernel_rfl) (fun _ _ _ h => h) (by rfl) (fun W hW => ?_) ?_
          rotate_left
          · (go_simp; try rfl)
          simp only [Act.put, List.setIfInBounds_toArray, List.set_cons_zero, List.set_cons_succ]
          refine regS_take (v := ?_) 17 (some 40) rfl rfl (by kernel_rfl) (by kernel_rfl) (by kernel_rfl) (fun _ _ _ h => h) (by rfl) (fun W hW => ?_) ?_
          rotate_left
          · (go_simp; try rfl)
          simp only [Act.put, List.setIfInBounds_toArray, List.set_cons_zero, List.set_cons_succ]
          refine regS_take (v := ?_) 18 (some 41) rfl rfl (by kernel_rfl) (by kernel_rfl) (by kernel_rfl) (fun _ _ _ h => h) (by rfl) (fun W hW => ?_) ?_
          rotate_left
          · (go_simp; try rfl)
          simp only [Act.put, List.setIfInBounds_toArray, List.set_cons_zero, List.set_cons_succ]
          refine regS_load 19 (some 42) (fun W hW => load_cell Tryz.underlying76 ((hW.2 _ _ hg2 (fun h => p14.out h.2)).trans c14.out)) rfl rfl rfl rfl (by kernel_rfl) (by kernel_rfl) (by kernel_rfl) (fun _ _ _ h => h) (by rfl) ?_
          simp only [Act.put, List.setIfInBounds_toArray, List.set_cons_zero, List.set_cons_succ]
          refine regS_eff 9 rfl (by kernel_rfl) (fun K hK => ?_)
          go_simp
          refine (shift_any y1 7 18 3 _ (by omega) (by omega) (by omega)).mono ?_
          rw [show (3 : Int).toNat = 3 from rfl, ← HS1.out]
          rintro ee w3 ⟨rfl, rfl⟩
          have hE : But g2 m16 wr.drew wr.drew := Pre.refl _
          refine hK.out _ _ hE ?_
          have HX := Lib.hid (Pre.trans HX.out hE)
          clear hE hK K
          try simp only [Act.put, List.setIfInBounds_toArray, List.set_cons_zero, List.set_cons_succ]
          refine regS_take (v := ?_) 10 (some 33) rfl rfl (by kernel_rfl) (by kernel_rfl) (by kernel_rfl) (fun _ _ _ h => h) (by rfl) (fun W hW => ?_) ?_
          rotate_left
          · (go_simp; try rfl)
          simp only [Act.put, List.setIfInBounds_toArray, List.set_cons_zero, List.set_cons_succ]
          refine regS_take (v := ?_) 15 (some 38) rfl rfl (by kernel_rfl) (by kernel_rfl) (by kernel_rfl) (fun _ _ _ h => h) (by rfl) (fun W hW => ?_) ?_
          rotate_left
          · (go_simp; try rfl)
          simp only [Act.put, List.setIfInBounds_toArray, List.set_cons_zero, List.set_cons_succ]
          refine regS_eff 20 rfl (by kernel_rfl) (fun K hK => ?_)
          go_simp
          refine (shift_any y14 17 19 10 _ (by omega) (by omega) (by omega)).mono ?_
          rw [show (10 : Int).toNat = 10 from rfl, ← HS2.out]
          rintro ee w3 ⟨rfl, rfl⟩
          have hE : But g2 m16 wr.drew wr.drew := Pre.refl _
          refine hK.out _ _ hE ?_
          have HX := Lib.hid (Pre.trans HX.out hE)
          clear hE hK K
          try simp only [Act.put, List.setIfInBounds_toArray, List.set_cons_zero, List.set_cons_succ]
          refine regS_take (v := ?_) 21 (some 44) rfl rfl (by kernel_rfl) (by kernel_rfl) (by kernel_rfl) (fun _ _ _ h => h) (by rfl) (fun W hW => ?_) ?_
          rotate_left
          · (go_simp; try rfl)
          simp only [Act.put, List.setIfInBounds_toArray, List.set_cons_zero, List.set_cons_succ]
          refine regS_take (v := ?_) 22 (some 45) rfl rfl (by kernel_rfl) (by kernel_rfl) (by kernel_rfl) (fun _ _ _ h => h) (by rfl) (fun W hW => ?_) ?_
          rotate_left
          · (go_simp; try rfl)
          simp only [Act.put, List.setIfInBounds_toArray, List.set_cons_zero, List.set_cons_succ]
          refine regS_eff 23 rfl (by kernel_rfl) (fun K hK => ?_)
          rw [u3]
          refine step_st1 rfl 76 (.tmp 45) (.tmp 44) rfl (store_cell (k := .u32) Tryz.underlying76 s32 (w := wr.drew) c16.out (frozen_of_heap (w := wr.drew) H2.out _)) ?_
          have hE : But g2 m16 wr.drew (wr.drew.setCell ⟨g2, m16, none⟩ (.int .u32 (x.toNat : Int))) := But.set _
          refine hK.out _ _ hE ?_
          have HX := Lib.hid (Pre.trans HX.out hE)
          clear hE hK K
          try simp only [Act.put, List.setIfInBounds_toArray, List.set_cons_zero, List.set_cons_succ]
          refine regS_done (by kernel_rfl) ?_
          clear u1 u2 u3 HX o1 o9 o14 o16
          go_wp2
          go_roundw
          case rel =>
            have q2 := HG2.out
            have q1 := HG1.out
            refine ⟨n + 1, by omega, by go_num, ?_, ?_, ?_⟩
            · exact HB.out.drew.setCell (show w.heap.size ≤ g2 by omega) _
            · exact (Below.heap_setCell wr.drew _ _ _ (show g1 ≠ g2 by omega)).trans H1.out
            · have := heap_set (w := wr.drew) H2.out m16 (wv x)
              rw [← List.map_set, HST.out] at this
              exact this
          case measure => simp [intOf]; omega
        · have hn48 : n = 48 := by omega
          subst hn48
          rw [rowB_end] at H2
          have hl64 : Hid (((spreadN b 48).map wv).length = 64) := by show _ = _; rw [List.length_map, spreadN_len]
          obtain ⟨L, HL⟩ : ∃ L, Hid (spreadN b 48 = L) := ⟨_, rfl⟩
          rw [HL.out] at hl64 H2
          go_wp2_with (first
            | (refine wpList_ld rfl 168 (.tmp 3) rfl (load_arr arr64W rfl (by rw [hl64.out]; exact i64W) H2.out) ?_)
            | (refine wpList_st rfl 168 (.tmp 2) (.tmp 47) rfl (store_arr (cs := L.map wv) (by rw [hl64.out]; exact i64W) (wv_one _) H1.out (by rw [hl64.out]; simp)) ?_))
          have hres := setRow_heap wr g1 _ (L.map wv).toArray 168 _ H1.out
          rw [HL.out]
          exact bodyPost_ret (results_cell_row (P := Tryz.prog) rfl _ _ g1 168 (L.map wv).toArray (0, 0) _ rfl hres arr64W rfl (by rw [List.size_toArray, hl64.out]; exact i64W)) rfl ⟨rfl, HB.out.trans (grown_below (grown_setRow _ _ _) (by have := HG1.out; omega) HB.out.size)⟩
end Go.Proofs.YtimgggpojbpfkaaGreatDoor

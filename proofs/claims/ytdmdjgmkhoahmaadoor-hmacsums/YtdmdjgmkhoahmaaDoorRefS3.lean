/- The reference's Block of layer 2. -/
import Derived.Test.YtdmdjgmkhoahmaaDoorRefS2
namespace Go.Proofs.YtdmdjgmkhoahmaaDoor
open Go.RowKit
set_option linter.unusedVariables false
set_option linter.unusedSimpArgs false
def rowT (b : List UInt8) (t : Nat) : List W32 := if t < 16 then rowA b t else rowB b (t - 16)
theorem rowT_len (b : List UInt8) (t : Nat) (ht : t ≤ 64) : (rowT b t).length = 64 := by
  unfold rowT; split
  · exact rowA_len b t ht
  · exact rowB_len b _ (by omega)
theorem rowT_A (b : List UInt8) (t : Nat) (ht : t < 16) : (rowT b t).set t (wordAt b t) = rowT b (t + 1) := by
  unfold rowT
  rw [if_pos ht, rowA_step b t (by omega)]
  by_cases h : t + 1 < 16
  · rw [if_pos h]
  · rw [if_neg h, show t + 1 = 16 by omega, rowA_end]
theorem rowT_B (b : List UInt8) (t : Nat) (h1 : 16 ≤ t) (h2 : t < 64) :
    (rowT b t).set t (shiftL ((rowT b t).getD (t - 2) 0) 17 19 10 + (rowT b t).getD (t - 7) 0 + shiftL ((rowT b t).getD (t - 15) 0) 7 18 3 + (rowT b t).getD (t - 16) 0) = rowT b (t + 1) := by
  have h := rowB_step b (t - 16) (by omega)
  have e : rowT b t = rowB b (t - 16) := by unfold rowT; rw [if_neg (by omega)]
  have e' : rowT b (t + 1) = rowB b (t - 16 + 1) := by unfold rowT; rw [if_neg (by omega)]; congr 1; omega
  rw [e, e', ← h, show t - 16 + 16 = t by omega]
  congr 1
  unfold next
  rw [show t - 16 + 1 = t - 15 by omega, show t - 16 + 9 = t - 7 by omega, show t - 16 + 14 = t - 2 by omega]
  generalize (rowB b (t - 16)).getD (t - 16) 0 = p
  generalize (rowB b (t - 16)).getD (t - 7) 0 = q
  generalize shiftL _ 7 18 3 = r
  generalize shiftL _ 17 19 10 = s
  ac_rfl
theorem div32 (x : W32) (k : Nat) (m : Int) (hm : m = 2 ^ k) (h0 : 0 < m) : IntKind.u32.wrap ((x.toNat : Int) / m) = ((x >>> k).toNat : Int) := by
  have hx := x.isLt
  rw [shr32, ← hm, IntKind.wrap_u32]
  have h1 : (x.toNat : Int) / m ≤ (x.toNat : Int) := Int.ediv_le_self _ (by omega)
  have h2 : 0 ≤ (x.toNat : Int) / m := Int.ediv_nonneg (by omega) (by omega)
  omega
theorem xorw32 (x y : W32) : IntKind.u32.wrap ((x ^^^ y).toNat : Int) = ((x ^^^ y).toNat : Int) := by
  rw [IntKind.wrap_u32]; have := (x ^^^ y).isLt; omega
theorem four32 (a b c d e f : BitVec 32) (y z : W32) : (bits .xor .u32 ((a ^^^ b).toNat : Int) (c.toNat : Int) + (y.toNat : Int) + bits .xor .u32 ((d ^^^ e).toNat : Int) (f.toNat : Int) + (z.toNat : Int)) % 4294967296 = (((a ^^^ b ^^^ c) + y + (d ^^^ e ^^^ f) + z).toNat : Int) := by
  rw [xor32, xor32]
  generalize a ^^^ b ^^^ c = p
  generalize d ^^^ e ^^^ f = q
  rw [BitVec.toNat_add, BitVec.toNat_add, BitVec.toNat_add]
  omega
theorem ch_or (e f g : W32) : (e &&& f) ||| (~~~e &&& g) = chL e f g := by
  unfold chL
  apply BitVec.eq_of_getLsbD_eq
  intro i hi
  simp only [BitVec.getLsbD_or, BitVec.getLsbD_and, BitVec.getLsbD_not, BitVec.getLsbD_xor, hi, decide_true, Bool.true_and]
  cases e.getLsbD i <;> cases f.getLsbD i <;> cases g.getLsbD i <;> rfl
theorem maj_or (a b c : W32) : (a &&& b) ||| (a &&& c) ||| (b &&& c) = majL a b c := by
  unfold majL
  apply BitVec.eq_of_getLsbD_eq
  intro i hi
  simp only [BitVec.getLsbD_or, BitVec.getLsbD_and, BitVec.getLsbD_xor]
  cases a.getLsbD i <;> cases b.getLsbD i <;> cases c.getLsbD i <;> rfl
theorem not_sub (e : W32) : 4294967295 - (e.toNat : Int) = ((~~~e).toNat : Int) := by
  rw [BitVec.toNat_not]; have := e.isLt; omega
theorem rowT_end (b : List UInt8) : rowT b 64 = spreadN b 48 := by
  unfold rowT; rw [if_neg (by omega)]; exact rowB_end b
theorem addL8 (a b c d e f g h : W32) (m : St) : addL [a, b, c, d, e, f, g, h] m.list = [a + m.a, b + m.b, c + m.c, d + m.d, e + m.e, f + m.f, g + m.g, h + m.h] := rfl
theorem wpList_stv {P : Program} {w w' : World} {ops : Array Oper} {rest : List Oper} {o : Oper} {a : Act} {Q : Exit → Act → World → Prop} (hw : Region.wanted o (yielded ops a.tmps) = true) (ty : TypeId) (x y : Operand)
    (ho : o.op = .store ty x y) {p v : Value} (hx : a.eval x = p) (hy : a.eval y = v) (hrun : (Instr.storeAt ty p v).run P w = .ok () w') (h : wpList P ops Q rest (a.put o.dst undef) w') : wpList P ops Q (o :: rest) a w := by
  subst hx; subst hy
  exact wpList_st hw ty x y ho hrun h
set_option maxHeartbeats 4000000 in
set_option maxRecDepth 100000 in
theorem refBlock_any (hs : List W32) (A : Option Addr) (c : Nat) (b : List UInt8) (w : World) (hh : hs.length = 8) (hb : b.length = 64) (hS : Sl w A c b) :
    Calls Tryd.prog 27 #[.agg (hs.map wv).toArray, .slice A 64 c] w fun e w' => e = .returned (.agg ((blockL hs b).map wv).toArray) ∧ Below w.heap.size w w' := by
  have HH := Lib.hid hh; have HBL := Lib.hid hb; have HS := Lib.hid hS
  have hc : Hid (64 ≤ c) := by have := hS.1; show _ ≤ _; omega
  clear hh hb hS
  obtain ⟨bk, hbk⟩ : ∃ x, x = blockL hs b := ⟨_, rfl⟩
  rw [← hbk]
  have HBK0 : Hid (bk = addL hs (mixN (stOf hs) (spreadN b 48) 64).list) := hbk
  clear hbk
  go_enter Tryd.func27, Tryd.ntmps27
  go_wp2_with fail
  generalize hV : ((w.alloc _).alloc _).alloc _ = W0
  have F0 : Hid (W0.heap[w.heap.size]? = some (.cells (hs.map wv).toArray 40 (0, 0))) := by rw [← hV]; exact (heap3 w _ _ _).1
  have F1 : Hid (W0.heap[w.heap.size + 1]? = some (.cells (List.replicate 8 (Value.int .u32 0)).toArray 40 (0, 0))) := by rw [← hV]; exact (heap3 w _ _ _).2.1
  have F2 : Hid (W0.heap[w.heap.size + 1 + 1]? = some (.cells ((rowT b 0).map wv).toArray 61 (0, 0))) := by rw [← hV]; exact (heap3 w _ _ _).2.2.1
  have FB : Hid (Below w.heap.size w W0) := by rw [← hV]; exact (heap3 w _ _ _).2.2.2
  clear hV
  generalize hg2 : w.heap.size + 1 + 1 = g2 at F2 ⊢
  generalize hg1 : w.heap.size + 1 = g1 at F1 ⊢
  have HG2 : Hid (w.heap.size + 1 + 1 = g2) := hg2
  have HG1 : Hid (w.heap.size + 1 = g1) := hg1
  clear hg1 hg2
  go_loopw [6] (fun vi wr => ∃ (t : Nat), t ≤ 64 ∧ vi = .int .i64 (t : Int) ∧ Hid (Below w.heap.size w wr) ∧ Hid (wr.heap[w.heap.size]? = some (.cells (hs.map wv).toArray 40 (0, 0))) ∧ Hid (wr.heap[g1]? = some (.cells (List.replicate 8 (Value.int .u32 0)).toArray 40 (0, 0))) ∧
     Hid (wr.heap[g2]? = some (.cells ((rowT b t).map wv).toArray 61 (0, 0)))) (fun i _ => 64 - (intOf i).toNat)
  case atStart => exact ⟨0, by omega, rfl, FB, F0, F1, F2⟩
  case round =>
    clear F0 F1 F2 FB
    obtain ⟨t, ht, rfl, HB, H0, H1, H2⟩ := hrel
    by_cases hlt : t < 64
    · have e1 : (t : Int) < 64 := by omega
      by_cases h16 : t < 16
      · have e2 : (t : Int) < 16 := by omega
        obtain ⟨q, hq⟩ : ∃ q, q = 4 * t := ⟨_, rfl⟩
        obtain ⟨q4, hq4⟩ : ∃ q4, q4 = q + 4 := ⟨_, rfl⟩
        have u1 : 4 * (t : Int) = (q : Int) := by omega
        have u2 : (q : Int) + 4 = (q4 : Int) := by omega
        have sl := cut_mid uT s8 A 64 c .i64 .i64 (q : Int) (q4 : Int) (by omega) (by omega) (by have := hc.out; omega)
        rw [Int.toNat_natCast, Int.toNat_natCast, show q4 - q = 4 by omega] at sl
        have hX : Hid (big ((b.drop q).take 4) = (wordAt b t).toNat) := by show _ = _; rw [hq]; exact word_big b t
        have hXl : Hid (((b.drop q).take 4).length = 4) := by show _ = _; have := HBL.out; simp; omega
        have HSl : Hid (Sl wr (cutS A c q) (c - q) ((b.drop q).take 4)) := by
          have h1 := sl_cut (HS.out.below HB.out) (k := q) (by have := HBL.out; omega)
          refine ⟨?_, h1.2.1, ?_⟩
          · have := hXl.out; have := hc.out; omega
          · have := h1.2.2.take 4; rw [← List.map_take] at this; exact this
        have HST := Lib.hid (rowT_A b t h16)
        have c2 := wcell H2.out t (by rw [rowT_len b t ht]; exact hlt)
        have fz := frozen_of_heap H2.out t
        generalize wordAt b t = x at hX HST
        generalize (rowT b t).getD t 0 = z0 at c2
        generalize (b.drop q).take 4 = X at hX hXl HSl
        have HQ := Lib.hid hq; have HQ4 := Lib.hid hq4
        clear hq hq4
        go_wp2_with fail
        refine (refBig_any (cutS A c q) 4 (c - q) X wr hXl.out HSl.out).mono ?_
        rw [hX.out]
        rintro e w1 ⟨rfl, rfl⟩
        have hx : (x.toNat : Int) % 4294967296 = (x.toNat : Int) := by have := x.isLt; omega
        go_wp2
        go_roundw
        case rel =>
          have k2 := HG2.out
          have k1 := HG1.out
          refine ⟨t + 1, by omega, by go_num, ?_, ?_, ?_, ?_⟩
          · exact HB.out.setCell (show w.heap.size ≤ g2 by omega) _
          · exact (Below.heap_setCell wr _ _ _ (show w.heap.size ≠ g2 by omega)).trans H0.out
          · exact (Below.heap_setCell wr _ _ _ (show g1 ≠ g2 by omega)).trans H1.out
          · have := heap_set (w := wr) H2.out t (wv x)
            rw [← List.map_set, HST.out] at this
            exact this
        case measure => simp [intOf]; omega
      · have e2 : ¬ ((t : Int) < 16) := by omega
        obtain ⟨m2, hm2⟩ : ∃ m, m = t - 2 := ⟨_, rfl⟩
        obtain ⟨m7, hm7⟩ : ∃ m, m = t - 7 := ⟨_, rfl⟩
        obtain ⟨m15, hm15⟩ : ∃ m, m = t - 15 := ⟨_, rfl⟩
        obtain ⟨m16, hm16⟩ : ∃ m, m = t - 16 := ⟨_, rfl⟩
        have hl64 : (rowT b t).length = 64 := rowT_len b t ht
        have c2 := Lib.hid (wcell H2.out m2 (by omega))
        have c7 := Lib.hid (wcell H2.out m7 (by omega))
        have c15 := Lib.hid (wcell H2.out m15 (by omega))
        have c16 := Lib.hid (wcell H2.out m16 (by omega))
        have cT := Lib.hid (wcell H2.out t (by omega))
        have HST := Lib.hid (rowT_B b t (by omega) hlt)
        rw [← hm2, ← hm7, ← hm15, ← hm16] at HST
        generalize (rowT b t).getD m2 0 = y2 at c2 HST
        generalize (rowT b t).getD m7 0 = y7 at c7 HST
        generalize (rowT b t).getD m15 0 = y15 at c15 HST
        generalize (rowT b t).getD m16 0 = y16 at c16 HST
        generalize (rowT b t).getD t 0 = yT at cT
        have o2 : IntKind.i64.wrap ((t : Int) - 2) = (m2 : Int) := by rw [IntKind.wrap_i64]; omega
        have o7 : IntKind.i64.wrap ((t : Int) - 7) = (m7 : Int) := by rw [IntKind.wrap_i64]; omega
        have o15 : IntKind.i64.wrap ((t : Int) - 15) = (m15 : Int) := by rw [IntKind.wrap_i64]; omega
        have o16 : IntKind.i64.wrap ((t : Int) - 16) = (m16 : Int) := by rw [IntKind.wrap_i64]; omega
        have q2 : (m2 : Int) < 64 := by omega
        have q7 : (m7 : Int) < 64 := by omega
        have q15 : (m15 : Int) < 64 := by omega
        have q16 : (m16 : Int) < 64 := by omega
        have p2 : Hid (m2 ≠ t) := by show m2 ≠ t; omega
        have p7 : Hid (m7 ≠ t) := by show m7 ≠ t; omega
        have p16 : Hid (m16 ≠ t) := by show m16 ≠ t; omega
        clear hl64 hm2 hm7 hm15 hm16
        have HX : Hid (Ext wr wr.drew) := (Below.refl _ _).drew
        have hg2 := lt_of_heap H2.out
        obtain ⟨d15, hd15⟩ : ∃ d, d = y15 >>> 3 := ⟨_, rfl⟩
        have ud : IntKind.u32.wrap ((y15.toNat : Int) / 8) = (d15.toNat : Int) := by rw [hd15]; exact div32 y15 3 8 rfl (by omega)
        obtain ⟨a15, ha15⟩ : ∃ d, d = rotl y15 (-((7 : Nat) : Int)) := ⟨_, rfl⟩
        obtain ⟨b15, hb15⟩ : ∃ d, d = rotl y15 (-((18 : Nat) : Int)) := ⟨_, rfl⟩
        have HS15 : Hid (shiftL y15 7 18 3 = a15 ^^^ b15 ^^^ d15) := by show _ = _; rw [ha15, hb15, hd15]; rfl
        have HA15 := Lib.hid ha15; have HB15 := Lib.hid hb15
        clear hd15 ha15 hb15
        go_wp2_with fail
        refine reg_start (by kernel_rfl) ?_
        try simp only [Act.put, List.setIfInBounds_toArray, List.set_cons_zero, List.set_cons_succ]
        refine reg_take (v := ?_) 0 (some 40) rfl rfl (by kernel_rfl) (by kernel_rfl) (by kernel_rfl) (fun _ _ _ h => h) (by rfl) (fun W hW => ?_) ?_
        rotate_left
        · (go_simp; try rfl)
        simp only [Act.put, List.setIfInBounds_toArray, List.set_cons_zero, List.set_cons_succ]
        refine reg_take (v := ?_) 1 (some 41) rfl rfl (by kernel_rfl) (by kernel_rfl) (by kernel_rfl) (fun _ _ _ h => h) (by rfl) (fun W hW => ?_) ?_
        rotate_left
        · (go_simp; try rfl)
        simp only [Act.put, List.setIfInBounds_toArray, List.set_cons_zero, List.set_cons_succ]
        refine reg_take (v := ?_) 2 (some 42) rfl rfl (by kernel_rfl) (by kernel_rfl) (by kernel_rfl) (fun _ _ _ h => h) (by rfl) (fun W hW => ?_) ?_
        rotate_left
        · (go_simp; try rfl)
        simp only [Act.put, List.setIfInBounds_toArray, List.set_cons_zero, List.set_cons_succ]
        refine reg_load 3 (some 43) (fun W hW => load_cell Tryd.underlying39 ((hW.cell hg2).trans c15.out)) rfl rfl rfl rfl (by kernel_rfl) (by kernel_rfl) (by kernel_rfl) (fun _ _ _ h => h) (by rfl) ?_
        simp only [Act.put, List.setIfInBounds_toArray, List.set_cons_zero, List.set_cons_succ]
        refine reg_take (v := ?_) 5 (some 45) rfl rfl (by kernel_rfl) (by kernel_rfl) (by kernel_rfl) (fun _ _ _ h => h) (by rfl) (fun W hW => ?_) ?_
        rotate_left
        · (go_simp; try rfl)
        simp only [Act.put, List.setIfInBounds_toArray, List.set_cons_zero, List.set_cons_succ]
        refine reg_take (v := ?_) 6 (some 46) rfl rfl (by kernel_rfl) (by kernel_rfl) (by kernel_rfl) (fun _ _ _ h => h) (by rfl) (fun W hW => ?_) ?_
        rotate_left
        · (go_simp; try rfl)
        simp only [Act.put, List.setIfInBounds_toArray, List.set_cons_zero, List.set_cons_succ]
        refine reg_take (v := ?_) 7 (some 47) rfl rfl (by kernel_rfl) (by kernel_rfl) (by kernel_rfl) (fun _ _ _ h => h) (by rfl) (fun W hW => ?_) ?_
        rotate_left
        · (go_simp; try rfl)
        simp only [Act.put, List.setIfInBounds_toArray, List.set_cons_zero, List.set_cons_succ]
        refine reg_load 8 (some 48) (fun W hW => load_cell Tryd.underlying39 ((hW.cell hg2).trans c15.out)) rfl rfl rfl rfl (by kernel_rfl) (by kernel_rfl) (by kernel_rfl) (fun _ _ _ h => h) (by rfl) ?_
        simp only [Act.put, List.setIfInBounds_toArray, List.set_cons_zero, List.set_cons_succ]
        refine reg_take (v := ?_) 11 (some 51) rfl rfl (by kernel_rfl) (by kernel_rfl) (by kernel_rfl) (fun _ _ _ h => h) (by rfl) (fun W hW => ?_) ?_
        rotate_left
        · (go_simp; try rfl)
        simp only [Act.put, List.setIfInBounds_toArray, List.set_cons_zero, List.set_cons_succ]
        refine reg_take (v := ?_) 12 (some 52) rfl rfl (by kernel_rfl) (by kernel_rfl) (by kernel_rfl) (fun _ _ _ h => h) (by rfl) (fun W hW => ?_) ?_
        rotate_left
        · (go_simp; try rfl)
        simp only [Act.put, List.setIfInBounds_toArray, List.set_cons_zero, List.set_cons_succ]
        refine reg_take (v := ?_) 13 (some 53) rfl rfl (by kernel_rfl) (by kernel_rfl) (by kernel_rfl) (fun _ _ _ h => h) (by rfl) (fun W hW => ?_) ?_
        rotate_left
        · (go_simp; try rfl)
        simp only [Act.put, List.setIfInBounds_toArray, List.set_cons_zero, List.set_cons_succ]
        refine reg_load 14 (some 54) (fun W hW => load_cell Tryd.underlying39 ((hW.cell hg2).trans c15.out)) rfl rfl rfl rfl (by kernel_rfl) (by kernel_rfl) (by kernel_rfl) (fun _ _ _ h => h) (by rfl) ?_
        simp only [Act.put, List.setIfInBounds_toArray, List.set_cons_zero, List.set_cons_succ]
        refine reg_take (v := ?_) 15 (some 55) rfl rfl (by kernel_rfl) (by kernel_rfl) (by kernel_rfl) (fun _ _ _ h => h) (by rfl) (fun W hW => ?_) ?_
        rotate_left
        · (go_simp; try rfl)
        simp only [Act.put, List.setIfInBounds_toArray, List.set_cons_zero, List.set_cons_succ]
        refine reg_eff 4 rfl (by kernel_rfl) (fun K hK => ?_)
        go_simp
        refine (refRight_any y15 7 _ (by omega) (by omega)).mono ?_
        rw [← HA15.out]
        rintro ee w3 ⟨rfl, hE⟩
        refine hK.out _ _ hE ?_
        have HX := Lib.hid (Ext.trans HX.out hE)
        clear hE hK K
        try simp only [Act.put, List.setIfInBounds_toArray, List.set_cons_zero, List.set_cons_succ]
        refine reg_eff 9 rfl (by kernel_rfl) (fun K hK => ?_)
        go_simp
        refine (refRight_any y15 18 _ (by omega) (by omega)).mono ?_
        rw [← HB15.out]
        rintro ee w4 ⟨rfl, hE⟩
        refine hK.out _ _ hE ?_
        have HX := Lib.hid (Ext.trans HX.out hE)
        clear hE hK K
        try simp only [Act.put, List.setIfInBounds_toArray, List.set_cons_zero, List.set_cons_succ]
        refine reg_take (v := ?_) 10 (some 50) rfl rfl (by kernel_rfl) (by kernel_rfl) (by kernel_rfl) (fun _ _ _ h => h) (by rfl) (fun W hW => ?_) ?_
        rotate_left
        · (go_simp; try rfl)
        simp only [Act.put, List.setIfInBounds_toArray, List.set_cons_zero, List.set_cons_succ]
        refine reg_take (v := ?_) 16 (some 56) rfl rfl (by kernel_rfl) (by kernel_rfl) (by kernel_rfl) (fun _ _ _ h => h) (by rfl) (fun W hW => ?_) ?_
        rotate_left
        · (go_simp; try rfl)
        simp only [Act.put, List.setIfInBounds_toArray, List.set_cons_zero, List.set_cons_succ]
        refine reg_take (v := ?_) 17 (some 7) rfl rfl (by kernel_rfl) (by kernel_rfl) (by kernel_rfl) (fun _ _ _ h => h) (by rfl) (fun W hW => ?_) ?_
        rotate_left
        · (go_simp; try rfl)
        simp only [Act.put, List.setIfInBounds_toArray, List.set_cons_zero, List.set_cons_succ]
        refine reg_done (by kernel_rfl) ?_
        have HB4 := Lib.hid (HB.out.step HX.out)
        have H04 := Lib.hid ((HX.out.block _ (lt_of_heap H0.out)).trans H0.out)
        have H14 := Lib.hid ((HX.out.block _ (lt_of_heap H1.out)).trans H1.out)
        have H24 := Lib.hid ((HX.out.block _ (lt_of_heap H2.out)).trans H2.out)
        have D2 : Hid (w4.cell? ⟨g2, m2, none⟩ = _) := (HX.out.cell hg2).trans c2.out
        have d7 : Hid (w4.cell? ⟨g2, m7, none⟩ = _) := (HX.out.cell hg2).trans c7.out
        have d16 : Hid (w4.cell? ⟨g2, m16, none⟩ = _) := (HX.out.cell hg2).trans c16.out
        have dT : Hid (w4.cell? ⟨g2, t, none⟩ = _) := (HX.out.cell hg2).trans cT.out
        have hg24 := lt_of_heap H24.out
        clear HB H0 H1 H2 c2 c7 c15 c16 cT hg2 ud HX
        have HX : Hid (Ext w4 w4.drew) := (Below.refl _ _).drew
        obtain ⟨d2, hd2⟩ : ∃ d, d = y2 >>> 10 := ⟨_, rfl⟩
        have ud : IntKind.u32.wrap ((y2.toNat : Int) / 1024) = (d2.toNat : Int) := by rw [hd2]; exact div32 y2 10 1024 rfl (by omega)
        obtain ⟨a2, ha2⟩ : ∃ d, d = rotl y2 (-((17 : Nat) : Int)) := ⟨_, rfl⟩
        obtain ⟨b2, hb2⟩ : ∃ d, d = rotl y2 (-((19 : Nat) : Int)) := ⟨_, rfl⟩
        have HS2 : Hid (shiftL y2 17 19 10 = a2 ^^^ b2 ^^^ d2) := by show _ = _; rw [ha2, hb2, hd2]; rfl
        have HA2 := Lib.hid ha2; have HB2 := Lib.hid hb2
        clear hd2 ha2 hb2
        go_wp2_with fail
        refine reg_start (by kernel_rfl) ?_
        try simp only [Act.put, List.setIfInBounds_toArray, List.set_cons_zero, List.set_cons_succ]
        refine reg_take (v := ?_) 0 (some 57) rfl rfl (by kernel_rfl) (by kernel_rfl) (by kernel_rfl) (fun _ _ _ h => h) (by rfl) (fun W hW => ?_) ?_
        rotate_left
        · (go_simp; try rfl)
        simp only [Act.put, List.setIfInBounds_toArray, List.set_cons_zero, List.set_cons_succ]
        refine reg_take (v := ?_) 1 (some 58) rfl rfl (by kernel_rfl) (by kernel_rfl) (by kernel_rfl) (fun _ _ _ h => h) (by rfl) (fun W hW => ?_) ?_
        rotate_left
        · (go_simp; try rfl)
        simp only [Act.put, List.setIfInBounds_toArray, List.set_cons_zero, List.set_cons_succ]
        refine reg_take (v := ?_) 2 (some 59) rfl rfl (by kernel_rfl) (by kernel_rfl) (by kernel_rfl) (fun _ _ _ h => h) (by rfl) (fun W hW => ?_) ?_
        rotate_left
        · (go_simp; try rfl)
        simp only [Act.put, List.setIfInBounds_toArray, List.set_cons_zero, List.set_cons_succ]
        refine reg_load 3 (some 60) (fun W hW => load_cell Tryd.underlying39 ((hW.cell hg24).trans D2.out)) rfl rfl rfl rfl (by kernel_rfl) (by kernel_rfl) (by kernel_rfl) (fun _ _ _ h => h) (by rfl) ?_
        simp only [Act.put, List.setIfInBounds_toArray, List.set_cons_zero, List.set_cons_succ]
        refine reg_take (v := ?_) 5 (some 62) rfl rfl (by kernel_rfl) (by kernel_rfl) (by kernel_rfl) (fun _ _ _ h => h) (by rfl) (fun W hW => ?_) ?_
        rotate_left
        · (go_simp; try rfl)
        simp only [Act.put, List.setIfInBounds_toArray, List.set_cons_zero, List.set_cons_succ]
        refine reg_take (v := ?_) 6 (some 63) rfl rfl (by kernel_rfl) (by kernel_rfl) (by kernel_rfl) (fun _ _ _ h => h) (by rfl) (fun W hW => ?_) ?_
        rotate_left
        · (go_simp; try rfl)
        simp only [Act.put, List.setIfInBounds_toArray, List.set_cons_zero, List.set_cons_succ]
        refine reg_take (v := ?_) 7 (some 64) rfl rfl (by kernel_rfl) (by kernel_rfl) (by kernel_rfl) (fun _ _ _ h => h) (by rfl) (fun W hW => ?_) ?_
        rotate_left
        · (go_simp; try rfl)
        simp only [Act.put, List.setIfInBounds_toArray, List.set_cons_zero, List.set_cons_succ]
        refine reg_load 8 (some 65) (fun W hW => load_cell Tryd.underlying39 ((hW.cell hg24).trans D2.out)) rfl rfl rfl rfl (by kernel_rfl) (by kernel_rfl) (by kernel_rfl) (fun _ _ _ h => h) (by rfl) ?_
        simp only [Act.put, List.setIfInBounds_toArray, List.set_cons_zero, List.set_cons_succ]
        refine reg_take (v := ?_) 11 (some 68) rfl rfl (by kernel_rfl) (by kernel_rfl) (by kernel_rfl) (fun _ _ _ h => h) (by rfl) (fun W hW => ?_) ?_
        rotate_left
        · (go_simp; try rfl)
        simp only [Act.put, List.setIfInBounds_toArray, List.set_cons_zero, List.set_cons_succ]
        refine reg_take (v := ?_) 12 (some 69) rfl rfl (by kernel_rfl) (by kernel_rfl) (by kernel_rfl) (fun _ _ _ h => h) (by rfl) (fun W hW => ?_) ?_
        rotate_left
        · (go_simp; try rfl)
        simp only [Act.put, List.setIfInBounds_toArray, List.set_cons_zero, List.set_cons_succ]
        refine reg_take (v := ?_) 13 (some 70) rfl rfl (by kernel_rfl) (by kernel_rfl) (by kernel_rfl) (fun _ _ _ h => h) (by rfl) (fun W hW => ?_) ?_
        rotate_left
        · (go_simp; try rfl)
        simp only [Act.put, List.setIfInBounds_toArray, List.set_cons_zero, List.set_cons_succ]
        refine reg_load 14 (some 71) (fun W hW => load_cell Tryd.underlying39 ((hW.cell hg24).trans D2.out)) rfl rfl rfl rfl (by kernel_rfl) (by kernel_rfl) (by kernel_rfl) (fun _ _ _ h => h) (by rfl) ?_
        simp only [Act.put, List.setIfInBounds_toArray, List.set_cons_zero, List.set_cons_succ]
        refine reg_take (v := ?_) 15 (some 72) rfl rfl (by kernel_rfl) (by kernel_rfl) (by kernel_rfl) (fun _ _ _ h => h) (by rfl) (fun W hW => ?_) ?_
        rotate_left
        · (go_simp; try rfl)
        simp only [Act.put, List.setIfInBounds_toArray, List.set_cons_zero, List.set_cons_succ]
        refine reg_eff 4 rfl (by kernel_rfl) (fun K hK => ?_)
        go_simp
        refine (refRight_any y2 17 _ (by omega) (by omega)).mono ?_
        rw [← HA2.out]
        rintro ee w5 ⟨rfl, hE⟩
        refine hK.out _ _ hE ?_
        have HX := Lib.hid (Ext.trans HX.out hE)
        clear hE hK K
        try simp only [Act.put, List.setIfInBounds_toArray, List.set_cons_zero, List.set_cons_succ]
        refine reg_eff 9 rfl (by kernel_rfl) (fun K hK => ?_)
        go_simp
        refine (refRight_any y2 19 _ (by omega) (by omega)).mono ?_
        rw [← HB2.out]
        rintro ee w6 ⟨rfl, hE⟩
        refine hK.out _ _ hE ?_
        have HX := Lib.hid (Ext.trans HX.out hE)
        clear hE hK K
        try simp only [Act.put, List.setIfInBounds_toArray, List.set_cons_zero, List.set_cons_succ]
        refine reg_take (v := ?_) 10 (some 67) rfl rfl (by kernel_rfl) (by kernel_rfl) (by kernel_rfl) (fun _ _ _ h => h) (by rfl) (fun W hW => ?_) ?_
        rotate_left
        · (go_simp; try rfl)
        simp only [Act.put, List.setIfInBounds_toArray, List.set_cons_zero, List.set_cons_succ]
        refine reg_take (v := ?_) 16 (some 73) rfl rfl (by kernel_rfl) (by kernel_rfl) (by kernel_rfl) (fun _ _ _ h => h) (by rfl) (fun W hW => ?_) ?_
        rotate_left
        · (go_simp; try rfl)
        simp only [Act.put, List.setIfInBounds_toArray, List.set_cons_zero, List.set_cons_succ]
        refine reg_take (v := ?_) 17 (some 8) rfl rfl (by kernel_rfl) (by kernel_rfl) (by kernel_rfl) (fun _ _ _ h => h) (by rfl) (fun W hW => ?_) ?_
        rotate_left
        · (go_simp; try rfl)
        simp only [Act.put, List.setIfInBounds_toArray, List.set_cons_zero, List.set_cons_succ]
        refine reg_done (by kernel_rfl) ?_
        have HB := Lib.hid (HB4.out.step HX.out)
        have H0 := Lib.hid ((HX.out.block _ (lt_of_heap H04.out)).trans H04.out)
        have H1 := Lib.hid ((HX.out.block _ (lt_of_heap H14.out)).trans H14.out)
        have H2 := Lib.hid ((HX.out.block _ (lt_of_heap H24.out)).trans H24.out)
        have c7 : w6.cell? ⟨g2, m7, none⟩ = _ := (HX.out.cell hg24).trans d7.out
        have c16 : w6.cell? ⟨g2, m16, none⟩ = _ := (HX.out.cell hg24).trans d16.out
        have cT : w6.cell? ⟨g2, t, none⟩ = _ := (HX.out.cell hg24).trans dT.out
        have fz := frozen_of_heap H2.out t
        rw [HS2.out, HS15.out] at HST
        clear HB4 H04 H14 H24 D2 d7 d16 dT hg24 ud HX
        clear o2 o15
        go_wp2_with fail
        go_still_tail 15, (by kernel_rfl)
        change wpList _ _ _ _ _ w6.drew
        go_wp2
        go_roundw
        case rel =>
          have k2 := HG2.out
          have k1 := HG1.out
          refine ⟨t + 1, by omega, by go_num, ?_, ?_, ?_, ?_⟩
          · exact HB.out.drew.setCell (show w.heap.size ≤ g2 by omega) _
          · exact (Below.heap_setCell w6.drew _ _ _ (show w.heap.size ≠ g2 by omega)).trans H0.out
          · exact (Below.heap_setCell w6.drew _ _ _ (show g1 ≠ g2 by omega)).trans H1.out
          · have h1 : ((rowT b t).map wv).set t (Value.int .u32 ((bits .xor .u32 ((a2 ^^^ b2).toNat : Int) (d2.toNat : Int) + (y7.toNat : Int) + bits .xor .u32 ((a15 ^^^ b15).toNat : Int) (d15.toNat : Int) + (y16.toNat : Int)) % 4294967296)) = (rowT b (t + 1)).map wv := by
              rw [← HST.out, List.map_set]
              exact congrArg (fun z => ((rowT b t).map wv).set t (Value.int .u32 z)) (four32 a2 b2 d2 a15 b15 d15 y7 y16)
            have := heap_set (w := w6.drew) H2.out t (Value.int .u32 ((bits .xor .u32 ((a2 ^^^ b2).toNat : Int) (d2.toNat : Int) + (y7.toNat : Int) + bits .xor .u32 ((a15 ^^^ b15).toNat : Int) (d15.toNat : Int) + (y16.toNat : Int)) % 4294967296))
            rw [h1] at this
            exact this
        case measure => simp [intOf]; omega
    · have H2' : Hid (wr.heap[g2]? = some (.cells ((spreadN b 48).map wv).toArray 61 (0, 0))) := by have := H2.out; rw [show t = 64 by omega, rowT_end] at this; exact this
      have HWL : Hid ((spreadN b 48).length = 64) := spreadN_len b 48
      have HBK : Hid (bk = addL hs (mixN (stOf hs) (spreadN b 48) 64).list) := HBK0
      clear H2
      generalize spreadN b 48 = ws at H2' HWL HBK
      obtain ⟨a0, b0, c0, d0, e0, f0, g0, h0, hhs⟩ := list8 HH.out
      have HHS := Lib.hid hhs
      have HST : Hid (stOf hs = ⟨a0, b0, c0, d0, e0, f0, g0, h0⟩) := by show _ = _; rw [hhs]; rfl
      have F0' := H0.out
      rw [hhs] at F0'
      obtain ⟨k0, k1, k2, k3, k4, k5, k6, k7⟩ := st_cells F0'
      have K0 := Lib.hid k0; have K1 := Lib.hid k1; have K2 := Lib.hid k2; have K3 := Lib.hid k3; have K4 := Lib.hid k4; have K5 := Lib.hid k5; have K6 := Lib.hid k6; have K7 := Lib.hid k7
      clear k0 k1 k2 k3 k4 k5 k6 k7 F0' hhs
      obtain ⟨S0, HS0⟩ : ∃ S, Hid (stOf hs = S) := ⟨_, rfl⟩
      have HST := Lib.hid (HS0.out.symm.trans HST.out)
      have hg0 := lt_of_heap H0.out
      have HX : Hid (Ext wr wr.drew) := (Below.refl _ _).drew
      generalize (hs.map wv).toArray = HV at H0 ⊢
      go_wp2_with fail
      refine reg_start (by kernel_rfl) ?_
      try simp only [Act.put, List.setIfInBounds_toArray, List.set_cons_zero, List.set_cons_succ]
      refine reg_take (v := ?_) 0 (some 89) rfl rfl (by kernel_rfl) (by kernel_rfl) (by kernel_rfl) (fun _ _ _ h => h) (by rfl) (fun W hW => ?_) ?_
      rotate_left
      · (go_simp; try rfl)
      simp only [Act.put, List.setIfInBounds_toArray, List.set_cons_zero, List.set_cons_succ]
      refine reg_load 1 (some 90) (fun W hW => load_cell Tryd.underlying39 ((hW.cell hg0).trans K0.out)) rfl rfl rfl rfl (by kernel_rfl) (by kernel_rfl) (by kernel_rfl) (fun _ _ _ h => h) (by rfl) ?_
      simp only [Act.put, List.setIfInBounds_toArray, List.set_cons_zero, List.set_cons_succ]
      refine reg_take (v := ?_) 2 (some 91) rfl rfl (by kernel_rfl) (by kernel_rfl) (by kernel_rfl) (fun _ _ _ h => h) (by rfl) (fun W hW => ?_) ?_
      rotate_left
      · (go_simp; try rfl)
      simp only [Act.put, List.setIfInBounds_toArray, List.set_cons_zero, List.set_cons_succ]
      refine reg_load 3 (some 92) (fun W hW => load_cell Tryd.underlying39 ((hW.cell hg0).trans K1.out)) rfl rfl rfl rfl (by kernel_rfl) (by kernel_rfl) (by kernel_rfl) (fun _ _ _ h => h) (by rfl) ?_
      simp only [Act.put, List.setIfInBounds_toArray, List.set_cons_zero, List.set_cons_succ]
      refine reg_take (v := ?_) 4 (some 93) rfl rfl (by kernel_rfl) (by kernel_rfl) (by kernel_rfl) (fun _ _ _ h => h) (by rfl) (fun W hW => ?_) ?_
      rotate_left
      · (go_simp; try rfl)
      simp only [Act.put, List.setIfInBounds_toArray, List.set_cons_zero, List.set_cons_succ]
      refine reg_load 5 (some 94) (fun W hW => load_cell Tryd.underlying39 ((hW.cell hg0).trans K2.out)) rfl rfl rfl rfl (by kernel_rfl) (by kernel_rfl) (by kernel_rfl) (fun _ _ _ h => h) (by rfl) ?_
      simp only [Act.put, List.setIfInBounds_toArray, List.set_cons_zero, List.set_cons_succ]
      refine reg_take (v := ?_) 6 (some 95) rfl rfl (by kernel_rfl) (by kernel_rfl) (by kernel_rfl) (fun _ _ _ h => h) (by rfl) (fun W hW => ?_) ?_
      rotate_left
      · (go_simp; try rfl)
      simp only [Act.put, List.setIfInBounds_toArray, List.set_cons_zero, List.set_cons_succ]
      refine reg_load 7 (some 96) (fun W hW => load_cell Tryd.underlying39 ((hW.cell hg0).trans K3.out)) rfl rfl rfl rfl (by kernel_rfl) (by kernel_rfl) (by kernel_rfl) (fun _ _ _ h => h) (by rfl) ?_
      simp only [Act.put, List.setIfInBounds_toArray, List.set_cons_zero, List.set_cons_succ]
      refine reg_take (v := ?_) 8 (some 97) rfl rfl (by kernel_rfl) (by kernel_rfl) (by kernel_rfl) (fun _ _ _ h => h) (by rfl) (fun W hW => ?_) ?_
      rotate_left
      · (go_simp; try rfl)
      simp only [Act.put, List.setIfInBounds_toArray, List.set_cons_zero, List.set_cons_succ]
      refine reg_load 9 (some 98) (fun W hW => load_cell Tryd.underlying39 ((hW.cell hg0).trans K4.out)) rfl rfl rfl rfl (by kernel_rfl) (by kernel_rfl) (by kernel_rfl) (fun _ _ _ h => h) (by rfl) ?_
      simp only [Act.put, List.setIfInBounds_toArray, List.set_cons_zero, List.set_cons_succ]
      refine reg_take (v := ?_) 10 (some 99) rfl rfl (by kernel_rfl) (by kernel_rfl) (by kernel_rfl) (fun _ _ _ h => h) (by rfl) (fun W hW => ?_) ?_
      rotate_left
      · (go_simp; try rfl)
      simp only [Act.put, List.setIfInBounds_toArray, List.set_cons_zero, List.set_cons_succ]
      refine reg_load 11 (some 100) (fun W hW => load_cell Tryd.underlying39 ((hW.cell hg0).trans K5.out)) rfl rfl rfl rfl (by kernel_rfl) (by kernel_rfl) (by kernel_rfl) (fun _ _ _ h => h) (by rfl) ?_
      simp only [Act.put, List.setIfInBounds_toArray, List.set_cons_zero, List.set_cons_succ]
      refine reg_take (v := ?_) 12 (some 101) rfl rfl (by kernel_rfl) (by kernel_rfl) (by kernel_rfl) (fun _ _ _ h => h) (by rfl) (fun W hW => ?_) ?_
      rotate_left
      · (go_simp; try rfl)
      simp only [Act.put, List.setIfInBounds_toArray, List.set_cons_zero, List.set_cons_succ]
      refine reg_load 13 (some 102) (fun W hW => load_cell Tryd.underlying39 ((hW.cell hg0).trans K6.out)) rfl rfl rfl rfl (by kernel_rfl) (by kernel_rfl) (by kernel_rfl) (fun _ _ _ h => h) (by rfl) ?_
      simp only [Act.put, List.setIfInBounds_toArray, List.set_cons_zero, List.set_cons_succ]
      refine reg_take (v := ?_) 14 (some 103) rfl rfl (by kernel_rfl) (by kernel_rfl) (by kernel_rfl) (fun _ _ _ h => h) (by rfl) (fun W hW => ?_) ?_
      rotate_left
      · (go_simp; try rfl)
      simp only [Act.put, List.setIfInBounds_toArray, List.set_cons_zero, List.set_cons_succ]
      refine reg_load 15 (some 104) (fun W hW => load_cell Tryd.underlying39 ((hW.cell hg0).trans K7.out)) rfl rfl rfl rfl (by kernel_rfl) (by kernel_rfl) (by kernel_rfl) (fun _ _ _ h => h) (by rfl) ?_
      simp only [Act.put, List.setIfInBounds_toArray, List.set_cons_zero, List.set_cons_succ]
      refine reg_take (v := ?_) 16 (some 9) rfl rfl (by kernel_rfl) (by kernel_rfl) (by kernel_rfl) (fun _ _ _ h => h) (by rfl) (fun W hW => ?_) ?_
      rotate_left
      · (go_simp; try rfl)
      simp only [Act.put, List.setIfInBounds_toArray, List.set_cons_zero, List.set_cons_succ]
      refine reg_take (v := ?_) 17 (some 10) rfl rfl (by kernel_rfl) (by kernel_rfl) (by kernel_rfl) (fun _ _ _ h => h) (by rfl) (fun W hW => ?_) ?_
      rotate_left
      · (go_simp; try rfl)
      simp only [Act.put, List.setIfInBounds_toArray, List.set_cons_zero, List.set_cons_succ]
      refine reg_take (v := ?_) 18 (some 11) rfl rfl (by kernel_rfl) (by kernel_rfl) (by kernel_rfl) (fun _ _ _ h => h) (by rfl) (fun W hW => ?_) ?_
      rotate_left
      · (go_simp; try rfl)
      simp only [Act.put, List.setIfInBounds_toArray, List.set_cons_zero, List.set_cons_succ]
      refine reg_take (v := ?_) 19 (some 12) rfl rfl (by kernel_rfl) (by kernel_rfl) (by kernel_rfl) (fun _ _ _ h => h) (by rfl) (fun W hW => ?_) ?_
      rotate_left
      · (go_simp; try rfl)
      simp only [Act.put, List.setIfInBounds_toArray, List.set_cons_zero, List.set_cons_succ]
      refine reg_take (v := ?_) 20 (some 13) rfl rfl (by kernel_rfl) (by kernel_rfl) (by kernel_rfl) (fun _ _ _ h => h) (by rfl) (fun W hW => ?_) ?_
      rotate_left
      · (go_simp; try rfl)
      simp only [Act.put, List.setIfInBounds_toArray, List.set_cons_zero, List.set_cons_succ]
      refine reg_take (v := ?_) 21 (some 14) rfl rfl (by kernel_rfl) (by kernel_rfl) (by kernel_rfl) (fun _ _ _ h => h) (by rfl) (fun W hW => ?_) ?_
      rotate_left
      · (go_simp; try rfl)
      simp only [Act.put, List.setIfInBounds_toArray, List.set_cons_zero, List.set_cons_succ]
      refine reg_take (v := ?_) 22 (some 15) rfl rfl (by kernel_rfl) (by kernel_rfl) (by kernel_rfl) (fun _ _ _ h => h) (by rfl) (fun W hW => ?_) ?_
      rotate_left
      · (go_simp; try rfl)
      simp only [Act.put, List.setIfInBounds_toArray, List.set_cons_zero, List.set_cons_succ]
      refine reg_take (v := ?_) 23 (some 16) rfl rfl (by kernel_rfl) (by kernel_rfl) (by kernel_rfl) (fun _ _ _ h => h) (by rfl) (fun W hW => ?_) ?_
      rotate_left
      · (go_simp; try rfl)
      simp only [Act.put, List.setIfInBounds_toArray, List.set_cons_zero, List.set_cons_succ]
      refine reg_done (by kernel_rfl) ?_
      have FB' : Hid (Below w.heap.size w wr.drew) := HB.out.drew
      have F0' : Hid (wr.drew.heap[w.heap.size]? = some (.cells HV 40 (0, 0))) := H0.out
      have F1' : Hid (wr.drew.heap[g1]? = some (.cells (List.replicate 8 (Value.int .u32 0)).toArray 40 (0, 0))) := H1.out
      have F2' : Hid (wr.drew.heap[g2]? = some (.cells (ws.map wv).toArray 61 (0, 0))) := H2'.out
      have L0 : Hid (wr.drew.cell? ⟨w.heap.size, 0, none⟩ = _) := K0.out
      have L1 : Hid (wr.drew.cell? ⟨w.heap.size, 1, none⟩ = _) := K1.out
      have L2 : Hid (wr.drew.cell? ⟨w.heap.size, 2, none⟩ = _) := K2.out
      have L3 : Hid (wr.drew.cell? ⟨w.heap.size, 3, none⟩ = _) := K3.out
      have L4 : Hid (wr.drew.cell? ⟨w.heap.size, 4, none⟩ = _) := K4.out
      have L5 : Hid (wr.drew.cell? ⟨w.heap.size, 5, none⟩ = _) := K5.out
      have L6 : Hid (wr.drew.cell? ⟨w.heap.size, 6, none⟩ = _) := K6.out
      have L7 : Hid (wr.drew.cell? ⟨w.heap.size, 7, none⟩ = _) := K7.out
      clear HB H0 H1 H2' HX K0 K1 K2 K3 K4 K5 K6 K7 hg0
      generalize wr.drew = W1 at FB' F0' F1' F2' L0 L1 L2 L3 L4 L5 L6 L7 ⊢
      go_wp2_with fail
      go_loopw [9, 10, 11, 12, 13, 14, 15, 16, 17] (fun va vb vc vd ve vf vg vh vi wr => ∃ (i : Nat) (s : St), i ≤ 64 ∧ vi = .int .i64 (i : Int) ∧ Hid (s = mixN S0 ws i) ∧ Hid (Below W1.heap.size W1 wr) ∧
         va = .int .u32 (s.a.toNat : Int) ∧ vb = .int .u32 (s.b.toNat : Int) ∧ vc = .int .u32 (s.c.toNat : Int) ∧ vd = .int .u32 (s.d.toNat : Int) ∧ ve = .int .u32 (s.e.toNat : Int) ∧ vf = .int .u32 (s.f.toNat : Int) ∧ vg = .int .u32 (s.g.toNat : Int) ∧ vh = .int .u32 (s.h.toNat : Int)) (fun _ _ _ _ _ _ _ _ i _ => 64 - (intOf i).toNat)
      case atStart => exact ⟨0, ⟨a0, b0, c0, d0, e0, f0, g0, h0⟩, by omega, rfl, HST.out.symm, Below.refl _ _, rfl, rfl, rfl, rfl, rfl, rfl, rfl, rfl⟩
      case round =>
        obtain ⟨i, ⟨a, b, c, d, e, f, g, h⟩, hi, rfl, HS, HB, rfl, rfl, rfl, rfl, rfl, rfl, rfl, rfl⟩ := hrel
        simp only
        by_cases hlt : i < 64
        · have e1 : (i : Int) < 64 := by omega
          have hs1 : Hid (mixN S0 ws (i + 1) = stepL ⟨a, b, c, d, e, f, g, h⟩ (kL i) (ws.getD i 0)) := by show _ = _; rw [HS.out]; rfl
          obtain ⟨a6, ha6⟩ : ∃ x, x = rotl e (-((6 : Nat) : Int)) := ⟨_, rfl⟩
          obtain ⟨a11, ha11⟩ : ∃ x, x = rotl e (-((11 : Nat) : Int)) := ⟨_, rfl⟩
          obtain ⟨a25, ha25⟩ : ∃ x, x = rotl e (-((25 : Nat) : Int)) := ⟨_, rfl⟩
          obtain ⟨s6, hs6⟩ : ∃ x, x = a6 ^^^ a11 := ⟨_, rfl⟩
          obtain ⟨t6, ht6⟩ : ∃ x, x = s6 ^^^ a25 := ⟨_, rfl⟩
          have x1 : bits .xor .u32 (a6.toNat : Int) (a11.toNat : Int) = (s6.toNat : Int) := by rw [hs6]; exact xor32 _ _
          have x2 : bits .xor .u32 (s6.toNat : Int) (a25.toNat : Int) = (t6.toNat : Int) := by rw [ht6]; exact xor32 _ _
          have HT6 : Hid (turnL e 6 11 25 = t6) := by show _ = _; rw [ht6, hs6, ha6, ha11, ha25]; rfl
          have HA6 := Lib.hid ha6; have HA11 := Lib.hid ha11; have HA25 := Lib.hid ha25
          clear ha6 ha11 ha25 hs6 ht6
          go_wp2_with fail
          refine (refRight_any e 6 wr (by omega) (by omega)).mono ?_
          rw [← HA6.out]
          rintro ee w3 ⟨rfl, hE3⟩
          have HB3 := Lib.hid (HB.out.step hE3)
          clear hE3 HB
          unfold wv
          go_wp2_with fail
          refine (refRight_any e 11 w3 (by omega) (by omega)).mono ?_
          rw [← HA11.out]
          rintro ee w4 ⟨rfl, hE4⟩
          have HB4 := Lib.hid (HB3.out.step hE4)
          clear hE4 HB3
          unfold wv
          go_wp2_with fail
          refine (refRight_any e 25 w4 (by omega) (by omega)).mono ?_
          rw [← HA25.out]
          rintro ee w5 ⟨rfl, hE5⟩
          have HB5 := Lib.hid (HB4.out.step hE5)
          clear hE5 HB4
          unfold wv
          obtain ⟨p, hp⟩ : ∃ x, x = e &&& f := ⟨_, rfl⟩
          obtain ⟨ne, hne⟩ : ∃ x, x = ~~~e := ⟨_, rfl⟩
          obtain ⟨q, hq⟩ : ∃ x, x = ne &&& g := ⟨_, rfl⟩
          obtain ⟨ch, hch⟩ : ∃ x, x = p ||| q := ⟨_, rfl⟩
          have x3 : bits .and .u32 (e.toNat : Int) (f.toNat : Int) = (p.toNat : Int) := by rw [hp]; exact and32 _ _
          have x4 : 4294967295 - (e.toNat : Int) = (ne.toNat : Int) := by rw [hne]; exact not_sub e
          have x5 : bits .and .u32 (ne.toNat : Int) (g.toNat : Int) = (q.toNat : Int) := by rw [hq]; exact and32 _ _
          have x6 : bits .or .u32 (p.toNat : Int) (q.toNat : Int) = (ch.toNat : Int) := by rw [hch]; exact or32 _ _
          have HCH : Hid (chL e f g = ch) := by show _ = _; rw [hch, hp, hq, hne]; exact (ch_or e f g).symm
          clear hp hne hq hch
          go_wp2_with fail
          clear x1 x2 x3 x4 x5 x6
          have H05 := Lib.hid ((HB5.out.block _ (lt_of_heap F2'.out)).trans F2'.out)
          have c1 := Lib.hid (wcell H05.out i (by rw [HWL.out]; exact hlt))
          have hgl := lt_of_heap H05.out
          generalize ws.getD i 0 = x at c1 hs1
          have HRD := Lib.hid (fun W => refRound_any i W hlt)
          generalize kL i = k at HRD hs1
          obtain ⟨r1, hr1⟩ : ∃ z, z = h + t6 := ⟨_, rfl⟩
          obtain ⟨r2, hr2⟩ : ∃ z, z = r1 + ch := ⟨_, rfl⟩
          obtain ⟨r3, hr3⟩ : ∃ z, z = r2 + k := ⟨_, rfl⟩
          obtain ⟨r4, hr4⟩ : ∃ z, z = r3 + x := ⟨_, rfl⟩
          have u1 : IntKind.u32.wrap ((h.toNat : Int) + (t6.toNat : Int)) = (r1.toNat : Int) := by rw [hr1]; exact addw32 _ _
          have u2 : IntKind.u32.wrap ((r1.toNat : Int) + (ch.toNat : Int)) = (r2.toNat : Int) := by rw [hr2]; exact addw32 _ _
          have u3 : IntKind.u32.wrap ((r2.toNat : Int) + (k.toNat : Int)) = (r3.toNat : Int) := by rw [hr3]; exact addw32 _ _
          have u4 : IntKind.u32.wrap ((r3.toNat : Int) + (x.toNat : Int)) = (r4.toNat : Int) := by rw [hr4]; exact addw32 _ _
          have hone : Hid (one ⟨a, b, c, d, e, f, g, h⟩ k x = r4) := by show _ = _; rw [hr4, hr3, hr2, hr1, ← HCH.out, ← HT6.out]; rfl
          clear hr1 hr2 hr3 hr4
          have HX : Hid (Ext w5 w5.drew) := (Below.refl _ _).drew
          refine reg_start (by kernel_rfl) ?_
          try simp only [Act.put, List.setIfInBounds_toArray, List.set_cons_zero, List.set_cons_succ]
          refine reg_take (v := ?_) 0 (some 125) rfl rfl (by kernel_rfl) (by kernel_rfl) (by kernel_rfl) (fun _ _ _ h => h) (by rfl) (fun W hW => ?_) ?_
          rotate_left
          · (go_simp; try rfl)
          simp only [Act.put, List.setIfInBounds_toArray, List.set_cons_zero, List.set_cons_succ]
          refine reg_take (v := ?_) 1 (some 126) rfl rfl (by kernel_rfl) (by kernel_rfl) (by kernel_rfl) (fun _ _ _ h => h) (by rfl) (fun W hW => ?_) ?_
          rotate_left
          · (go_simp; try rfl)
          simp only [Act.put, List.setIfInBounds_toArray, List.set_cons_zero, List.set_cons_succ]
          refine reg_take (v := ?_) 2 (some 127) rfl rfl (by kernel_rfl) (by kernel_rfl) (by kernel_rfl) (fun _ _ _ h => h) (by rfl) (fun W hW => ?_) ?_
          rotate_left
          · (go_simp; try rfl)
          simp only [Act.put, List.setIfInBounds_toArray, List.set_cons_zero, List.set_cons_succ]
          refine reg_take (v := ?_) 3 (some 128) rfl rfl (by kernel_rfl) (by kernel_rfl) (by kernel_rfl) (fun _ _ _ h => h) (by rfl) (fun W hW => ?_) ?_
          rotate_left
          · (go_simp; try rfl)
          simp only [Act.put, List.setIfInBounds_toArray, List.set_cons_zero, List.set_cons_succ]
          refine reg_take (v := ?_) 4 (some 129) rfl rfl (by kernel_rfl) (by kernel_rfl) (by kernel_rfl) (fun _ _ _ h => h) (by rfl) (fun W hW => ?_) ?_
          rotate_left
          · (go_simp; try rfl)
          simp only [Act.put, List.setIfInBounds_toArray, List.set_cons_zero, List.set_cons_succ]
          refine reg_take (v := ?_) 5 (some 130) rfl rfl (by kernel_rfl) (by kernel_rfl) (by kernel_rfl) (fun _ _ _ h => h) (by rfl) (fun W hW => ?_) ?_
          rotate_left
          · (go_simp; try rfl)
          simp only [Act.put, List.setIfInBounds_toArray, List.set_cons_zero, List.set_cons_succ]
          refine reg_take (v := ?_) 8 (some 133) rfl rfl (by kernel_rfl) (by kernel_rfl) (by kernel_rfl) (fun _ _ _ h => h) (by rfl) (fun W hW => ?_) ?_
          rotate_left
          · (go_simp; try rfl)
          simp only [Act.put, List.setIfInBounds_toArray, List.set_cons_zero, List.set_cons_succ]
          refine reg_take (v := ?_) 9 (some 134) rfl rfl (by kernel_rfl) (by kernel_rfl) (by kernel_rfl) (fun _ _ _ h => h) (by rfl) (fun W hW => ?_) ?_
          rotate_left
          · (go_simp; try rfl)
          simp only [Act.put, List.setIfInBounds_toArray, List.set_cons_zero, List.set_cons_succ]
          refine reg_load 10 (some 135) (fun W hW => load_cell Tryd.underlying39 ((hW.cell hgl).trans c1.out)) rfl rfl rfl rfl (by kernel_rfl) (by kernel_rfl) (by kernel_rfl) (fun _ _ _ h => h) (by rfl) ?_
          simp only [Act.put, List.setIfInBounds_toArray, List.set_cons_zero, List.set_cons_succ]
          refine reg_eff 6 rfl (by kernel_rfl) (fun K hK => ?_)
          go_simp
          refine (HRD.out _).mono ?_
          rintro ee w6 ⟨rfl, hE⟩
          unfold wv
          refine hK.out _ _ hE ?_
          have HX := Lib.hid (Ext.trans HX.out hE)
          clear hE hK K
          try simp only [Act.put, List.setIfInBounds_toArray, List.set_cons_zero, List.set_cons_succ]
          refine reg_take (v := ?_) 7 (some 132) rfl rfl (by kernel_rfl) (by kernel_rfl) (by kernel_rfl) (fun _ _ _ h => h) (by rfl) (fun W hW => ?_) ?_
          rotate_left
          · (go_simp; try rfl)
          simp only [Act.put, List.setIfInBounds_toArray, List.set_cons_zero, List.set_cons_succ]
          refine reg_take (v := ?_) 11 (some 136) rfl rfl (by kernel_rfl) (by kernel_rfl) (by kernel_rfl) (fun _ _ _ h => h) (by rfl) (fun W hW => ?_) ?_
          rotate_left
          · (go_simp; try rfl)
          simp only [Act.put, List.setIfInBounds_toArray, List.set_cons_zero, List.set_cons_succ]
          refine reg_take (v := ?_) 12 (some 20) rfl rfl (by kernel_rfl) (by kernel_rfl) (by kernel_rfl) (fun _ _ _ h => h) (by rfl) (fun W hW => ?_) ?_
          rotate_left
          · (go_simp; try rfl)
          simp only [Act.put, List.setIfInBounds_toArray, List.set_cons_zero, List.set_cons_succ]
          refine reg_done (by kernel_rfl) ?_
          have HB6 := Lib.hid (HB5.out.step HX.out)
          clear u1 u2 u3 u4 c1 hgl H05 HB5 HX HRD
          obtain ⟨a2, ha2⟩ : ∃ x, x = rotl a (-((2 : Nat) : Int)) := ⟨_, rfl⟩
          obtain ⟨a13, ha13⟩ : ∃ x, x = rotl a (-((13 : Nat) : Int)) := ⟨_, rfl⟩
          obtain ⟨a22, ha22⟩ : ∃ x, x = rotl a (-((22 : Nat) : Int)) := ⟨_, rfl⟩
          obtain ⟨s2, hs2⟩ : ∃ x, x = a2 ^^^ a13 := ⟨_, rfl⟩
          obtain ⟨t2, ht2⟩ : ∃ x, x = s2 ^^^ a22 := ⟨_, rfl⟩
          have x1 : bits .xor .u32 (a2.toNat : Int) (a13.toNat : Int) = (s2.toNat : Int) := by rw [hs2]; exact xor32 _ _
          have x2 : bits .xor .u32 (s2.toNat : Int) (a22.toNat : Int) = (t2.toNat : Int) := by rw [ht2]; exact xor32 _ _
          have HT2 : Hid (turnL a 2 13 22 = t2) := by show _ = _; rw [ht2, hs2, ha2, ha13, ha22]; rfl
          have HA2 := Lib.hid ha2; have HA13 := Lib.hid ha13; have HA22 := Lib.hid ha22
          clear ha2 ha13 ha22 hs2 ht2
          go_wp2_with fail
          refine (refRight_any a 2 w6 (by omega) (by omega)).mono ?_
          rw [← HA2.out]
          rintro ee w7 ⟨rfl, hE⟩
          have HB7 := Lib.hid (HB6.out.step hE)
          clear hE HB6
          unfold wv
          go_wp2_with fail
          refine (refRight_any a 13 w7 (by omega) (by omega)).mono ?_
          rw [← HA13.out]
          rintro ee w8 ⟨rfl, hE⟩
          have HB8 := Lib.hid (HB7.out.step hE)
          clear hE HB7
          unfold wv
          go_wp2_with fail
          refine (refRight_any a 22 w8 (by omega) (by omega)).mono ?_
          rw [← HA22.out]
          rintro ee w9 ⟨rfl, hE⟩
          have HB9 := Lib.hid (HB8.out.step hE)
          clear hE HB8
          unfold wv
          obtain ⟨p1, hp1⟩ : ∃ x, x = a &&& b := ⟨_, rfl⟩
          obtain ⟨p2, hp2⟩ : ∃ x, x = a &&& c := ⟨_, rfl⟩
          obtain ⟨p3, hp3⟩ : ∃ x, x = p1 ||| p2 := ⟨_, rfl⟩
          obtain ⟨p4, hp4⟩ : ∃ x, x = b &&& c := ⟨_, rfl⟩
          obtain ⟨mj, hmj⟩ : ∃ x, x = p3 ||| p4 := ⟨_, rfl⟩
          have x3 : bits .and .u32 (a.toNat : Int) (b.toNat : Int) = (p1.toNat : Int) := by rw [hp1]; exact and32 _ _
          have x4 : bits .and .u32 (a.toNat : Int) (c.toNat : Int) = (p2.toNat : Int) := by rw [hp2]; exact and32 _ _
          have x5 : bits .or .u32 (p1.toNat : Int) (p2.toNat : Int) = (p3.toNat : Int) := by rw [hp3]; exact or32 _ _
          have x6 : bits .and .u32 (b.toNat : Int) (c.toNat : Int) = (p4.toNat : Int) := by rw [hp4]; exact and32 _ _
          have x7 : bits .or .u32 (p3.toNat : Int) (p4.toNat : Int) = (mj.toNat : Int) := by rw [hmj]; exact or32 _ _
          have HMJ : Hid (majL a b c = mj) := by show _ = _; rw [hmj, hp3, hp1, hp2, hp4]; exact (maj_or a b c).symm
          clear hp1 hp2 hp3 hp4 hmj
          obtain ⟨r5, hr5⟩ : ∃ z, z = r4 + t2 := ⟨_, rfl⟩
          obtain ⟨r6, hr6⟩ : ∃ z, z = r5 + mj := ⟨_, rfl⟩
          obtain ⟨r7, hr7⟩ : ∃ z, z = d + r4 := ⟨_, rfl⟩
          have v5 : ((r4.toNat : Int) + (t2.toNat : Int)) % 4294967296 = (r5.toNat : Int) := by rw [hr5]; exact add32 _ _
          have v6 : ((r5.toNat : Int) + (mj.toNat : Int)) % 4294967296 = (r6.toNat : Int) := by rw [hr6]; exact add32 _ _
          have v7 : ((d.toNat : Int) + (r4.toNat : Int)) % 4294967296 = (r7.toNat : Int) := by rw [hr7]; exact add32 _ _
          have hst : Hid (mixN S0 ws (i + 1) = ⟨r6, a, b, c, r7, e, f, g⟩) := by
            show _ = _
            rw [hs1.out, stepL]
            simp only [two, hone.out, HT2.out, HMJ.out, hr6, hr5, hr7, BitVec.add_assoc]
          clear hr5 hr6 hr7 hs1 hone
          go_wp2
          go_roundw
          case rel =>
            exact ⟨i + 1, ⟨r6, a, b, c, r7, e, f, g⟩, by omega, by go_num, hst.out.symm, HB9, congrArg (Value.int .u32) v6, rfl, rfl, rfl, congrArg (Value.int .u32) v7, rfl, rfl, rfl⟩
          case measure => simp [intOf]; omega
        · have hgW := lt_of_heap F0'.out
          have k0 : wr.cell? ⟨w.heap.size, 0, none⟩ = _ := (HB.out.cell hgW).trans L0.out
          have k1 : wr.cell? ⟨w.heap.size, 1, none⟩ = _ := (HB.out.cell hgW).trans L1.out
          have k2 : wr.cell? ⟨w.heap.size, 2, none⟩ = _ := (HB.out.cell hgW).trans L2.out
          have k3 : wr.cell? ⟨w.heap.size, 3, none⟩ = _ := (HB.out.cell hgW).trans L3.out
          have k4 : wr.cell? ⟨w.heap.size, 4, none⟩ = _ := (HB.out.cell hgW).trans L4.out
          have k5 : wr.cell? ⟨w.heap.size, 5, none⟩ = _ := (HB.out.cell hgW).trans L5.out
          have k6 : wr.cell? ⟨w.heap.size, 6, none⟩ = _ := (HB.out.cell hgW).trans L6.out
          have k7 : wr.cell? ⟨w.heap.size, 7, none⟩ = _ := (HB.out.cell hgW).trans L7.out
          obtain ⟨z0, hz0⟩ : ∃ z, z = a0 + a := ⟨_, rfl⟩
          have v0 : ((a0.toNat : Int) + (a.toNat : Int)) % 4294967296 = (z0.toNat : Int) := by rw [hz0]; exact add32 _ _
          obtain ⟨z1, hz1⟩ : ∃ z, z = b0 + b := ⟨_, rfl⟩
          have v1 : ((b0.toNat : Int) + (b.toNat : Int)) % 4294967296 = (z1.toNat : Int) := by rw [hz1]; exact add32 _ _
          obtain ⟨z2, hz2⟩ : ∃ z, z = c0 + c := ⟨_, rfl⟩
          have v2 : ((c0.toNat : Int) + (c.toNat : Int)) % 4294967296 = (z2.toNat : Int) := by rw [hz2]; exact add32 _ _
          obtain ⟨z3, hz3⟩ : ∃ z, z = d0 + d := ⟨_, rfl⟩
          have v3 : ((d0.toNat : Int) + (d.toNat : Int)) % 4294967296 = (z3.toNat : Int) := by rw [hz3]; exact add32 _ _
          obtain ⟨z4, hz4⟩ : ∃ z, z = e0 + e := ⟨_, rfl⟩
          have v4 : ((e0.toNat : Int) + (e.toNat : Int)) % 4294967296 = (z4.toNat : Int) := by rw [hz4]; exact add32 _ _
          obtain ⟨z5, hz5⟩ : ∃ z, z = f0 + f := ⟨_, rfl⟩
          have v5 : ((f0.toNat : Int) + (f.toNat : Int)) % 4294967296 = (z5.toNat : Int) := by rw [hz5]; exact add32 _ _
          obtain ⟨z6, hz6⟩ : ∃ z, z = g0 + g := ⟨_, rfl⟩
          have v6 : ((g0.toNat : Int) + (g.toNat : Int)) % 4294967296 = (z6.toNat : Int) := by rw [hz6]; exact add32 _ _
          obtain ⟨z7, hz7⟩ : ∃ z, z = h0 + h := ⟨_, rfl⟩
          have v7 : ((h0.toNat : Int) + (h.toNat : Int)) % 4294967296 = (z7.toNat : Int) := by rw [hz7]; exact add32 _ _
          have K1 := Lib.hid ((HB.out.block _ (lt_of_heap F1'.out)).trans F1'.out)
          have hl : Hid (bk = [z0, z1, z2, z3, z4, z5, z6, z7]) := by
            show _ = _
            rw [HBK.out, HS0.out, ← show ⟨a, b, c, d, e, f, g, h⟩ = mixN S0 ws 64 from by rw [HS.out, show i = 64 by omega], HHS.out, addL8, hz0, hz1, hz2, hz3, hz4, hz5, hz6, hz7]
          clear hz0 hz1 hz2 hz3 hz4 hz5 hz6 hz7
          have HSTO := Lib.hid (store_arr (P := Tryd.prog) (ty := 40) (cs := [z0, z1, z2, z3, z4, z5, z6, z7].map wv) i8W (wv_one _) K1.out (by simp))
          go_wp2_with (first
            | (refine wpList_stv (o := ⟨none, .store _ _ _, _, _, _, _⟩) rfl 40 (.tmp 4) (.tmp 202) rfl (p := .pointer (some ⟨g1, 0, none⟩)) (v := .agg ([z0, z1, z2, z3, z4, z5, z6, z7].map wv).toArray) rfl ?_ HSTO.out ?_
               · simp only [List.map, wv]; rfl)
            | fail)
          have hres := setRow_heap wr g1 _ ([z0, z1, z2, z3, z4, z5, z6, z7].map wv).toArray 40 _ K1.out
          rw [hl.out]
          have HBB := FB'.out.step HB.out
          exact bodyPost_ret (results_cell_row (P := Tryd.prog) rfl _ _ g1 40 ([z0, z1, z2, z3, z4, z5, z6, z7].map wv).toArray (0, 0) _ rfl hres arr8W rfl i8W) rfl ⟨rfl, HBB.trans (grown_below (grown_setRow _ _ _) (by have := HG1.out; omega) HBB.size)⟩
end Go.Proofs.YtdmdjgmkhoahmaaDoor

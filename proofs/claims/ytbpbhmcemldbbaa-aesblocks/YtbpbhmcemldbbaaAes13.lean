/- The contract of the law file's own 'awake' (the chapter's example). -/
import Derived.Test.YtbpbhmcemldbbaaAes12
import Derived.Test.YtbpbhmcemldbbaaLiftA
import Derived.Test.YtbpbhmcemldbbaaBits3
namespace Go.Proofs.Ytbpbhmcemldbbaa
open Go.RowKit
set_option linter.unusedVariables false
set_option maxRecDepth 100000
set_option linter.unusedSimpArgs false
theorem ex_key (i : Nat) (h : i < 16) : exKey.take (i + 1) = exKey.take i ++ [UInt8.ofNat i] := by
  have : ∀ i : Fin 16, exKey.take (i.1 + 1) = exKey.take i.1 ++ [UInt8.ofNat i.1] := by decide
  exact this ⟨i, h⟩
def exN (i : Nat) : List UInt8 := exText.take i ++ List.replicate (16 - i) 0
theorem ex_text (i : Nat) (h : i < 16) : (exN i).set i (UInt8.ofNat (17 * i)) = exN (i + 1) := by
  have : ∀ i : Fin 16, (exN i.1).set i.1 (UInt8.ofNat (17 * i.1)) = exN (i.1 + 1) := by decide
  exact this ⟨i, h⟩
theorem exN_len (i : Nat) (h : i ≤ 16) : (exN i).length = 16 := by
  have : ∀ i : Fin 17, (exN i.1).length = 16 := by decide
  exact this ⟨i, by omega⟩
theorem sl_mk' {w : World} {A : Option Addr} {n c : Nat} {bs : List UInt8} (hl : bs.length = n) (h1 : n ≤ c) (h2 : c ≤ maxLen) (hr : RowAt w w.heap.size A (bs.map bv)) : Sl w A c bs := ⟨by omega, h2, hr⟩
theorem own_below {w w' : World} {base : Nat} {e : TypeId} {s : Nat} {v : Value} {n : Nat} {xs : List Value} (h : w.ownsRow base e s v n xs) (hb : Below w.heap.size w w') : w'.ownsRow base e s v n xs := by
  obtain ⟨h0, h | ⟨g, cap, cur, hv, hg, hh, r⟩⟩ := h
  · exact ⟨h0, .inl h⟩
  · exact ⟨h0, .inr ⟨g, cap, cur, hv, hg, (hb.block _ (lt_of_heap hh)).trans hh, r⟩⟩
theorem own_ge' {w : World} {base : Nat} {e : TypeId} {s : Nat} {v : Value} {n : Nat} {xs : List Value} (h : w.ownsRow base e s v n xs) {B : Nat} (hB : B ≤ base) : ∀ g, v.ownBlock = some g → B ≤ g := fun g hq => Nat.le_trans hB (h.lt g hq).1
theorem own_ne' {w : World} {base : Nat} {e : TypeId} {s : Nat} {v : Value} {n : Nat} {xs : List Value} (h : w.ownsRow base e s v n xs) {g : Nat} (hB : g < base) : some g ≠ v.ownBlock := fun hq => by have := (h.lt g hq.symm).1; omega
theorem own_keep {w w' : World} {base : Nat} {e : TypeId} {s : Nat} {v : Value} {n : Nat} {xs : List Value} (h : w.ownsRow base e s v n xs) (hb : ∀ g, base ≤ g → g < w.heap.size → w'.heap[g]? = w.heap[g]?) : w'.ownsRow base e s v n xs := by
  obtain ⟨h0, h | ⟨g, cap, cur, hv, hg, hh, r⟩⟩ := h
  · exact ⟨h0, .inl h⟩
  · exact ⟨h0, .inr ⟨g, cap, cur, hv, hg, (hb g hg (lt_of_heap hh)).trans hh, r⟩⟩
theorem one_row' (w : World) (b : UInt8) : RowAt (w.alloc (.cells #[.int .u8 (b.toNat : Int)] 5)) (w.heap.size + 1) (some ⟨w.heap.size, 0, none⟩) ([b].map bv) :=
  row_of_heap (t := 5) (fr := (0, 0)) (heap_alloc_new' w _) (Nat.lt_succ_self _)
set_option maxHeartbeats 4000000 in
theorem awake3_any (w : World) : Calls Try.prog 14 #[] w fun e w' => e = .returned (.bool true) ∧ Below w.heap.size w w' := by
  have hzz : ∀ W, (zeroValue 23).run Try.prog W = .ok (.agg zeros16.toArray) W := fun W => by kernel_rfl
  have hz0 : Hid (zeros16 = (exN 0).map bv) := rfl
  go_enter Try.func14, Try.ntmps14
  go_wp2_with fail
  generalize hV : w.alloc _ = W0
  have F0 : Hid (W0.heap[w.heap.size]? = some (.cells ((exN 0).map bv).toArray 23 (0, 0))) := by rw [← hz0.out]; exact heap_of_alloc hV
  have FB := Lib.hid (below_of_alloc hV (Nat.le_refl w.heap.size))
  clear hV hz0
  generalize hg2 : w.heap.size = g2 at F0 ⊢
  have HG2 := Lib.hid hg2
  rw [hg2] at FB
  clear hg2
  go_loopw [1, 3] (fun va vi wr => ∃ (i : Nat) (A' : Option Addr) (c' : Nat), i ≤ 16 ∧ vi = .int .i64 (i : Int) ∧ va = .slice A' i c' ∧ Hid (wr.ownsRow (g2 + 1) 5 1 (.slice A' i c') i ((exKey.take i).map bv)) ∧ Hid (Below g2 w wr) ∧ Hid (wr.heap[g2]? = some (.cells ((exN i).map bv).toArray 23 (0, 0)))) (fun _ i _ => 16 - (intOf i).toNat)
  case atStart => exact ⟨0, none, 0, by omega, rfl, rfl, World.ownsRow_nil _ _ _ _, FB, F0⟩
  case round =>
    clear F0 FB
    obtain ⟨i, A', c', hi, rfl, rfl, HO, HB, H0⟩ := hrel
    have hgl := Lib.hid (lt_of_heap H0.out)
    by_cases hlt : i < 16
    · have q1 : (i : Int) < 16 := by omega
      have u1 : ((UInt8.ofNat i).toNat : Int) = (i : Int) := by rw [UInt8.toNat_ofNat']; omega
      have u2 : ((UInt8.ofNat (17 * i)).toNat : Int) = 17 * (i : Int) := by rw [UInt8.toNat_ofNat']; omega
      have HK := Lib.hid (ex_key i hlt)
      have HT := Lib.hid (ex_text i hlt)
      generalize UInt8.ofNat i = x at u1 HK
      generalize UInt8.ofNat (17 * i) = y at u2 HT
      have hby : Hid (bv y = .int .u8 (17 * (i : Int))) := by show _ = _; unfold bv; rw [u2]
      have HRW : Hid (RowAt (wr.alloc (.cells #[.int .u8 (i : Int)] 5)) (wr.heap.size + 1) (some ⟨wr.heap.size, 0, none⟩) ([x].map bv)) := by have := one_row' wr x; rw [u1] at this; exact this
      clear u1 u2
      have HB1 := Lib.hid (HB.out.alloc (Nat.le_of_lt hgl.out) (.cells #[.int .u8 (i : Int)] 5))
      have HO1 := Lib.hid (own_below HO.out ((Below.refl wr.heap.size wr).alloc (Nat.le_refl _) (.cells #[.int .u8 (i : Int)] 5)))
      have H01 : Hid ((wr.alloc (.cells #[.int .u8 (i : Int)] 5)).heap[g2]? = _) := (Below.heap_alloc wr _ g2 hgl.out).trans H0.out
      have hs1 : Hid (g2 + 1 ≤ wr.heap.size + 1) := by have := hgl.out; show _ ≤ _; omega
      have hi31 : i + 1 ≤ 2147483647 := by omega
      go_wp2_with (
        at_builtin
        refine wpList_app8 rfl (.tmp 11) (.tmp 14) rfl (g2 + 1) _ i (exKey.take i) rfl ?_ (some ⟨wr.heap.size, 0, none⟩) 1 1 (wr.heap.size + 1) [x] rfl ?_ ?_ ?_ ?_ ?_
        · exact HO1.out
        · exact HRW.out
        · rfl
        · exact hi31
        · simp; exact Nat.le_of_lt hgl.out
        rintro v2 w2 hown hgr
        rw [← HK.out] at hown
        have HO2 := Lib.hid hown
        have HB2 := Lib.hid (HB1.out.grown hgr (by simp; exact Nat.le_succ_of_le (Nat.le_of_lt hgl.out)) (own_ge' HO1.out (Nat.le_succ g2)))
        have H02 := Lib.hid ((hgr.block _ (lt_of_heap H01.out) (own_ne' HO1.out (Nat.lt_succ_self g2))).trans H01.out)
        have c2 := bcellT H02.out i (by rw [exN_len i hi]; exact hlt)
        have fz := frozen_of_heap H02.out i
        clear hown hgr)
      go_roundw
      case rel =>
        obtain ⟨A2, c2', rfl, _, _, _, _⟩ := own_read HO2.out
        refine ⟨i + 1, A2, c2', by omega, by go_num, rfl, ?_, ?_, ?_⟩
        · refine own_keep HO2.out fun g hg _ => ?_
          exact Below.heap_setCell w2 _ _ _ (show g ≠ g2 by omega)
        · exact HB2.out.setCell (Nat.le_refl g2) _
        · have := heap_set H02.out i (bv y)
          rw [← List.map_set, HT.out, hby.out] at this
          exact this
      case measure => simp [intOf]; omega
    · have q1 : ¬ ((i : Int) < 16) := by omega
      have HO' := HO.out
      have H0' := H0.out
      have hi16 : i = 16 := by omega
      rw [hi16] at HO' H0'
      obtain ⟨A3, c3, he, hl3, h31, h32, hr3⟩ := own_read HO'
      injection he with he1 he2 he3
      have hBw : Hid (Below w.heap.size w wr) := by show Below _ _ _; rw [HG2.out]; exact HB.out
      have HS : Hid (Sl wr A' c' exKey) := by
        have := sl_mk' hl3 h31 h32 hr3
        rw [← he1, ← he3] at this; exact this
      have K0 : Hid (wr.heap[g2]? = some (.cells (exText.map bv).toArray 23 (0, 0))) := H0'
      clear HO' H0' he1 he2 he3 hl3 h31 h32 hr3 HO H0 HB
      have HX1 := Lib.hid (expand_any A' 16 c' 4 exKey wr rfl rfl (.inl rfl) HS.out)
      have hcast : Hid ((.slice A' i c' : Value) = .slice A' 16 c') := by show _ = _; rw [hi16]
      clear hi16
      have HE := Lib.hid ex_enc
      have HD := Lib.hid ex_dec
      generalize expandL exKey = ws at HX1 HE HD
      have HEA := Lib.hid (fun g W hW => enc_any g 10 ws exText W rfl (by omega) (by omega) hW)
      have HDA := Lib.hid (fun g W hW => dec_any g 10 ws exBlock W rfl (by omega) (by omega) hW)
      rw [HE.out] at HEA
      rw [HD.out] at HDA
      have q16 := eql_bytes (P := Try.prog) arr16B Try.underlying5 s8 exBlock exBlock rfl rfl
      rw [show decide (exBlock = exBlock) = true from by simp] at q16
      have q17 := eql_bytes (P := Try.prog) arr16B Try.underlying5 s8 exText exText rfl rfl
      rw [show decide (exText = exText) = true from by simp] at q17
      have hi16a : Hid ((Try.prog.info? 23).map (·.size) = some (exText.map bv).length) := i16B
      have hi16b : Hid ((Try.prog.info? 23).map (·.size) = some (exBlock.map bv).length) := i16B
      have hbl : Hid (zeros16.length = (exBlock.map bv).length) := rfl
      have hbd : Hid (∀ (a : Act) (o : Oper), True) := fun _ _ => trivial
      rw [hcast.out]
      go_wp2_with fail
      refine HX1.out.mono ?_
      rintro e w1 ⟨gk, rfl, hgk, hK, hB1⟩
      have K1 := Lib.hid ((hB1.block _ (lt_of_heap K0.out)).trans K0.out)
      have HK1 := Lib.hid hK
      have BW1 := Lib.hid (hBw.out.step hB1)
      clear hB1 hK hgk K0 hBw HX1
      go_wp2_with (first
        | (refine wpList_ld rfl 23 (.tmp 2) rfl (load_arr arr16B rfl hi16a.out K1.out) ?_)
        | fail)
      refine (HEA.out gk w1 HK1.out).mono ?_
      rintro e w2 ⟨rfl, hB2⟩
      have HK2 := Lib.hid (HK1.out.ext hB2)
      have K2 := Lib.hid ((hB2.block _ (lt_of_heap K1.out)).trans K1.out)
      have BW2 := Lib.hid (BW1.out.step hB2)
      have hl2 := Lib.hid (lt_of_heap K2.out)
      have hlk := Lib.hid (lt_of_heap HK2.out.2)
      clear hB2 K1 HK1 BW1
      go_upto_region 10 with (first
        | (refine wpList_st rfl 23 (.tmp 6) (.tmp 28) rfl (store_arr (cs := exBlock.map bv) (old := zeros16) hi16b.out (bv_one _) (heap_alloc_new' w2 _) hbl.out) ?_
           generalize hV : World.setRow _ _ _ = W5
           have M6 := Lib.hid (heap_of_setRow hV (heap_alloc_new' w2 _))
           have MB := Lib.hid (((Below.refl w2.heap.size w2).alloc (Nat.le_refl _) _).trans (below_of_setRow hV (Nat.le_refl w2.heap.size) (by simp)))
           clear hV)
        | fail)
      have K3 := Lib.hid ((MB.out.block _ hl2.out).trans K2.out)
      have HK3 := Lib.hid (HK2.out.ext MB.out)
      have BW3 := Lib.hid (BW2.out.step MB.out)
      clear K2 HK2 BW2 MB
      generalize w2.heap.size = g6 at M6 ⊢
      have G6 : Hid (∀ W, Ext W5 W → (Instr.loadAt 23 (.pointer (some ⟨g6, 0, none⟩))).run Try.prog W = .ok (.agg (exBlock.map bv).toArray) W) := fun W hW => load_arr arr16B rfl hi16b.out ((hW.block _ (lt_of_heap M6.out)).trans M6.out)
      have G2 : Hid (∀ W, Ext W5 W → (Instr.loadAt 23 (.pointer (some ⟨g2, 0, none⟩))).run Try.prog W = .ok (.agg (exText.map bv).toArray) W) := fun W hW => load_arr arr16B rfl hi16a.out ((hW.block _ (lt_of_heap K3.out)).trans K3.out)
      have HX : Hid (Ext W5 W5.drew) := (Below.refl _ _).drew
      refine reg_start (by kernel_rfl) ?_
      try simp only [Act.put, List.setIfInBounds_toArray, List.set_cons_zero, List.set_cons_succ]
      generalize W5.drew = W6 at HX ⊢
      refine reg_take (v := ?_) 0 (some 29) rfl rfl (by kernel_rfl) (by kernel_rfl) (by kernel_rfl) (fun _ _ _ h => h) (by rfl) (fun W hW => ?_) ?_
      rotate_left
      · (go_simp; try rfl)
      simp only [Act.put, List.setIfInBounds_toArray, List.set_cons_zero, List.set_cons_succ]
      refine reg_take (v := ?_) 1 (some 30) rfl rfl (by kernel_rfl) (by kernel_rfl) (by kernel_rfl) (fun _ _ _ h => h) (by rfl) (fun W hW => ?_) ?_
      rotate_left
      · (go_simp; try rfl)
      simp only [Act.put, List.setIfInBounds_toArray, List.set_cons_zero, List.set_cons_succ]
      refine reg_take (v := ?_) 2 (some 31) rfl rfl (by kernel_rfl) (by kernel_rfl) (by kernel_rfl) (fun _ _ _ h => h) (by rfl) (fun W hW => ?_) ?_
      rotate_left
      · (go_simp; try rfl)
      simp only [Act.put, List.setIfInBounds_toArray, List.set_cons_zero, List.set_cons_succ]
      refine reg_load 3 (some 32) (fun W hW => G6.out W (Ext.trans HX.out hW)) rfl rfl rfl rfl (by kernel_rfl) (by kernel_rfl) (by kernel_rfl) (fun _ _ _ h => h) (by rfl) ?_
      simp only [Act.put, List.setIfInBounds_toArray, List.set_cons_zero, List.set_cons_succ]
      refine reg_take (v := ?_) 4 (some 33) rfl rfl (by kernel_rfl) (by kernel_rfl) (by kernel_rfl) (fun _ _ _ h => h) (by rfl) (fun W hW => ?_) ?_
      rotate_left
      · refine Eq.trans (b := Result.ok (Next.value (Value.agg (exBlock.map bv).toArray)) W) (by kernel_rfl) ?_
        rfl
      simp only [Act.put, List.setIfInBounds_toArray, List.set_cons_zero, List.set_cons_succ]
      refine reg_take (v := ?_) 5 (some 34) rfl rfl (by kernel_rfl) (by kernel_rfl) (by kernel_rfl) (fun _ _ _ h => h) (by rfl) (fun W hW => ?_) ?_
      rotate_left
      · (go_simp; try rfl)
      simp only [Act.put, List.setIfInBounds_toArray, List.set_cons_zero, List.set_cons_succ]
      refine reg_take (v := ?_) 6 (some 35) rfl rfl (by kernel_rfl) (by kernel_rfl) (by kernel_rfl) (fun _ _ _ h => h) (by rfl) (fun W hW => ?_) ?_
      rotate_left
      · (go_simp; try rfl)
      simp only [Act.put, List.setIfInBounds_toArray, List.set_cons_zero, List.set_cons_succ]
      refine reg_take (v := ?_) 7 (some 36) rfl rfl (by kernel_rfl) (by kernel_rfl) (by kernel_rfl) (fun _ _ _ h => h) (by rfl) (fun W hW => ?_) ?_
      rotate_left
      · (go_simp; try rfl)
      simp only [Act.put, List.setIfInBounds_toArray, List.set_cons_zero, List.set_cons_succ]
      refine reg_take (v := ?_) 8 (some 37) rfl rfl (by kernel_rfl) (by kernel_rfl) (by kernel_rfl) (fun _ _ _ h => h) (by rfl) (fun W hW => ?_) ?_
      rotate_left
      · (go_simp; try rfl)
      simp only [Act.put, List.setIfInBounds_toArray, List.set_cons_zero, List.set_cons_succ]
      refine reg_load 9 (some 38) (fun W hW => G6.out W (Ext.trans HX.out hW)) rfl rfl rfl rfl (by kernel_rfl) (by kernel_rfl) (by kernel_rfl) (fun _ _ _ h => h) (by rfl) ?_
      simp only [Act.put, List.setIfInBounds_toArray, List.set_cons_zero, List.set_cons_succ]
      refine reg_load 11 (some 40) (fun W hW => G2.out W (Ext.trans HX.out hW)) rfl rfl rfl rfl (by kernel_rfl) (by kernel_rfl) (by kernel_rfl) (fun _ _ _ h => h) (by rfl) ?_
      simp only [Act.put, List.setIfInBounds_toArray, List.set_cons_zero, List.set_cons_succ]
      refine reg_eff 10 rfl (by kernel_rfl) (fun K hK => ?_)
      go_simp
      refine (HDA.out gk _ (HK3.out.ext HX.out)).mono ?_
      rintro e w4 ⟨rfl, hE⟩
      refine hK.out _ _ hE ?_
      have HX := Lib.hid (Ext.trans HX.out hE)
      clear hE hK K
      try simp only [Act.put, List.setIfInBounds_toArray, List.set_cons_zero, List.set_cons_succ]
      refine reg_take (v := ?_) 12 (some 41) rfl rfl (by kernel_rfl) (by kernel_rfl) (by kernel_rfl) (fun _ _ _ h => h) (by rfl) (fun W hW => ?_) ?_
      rotate_left
      · (go_simp; try rfl)
      simp only [Act.put, List.setIfInBounds_toArray, List.set_cons_zero, List.set_cons_succ]
      refine reg_take (v := ?_) 13 (some 42) rfl rfl (by kernel_rfl) (by kernel_rfl) (by kernel_rfl) (fun _ _ _ h => h) (by rfl) (fun W hW => ?_) ?_
      rotate_left
      · (go_simp; try rfl)
      simp only [Act.put, List.setIfInBounds_toArray, List.set_cons_zero, List.set_cons_succ]
      refine reg_take (v := ?_) 14 (some 0) rfl rfl (by kernel_rfl) (by kernel_rfl) (by kernel_rfl) (fun _ _ _ h => h) (by rfl) (fun W hW => ?_) ?_
      rotate_left
      · (go_simp; try rfl)
      simp only [Act.put, List.setIfInBounds_toArray, List.set_cons_zero, List.set_cons_succ]
      refine reg_done (by kernel_rfl) ?_
      go_wp2
      go_ret
      exact ⟨rfl, BW3.out.step HX.out⟩
end Go.Proofs.Ytbpbhmcemldbbaa

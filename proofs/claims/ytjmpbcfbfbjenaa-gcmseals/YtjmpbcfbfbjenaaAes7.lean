/- The contract of aes.backward. -/
import Derived.Test.YtjmpbcfbfbjenaaAes2
namespace Go.Proofs.Ytjmpbcfbfbjenaa
open Go.RowKit
set_option linter.unusedVariables false
set_option maxRecDepth 100000
set_option linter.unusedSimpArgs false
def backN : Nat → List UInt8
  | 0 => List.replicate 256 0
  | k + 1 => (backN k).set (sboxL.getD k 0).toNat (UInt8.ofNat k)
def backL : List UInt8 := backN 256
theorem backL_def : backN 256 = backL := by rw [backL]
theorem backN_len (k : Nat) : (backN k).length = 256 := by
  induction k with
  | zero => exact List.length_replicate
  | succ k ih => rw [backN, List.length_set, ih]
theorem backL_len : backL.length = 256 := by rw [← backL_def]; exact backN_len 256
theorem zeros_back : zeros256 = (backN 0).map bv := by unfold zeros256 backN; rw [List.map_replicate]; rfl
set_option maxRecDepth 100000 in
set_option maxHeartbeats 2000000 in
theorem backward_any (w : World) : Calls Try.prog 80 #[] w fun e w' => e = .returned (.agg (backL.map bv).toArray) ∧ Below w.heap.size w w' := by
  have HF := Lib.hid (fun W => forward_any W)
  have hsl := Lib.hid sboxL_len
  have hz := zeroTb
  have HI : Hid ((Try.prog.info? 97).map (·.size) = some (sboxL.map bv).length) := by show _ = _; rw [subCells]; exact iTb
  have HE : Hid (zeros256.length = (sboxL.map bv).length) := by show _ = _; rw [subCells, zeros256_len]
  have HBK : Hid (∀ k, backN (k + 1) = (backN k).set (sboxL.getD k 0).toNat (UInt8.ofNat k)) := fun _ => rfl
  generalize sboxL = S at HF hsl HI HE HBK
  obtain ⟨bl, hbl⟩ : ∃ bl, backL = bl := ⟨_, rfl⟩
  have HBL := Lib.hid hbl
  have HBD : Hid (backN 256 = bl) := backL_def.trans hbl
  have HLB : Hid (bl.length = 256) := by show _ = _; rw [← hbl]; exact backL_len
  rw [hbl]
  clear hbl HBL
  go_enter Try.func80, Try.ntmps80
  go_upto_region 1 with (fail)
  generalize hV : w.alloc _ = W0
  have F0 : Hid (W0.heap[w.heap.size]? = some (.cells zeros256.toArray 97 (0, 0))) := heap_of_alloc hV
  have FB := Lib.hid (below_of_alloc hV (Nat.le_refl w.heap.size))
  clear hV
  go_wp2_with fail
  refine (HF.out W0).mono ?_
  rintro e w1 ⟨rfl, hB1⟩
  have P0 := Lib.hid ((hB1.block _ (lt_of_heap F0.out)).trans F0.out)
  have PB := Lib.hid (FB.out.step hB1)
  have hgl := Lib.hid (lt_of_heap P0.out)
  clear hB1 F0 FB
  go_upto_region 3 with (first
    | (refine wpList_st rfl 97 (.tmp 1) (.tmp 4) rfl (store_arr (cs := S.map bv) (old := zeros256) HI.out (bv_one _) (heap_alloc_new' w1 _) HE.out) ?_
       generalize hV : World.setRow _ _ _ = W5
       have M0 := Lib.hid (heap_of_setRow hV (heap_alloc_new' w1 _))
       have MB := Lib.hid (((Below.refl w1.heap.size w1).alloc (Nat.le_refl _) _).trans (below_of_setRow hV (Nat.le_refl w1.heap.size) (by simp)))
       clear hV)
    | fail)
  generalize hV : W5.alloc _ = W6
  have A0 := Lib.hid (below_of_alloc hV (Nat.le_refl W5.heap.size))
  have N2 : Hid (W6.heap[W5.heap.size]? = some (.cells ((backN 0).map bv).toArray 97 (0, 0))) := by
    have := heap_of_alloc hV; rw [zeros_back] at this; exact this
  have N1 := Lib.hid ((A0.out.block _ (lt_of_heap M0.out)).trans M0.out)
  have N0 := Lib.hid ((A0.out.block _ (Nat.lt_of_lt_of_le hgl.out MB.out.size)).trans ((MB.out.block _ hgl.out).trans P0.out))
  have NB := Lib.hid ((PB.out.step MB.out).step A0.out)
  have hg1 : Hid (w1.heap.size < W5.heap.size) := lt_of_heap M0.out
  have hg0 : Hid (w.heap.size < W5.heap.size) := Nat.lt_of_lt_of_le hgl.out MB.out.size
  clear hV A0 M0 MB P0 PB
  generalize W5.heap.size = g2 at N2 hg1 hg0 ⊢
  generalize w1.heap.size = g1 at N1 hg1 hgl ⊢
  go_wp2_with fail
  go_loopw [5] (fun vi wr => ∃ (i : Nat), i ≤ 256 ∧ vi = .int .i64 (i : Int) ∧ Hid (Below w.heap.size w wr) ∧ Hid (wr.heap[w.heap.size]? = some (.cells zeros256.toArray 97 (0, 0))) ∧ Hid (wr.heap[g1]? = some (.cells (S.map bv).toArray 97 (0, 0))) ∧
     Hid (wr.heap[g2]? = some (.cells ((backN i).map bv).toArray 97 (0, 0)))) (fun i _ => 256 - (intOf i).toNat)
  case atStart => exact ⟨0, by omega, rfl, NB, N0, N1, N2⟩
  case round =>
    clear NB N0 N1 N2
    obtain ⟨i, hi, rfl, HB, H0, H1, H2⟩ := hrel
    by_cases hlt : i < 256
    · have q1 : (i : Int) < 256 := by omega
      have c1 := bcellT H1.out i (by rw [hsl.out]; exact hlt)
      have HST := Lib.hid (HBK.out i)
      generalize S.getD i 0 = z at c1 HST
      have hz8 := z.toNat_lt
      have q2 : (z.toNat : Int) < 256 := by omega
      have c2 := bcellT H2.out z.toNat (by rw [backN_len]; exact hz8)
      generalize (backN i).getD z.toNat 0 = old at c2
      have fz := frozen_of_heap H2.out z.toNat
      have e1 : (i : Int) % 256 = (i : Int) := by omega
      have hof : Hid (bv (UInt8.ofNat i) = .int .u8 (i : Int)) := by show _ = _; unfold bv; rw [UInt8.toNat_ofNat', Nat.mod_eq_of_lt (by omega)]
      go_wp2
      go_roundw
      case rel =>
        have k1 := hg1.out
        have k0 := hg0.out
        refine ⟨i + 1, by omega, by go_num, ?_, ?_, ?_, ?_⟩
        · exact HB.out.setCell (show w.heap.size ≤ g2 by omega) _
        · exact (Below.heap_setCell wr _ _ _ (show w.heap.size ≠ g2 by omega)).trans H0.out
        · exact (Below.heap_setCell wr _ _ _ (show g1 ≠ g2 by omega)).trans H1.out
        · have := heap_set H2.out z.toNat (bv (UInt8.ofNat i))
          rw [← List.map_set, ← HST.out, hof.out] at this
          exact this
      case measure => simp [intOf]; omega
    · have q1 : ¬ ((i : Int) < 256) := by omega
      have H2' : Hid (wr.heap[g2]? = some (.cells (bl.map bv).toArray 97 (0, 0))) := by have := H2.out; rw [show i = 256 by omega, HBD.out] at this; exact this
      have hl : Hid ((bl.map bv).length = 256) := by show _ = _; rw [List.length_map]; exact HLB.out
      have hone : Hid (∀ v ∈ bl.map bv, v.oneCell' = true) := bv_one _
      obtain ⟨L, HL⟩ : ∃ L, Hid (bl.map bv = L) := ⟨_, rfl⟩
      rw [HL.out] at hl H2' hone
      have hi1 : Hid ((Try.prog.info? 97).map (·.size) = some L.length) := by show _ = _; rw [hl.out]; exact iTb
      have hle : Hid (zeros256.length = L.length) := by show _ = _; rw [hl.out, zeros256_len]
      clear H2
      go_wp2_with (first
        | (refine wpList_ld rfl 97 (.tmp 2) rfl (load_arr arrTb rfl hi1.out H2'.out) ?_)
        | (refine wpList_st rfl 97 (.tmp 0) (.tmp 15) rfl (store_arr (cs := L) (old := zeros256) hi1.out hone.out H0.out hle.out) ?_))
      have hres := setRow_heap wr w.heap.size _ L.toArray 97 _ H0.out
      rw [HL.out]
      exact bodyPost_ret (results_cell_row (P := Try.prog) rfl _ _ w.heap.size 97 L.toArray (0, 0) _ rfl hres arrTb rfl (by rw [List.size_toArray, hl.out]; exact iTb)) rfl ⟨rfl, HB.out.trans (grown_below (grown_setRow _ _ _) (Nat.le_refl _) HB.out.size)⟩
end Go.Proofs.Ytjmpbcfbfbjenaa

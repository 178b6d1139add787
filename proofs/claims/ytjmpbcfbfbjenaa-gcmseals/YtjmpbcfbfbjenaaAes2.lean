/- The contracts of the table's calls, and of each. -/
import Derived.Test.YtjmpbcfbfbjenaaAes1
namespace Go.Proofs.Ytjmpbcfbfbjenaa
open Go.RowKit
set_option linter.unusedVariables false
set_option maxRecDepth 100000
set_option linter.unusedSimpArgs false
theorem bcellT {w : World} {g : Nat} {bs : List UInt8} {t : TypeId} {fr : Nat × Nat} (h : w.heap[g]? = some (.cells (bs.map bv).toArray t fr)) (i : Nat) (hi : i < bs.length) : w.cell? ⟨g, i, none⟩ = some (.int .u8 ((bs.getD i 0).toNat : Int)) := by
  rw [cell_of_heap h, List.getElem?_map, List.getElem?_eq_getElem hi]; simp [hi, List.getD, bv]
/-- the number of the bytes of x by the table, the first k of them -/
def wordN (T : List UInt8) (x : W32) (k : Nat) : Nat := littleN ((List.range k).map fun i => T.getD (byteAt x.toNat i).toNat 0)
def subW (T : List UInt8) (x : W32) : W32 := BitVec.ofNat 32 (wordN T x 4)
theorem wordN_lt (T : List UInt8) (x : W32) (k : Nat) : wordN T x k < 256 ^ k := by
  have := littleN_lt ((List.range k).map fun i => T.getD (byteAt x.toNat i).toNat 0)
  simpa [wordN] using this
theorem wordN_succ (T : List UInt8) (x : W32) (k : Nat) : wordN T x (k + 1) = wordN T x k + 256 ^ k * (T.getD (byteAt x.toNat k).toNat 0).toNat := by
  unfold wordN
  rw [List.range_succ, List.map_append, List.map_singleton, littleN_snoc]; simp
theorem subW_toNat (T : List UInt8) (x : W32) : ((subW T x).toNat : Int) = (wordN T x 4 : Int) := by
  have := wordN_lt T x 4
  rw [subW, BitVec.toNat_ofNat, Nat.mod_eq_of_lt (by omega)]
theorem or_shl32 (N x k : Nat) (hN : N < 256 ^ k) (hx : x < 256) (hk : k < 4) : bits .or .u32 (N : Int) ((x : Int) * 2 ^ (8 * k) % 4294967296) = ((N + 256 ^ k * x : Nat) : Int) := by
  have h8 : (256 : Nat) ^ 4 = 4294967296 := by decide
  have h1 : 256 ^ k * x < 256 ^ (k + 1) := by
    rw [Nat.pow_succ]; exact Nat.mul_lt_mul_of_pos_left hx (Nat.pow_pos (by decide))
  have h2 : 256 ^ (k + 1) ≤ 256 ^ 4 := Nat.pow_le_pow_right (by decide) (by omega)
  have h3 : (256 : Nat) ^ k ≤ 256 ^ 4 := Nat.pow_le_pow_right (by decide) (by omega)
  have e : ((x : Int) * 2 ^ (8 * k)) = ((256 ^ k * x : Nat) : Int) := by rw [pow256, Nat.mul_comm (2 ^ (8 * k)) x]; simp
  rw [e, Int.emod_eq_of_lt (by omega) (by omega), u32_or_nat _ _ (by omega) (by omega), Nat.or_comm, nat_join (8 * k) _ N ?_ (by rw [← pow256]; exact hN)]
  · rw [Nat.add_comm]
  · rw [← pow256]; exact Nat.mul_mod_right _ _
theorem at_math32 (x : W32) (i : Nat) (hi : i < 4) : (x.toNat : Int) / 2 ^ (8 * i) % 256 = ((byteAt x.toNat i).toNat : Int) := by
  have := at_math x.toNat i (by have := x.isLt; omega)
  rw [Nat.min_eq_left (by omega)] at this; exact this
set_option maxHeartbeats 1000000 in
theorem word_any (g : Nat) (T : List UInt8) (x : W32) (w : World) {t : TypeId} {fr : Nat × Nat} (hl : T.length = 256) (hT : w.heap[g]? = some (.cells (T.map bv).toArray t fr)) :
    Calls Try.prog 90 #[.pointer (some ⟨g, 0, none⟩), wv x] w fun e w' => e = .returned (wv (subW T x)) ∧ w = w' := by
  unfold wv
  rw [subW_toNat]
  have HL := Lib.hid hl; have HT := Lib.hid hT
  clear hl hT
  go_enter Try.func90, Try.ntmps90
  go_wp2_with fail
  go_loop [5, 7] (fun vo vi => ∃ (i N : Nat), i ≤ 4 ∧ vi = .int .i64 (i : Int) ∧ vo = .int .u32 (N : Int) ∧ Hid (N = wordN T x i)) (fun _ i => 4 - (intOf i).toNat)
  case atStart => exact ⟨0, 0, by omega, rfl, rfl, rfl⟩
  case round =>
    obtain ⟨i, N, hi, rfl, rfl, HN⟩ := hrel
    by_cases hlt : i < 4
    · have q1 : (i : Int) < 4 := by omega
      have h0 : (0 : Int) ≤ 8 * (i : Int) := by omega
      have h1 : (8 * (i : Int)).toNat = 8 * i := by omega
      have am := at_math32 x i hlt
      have HS := Lib.hid (wordN_succ T x i)
      have c0 := bcellT HT.out (byteAt x.toNat i).toNat (by rw [HL.out]; exact (byteAt x.toNat i).toNat_lt)
      have hb := (byteAt x.toNat i).toNat_lt
      have hN4 : Hid (N < 256 ^ i) := by show _ < _; rw [HN.out]; exact wordN_lt T x i
      generalize T.getD (byteAt x.toNat i).toNat 0 = z at c0 HS
      generalize byteAt x.toNat i = bb at c0 am hb
      have q2 : (bb.toNat : Int) < 256 := by omega
      have OS := Lib.hid (or_shl32 N z.toNat i hN4.out z.toNat_lt hlt)
      have hm : min (8 * i) 32 = 8 * i := by omega
      go_wp2
      go_round
      case rel =>
        refine ⟨i + 1, N + 256 ^ i * z.toNat, by omega, by go_num, ?_, ?_⟩
        · have hz := z.toNat_lt
          rw [Int.emod_eq_of_lt (a := (z.toNat : Int)) (by omega) (by omega), OS.out]
        · show _ = _; rw [HS.out, ← HN.out]
      case measure => simp [intOf]; omega
    · go_wp2
      go_ret
      exact ⟨ret_int (by rw [HN.out, show i = 4 by omega]), rfl⟩
theorem arr4W : Try.prog.underlying 99 = some (.array 4 88) := Try.underlying99
theorem i4W : (Try.prog.info? 99).map (·.size) = some 4 := by kernel_rfl
theorem s32' : (Try.prog.info? 88).map (·.size) = some 1 := by kernel_rfl
def eachN (f : W32 → W32) (s : List W32) (i : Nat) : List W32 := (s.take i).map f ++ s.drop i
theorem eachN_step (f : W32 → W32) (s : List W32) (i : Nat) (hi : i < s.length) : (eachN f s i).set i (f (s.getD i 0)) = eachN f s (i + 1) := by
  have hl : ((s.take i).map f).length = i := by simp; omega
  unfold eachN
  rw [List.set_append_right _ _ (by omega), hl, Nat.sub_self, List.drop_eq_getElem_cons hi, List.set_cons_zero, List.take_succ_eq_append_getElem hi, List.map_append, List.append_assoc]
  simp [List.getD, hi]
theorem eachN_get (f : W32 → W32) (s : List W32) (i : Nat) (hi : i < s.length) : (eachN f s i).getD i 0 = s.getD i 0 := by
  have hl : ((s.take i).map f).length = i := by simp; omega
  rw [eachN, List.getD_eq_getElem?_getD, List.getElem?_append_right (by omega), hl, List.getElem?_drop, List.getD_eq_getElem?_getD]; simp
theorem eachN_len (f : W32 → W32) (s : List W32) (i : Nat) : (eachN f s i).length = s.length := by simp [eachN]; omega
theorem eachN_end (f : W32 → W32) (s : List W32) : eachN f s s.length = s.map f := by simp [eachN]
set_option maxHeartbeats 2000000 in
theorem each_any (F : FuncId) (pre : Array Value) (cap : Array Value) (f : W32 → W32) (s : List W32) (w : World) (hs : s.length = 4) (hcall : ∀ args W, (callFunc F args).run Try.prog W = .ok (.enter F args) W)
    (hF : ∀ x W, Below w.heap.size w W → Calls Try.prog F (pre.push (wv x) ++ cap) W fun e W' => e = .returned (wv (f x)) ∧ W = W') :
    Calls Try.prog 73 #[.func (.func F) pre cap, .agg (s.map wv).toArray] w fun e w' => e = .returned (.agg ((s.map f).map wv).toArray) ∧ Below w.heap.size w w' := by
  have HSL := Lib.hid hs; have HF := Lib.hid hF
  clear hs hF
  go_enter Try.func73, Try.ntmps73
  go_wp2_with fail
  generalize hV : (w.alloc _).alloc _ = W0
  have F0 : Hid (W0.heap[w.heap.size]? = some (.cells ((eachN f s 0).map wv).toArray 99 (0, 0))) := by rw [← hV]; exact (heap2 w _ _).1
  have F1 : Hid (W0.heap[w.heap.size + 1]? = some (.cells (List.replicate 4 (Value.int .u32 0)).toArray 99 (0, 0))) := by rw [← hV]; exact (heap2 w _ _).2.1
  have FB : Hid (Below w.heap.size w W0) := by rw [← hV]; exact (heap2 w _ _).2.2
  clear hV
  go_loopw [6] (fun vi wr => ∃ (i : Nat), i ≤ 4 ∧ vi = .int .i64 (i : Int) ∧ Hid (Below w.heap.size w wr) ∧ Hid (wr.heap[w.heap.size]? = some (.cells ((eachN f s i).map wv).toArray 99 (0, 0))) ∧ Hid (wr.heap[w.heap.size + 1]? = some (.cells (List.replicate 4 (Value.int .u32 0)).toArray 99 (0, 0)))) (fun i _ => 4 - (intOf i).toNat)
  case atStart => exact ⟨0, by omega, rfl, FB, F0, F1⟩
  case round =>
    clear F0 F1 FB
    obtain ⟨i, hi, rfl, HB, H0, H1⟩ := hrel
    by_cases hlt : i < 4
    · have q1 : (i : Int) < 4 := by omega
      have c0 := wcell H0.out i (by rw [eachN_len, HSL.out]; exact hlt)
      rw [eachN_get f s i (by rw [HSL.out]; exact hlt)] at c0
      have fz := frozen_of_heap H0.out i
      have HST := Lib.hid (eachN_step f s i (by rw [HSL.out]; exact hlt))
      have HFX := Lib.hid (HF.out (s.getD i 0) wr HB.out)
      generalize f (s.getD i 0) = z at HST HFX
      generalize s.getD i 0 = x at c0 HFX
      go_wp2_with fail
      refine HFX.out.mono ?_
      rintro e w1 ⟨he, rfl⟩
      have he' : e = .returned (.int .u32 (z.toNat : Int)) := he
      clear he
      subst he'
      go_wp2
      go_roundw
      case rel =>
        refine ⟨i + 1, by omega, by go_num, ?_, ?_, ?_⟩
        · exact HB.out.setCell (Nat.le_refl _) _
        · have := heap_set H0.out i (wv z)
          rw [← List.map_set, HST.out] at this
          exact this
        · exact (Below.heap_setCell wr _ _ _ (Nat.succ_ne_self _)).trans H1.out
      case measure => simp [intOf]; omega
    · have H0' : Hid (wr.heap[w.heap.size]? = some (.cells ((s.map f).map wv).toArray 99 (0, 0))) := by have := H0.out; rw [show i = s.length by rw [HSL.out]; omega, eachN_end] at this; exact this
      have hl4 : Hid (((s.map f).map wv).length = 4) := by show _ = _; rw [List.length_map, List.length_map, HSL.out]
      clear H0
      obtain ⟨L, HLL⟩ : ∃ L, Hid ((s.map f).map wv = L) := ⟨_, rfl⟩
      have hone : Hid (∀ v ∈ L, v.oneCell' = true) := by show ∀ v ∈ L, _; rw [← HLL.out]; exact wv_one _
      rw [HLL.out] at H0' hl4
      go_wp2_with (first
        | (refine wpList_ld rfl 99 (.tmp 3) rfl (load_arr arr4W rfl (by rw [hl4.out]; exact i4W) H0'.out) ?_)
        | (refine wpList_st rfl 99 (.tmp 4) (.tmp 17) rfl (store_arr (cs := L) (by rw [hl4.out]; exact i4W) hone.out H1.out (by rw [hl4.out]; simp)) ?_))
      have hres := setRow_heap wr (w.heap.size + 1) _ L.toArray 99 _ H1.out
      exact bodyPost_ret (results_cell_row (P := Try.prog) rfl _ _ (w.heap.size + 1) 99 L.toArray (0, 0) _ rfl hres arr4W rfl (by rw [List.size_toArray, hl4.out]; exact i4W)) rfl ⟨by rw [HLL.out], HB.out.trans (grown_below (grown_setRow _ _ _) (Nat.le_succ _) HB.out.size)⟩
theorem callWord : ∀ args W, (callFunc 90 args).run Try.prog W = .ok (.enter 90 args) W := fun _ _ => by kernel_rfl
theorem callMix : ∀ args W, (callFunc 74 args).run Try.prog W = .ok (.enter 74 args) W := fun _ _ => by kernel_rfl
theorem callUnmix : ∀ args W, (callFunc 81 args).run Try.prog W = .ok (.enter 81 args) W := fun _ _ => by kernel_rfl
theorem each_mix (s : List W32) (w : World) (hs : s.length = 4) : Calls Try.prog 73 #[.func (.func 74) #[] #[], .agg (s.map wv).toArray] w fun e w' => e = .returned (.agg ((s.map mixW).map wv).toArray) ∧ Below w.heap.size w w' :=
  each_any _ #[] #[] mixW s w hs callMix (fun x W _ => mixW_any x W)
theorem each_unmix (s : List W32) (w : World) (hs : s.length = 4) : Calls Try.prog 73 #[.func (.func 81) #[] #[], .agg (s.map wv).toArray] w fun e w' => e = .returned (.agg ((s.map unmixW).map wv).toArray) ∧ Below w.heap.size w w' :=
  each_any _ #[] #[] unmixW s w hs callUnmix (fun x W _ => unmixW_any x W)
set_option maxHeartbeats 1000000 in
theorem all_any (g : Nat) (T : List UInt8) (s : List W32) (w : World) {t : TypeId} {fr : Nat × Nat} (hs : s.length = 4) (hl : T.length = 256) (hT : w.heap[g]? = some (.cells (T.map bv).toArray t fr)) :
    Calls Try.prog 76 #[.pointer (some ⟨g, 0, none⟩), .agg (s.map wv).toArray] w fun e w' => e = .returned (.agg ((s.map (subW T)).map wv).toArray) ∧ Below w.heap.size w w' := by
  have HE : Hid (∀ W, Below w.heap.size w W → Calls Try.prog 73 #[.func (.func 90) #[.pointer (some ⟨g, 0, none⟩)] #[], .agg (s.map wv).toArray] W fun e w' => e = .returned (.agg ((s.map (subW T)).map wv).toArray) ∧ Below W.heap.size W w') := fun W hW =>
    each_any _ #[.pointer (some ⟨g, 0, none⟩)] #[] (subW T) s W hs callWord (fun x W' hW' => word_any g T x W' hl ((hW'.block _ (Nat.lt_of_lt_of_le (lt_of_heap hT) hW.size)).trans ((hW.block _ (lt_of_heap hT)).trans hT)))
  have hl4 : Hid (((s.map (subW T)).map wv).length = 4) := by show _ = _; rw [List.length_map, List.length_map, hs]
  have hi4 : Hid ((Try.prog.info? 99).map (·.size) = some (s.map wv).length) := by show _ = _; rw [List.length_map, hs]; exact i4W
  have hone : Hid (∀ v ∈ (s.map (subW T)).map wv, v.oneCell' = true) := wv_one _
  generalize (s.map (subW T)).map wv = L at HE hl4 hone ⊢
  clear hs hl hT
  go_enter Try.func76, Try.ntmps76
  go_upto_region 1 with (fail)
  generalize hV : (w.alloc _).alloc _ = W0
  have F0 : Hid (W0.heap[w.heap.size]? = some (.cells (s.map wv).toArray 99 (0, 0))) := by rw [← hV]; exact (heap2 w _ _).1
  have F1 : Hid (W0.heap[w.heap.size + 1]? = some (.cells (List.replicate 4 (Value.int .u32 0)).toArray 99 (0, 0))) := by rw [← hV]; exact (heap2 w _ _).2.1
  have FB : Hid (Below w.heap.size w W0) := by rw [← hV]; exact (heap2 w _ _).2.2
  clear hV
  go_wp2_with (first
    | (refine wpList_ld rfl 99 (.tmp 3) rfl (load_arr arr4W rfl hi4.out F0.out) ?_)
    | fail)
  refine (HE.out W0 FB.out).mono ?_
  rintro e w1 ⟨rfl, hB1⟩
  have P1 := Lib.hid ((hB1.block _ (lt_of_heap F1.out)).trans F1.out)
  have PB := Lib.hid (FB.out.step hB1)
  clear hB1
  go_wp2_with (first
    | (refine wpList_st rfl 99 (.tmp 4) (.tmp 8) rfl (store_arr (cs := L) (by rw [hl4.out]; exact i4W) hone.out P1.out (by rw [hl4.out]; simp)) ?_)
    | fail)
  have hres := setRow_heap w1 (w.heap.size + 1) _ L.toArray 99 _ P1.out
  exact bodyPost_ret (results_cell_row (P := Try.prog) rfl _ _ (w.heap.size + 1) 99 L.toArray (0, 0) _ rfl hres arr4W rfl (by rw [List.size_toArray, hl4.out]; exact i4W)) rfl ⟨rfl, PB.out.trans (grown_below (grown_setRow _ _ _) (Nat.le_succ _) PB.out.size)⟩
end Go.Proofs.Ytjmpbcfbfbjenaa

/- The contract of aes.shifted. -/
import Derived.Test.YtjmpbcfbfbjenaaAes2
import Derived.StillTailTactics
namespace Go.Proofs.Ytjmpbcfbfbjenaa
open Go.RowKit
set_option linter.unusedVariables false
set_option maxRecDepth 100000
set_option linter.unusedSimpArgs false
/-- column c of the block s, each row turned round by n columns, the first r rows of it -/
def shCol (n : Nat) (s : List W32) (c : Nat) : Nat → W32
  | 0 => 0
  | r + 1 => shCol n s c r ||| (s.getD ((c + n * r) % 4) 0 &&& (4278190080#32 >>> (8 * r)))
def shiftW (n : Nat) (s : List W32) : List W32 := (List.range 4).map fun c => shCol n s c 4
def shN (n : Nat) (s : List W32) (c r : Nat) : List W32 := (List.range c).map (fun j => shCol n s j 4) ++ (shCol n s c r :: List.replicate (3 - c) 0)
def shD (n : Nat) (s : List W32) (c : Nat) : List W32 := (List.range c).map (fun j => shCol n s j 4) ++ List.replicate (4 - c) 0
theorem shD_N (n : Nat) (s : List W32) (c : Nat) (hc : c < 4) : shD n s c = shN n s c 0 := by
  unfold shD shN; rw [show 4 - c = (3 - c) + 1 by omega, List.replicate_succ]; rfl
theorem shN_D (n : Nat) (s : List W32) (c : Nat) (hc : c < 4) : shN n s c 4 = shD n s (c + 1) := by
  unfold shD shN; rw [List.range_succ, List.map_append, List.append_assoc, show 4 - (c + 1) = 3 - c by omega]; rfl
theorem shN_step (n : Nat) (s : List W32) (c r : Nat) : (shN n s c r).set c (shCol n s c (r + 1)) = shN n s c (r + 1) := by
  unfold shN; rw [List.set_append_right _ _ (by simp)]; simp
theorem shN_get (n : Nat) (s : List W32) (c r : Nat) : (shN n s c r).getD c 0 = shCol n s c r := by
  unfold shN; rw [List.getD_eq_getElem?_getD, List.getElem?_append_right (by simp)]; simp
theorem shN_len (n : Nat) (s : List W32) (c r : Nat) (hc : c < 4) : (shN n s c r).length = 4 := by simp [shN]; omega
theorem shD_len (n : Nat) (s : List W32) (c : Nat) (hc : c ≤ 4) : (shD n s c).length = 4 := by simp [shD]; omega
theorem shD_end (n : Nat) (s : List W32) : shD n s 4 = shiftW n s := by simp [shD, shiftW]
theorem shiftW_len (n : Nat) (s : List W32) : (shiftW n s).length = 4 := by simp [shiftW]
theorem shrK (e : Nat) (he : e ≤ 24) : (4278190080 : Int) / 2 ^ e = ((4278190080#32 >>> e).toNat : Int) := by
  rw [shr32]; rfl
set_option maxHeartbeats 2000000 in
theorem shifted_any (n : Nat) (s : List W32) (w : World) (hn : n ≤ 3) (hs : s.length = 4) :
    Calls Try.prog 75 #[.int .i64 (n : Int), .agg (s.map wv).toArray] w fun e w' => e = .returned (.agg ((shiftW n s).map wv).toArray) ∧ Below w.heap.size w w' := by
  have HSL := Lib.hid hs
  clear hs
  go_enter Try.func75, Try.ntmps75
  go_wp2_with fail
  generalize hV : ((w.alloc _).alloc _).alloc _ = W0
  have F0 : Hid (W0.heap[w.heap.size]? = some (.cells (s.map wv).toArray 99 (0, 0))) := by rw [← hV]; exact (heap3 w _ _ _).1
  have F1 : Hid (W0.heap[w.heap.size + 1]? = some (.cells (List.replicate 4 (Value.int .u32 0)).toArray 99 (0, 0))) := by rw [← hV]; exact (heap3 w _ _ _).2.1
  have F2 : Hid (W0.heap[w.heap.size + 1 + 1]? = some (.cells ((shD n s 0).map wv).toArray 99 (0, 0))) := by rw [← hV]; exact (heap3 w _ _ _).2.2.1
  have FB : Hid (Below w.heap.size w W0) := by rw [← hV]; exact (heap3 w _ _ _).2.2.2
  clear hV
  generalize hg2 : w.heap.size + 1 + 1 = g2 at F2 ⊢
  generalize hg1 : w.heap.size + 1 = g1 at F1 ⊢
  have HG2 : Hid (w.heap.size + 1 + 1 = g2) := hg2
  have HG1 : Hid (w.heap.size + 1 = g1) := hg1
  clear hg1 hg2
  go_loopw [8] (fun vi wr => ∃ (c : Nat), c ≤ 4 ∧ vi = .int .i64 (c : Int) ∧ Hid (Below w.heap.size w wr) ∧ Hid (wr.heap[w.heap.size]? = some (.cells (s.map wv).toArray 99 (0, 0))) ∧ Hid (wr.heap[g1]? = some (.cells (List.replicate 4 (Value.int .u32 0)).toArray 99 (0, 0))) ∧
     Hid (wr.heap[g2]? = some (.cells ((shD n s c).map wv).toArray 99 (0, 0)))) (fun i _ => 4 - (intOf i).toNat)
  case atStart => exact ⟨0, by omega, rfl, FB, F0, F1, F2⟩
  case round =>
    clear F0 F1 F2 FB
    obtain ⟨c, hc, rfl, HB, H0, H1, H2⟩ := hrel
    by_cases hlc : c < 4
    · have q1 : (c : Int) < 4 := by omega
      rw [shD_N n s c hlc] at H2
      obtain ⟨wo, hwo⟩ : ∃ x, x = wr := ⟨_, rfl⟩
      subst hwo
      go_wp2_with fail
      go_loopw [11] (fun vi wr => ∃ (r : Nat), r ≤ 4 ∧ vi = .int .i64 (r : Int) ∧ Hid (Below w.heap.size w wr) ∧ Hid (wr.heap[w.heap.size]? = some (.cells (s.map wv).toArray 99 (0, 0))) ∧ Hid (wr.heap[g1]? = some (.cells (List.replicate 4 (Value.int .u32 0)).toArray 99 (0, 0))) ∧
         Hid (wr.heap[g2]? = some (.cells ((shN n s c r).map wv).toArray 99 (0, 0)))) (fun i _ => 4 - (intOf i).toNat)
      case atStart => exact ⟨0, by omega, rfl, HB, H0, H1, H2⟩
      case round =>
        clear HB H0 H1 H2
        obtain ⟨r, hr, rfl, HB, H0, H1, H2⟩ := hrel
        by_cases hlr : r < 4
        · have q2 : (r : Int) < 4 := by omega
          have c2 := wcell H2.out c (by rw [shN_len n s c r hlc]; exact hlc)
          rw [shN_get] at c2
          have fz := frozen_of_heap H2.out c
          have HST := Lib.hid (shN_step n s c r)
          obtain ⟨p, hp⟩ : ∃ p, p = n * r := ⟨_, rfl⟩
          have hp9 : p ≤ 9 := by
            rw [hp]
            exact Nat.le_trans (Nat.mul_le_mul hn (show r ≤ 3 by omega)) (by decide)
          obtain ⟨q, hq⟩ : ∃ q, q = c + p := ⟨_, rfl⟩
          obtain ⟨m, hm⟩ : ∃ m, m = q % 4 := ⟨_, rfl⟩
          obtain ⟨e, he⟩ : ∃ e, e = 8 * r := ⟨_, rfl⟩
          obtain ⟨K, hK⟩ : ∃ K, K = 4278190080#32 >>> e := ⟨_, rfl⟩
          have hco : shCol n s c (r + 1) = shCol n s c r ||| (s.getD m 0 &&& K) := by rw [hm, hq, hp, hK, he]; rfl
          rw [hco] at HST
          have c0 := wcell H0.out m (by rw [HSL.out]; omega)
          have o1 : IntKind.i64.wrap ((n : Int) * (r : Int)) = (p : Int) := by rw [hp, IntKind.wrap_i64, ← Int.natCast_mul]; rw [hp] at hp9; omega
          have o2 : IntKind.i64.wrap ((c : Int) + (p : Int)) = (q : Int) := by rw [IntKind.wrap_i64]; omega
          have o3 : (q : Int).tmod 4 = (m : Int) := by rw [Int.tmod_eq_emod_of_nonneg (by omega)]; omega
          have o3' : (q : Int) % 4 = (m : Int) := by omega
          have o4 : IntKind.i64.wrap (8 * (r : Int)) = (e : Int) := by rw [IntKind.wrap_i64]; omega
          have o5 : IntKind.u64.wrap (e : Int) = (e : Int) := by rw [IntKind.wrap_u64]; omega
          have o6 : IntKind.i64.wrap (m : Int) = (m : Int) := by rw [IntKind.wrap_i64]; omega
          have q3 : (m : Int) < 4 := by omega
          have he32 : min e 32 = e := by omega
          have o7 : (4278190080 : Int) / 2 ^ e = (K.toNat : Int) := by rw [hK]; exact shrK e (by omega)
          generalize s.getD m 0 = y at c0 HST
          generalize shCol n s c r = z at c2 HST
          clear hp hq hm he hK hco hp9
          go_wp2_with fail
          go_still_tail 18, (by kernel_rfl)
          change wpList _ _ _ _ _ wr.drew
          clear o1 o2 o3 o3' o4 o5 o6 o7 he32
          go_wp2
          go_roundw
          case rel =>
            have k2 := HG2.out
            have k1 := HG1.out
            refine ⟨r + 1, by omega, by go_num, ?_, ?_, ?_, ?_⟩
            · exact HB.out.drew.setCell (show w.heap.size ≤ g2 by omega) _
            · exact (Below.heap_setCell wr.drew _ _ _ (show w.heap.size ≠ g2 by omega)).trans H0.out
            · exact (Below.heap_setCell wr.drew _ _ _ (show g1 ≠ g2 by omega)).trans H1.out
            · have h1 : ((shN n s c r).map wv).set c (Value.int .u32 (bits .or .u32 (z.toNat : Int) (bits .and .u32 (y.toNat : Int) (K.toNat : Int)))) = (shN n s c (r + 1)).map wv := by
                rw [and32, or32, ← HST.out, List.map_set]; rfl
              have := heap_set (w := wr.drew) H2.out c (Value.int .u32 (bits .or .u32 (z.toNat : Int) (bits .and .u32 (y.toNat : Int) (K.toNat : Int))))
              rw [h1] at this
              exact this
          case measure => simp [intOf]; omega
        · have H2' := H2.out
          rw [show r = 4 by omega, shN_D n s c hlc] at H2'
          have K2 := Lib.hid H2'
          clear H2' H2
          go_wp2
          go_roundw
          case rel => exact ⟨c + 1, by omega, by go_num, HB, H0, H1, K2⟩
          case measure => simp [intOf]; omega
    · have H2' : Hid (wr.heap[g2]? = some (.cells ((shiftW n s).map wv).toArray 99 (0, 0))) := by have := H2.out; rw [show c = 4 by omega, shD_end] at this; exact this
      have hl4 : Hid (((shiftW n s).map wv).length = 4) := by show _ = _; rw [List.length_map, shiftW_len]
      clear H2
      obtain ⟨L, HLL⟩ : ∃ L, Hid ((shiftW n s).map wv = L) := ⟨_, rfl⟩
      have hone : Hid (∀ v ∈ L, v.oneCell' = true) := by show ∀ v ∈ L, _; rw [← HLL.out]; exact wv_one _
      rw [HLL.out] at H2' hl4
      go_wp2_with (first
        | (refine wpList_ld rfl 99 (.tmp 5) rfl (load_arr arr4W rfl (by rw [hl4.out]; exact i4W) H2'.out) ?_)
        | (refine wpList_st rfl 99 (.tmp 4) (.tmp 34) rfl (store_arr (cs := L) (by rw [hl4.out]; exact i4W) hone.out H1.out (by rw [hl4.out]; simp)) ?_))
      have hres := setRow_heap wr g1 _ L.toArray 99 _ H1.out
      exact bodyPost_ret (results_cell_row (P := Try.prog) rfl _ _ g1 99 L.toArray (0, 0) _ rfl hres arr4W rfl (by rw [List.size_toArray, hl4.out]; exact i4W)) rfl ⟨by rw [HLL.out], HB.out.trans (grown_below (grown_setRow _ _ _) (by have := HG1.out; omega) HB.out.size)⟩
end Go.Proofs.Ytjmpbcfbfbjenaa

/- The contracts of chacha.Stream and chacha.Crypt. -/
import Derived.Test.YtfcnahbbieldfaaCha5
import Derived.Test.YtfcnahbbieldfaaBits3
namespace Go.Proofs.Ytfcnahbbieldfaa
open Go.RowKit
set_option maxRecDepth 100000
set_option linter.unusedVariables false
set_option linter.unusedSimpArgs false
def ctrAt (n : W32) (i : Nat) : W32 := n + BitVec.ofNat 32 i
/-- the first k blocks from a counter on -/
def blocksC (key nonce : List UInt8) (n : W32) (k : Nat) : List UInt8 := (List.range k).flatMap fun i => blockC key nonce (ctrAt n i)
theorem blocksC_succ (key nonce : List UInt8) (n : W32) (k : Nat) : blocksC key nonce n (k + 1) = blocksC key nonce n k ++ blockC key nonce (ctrAt n k) := by
  simp [blocksC, List.range_succ, List.flatMap_append]
theorem blocksC_len (key nonce : List UInt8) (n : W32) (k : Nat) : (blocksC key nonce n k).length = 64 * k := by
  induction k with
  | zero => rfl
  | succ k ih => rw [blocksC_succ, List.length_append, ih, blockC_len]; omega
def streamC (key nonce : List UInt8) (n : W32) (m : Nat) : List UInt8 := (blocksC key nonce n ((m + 63) / 64)).take m
theorem streamC_len (key nonce : List UInt8) (n : W32) (m : Nat) : (streamC key nonce n m).length = m := by
  rw [streamC, List.length_take, blocksC_len]; omega
def streamN (key nonce : List UInt8) (n : W32) (m k : Nat) : List UInt8 := (blocksC key nonce n k).take m ++ List.replicate (m - 64 * k) 0
theorem streamN_len (key nonce : List UInt8) (n : W32) (m k : Nat) : (streamN key nonce n m k).length = m := by
  rw [streamN, List.length_append, List.length_take, blocksC_len, List.length_replicate]; omega
theorem streamN_zero (key nonce : List UInt8) (n : W32) (m : Nat) : (streamN key nonce n m 0).map bv = List.replicate m (Value.int .u8 0) := by
  simp [streamN, blocksC, bv]
theorem streamN_end (key nonce : List UInt8) (n : W32) (m : Nat) : streamN key nonce n m ((m + 63) / 64) = streamC key nonce n m := by
  rw [streamN, streamC, show m - 64 * ((m + 63) / 64) = 0 by omega]; simp
theorem streamN_step (key nonce : List UInt8) (n : W32) (m k : Nat) (hk : 64 * k < m) :
    splice ((streamN key nonce n m k).map bv) (64 * k) (((blockC key nonce (ctrAt n k)).take (min 64 (m - 64 * k))).map bv) = (streamN key nonce n m (k + 1)).map bv := by
  have hl := blocksC_len key nonce n k
  have hb := blockC_len key nonce (ctrAt n k)
  have h1 := blocksC_succ key nonce n k
  unfold streamN
  rw [h1]
  generalize blocksC key nonce n k = A at hl ⊢
  generalize blockC key nonce (ctrAt n k) = X at hb ⊢
  obtain ⟨c, hc⟩ : ∃ c, c = min 64 (m - 64 * k) := ⟨_, rfl⟩
  rw [← hc, List.take_of_length_le (by omega), List.take_append, List.take_of_length_le (i := m) (by omega), hl]
  have e1 : List.replicate (m - 64 * k) (0 : UInt8) = List.replicate c 0 ++ List.replicate (m - 64 * (k + 1)) 0 := by
    rw [List.replicate_append_replicate]; congr 1; omega
  have e2 : X.take (m - 64 * k) = X.take c := by
    rcases Nat.le_total 64 (m - 64 * k) with h | h
    · rw [List.take_of_length_le (by omega), List.take_of_length_le (by omega)]
    · rw [hc, Nat.min_eq_right h]
  rw [e1, e2, List.map_append, List.map_append, ← List.append_assoc, List.map_append, List.map_append]
  have := splice_split (A.map bv) ((List.replicate c (0 : UInt8)).map bv) ((List.replicate (m - 64 * (k + 1)) (0 : UInt8)).map bv) ((X.take c).map bv) (by simp; omega)
  rw [List.length_map, hl] at this
  exact this
theorem ctr_wrap (n : W32) (i : Nat) : ((n.toNat : Int) + (i : Int)) % 4294967296 = ((ctrAt n i).toNat : Int) := by
  unfold ctrAt; rw [BitVec.toNat_add, BitVec.toNat_ofNat]; omega
/-- where a stream is being laid -/
def StrH (w W : World) (g : Nat) (key nonce : List UInt8) (l : List Value) : Prop :=
  Below w.heap.size w W ∧ W.heap[w.heap.size]? = some (.cells (key.map bv).toArray 22 (0, 0)) ∧ W.heap[w.heap.size + 1]? = some (.cells (nonce.map bv).toArray 27 (0, 0)) ∧ W.heap[g]? = some (.cells l.toArray 5 (0, 0))
theorem StrH.step {w W W' : World} {g : Nat} {key nonce : List UInt8} {l : List Value} (h : StrH w W g key nonce l) (hb : Below W.heap.size W W') : StrH w W' g key nonce l :=
  ⟨h.1.step hb, (hb.block _ (lt_of_heap h.2.1)).trans h.2.1, (hb.block _ (lt_of_heap h.2.2.1)).trans h.2.2.1, (hb.block _ (lt_of_heap h.2.2.2)).trans h.2.2.2⟩
theorem StrH.put {w W W' : World} {g : Nat} {key nonce : List UInt8} {l l' : List Value} (h : StrH w W g key nonce l) (hg : w.heap.size + 1 < g) (hb : W.grownBy W' (some g)) (hl : W'.heap[g]? = some (.cells l'.toArray 5 (0, 0))) : StrH w W' g key nonce l' :=
  ⟨h.1.trans (grown_below hb (by omega) h.1.size), (hb.block _ (lt_of_heap h.2.1) (by simp; omega)).trans h.2.1, (hb.block _ (lt_of_heap h.2.2.1) (by simp; omega)).trans h.2.2.1, hl⟩
set_option maxHeartbeats 4000000 in
theorem stream_any (key nonce : List UInt8) (n : W32) (many : Int) (m : Nat) (w : World) (hk : key.length = 32) (hn : nonce.length = 12) (hm : m = many.toNat) (h31 : m ≤ 100000) :
    Calls Try.prog 32 #[.agg (key.map bv).toArray, .agg (nonce.map bv).toArray, .int .u32 (n.toNat : Int), .int .i64 many] w (NewRow w m (streamC key nonce n m)) := by
  have BL := Lib.hid (fun i W => cblock_any key nonce (ctrAt n i) W hk hn)
  have HK := Lib.hid hk; have HN := Lib.hid hn
  have hmax : (if many < 0 then (0 : Int) else many) = (m : Int) := by split <;> omega
  clear hk hn hm
  have hmk := make_run (P := Try.prog) uT made8 rfl .i64 .i64 m (by omega) (by omega) ((w.alloc (.cells (key.map bv).toArray 22)).alloc (.cells (nonce.map bv).toArray 27))
  obtain ⟨W0, hW0⟩ : ∃ x, x = ((w.alloc (.cells (key.map bv).toArray 22)).alloc (.cells (nonce.map bv).toArray 27)).alloc (.cells (List.replicate m (Value.int .u8 0)).toArray 5) := ⟨_, rfl⟩
  rw [← hW0] at hmk
  have F := heap3 w (.cells (key.map bv).toArray 22) (.cells (nonce.map bv).toArray 27) (.cells (List.replicate m (Value.int .u8 0)).toArray 5)
  rw [← hW0] at F
  have F := Lib.hid F
  clear hW0
  go_enter Try.func32, Try.ntmps32
  go_wp2_with fail
  obtain ⟨K, hK⟩ : ∃ K, K = (m + 63) / 64 := ⟨_, rfl⟩
  have hKi : ((m : Int) + 63) / 64 = (K : Int) := by omega
  rw [hKi]
  have HKE : Hid (streamN key nonce n m K = streamC key nonce n m) := by rw [hK]; exact streamN_end _ _ _ _
  have hKm : Hid (∀ k, k < K → 64 * k < m ∧ k < 10000) := by intro k h; omega
  clear hK hKi
  generalize hg : w.heap.size + 1 + 1 = g at ⊢
  have HG := Lib.hid hg
  have IH : Hid (StrH w W0 g key nonce ((streamN key nonce n m 0).map bv)) := by
    rw [streamN_zero]
    have f3 := F.out.2.2.1
    rw [show w.heap.size + 2 = g by omega] at f3
    exact ⟨F.out.2.2.2, F.out.1, F.out.2.1, f3⟩
  clear hg F
  go_loopw [19] (fun vi wr => ∃ (i : Nat), i ≤ K ∧ vi = .int .i64 (i : Int) ∧ Hid (StrH w wr g key nonce ((streamN key nonce n m i).map bv))) (fun i _ => K - (intOf i).toNat)
  case atStart => exact ⟨0, by omega, rfl, IH⟩
  case round =>
    clear IH
    obtain ⟨i, hi, rfl, H⟩ := hrel
    by_cases hlt : i < K
    · have e1 : (i : Int) < (K : Int) := by omega
      have him := hKm.out i hlt
      have HCW := Lib.hid (ctr_wrap n i)
      have HST := Lib.hid (streamN_step key nonce n m i him.1)
      have HSN := Lib.hid (streamN_len key nonce n m i)
      have hbl : Hid ((blockC key nonce (ctrAt n i)).length = 64) := blockC_len _ _ _
      have BL := Lib.hid (BL.out i)
      obtain ⟨q, hq⟩ : ∃ q, q = 64 * i := ⟨_, rfl⟩
      have hqi : 64 * (i : Int) = (q : Int) := by omega
      have hqm : q < m := by omega
      have u1 : IntKind.i64.wrap (64 * (i : Int)) = (q : Int) := by rw [IntKind.wrap_i64]; omega
      rw [← hq] at HST
      have hi64 : (i : Int) < 10000 := by omega
      clear hq him hqi
      go_wp2_with (first
        | (refine wpList_ld rfl 22 (.tmp 4) rfl (load_arr arr32K rfl (by rw [List.length_map, HK.out]; exact i32K) H.out.2.1) ?_)
        | (refine wpList_ld rfl 27 (.tmp 5) rfl (load_arr arr12B rfl (by rw [List.length_map, HN.out]; exact i12B) H.out.2.2.1) ?_))
      rw [HCW.out]
      refine (BL.out wr).mono ?_
      rintro e w2 ⟨rfl, hb2⟩
      have H2 := Lib.hid (H.out.step hb2)
      clear H hb2 HCW BL
      generalize blockC key nonce (ctrAt n i) = X at hbl HST ⊢
      have sl := cut_from uT s8 (some ⟨g, 0, none⟩) m m .i64 (q : Int) (by omega) (by omega)
      rw [Int.toNat_natCast, show cutS (some ⟨g, 0, none⟩) m q = some ⟨g, q, none⟩ from by unfold cutS; rw [if_neg (by omega)]; simp [Addr.add_mid]] at sl
      have ar := arr_all arr64B s8 ⟨w2.heap.size, 0, none⟩
      go_wp2_with (first
        | (refine wpList_st rfl 31 (.tmp 11) (.tmp 28) rfl (store_arr (cs := X.map bv) (old := List.replicate 64 (Value.int .u8 0)) (by rw [List.length_map, hbl.out]; exact i64Bc) (bv_one _) (heap_alloc_new' w2 _) (by rw [List.length_map, hbl.out]; exact List.length_replicate)) ?_
           generalize hV : World.setRow _ _ _ = W4
           have M0 := Lib.hid (heap_of_setRow hV (heap_alloc_new' w2 _))
           have MB := Lib.hid (((Below.refl w2.heap.size w2).alloc (Nat.le_refl _) _).trans (below_of_setRow hV (Nat.le_refl w2.heap.size) (by simp)))
           clear hV)
        | fail)
      have H4 := Lib.hid (H2.out.step MB.out)
      clear H2 MB
      generalize w2.heap.size = b at M0 ar ⊢
      have H5 : Hid (StrH w W4.drew g key nonce ((streamN key nonce n m i).map bv)) := ⟨H4.out.1.drew, H4.out.2⟩
      have HX : Hid (Below w.heap.size W4 W4.drew) := (Below.refl _ _).drew
      have R3 := Lib.hid (row_sub (w := W4.drew) M0.out 0 (min 64 (m - q)) (lt_of_heap (w := W4.drew) M0.out))
      rw [List.drop_zero] at R3
      refine regB_start (w.heap.size) (by kernel_rfl) ?_
      try simp only [Act.put, List.setIfInBounds_toArray, List.set_cons_zero, List.set_cons_succ]
      refine regB_take (v := ?_) 0 (some 29) rfl rfl (by kernel_rfl) (by kernel_rfl) (by kernel_rfl) (fun _ _ _ h => h) (by rfl) (fun W hW => ?_) ?_
      rotate_left
      · (go_simp; try rfl)
      simp only [Act.put, List.setIfInBounds_toArray, List.set_cons_zero, List.set_cons_succ]
      refine regB_take (v := ?_) 1 (some 30) rfl rfl (by kernel_rfl) (by kernel_rfl) (by kernel_rfl) (fun _ _ _ h => h) (by rfl) (fun W hW => ?_) ?_
      rotate_left
      · (go_simp; try rfl)
      simp only [Act.put, List.setIfInBounds_toArray, List.set_cons_zero, List.set_cons_succ]
      refine regB_take (v := ?_) 2 (some 31) rfl rfl (by kernel_rfl) (by kernel_rfl) (by kernel_rfl) (fun _ _ _ h => h) (by rfl) (fun W hW => ?_) ?_
      rotate_left
      · (go_simp; try rfl)
      simp only [Act.put, List.setIfInBounds_toArray, List.set_cons_zero, List.set_cons_succ]
      refine regB_take (v := ?_) 3 (some 32) rfl rfl (by kernel_rfl) (by kernel_rfl) (by kernel_rfl) (fun _ _ _ h => h) (by rfl) (fun W hW => ?_) ?_
      rotate_left
      · (go_simp; try rfl)
      simp only [Act.put, List.setIfInBounds_toArray, List.set_cons_zero, List.set_cons_succ]
      refine regB_take (v := ?_) 4 (some 33) rfl rfl (by kernel_rfl) (by kernel_rfl) (by kernel_rfl) (fun _ _ _ h => h) (by rfl) (fun W hW => ?_) ?_
      rotate_left
      · (go_simp; try rfl)
      simp only [Act.put, List.setIfInBounds_toArray, List.set_cons_zero, List.set_cons_succ]
      refine regB_eff 5 rfl (by kernel_rfl) (fun K hK => ?_)
      obtain ⟨w5, hrun, hblk, _, hgr⟩ := copy_run uT s8 (sT := 26) 3 W4.drew g q ((streamN key nonce n m i).map bv) 5 H5.out.2.2.2 (some ⟨g, q, none⟩) (some ⟨b, 0, none⟩) (m - q) (m - q) 64 64 _ ((X.take (min 64 (m - q))).map bv) (by have := hbl.out; simp; omega) (fun _ => rfl) R3.out (by have := hbl.out; have := HSN.out; simp; omega) (bv_one _)
      rw [HST.out] at hblk
      have E2 := Lib.hid hblk
      have EG := Lib.hid hgr
      refine step_cpy rfl (.tmp 32) (.tmp 33) 26 26 rfl hrun ?_
      have hE : Below w.heap.size W4.drew w5 := grown_below hgr (by have := HG.out; omega) H5.out.1.size
      clear hrun hblk hgr
      refine hK.out _ _ hE ?_
      have HX := Lib.hid (Below.trans HX.out hE)
      clear hE hK K
      try simp only [Act.put, List.setIfInBounds_toArray, List.set_cons_zero, List.set_cons_succ]
      refine regB_done (by kernel_rfl) ?_
      clear u1 sl ar
      go_wp2
      go_roundw
      case rel => exact ⟨i + 1, by omega, by go_num, H5.out.put (by have := HG.out; omega) EG.out E2.out⟩
      case measure => simp [intOf]; omega
    · have H' : Hid (StrH w wr g key nonce ((streamC key nonce n m).map bv)) := by have := H.out; rw [show i = K by omega, HKE.out] at this; exact this
      clear H
      go_wp2
      go_ret
      exact ⟨g, by have := HG.out; omega, rfl, H'.out.2.2.2, H'.out.1⟩
/-- bytes, and the stream from a counter on -/
def cryptC (key nonce : List UInt8) (n : W32) (b : List UInt8) : List UInt8 := xorL b (streamC key nonce n b.length)
theorem cryptC_len (key nonce : List UInt8) (n : W32) (b : List UInt8) : (cryptC key nonce n b).length = b.length := by
  rw [cryptC, xorL_len, streamC_len, Nat.min_self]
theorem crypt_any (key nonce : List UInt8) (n : W32) (A : Option Addr) (m c : Nat) (b : List UInt8) (w : World) (hk : key.length = 32) (hn : nonce.length = 12) (hm : b.length = m) (h31 : m ≤ 100000) (hb : Sl w A c b) :
    Calls Try.prog 11 #[.agg (key.map bv).toArray, .agg (nonce.map bv).toArray, .int .u32 (n.toNat : Int), .slice A m c] w (NewRow w m (cryptC key nonce n b)) := by
  have HS := Lib.hid (fun W => stream_any key nonce n (m : Int) m W hk hn (by simp) h31)
  have HK := Lib.hid hk; have HN := Lib.hid hn; have HM := Lib.hid hm; have HB := Lib.hid hb
  have hc : Hid (cryptC key nonce n b = xorL b (streamC key nonce n m)) := by rw [cryptC, hm]; rfl
  rw [hc.out]
  have hsl : Hid ((streamC key nonce n m).length = m) := streamC_len _ _ _ _
  generalize streamC key nonce n m = X at HS hsl ⊢
  clear hk hn hm hb hc
  go_enter Try.func11, Try.ntmps11
  go_wp2_with (first
    | (refine wpList_ld rfl 22 (.tmp 4) rfl (load_arr arr32K rfl (by rw [List.length_map, HK.out]; exact i32K) (heap2c w _ _).1) ?_)
    | (refine wpList_ld rfl 27 (.tmp 5) rfl (load_arr arr12B rfl (by rw [List.length_map, HN.out]; exact i12B) (heap2c w _ _).2.1) ?_))
  generalize hV : (w.alloc _).alloc _ = W0
  have FB : Hid (Below w.heap.size w W0) := by rw [← hV]; exact (heap2c w _ _).2.2
  clear hV
  refine (HS.out W0).mono ?_
  rintro e w1 ⟨g, hg, rfl, hg1, hb1⟩
  have B1 := Lib.hid (FB.out.step hb1)
  have G1 := Lib.hid hg1
  have S1 : Hid (Sl w1 A c b) := ⟨HB.out.1, HB.out.2.1, HB.out.2.2.after B1.out⟩
  have S2 : Hid (Sl w1 (some ⟨g, 0, none⟩) m X) := sl_row hsl.out (by omega) hg1
  clear hg hg1 hb1 FB HS
  go_wp2_with fail
  refine (xor_n A (some ⟨g, 0, none⟩) m m m c m b X w1 HM.out hsl.out (Nat.min_self m) S1.out S2.out (by omega) (by omega)).mono ?_
  rintro e w2 ⟨g2, hg2, rfl, hk2, hb2⟩
  have B2 := Lib.hid (B1.out.step hb2)
  have K2 := Lib.hid hk2
  have hge : Hid (w.heap.size ≤ g2) := Nat.le_trans B1.out.size hg2
  clear hb2 hk2 hg2
  go_wp2
  go_ret
  exact ⟨g2, hge.out, rfl, K2.out, B2.out⟩
end Go.Proofs.Ytfcnahbbieldfaa

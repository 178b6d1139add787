/- The contract of chacha.Block. -/
import Derived.Test.YtfcnahbbieldfaaCha4
import Derived.Test.YtfcnahbbieldfaaSha4
import Derived.StillTailTactics
namespace Go.Proofs.Ytfcnahbbieldfaa
open Go.RowKit
set_option maxRecDepth 100000
set_option linter.unusedVariables false
set_option linter.unusedSimpArgs false
/-- two rounds, over columns and over diagonals -/
def dblL (l : List W32) : List W32 := roundN 1 (roundN 0 l 4) 4
def dblN (l : List W32) : Nat → List W32
  | 0 => l
  | i + 1 => dblL (dblN l i)
theorem dblL_len (l : List W32) : (dblL l).length = l.length := by rw [dblL, roundN_len, roundN_len]
theorem dblN_len (l : List W32) (i : Nat) : (dblN l i).length = l.length := by
  induction i with
  | zero => rfl
  | succ i ih => rw [dblN, dblL_len, ih]
def csumL (a b : List W32) : List W32 := List.zipWith (· + ·) a b
def csumN (a b : List W32) (i : Nat) : List W32 := (csumL a b).take i ++ a.drop i
theorem csumL_len (a b : List W32) (h : a.length = b.length) : (csumL a b).length = a.length := by simp [csumL, h]
theorem csumN_len (a b : List W32) (i : Nat) (h : a.length = b.length) : (csumN a b i).length = a.length := by
  simp [csumN, csumL_len a b h]; omega
theorem csumN_get (a b : List W32) (i : Nat) (h : a.length = b.length) (hi : i < a.length) : (csumN a b i).getD i 0 = a.getD i 0 := by
  have hl : ((csumL a b).take i).length = i := by rw [List.length_take, csumL_len a b h]; omega
  rw [csumN, List.getD_eq_getElem?_getD, List.getElem?_append_right (by omega), hl, List.getElem?_drop, List.getD_eq_getElem?_getD]; simp
theorem csumN_step (a b : List W32) (i : Nat) (h : a.length = b.length) (hi : i < a.length) : (csumN a b i).set i (a.getD i 0 + b.getD i 0) = csumN a b (i + 1) := by
  have hl : ((csumL a b).take i).length = i := by rw [List.length_take, csumL_len a b h]; omega
  have ha : i < (csumL a b).length := by rw [csumL_len a b h]; exact hi
  unfold csumN
  rw [List.set_append_right _ _ (by omega), hl, Nat.sub_self, List.drop_eq_getElem_cons (by omega), List.set_cons_zero, List.take_succ_eq_append_getElem ha, List.append_assoc]
  congr 1
  simp [csumL, List.getD, hi, show i < b.length by omega]
theorem csumN_end (a b : List W32) (h : a.length = b.length) : csumN a b a.length = csumL a b := by
  rw [csumN, List.take_of_length_le (by rw [csumL_len a b h]; omega), List.drop_of_length_le (by omega), List.append_nil]
/-- the block of a key, a nonce and a counter -/
def blockC (key nonce : List UInt8) (n : W32) : List UInt8 := outLE (csumL (dblN (startC key nonce n) 10) (startC key nonce n))
theorem blockC_len (key nonce : List UInt8) (n : W32) : (blockC key nonce n).length = 64 := by
  rw [blockC, outLE_len, csumL_len _ _ (by rw [dblN_len]), dblN_len, startC_len]
def BlH (w W : World) (p q : Nat) (first l : List W32) : Prop :=
  Below w.heap.size w W ∧ W.heap[w.heap.size + 1 + 1]? = some (.cells (List.replicate 64 (Value.int .u8 0)).toArray 31 (0, 0)) ∧ W.heap[p]? = some (.cells (first.map wv).toArray 52 (0, 0)) ∧ W.heap[q]? = some (.cells (l.map wv).toArray 52 (0, 0))
theorem BlH.step {w W W' : World} {p q : Nat} {first l : List W32} (h : BlH w W p q first l) (hb : Below W.heap.size W W') : BlH w W' p q first l :=
  ⟨h.1.step hb, (hb.block _ (lt_of_heap h.2.1)).trans h.2.1, (hb.block _ (lt_of_heap h.2.2.1)).trans h.2.2.1, (hb.block _ (lt_of_heap h.2.2.2)).trans h.2.2.2⟩
theorem BlH.put {w W : World} {p q : Nat} {first l : List W32} (h : BlH w W p q first l) (hp : w.heap.size + 1 + 1 < p ∧ p < q) (i : Nat) (x : W32) : BlH w (W.setCell ⟨q, i, none⟩ (.int .u32 (x.toNat : Int))) p q first (l.set i x) := by
  obtain ⟨m1, m2, m3⟩ := st_row (B := w.heap.size) rfl (by omega) h.2.2.2
  exact ⟨h.1.trans m2, (m3 _ (by omega)).trans h.2.1, (m3 _ (by omega)).trans h.2.2.1, m1⟩
theorem BlH.row {w W W' : World} {p q : Nat} {first l : List W32} {l' : List W32} (h : BlH w W p q first l) (hp : w.heap.size + 1 + 1 < p ∧ p < q) (hV : W.setRow q (l'.map wv).toArray = W') : BlH w W' p q first l' := by
  have hg := grown_setRow W q (l'.map wv).toArray
  rw [hV] at hg
  refine ⟨h.1.trans (grown_below hg (by omega) h.1.size), (hg.block _ (lt_of_heap h.2.1) (by simp; omega)).trans h.2.1, (hg.block _ (lt_of_heap h.2.2.1) (by simp; omega)).trans h.2.2.1, ?_⟩
  exact heap_of_setRow hV h.2.2.2
set_option maxHeartbeats 4000000 in
theorem cblock_any (key nonce : List UInt8) (n : W32) (w : World) (hk : key.length = 32) (hn : nonce.length = 12) :
    Calls Try.prog 6 #[.agg (key.map bv).toArray, .agg (nonce.map bv).toArray, .int .u32 (n.toNat : Int)] w fun e w' => e = .returned (.agg ((blockC key nonce n).map bv).toArray) ∧ Below w.heap.size w w' := by
  have ST := Lib.hid (fun W => cstart_any key nonce n W hk hn)
  have HK := Lib.hid hk; have HN := Lib.hid hn
  have HSL := Lib.hid (startC_len key nonce n)
  obtain ⟨ten, HT⟩ : ∃ t : Nat, Hid (t = 10) := ⟨_, rfl⟩
  obtain ⟨R, HR⟩ : ∃ R, Hid (outLE (csumL (dblN (startC key nonce n) ten) (startC key nonce n)) = R) := ⟨_, rfl⟩
  have hbR : blockC key nonce n = R := by rw [← HR.out, HT.out]; rfl
  rw [hbR]
  clear hk hn hbR
  generalize startC key nonce n = L0 at ST HSL HR
  go_enter Try.func6, Try.ntmps6
  go_wp2_with (first
    | (refine wpList_ld rfl 22 (.tmp 3) rfl (load_arr arr32K rfl (by rw [List.length_map, HK.out]; exact i32K) (heap3 w _ _ _).1) ?_)
    | (refine wpList_ld rfl 27 (.tmp 4) rfl (load_arr arr12B rfl (by rw [List.length_map, HN.out]; exact i12B) (heap3 w _ _ _).2.1) ?_))
  generalize hV : ((w.alloc _).alloc _).alloc _ = W0
  have FZ : Hid (W0.heap[w.heap.size + 1 + 1]? = some (.cells (List.replicate 64 (Value.int .u8 0)).toArray 31 (0, 0))) := by rw [← hV]; exact (heap3 w _ _ _).2.2.1
  have FB : Hid (Below w.heap.size w W0) := by rw [← hV]; exact (heap3 w _ _ _).2.2.2
  clear hV
  refine (ST.out W0).mono ?_
  rintro e w1 ⟨rfl, hb1⟩
  have GZ : Hid (w1.heap[w.heap.size + 1 + 1]? = _) := (hb1.block _ (lt_of_heap FZ.out)).trans FZ.out
  have GB : Hid (Below w.heap.size w w1) := FB.out.step hb1
  have hl0 : Hid ((L0.map wv).length = 16) := by show _ = _; rw [List.length_map]; exact HSL.out
  have HP : Hid (w.heap.size + 1 + 1 < w1.heap.size) := lt_of_heap GZ.out
  clear hb1 FZ FB ST
  go_wp2_with (first
    | (refine wpList_st rfl 52 (.tmp 7) (.tmp 13) rfl (store_arr (cs := L0.map wv) (old := List.replicate 16 (Value.int .u32 0)) (by rw [hl0.out]; exact iSt) (wv_one _) (heap_alloc_new' w1 _) (by rw [hl0.out]; simp)) ?_
       generalize hV : World.setRow _ _ _ = W2
       have M0 := Lib.hid (heap_of_setRow hV (heap_alloc_new' w1 _))
       have MB := Lib.hid (((Below.refl w1.heap.size w1).alloc (Nat.le_refl _) _).trans (below_of_setRow hV (Nat.le_refl w1.heap.size) (by simp)))
       have hsz : Hid (W2.heap.size = w1.heap.size + 1) := by rw [← hV]; show _ = _; simp
       clear hV)
    | (refine wpList_ld rfl 52 (.tmp 7) rfl (load_arr arrSt rfl (by rw [hl0.out]; exact iSt) M0.out) ?_)
    | (refine wpList_st rfl 52 (.tmp 8) (.tmp 14) rfl (store_arr (cs := L0.map wv) (old := List.replicate 16 (Value.int .u32 0)) (by rw [hl0.out]; exact iSt) (wv_one _) (heap_alloc_new' W2 _) (by rw [hl0.out]; simp)) ?_
       generalize hV : World.setRow _ _ _ = W3
       have M1 := Lib.hid (heap_of_setRow hV (heap_alloc_new' W2 _))
       have MC := Lib.hid (((Below.refl W2.heap.size W2).alloc (Nat.le_refl _) _).trans (below_of_setRow hV (Nat.le_refl W2.heap.size) (by simp)))
       clear hV))
  have IH : Hid (BlH w W3 w1.heap.size W2.heap.size L0 L0) := by
    have z2 := (MB.out.block _ (lt_of_heap GZ.out)).trans GZ.out
    exact ⟨(GB.out.step MB.out).step MC.out, (MC.out.block _ (lt_of_heap z2)).trans z2, (MC.out.block _ (lt_of_heap M0.out)).trans M0.out, M1.out⟩
  have HPQ : Hid (w.heap.size + 1 + 1 < w1.heap.size ∧ w1.heap.size < W2.heap.size) := ⟨HP.out, by have := hsz.out; omega⟩
  clear hsz M0 M1 MB MC HP GZ GB hl0
  generalize w1.heap.size = p at IH HPQ ⊢
  generalize W2.heap.size = q at IH HPQ ⊢
  go_loopw [15] (fun vi wr => ∃ (i : Nat), i ≤ 10 ∧ vi = .int .i64 (i : Int) ∧ Hid (BlH w wr p q L0 (dblN L0 i))) (fun i _ => 10 - (intOf i).toNat)
  case atStart => exact ⟨0, by omega, rfl, IH⟩
  case round =>
    clear IH
    obtain ⟨i, hi, rfl, H⟩ := hrel
    by_cases hlt : i < 10
    · have e1 : (i : Int) < 10 := by omega
      have hst : Hid (roundN 1 (roundN 0 (dblN L0 i) 4) 4 = dblN L0 (i + 1)) := rfl
      have hl1 : Hid ((dblN L0 i).length = 16) := by show _ = _; rw [dblN_len]; exact HSL.out
      generalize dblN L0 i = A at H hst hl1
      have hl2 : Hid ((roundN 0 A 4).length = 16) := by show _ = _; rw [roundN_len]; exact hl1.out
      have R1 := Lib.hid (fun W => round_any 0 A W hl1.out (by omega))
      generalize roundN 0 A 4 = B at hst hl2 R1
      have hl3 : Hid ((roundN 1 B 4).length = 16) := by show _ = _; rw [roundN_len]; exact hl2.out
      have R2 := Lib.hid (fun W => round_any 1 B W hl2.out (by omega))
      generalize roundN 1 B 4 = C at hst hl3 R2
      go_wp2_with (first
        | (refine wpList_ld rfl 52 (.tmp 8) rfl (load_arr arrSt rfl (by rw [List.length_map, hl1.out]; exact iSt) H.out.2.2.2) ?_)
        | fail)
      refine (R1.out wr).mono ?_
      rintro e w2 ⟨rfl, hb2⟩
      have H2 := Lib.hid (H.out.step hb2)
      clear H hb2 R1
      go_wp2_with fail
      refine (R2.out w2).mono ?_
      rintro e w3 ⟨rfl, hb3⟩
      have H3 := Lib.hid (H2.out.step hb3)
      clear H2 hb3 R2
      go_wp2_with (first
        | (refine wpList_st rfl 52 (.tmp 8) (.tmp 19) rfl (store_arr (cs := C.map wv) (by rw [List.length_map, hl3.out]; exact iSt) (wv_one _) H3.out.2.2.2 (by rw [List.length_map, List.length_map, hl3.out, hl1.out])) ?_
           generalize hV : World.setRow _ _ _ = W4
           have H4 := Lib.hid (H3.out.row HPQ.out hV)
           clear hV H3)
        | fail)
      go_roundw
      case rel => exact ⟨i + 1, by omega, by go_num, by rw [← hst.out]; exact H4⟩
      case measure => simp [intOf]; omega
    · have e0 : csumN (dblN L0 ten) L0 0 = dblN L0 ten := by simp [csumN]
      have H' : Hid (BlH w wr p q L0 (csumN (dblN L0 ten) L0 0)) := by have := H.out; rw [show i = ten by rw [HT.out]; omega] at this; rw [e0]; exact this
      clear e0
      clear H
      have hl1 : Hid ((dblN L0 ten).length = 16) := by show _ = _; rw [dblN_len]; exact HSL.out
      generalize dblN L0 ten = A at H' hl1 HR
      have hAL : Hid (A.length = L0.length) := by show _ = _; rw [hl1.out, HSL.out]
      obtain ⟨wo, hwo⟩ : ∃ x, x = wr := ⟨_, rfl⟩
      subst hwo
      go_wp2_with fail
      go_loopw [21] (fun vi wr => ∃ (j : Nat), j ≤ 16 ∧ vi = .int .i64 (j : Int) ∧ Hid (BlH w wr p q L0 (csumN A L0 j))) (fun i _ => 16 - (intOf i).toNat)
      case atStart => exact ⟨0, by omega, rfl, H'⟩
      case round =>
        clear H'
        obtain ⟨j, hj, rfl, H⟩ := hrel
        by_cases hlt : j < 16
        · have q1 : (j : Int) < 16 := by omega
          have c0 := wcell H.out.2.2.2 j (by rw [csumN_len A L0 j hAL.out, hl1.out]; exact hlt)
          rw [csumN_get A L0 j hAL.out (by rw [hl1.out]; exact hlt)] at c0
          have c1 := wcell H.out.2.2.1 j (by rw [HSL.out]; exact hlt)
          have fz := frozen_of_heap H.out.2.2.2 j
          have HST := Lib.hid (csumN_step A L0 j hAL.out (by rw [hl1.out]; exact hlt))
          generalize A.getD j 0 = x at c0 HST
          generalize L0.getD j 0 = y at c1 HST
          have u1 : ((x.toNat : Int) + (y.toNat : Int)) % 4294967296 = ((x + y).toNat : Int) := add32 x y
          have U1 := Lib.hid u1
          clear u1
          go_wp2_with fail
          go_still_tail 8, (by kernel_rfl)
          change wpList _ _ _ _ _ wr.drew
          go_wp2
          go_roundw
          case rel =>
            refine ⟨j + 1, by omega, by go_num, ?_⟩
            have hd : BlH w wr.drew p q L0 (csumN A L0 j) := ⟨H.out.1.drew, H.out.2⟩
            have := hd.put HPQ.out j (x + y)
            rw [HST.out, ← U1.out] at this
            exact this
          case measure => simp [intOf]; omega
        · have H' : Hid (BlH w wr p q L0 (csumL A L0)) := by have := H.out; rw [show j = A.length by rw [hl1.out]; omega, csumN_end A L0 hAL.out] at this; exact this
          clear H
          have hl2 : Hid ((csumL A L0).length = 16) := by show _ = _; rw [csumL_len A L0 hAL.out]; exact hl1.out
          obtain ⟨S, HS⟩ : ∃ S, Hid (csumL A L0 = S) := ⟨_, rfl⟩
          rw [HS.out] at H' hl2
          have FL : Hid (∀ W, Calls Try.prog 21 #[.agg (S.map wv).toArray] W fun e w' => e = .returned (.agg ((outLE S).map bv).toArray) ∧ Below W.heap.size W w') := fun W => cflat_any S W hl2.out
          have ho : Hid ((outLE S).length = 64) := by show _ = _; rw [outLE_len, hl2.out]
          obtain ⟨O, HO⟩ : ∃ O, Hid (outLE S = O) := ⟨_, rfl⟩
          rw [HO.out] at FL ho
          go_wp2_with (first
            | (refine wpList_ld rfl 52 (.tmp 8) rfl (load_arr arrSt rfl (by rw [List.length_map, hl2.out]; exact iSt) H'.out.2.2.2) ?_)
            | fail)
          refine (FL.out wr).mono ?_
          rintro e w2 ⟨rfl, hb2⟩
          have H2 := Lib.hid (H'.out.step hb2)
          have HZ := Lib.hid H2.out.2.1
          clear hb2 FL
          go_wp2_with (first
            | (refine wpList_st rfl 31 (.tmp 6) (.tmp 34) rfl (store_arr (cs := O.map bv) (old := List.replicate 64 (Value.int .u8 0)) (by rw [List.length_map, ho.out]; exact i64Bc) (bv_one _) HZ.out (by rw [List.length_map, ho.out]; exact List.length_replicate)) ?_)
            | fail)
          have hres := setRow_heap w2 (w.heap.size + 1 + 1) _ (O.map bv).toArray 31 _ HZ.out
          exact bodyPost_ret (results_cell_row (P := Try.prog) rfl _ _ (w.heap.size + 1 + 1) 31 (O.map bv).toArray (0, 0) _ rfl hres arr64B rfl (by rw [List.size_toArray, List.length_map, ho.out]; exact i64Bc)) rfl ⟨by rw [← HR.out, HS.out, HO.out], H2.out.1.trans (grown_below (grown_setRow _ _ _) (by omega) H2.out.1.size)⟩
end Go.Proofs.Ytfcnahbbieldfaa

/- The document's own Quarter; the words of a key, a nonce and a counter. -/
import Derived.Test.YteboeeijgpghoaaRefC1
import Derived.Test.YteboeeijgpghoaaRefS2
namespace Go.Proofs.Yteboeeijgpghoaa
open Go.RowKit
set_option linter.unusedVariables false
set_option linter.unusedSimpArgs false
theorem arr4Wc : Try.prog.underlying 27 = some (.array 4 24) := Try.underlying27
theorem i4Wc : (Try.prog.info? 27).map (·.size) = some 4 := by kernel_rfl
def qRow (a b c d : W32) : List W32 := [a, b, c, d, 0, 0, 0, 0, 0, 0, 0, 0, 0, 0, 0, 0]
theorem qRow_q (a b c d : W32) : qAt (qRow a b c d) 0 1 2 3 = qRow (qA a b c d) (qB a b c d) (qC a b c d) (qD a b c d) := by simp [qAt, qRow]
theorem qRow_len (a b c d : W32) : (qRow a b c d).length = 16 := rfl
theorem qRow_v (a b c d : W32) : [Value.int .u32 (a.toNat : Int), .int .u32 (b.toNat : Int), .int .u32 (c.toNat : Int), .int .u32 (d.toNat : Int), .int .u32 0, .int .u32 0, .int .u32 0, .int .u32 0, .int .u32 0, .int .u32 0, .int .u32 0, .int .u32 0, .int .u32 0, .int .u32 0, .int .u32 0, .int .u32 0] = (qRow a b c d).map wv := by
  simp [qRow, wv]
set_option maxHeartbeats 2000000 in
theorem refQuarter_any (a b c d : W32) (w : World) :
    Calls Try.prog 12 #[.int .u32 (a.toNat : Int), .int .u32 (b.toNat : Int), .int .u32 (c.toNat : Int), .int .u32 (d.toNat : Int)] w fun e w' =>
      e = .returned (.agg ([qA a b c d, qB a b c d, qC a b c d, qD a b c d].map wv).toArray) ∧ Below w.heap.size w w' := by
  obtain ⟨a', ha⟩ : ∃ x, x = qA a b c d := ⟨_, rfl⟩
  obtain ⟨b', hb⟩ : ∃ x, x = qB a b c d := ⟨_, rfl⟩
  obtain ⟨c', hc⟩ : ∃ x, x = qC a b c d := ⟨_, rfl⟩
  obtain ⟨d', hd⟩ : ∃ x, x = qD a b c d := ⟨_, rfl⟩
  have HQ := Lib.hid (qRow_q a b c d)
  rw [← ha, ← hb, ← hc, ← hd] at HQ ⊢
  clear ha hb hc hd
  have h4 : Hid (Four (qRow a b c d) 0 1 2 3) := by simp [Hid, Four, qRow]
  go_enter Try.func12, Try.ntmps12
  go_wp2_with fail
  generalize hV : (w.alloc _).alloc _ = W0
  have F0 : Hid (W0.heap[w.heap.size]? = some (.cells (List.replicate 4 (Value.int .u32 0)).toArray 27 (0, 0))) := by rw [← hV]; exact (heap2c w _ _).1
  have F1 : Hid (W0.heap[w.heap.size + 1]? = some (.cells ((qRow a b c d).map wv).toArray 49 (0, 0))) := by rw [← hV, ← qRow_v]; exact (heap2c w _ _).2.1
  have FB : Hid (Below w.heap.size w W0) := by rw [← hV]; exact (heap2c w _ _).2.2
  clear hV
  refine (refq_any (w.heap.size + 1) (qRow a b c d) 0 1 2 3 W0 (qRow_len _ _ _ _) h4.out F1.out).mono ?_
  rintro e w1 ⟨⟨v, rfl⟩, hq, ho⟩
  rw [HQ.out] at hq
  have c0 := wcell hq 0 (by rw [qRow_len]; omega)
  have c1 := wcell hq 1 (by rw [qRow_len]; omega)
  have c2 := wcell hq 2 (by rw [qRow_len]; omega)
  have c3 := wcell hq 3 (by rw [qRow_len]; omega)
  simp only [qRow, List.getD_cons_zero, List.getD_cons_succ] at c0 c1 c2 c3
  have G0 : Hid (w1.heap[w.heap.size]? = some (.cells (List.replicate 4 (Value.int .u32 0)).toArray 27 (0, 0))) := (ho.2.2 _ (by omega)).trans F0.out
  have GB : Hid (Below w.heap.size w w1) := FB.out.trans (ho.1.mono (by omega))
  clear hq ho F0 F1 FB HQ h4
  go_wp2_with (first
    | (refine wpList_st rfl 27 (.tmp 8) (.tmp 24) rfl (store_arr (cs := [a', b', c', d'].map wv) (old := List.replicate 4 (Value.int .u32 0)) i4Wc (wv_one _) G0.out rfl) ?_)
    | fail)
  have hres := setRow_heap w1 w.heap.size _ ([a', b', c', d'].map wv).toArray 27 _ G0.out
  exact bodyPost_ret (results_cell_row (P := Try.prog) rfl _ _ w.heap.size 27 ([a', b', c', d'].map wv).toArray (0, 0) _ rfl hres arr4Wc rfl i4Wc) rfl ⟨rfl, GB.out.trans (grown_below (grown_setRow _ _ _) (Nat.le_refl _) GB.out.size)⟩
/-! ### the words of all that goes in -/
def expandB : List UInt8 := [101, 120, 112, 97, 110, 100, 32, 51, 50, 45, 98, 121, 116, 101, 32, 107]
def allB (key nonce : List UInt8) (n : W32) : List UInt8 := expandB ++ key ++ putLittle n.toNat 4 ++ nonce
theorem allB_len (key nonce : List UInt8) (n : W32) (hk : key.length = 32) (hn : nonce.length = 12) : (allB key nonce n).length = 64 := by simp [allB, expandB, hk, hn, putLittle_len]
theorem wordLE_left (A B : List UInt8) (i : Nat) (h : 4 * i + 4 ≤ A.length) : wordLE (A ++ B) i = wordLE A i := by
  unfold wordLE
  rw [List.drop_append_of_le_length (by omega), List.take_append_of_le_length (by rw [List.length_drop]; omega)]
theorem wordLE_right (A B : List UInt8) (k i : Nat) (h : A.length = 4 * k) : wordLE (A ++ B) (k + i) = wordLE B i := by
  unfold wordLE
  rw [List.drop_append, List.drop_of_length_le (by omega), List.nil_append, h, show 4 * (k + i) - 4 * k = 4 * i by omega]
theorem wordLE_put (n : W32) : wordLE (putLittle n.toNat 4) 0 = n := by
  unfold wordLE
  rw [Nat.mul_zero, List.drop_zero, List.take_of_length_le (by rw [putLittle_len]; omega), littleN_put]
  apply BitVec.eq_of_toNat_eq
  have := n.isLt
  rw [BitVec.toNat_ofNat]; omega
theorem words_append (A B : List UInt8) (k m : Nat) (h : A.length = 4 * k) : (List.range (k + m)).map (wordLE (A ++ B)) = (List.range k).map (wordLE A) ++ (List.range m).map (wordLE B) := by
  rw [List.range_add, List.map_append, List.map_map]
  congr 1
  · apply List.map_congr_left
    intro i hi
    have := List.mem_range.1 hi
    exact wordLE_left A B i (by omega)
  · apply List.map_congr_left
    intro i _
    exact wordLE_right A B k i h
theorem expand_words : (List.range 4).map (wordLE expandB) = chaC := by decide +kernel
theorem all_words (key nonce : List UInt8) (n : W32) (hk : key.length = 32) : (List.range 16).map (wordLE (allB key nonce n)) = startC key nonce n := by
  unfold allB startC
  rw [show (16 : Nat) = 4 + (8 + (1 + 3)) from rfl, List.append_assoc, List.append_assoc, words_append _ _ 4 _ rfl, words_append _ _ 8 _ (by omega), words_append _ _ 1 _ (by rw [putLittle_len]), expand_words]
  have e : (List.range 1).map (wordLE (putLittle n.toNat 4)) = [n] := by
    show [wordLE (putLittle n.toNat 4) 0] = [n]
    rw [wordLE_put]
  rw [e]
  simp
theorem dbl_q (l : List W32) : qAt (qAt (qAt (qAt (qAt (qAt (qAt (qAt l 0 4 8 12) 1 5 9 13) 2 6 10 14) 3 7 11 15) 0 5 10 15) 1 6 11 12) 2 7 8 13) 3 4 9 14 = dblL l := rfl
theorem outLE_snoc (l : List W32) (i : Nat) (hi : i < l.length) : outLE (l.take (i + 1)) = outLE (l.take i) ++ putLittle (l.getD i 0).toNat 4 := by
  rw [List.take_succ_eq_append_getElem hi, outLE, List.flatMap_append]
  simp [outLE, List.getD, hi]
theorem csumL_get (a b : List W32) (i : Nat) (h : a.length = b.length) (hi : i < a.length) : (csumL a b).getD i 0 = a.getD i 0 + b.getD i 0 := by
  have hb : i < b.length := by omega
  have hz : i < (List.zipWith (fun x1 x2 => x1 + x2) a b).length := by simp; omega
  rw [csumL, List.getD_eq_getElem?_getD, List.getElem?_eq_getElem hz, List.getElem_zipWith]
  simp [List.getD, hi, hb]
end Go.Proofs.Yteboeeijgpghoaa

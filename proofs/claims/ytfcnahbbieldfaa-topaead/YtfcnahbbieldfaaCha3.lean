/- The contract of chacha.start. -/
import Derived.Test.YtfcnahbbieldfaaCha2
namespace Go.Proofs.Ytfcnahbbieldfaa
open Go.RowKit
set_option maxRecDepth 100000
set_option linter.unusedVariables false
set_option linter.unusedSimpArgs false
/-- the i-th number of a row, the lowest byte first -/
def wordLE (b : List UInt8) (i : Nat) : W32 := BitVec.ofNat 32 (littleN ((b.drop (4 * i)).take 4))
def chaC : List W32 := [1634760805#32, 857760878#32, 2036477234#32, 1797285236#32]
def rowK (key : List UInt8) (j : Nat) : List W32 := chaC ++ (List.range j).map (wordLE key) ++ List.replicate (12 - j) 0
def rowN (key nonce : List UInt8) (n : W32) (j : Nat) : List W32 := chaC ++ (List.range 8).map (wordLE key) ++ [n] ++ (List.range j).map (wordLE nonce) ++ List.replicate (3 - j) 0
def startC (key nonce : List UInt8) (n : W32) : List W32 := chaC ++ (List.range 8).map (wordLE key) ++ [n] ++ (List.range 3).map (wordLE nonce)
theorem rowK_len (key : List UInt8) (j : Nat) (hj : j ≤ 12) : (rowK key j).length = 16 := by simp [rowK, chaC]; omega
theorem rowN_len (key nonce : List UInt8) (n : W32) (j : Nat) (hj : j ≤ 3) : (rowN key nonce n j).length = 16 := by simp [rowN, chaC]; omega
theorem startC_len (key nonce : List UInt8) (n : W32) : (startC key nonce n).length = 16 := by simp [startC, chaC]
theorem set_at {α : Type} (A : List α) (x y : α) (C : List α) (k : Nat) (hk : k = A.length) : (A ++ x :: C).set k y = A ++ y :: C := by
  subst hk; rw [List.set_append_right _ _ (Nat.le_refl _)]; simp
theorem rowK_step (key : List UInt8) (j : Nat) (hj : j < 12) : (rowK key j).set (4 + j) (wordLE key j) = rowK key (j + 1) := by
  unfold rowK
  rw [show 12 - j = (12 - (j + 1)) + 1 by omega, List.replicate_succ, set_at _ _ _ _ _ (by simp [chaC]; omega), List.range_succ, List.map_append]
  simp
theorem rowK_n (key nonce : List UInt8) (n : W32) : (rowK key 8).set 12 n = rowN key nonce n 0 := by
  unfold rowK
  rw [show 12 - 8 = 3 + 1 from rfl, List.replicate_succ, set_at _ _ _ _ _ (by simp [chaC])]
  simp [rowN]
theorem rowN_step (key nonce : List UInt8) (n : W32) (j : Nat) (hj : j < 3) : (rowN key nonce n j).set (13 + j) (wordLE nonce j) = rowN key nonce n (j + 1) := by
  unfold rowN
  rw [show 3 - j = (3 - (j + 1)) + 1 by omega, List.replicate_succ, set_at _ _ _ _ _ (by simp [chaC]; omega), List.range_succ (n := j), List.map_append]
  simp
theorem rowN_end (key nonce : List UInt8) (n : W32) : rowN key nonce n 3 = startC key nonce n := by simp [rowN, startC]
theorem word_le (b : List UInt8) (i : Nat) : littleN (((b.drop (4 * i)).take 4).take 8) = (wordLE b i).toNat := by
  have hl : ((b.drop (4 * i)).take 4).length ≤ 4 := by simp; omega
  have h := littleN_lt ((b.drop (4 * i)).take 4)
  have h4 : 256 ^ ((b.drop (4 * i)).take 4).length ≤ 256 ^ 4 := Nat.pow_le_pow_right (by decide) hl
  unfold wordLE
  rw [List.take_of_length_le (by omega), BitVec.toNat_ofNat, Nat.mod_eq_of_lt]
  exact Nat.lt_of_lt_of_le h (Nat.le_trans h4 (by decide))
theorem arr32K : Try.prog.underlying 22 = some (.array 32 5) := Try.underlying22
theorem i32K : (Try.prog.info? 22).map (·.size) = some 32 := by kernel_rfl
theorem arr12B : Try.prog.underlying 27 = some (.array 12 5) := Try.underlying27
theorem i12B : (Try.prog.info? 27).map (·.size) = some 12 := by kernel_rfl
theorem rowK_zero (key : List UInt8) : [Value.int .u32 1634760805, .int .u32 857760878, .int .u32 2036477234, .int .u32 1797285236, .int .u32 0, .int .u32 0, .int .u32 0, .int .u32 0, .int .u32 0, .int .u32 0, .int .u32 0, .int .u32 0, .int .u32 0, .int .u32 0, .int .u32 0, .int .u32 0] = (rowK key 0).map wv := by
  simp [rowK, chaC, wv]
theorem heap4c (w : World) (o1 o2 o3 o4 : Obj) : ((((w.alloc o1).alloc o2).alloc o3).alloc o4).heap[w.heap.size]? = some o1 ∧ ((((w.alloc o1).alloc o2).alloc o3).alloc o4).heap[w.heap.size + 1]? = some o2 ∧
    ((((w.alloc o1).alloc o2).alloc o3).alloc o4).heap[w.heap.size + 1 + 1]? = some o3 ∧ ((((w.alloc o1).alloc o2).alloc o3).alloc o4).heap[w.heap.size + 1 + 1 + 1]? = some o4 ∧ Below w.heap.size w ((((w.alloc o1).alloc o2).alloc o3).alloc o4) := by
  obtain ⟨h1, h2, h3, h4⟩ := heap3 w o1 o2 o3
  have e3 : (((w.alloc o1).alloc o2).alloc o3).heap.size = w.heap.size + 1 + 1 + 1 := by simp
  refine ⟨?_, ?_, ?_, ?_, h4.alloc (by omega) _⟩
  · rw [Below.heap_alloc _ _ _ (by omega)]; exact h1
  · rw [Below.heap_alloc _ _ _ (by omega)]; exact h2
  · rw [Below.heap_alloc _ _ _ (by omega)]; exact h3
  · have := heap_alloc_new' (((w.alloc o1).alloc o2).alloc o3) o4; rwa [e3] at this
/-- where a state is being laid: the key, the nonce, the answer's noughts, the row so far -/
def StH (w W : World) (key nonce : List UInt8) (l : List W32) : Prop :=
  Below w.heap.size w W ∧ W.heap[w.heap.size]? = some (.cells (key.map bv).toArray 22 (0, 0)) ∧ W.heap[w.heap.size + 1]? = some (.cells (nonce.map bv).toArray 27 (0, 0)) ∧
    W.heap[w.heap.size + 1 + 1]? = some (.cells (List.replicate 16 (Value.int .u32 0)).toArray 52 (0, 0)) ∧ W.heap[w.heap.size + 1 + 1 + 1]? = some (.cells (l.map wv).toArray 52 (0, 0))
theorem StH.step {w W W' : World} {key nonce : List UInt8} {l : List W32} (h : StH w W key nonce l) (hb : Below W.heap.size W W') : StH w W' key nonce l :=
  ⟨h.1.step hb, (hb.block _ (lt_of_heap h.2.1)).trans h.2.1, (hb.block _ (lt_of_heap h.2.2.1)).trans h.2.2.1, (hb.block _ (lt_of_heap h.2.2.2.1)).trans h.2.2.2.1, (hb.block _ (lt_of_heap h.2.2.2.2)).trans h.2.2.2.2⟩
theorem StH.put {w W : World} {key nonce : List UInt8} {l : List W32} (h : StH w W key nonce l) (p : Nat) (x : W32) : StH w (W.setCell ⟨w.heap.size + 1 + 1 + 1, p, none⟩ (.int .u32 (x.toNat : Int))) key nonce (l.set p x) := by
  obtain ⟨m1, m2, m3⟩ := st_row (B := w.heap.size) rfl (by omega) h.2.2.2.2
  exact ⟨h.1.trans m2, (m3 _ (by omega)).trans h.2.1, (m3 _ (by omega)).trans h.2.2.1, (m3 _ (by omega)).trans h.2.2.2.1, m1⟩
set_option maxHeartbeats 2000000 in
theorem cstart_any (key nonce : List UInt8) (n : W32) (w : World) (hk : key.length = 32) (hn : nonce.length = 12) :
    Calls Try.prog 19 #[.agg (key.map bv).toArray, .agg (nonce.map bv).toArray, .int .u32 (n.toNat : Int)] w fun e w' => e = .returned (.agg ((startC key nonce n).map wv).toArray) ∧ Below w.heap.size w w' := by
  have HK := Lib.hid hk; have HN := Lib.hid hn
  clear hk hn
  go_enter Try.func19, Try.ntmps19
  go_wp2_with fail
  generalize hV : (((w.alloc _).alloc _).alloc _).alloc _ = W0
  have FH : Hid (StH w W0 key nonce (rowK key 0)) := by
    have h := heap4c w (.cells (key.map bv).toArray 22) (.cells (nonce.map bv).toArray 27) (.cells (List.replicate 16 (Value.int .u32 0)).toArray 52) (.cells ((rowK key 0).map wv).toArray 52)
    rw [← rowK_zero] at h
    have e : W0 = _ := hV.symm
    rw [e]
    refine ⟨h.2.2.2.2, h.1, h.2.1, h.2.2.1, ?_⟩
    rw [← rowK_zero]
    exact h.2.2.2.1
  clear hV
  go_loopw [11] (fun vi wr => ∃ (i : Nat), i ≤ 8 ∧ vi = .int .i64 (i : Int) ∧ Hid (StH w wr key nonce (rowK key i))) (fun i _ => 8 - (intOf i).toNat)
  case atStart => exact ⟨0, by omega, rfl, FH⟩
  case round =>
    obtain ⟨i, hi, rfl, H⟩ := hrel
    by_cases hlt : i < 8
    · have e1 : (i : Int) < 8 := by omega
      have sl := arr_mid arr32K s8 ⟨w.heap.size, 0, none⟩ .i64 .i64 (4 * (i : Int)) (4 * (i : Int) + 4) (by omega) (by omega) (by omega)
      have e2 : (4 * (i : Int)).toNat = 4 * i := by omega
      have e3 : (4 * (i : Int) + 4).toNat = 4 * i + 4 := by omega
      rw [e2, e3, show 4 * i + 4 - 4 * i = 4 by omega, show cutA ⟨w.heap.size, 0, none⟩ 32 (4 * i) = ⟨w.heap.size, 4 * i, none⟩ from by unfold cutA; rw [if_neg (by omega), Addr.add_mid, Nat.zero_add]] at sl
      clear e2 e3
      have HWB := Lib.hid (word_le key i)
      have HST := Lib.hid (rowK_step key i (by omega))
      obtain ⟨p, hp⟩ : ∃ p, p = 4 + i := ⟨_, rfl⟩
      rw [← hp] at HST
      have hpi : 4 + (i : Int) = (p : Int) := by omega
      have hp16 : p < 16 := by omega
      have HPI := Lib.hid hpi; have HP16 := Lib.hid hp16
      have q2 : 4 + (i : Int) < 16 := by omega
      clear hp hpi hp16
      go_wp2_with fail
      refine (little_n (some ⟨w.heap.size, 4 * i, none⟩) 4 (32 - 4 * i) ((key.drop (4 * i)).take 4) wr ?_ ?_ ?_ ?_).mono ?_
      · rw [List.length_take, List.length_drop, HK.out]; omega
      · omega
      · simp [maxLen]; omega
      · exact row_sub H.out.2.1 (4 * i) 4 (lt_of_heap H.out.2.1)
      rintro e w1 ⟨rfl, hb1⟩
      rw [HWB.out]
      generalize wordLE key i = x at HST
      have hx := x.isLt
      have H' := Lib.hid (H.out.step hb1)
      have hmod : (x.toNat : Int) % 4294967296 = (x.toNat : Int) := by omega
      have c1 := wcell H'.out.2.2.2.2 p (by rw [rowK_len _ _ (by omega)]; exact HP16.out)
      have fz := frozen_of_heap H'.out.2.2.2.2 p
      have hq : (4 + (i : Int)).toNat = p := by have := HPI.out; omega
      clear hb1 H HWB
      go_wp2
      go_roundw
      case rel =>
        refine ⟨i + 1, by omega, by go_num, ?_⟩
        have := H'.out.put p x
        rw [HST.out] at this
        exact this
      case measure => simp [intOf]; omega
    · have hi8 : i = 8 := by omega
      have H := H.out
      rw [hi8] at H
      have H := Lib.hid H
      clear hi8
      have c1 := wcell H.out.2.2.2.2 12 (by rw [rowK_len _ _ (by omega)]; omega)
      have fz := frozen_of_heap H.out.2.2.2.2 12
      obtain ⟨wo, hwo⟩ : ∃ x, x = wr := ⟨_, rfl⟩
      subst hwo
      have FN : Hid (StH w (wo.setCell ⟨w.heap.size + 1 + 1 + 1, 12, none⟩ (.int .u32 (n.toNat : Int))) key nonce (rowN key nonce n 0)) := by
        have := H.out.put 12 n
        rw [rowK_n key nonce n] at this
        exact this
      clear FH
      go_wp2_with fail
      generalize World.setCell _ _ _ = W1 at FN ⊢
      clear c1 fz
      go_loopw [28] (fun vi wr => ∃ (j : Nat), j ≤ 3 ∧ vi = .int .i64 (j : Int) ∧ Hid (StH w wr key nonce (rowN key nonce n j))) (fun j _ => 3 - (intOf j).toNat)
      case atStart => exact ⟨0, by omega, rfl, FN⟩
      case round =>
        clear FN
        obtain ⟨j, hi, rfl, H⟩ := hrel
        by_cases hlt : j < 3
        · have e1 : (j : Int) < 3 := by omega
          have sl := arr_mid arr12B s8 ⟨w.heap.size + 1, 0, none⟩ .i64 .i64 (4 * (j : Int)) (4 * (j : Int) + 4) (by omega) (by omega) (by omega)
          have e2 : (4 * (j : Int)).toNat = 4 * j := by omega
          have e3 : (4 * (j : Int) + 4).toNat = 4 * j + 4 := by omega
          rw [e2, e3, show 4 * j + 4 - 4 * j = 4 by omega, show cutA ⟨w.heap.size + 1, 0, none⟩ 12 (4 * j) = ⟨w.heap.size + 1, 4 * j, none⟩ from by unfold cutA; rw [if_neg (by omega), Addr.add_mid, Nat.zero_add]] at sl
          clear e2 e3
          have HWB := Lib.hid (word_le nonce j)
          have HST := Lib.hid (rowN_step key nonce n j (by omega))
          obtain ⟨p, hp⟩ : ∃ p, p = 13 + j := ⟨_, rfl⟩
          rw [← hp] at HST
          have hpi : 13 + (j : Int) = (p : Int) := by omega
          have hp16 : p < 16 := by omega
          have HPI := Lib.hid hpi; have HP16 := Lib.hid hp16
          have q2 : 13 + (j : Int) < 16 := by omega
          clear hp hpi hp16
          go_wp2_with fail
          refine (little_n (some ⟨w.heap.size + 1, 4 * j, none⟩) 4 (12 - 4 * j) ((nonce.drop (4 * j)).take 4) wr ?_ ?_ ?_ ?_).mono ?_
          · rw [List.length_take, List.length_drop, HN.out]; omega
          · omega
          · simp [maxLen]; omega
          · exact row_sub H.out.2.2.1 (4 * j) 4 (lt_of_heap H.out.2.2.1)
          rintro e w1 ⟨rfl, hb1⟩
          rw [HWB.out]
          generalize wordLE nonce j = x at HST
          have hx := x.isLt
          have H' := Lib.hid (H.out.step hb1)
          have hmod : (x.toNat : Int) % 4294967296 = (x.toNat : Int) := by omega
          have c1 := wcell H'.out.2.2.2.2 p (by rw [rowN_len _ _ _ _ (by omega)]; exact HP16.out)
          have fz := frozen_of_heap H'.out.2.2.2.2 p
          have hq : (13 + (j : Int)).toNat = p := by have := HPI.out; omega
          clear hb1 H HWB
          go_wp2
          go_roundw
          case rel =>
            refine ⟨j + 1, by omega, by go_num, ?_⟩
            have := H'.out.put p x
            rw [HST.out] at this
            exact this
          case measure => simp [intOf]; omega
        · have H' : Hid (StH w wr key nonce (startC key nonce n)) := by have := H.out; rw [show j = 3 by omega, rowN_end] at this; exact this
          have hl4 : Hid (((startC key nonce n).map wv).length = 16) := by show _ = _; rw [List.length_map, startC_len]
          clear H
          obtain ⟨H1, H2, H3, H4, H5⟩ := H'.out
          have HB := Lib.hid H1; have HZ := Lib.hid H4; have HR := Lib.hid H5
          clear H1 H2 H3 H4 H5 H'
          obtain ⟨L, HLL⟩ : ∃ L, Hid ((startC key nonce n).map wv = L) := ⟨_, rfl⟩
          have hone : Hid (∀ v ∈ L, v.oneCell' = true) := by show ∀ v ∈ L, _; rw [← HLL.out]; exact wv_one _
          rw [HLL.out] at HR hl4
          go_wp2_with (first
            | (refine wpList_ld rfl 52 (.tmp 7) rfl (load_arr arrSt rfl (by rw [hl4.out]; exact iSt) HR.out) ?_)
            | (refine wpList_st rfl 52 (.tmp 6) (.tmp 43) rfl (store_arr (cs := L) (by rw [hl4.out]; exact iSt) hone.out HZ.out (by rw [hl4.out]; simp)) ?_))
          have hres := setRow_heap wr (w.heap.size + 1 + 1) _ L.toArray 52 _ HZ.out
          exact bodyPost_ret (results_cell_row (P := Try.prog) rfl _ _ (w.heap.size + 1 + 1) 52 L.toArray (0, 0) _ rfl hres arrSt rfl (by rw [List.size_toArray, hl4.out]; exact iSt)) rfl ⟨by rw [HLL.out], HB.out.trans (grown_below (grown_setRow _ _ _) (by omega) HB.out.size)⟩
end Go.Proofs.Ytfcnahbbieldfaa

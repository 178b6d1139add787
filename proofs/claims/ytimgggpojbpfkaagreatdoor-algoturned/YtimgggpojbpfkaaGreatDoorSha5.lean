/- The contracts of sha.Start, sha.Pad. -/
import Derived.Test.YtimgggpojbpfkaaGreatDoorSha4
namespace Go.Proofs.YtimgggpojbpfkaaGreatDoor
open Go.RowKit
set_option maxRecDepth 100000
set_option linter.unusedVariables false
set_option linter.unusedSimpArgs false

def startL : List W32 := [1779033703, 3144134277, 1013904242, 2773480762, 1359893119, 2600822924, 528734635, 1541459225]
theorem start_any (w : World) : Calls Tryz.prog 59 #[] w fun e w' => e = .returned (.agg (startL.map wv).toArray) ∧ Below w.heap.size w w' := by
  have F0 : Hid ((w.alloc (.cells (List.replicate 8 (Value.int .u32 0)).toArray 85)).heap[w.heap.size]? = some (.cells (List.replicate 8 (Value.int .u32 0)).toArray 85 (0, 0))) := heap_alloc_new' w _
  go_enter Tryz.func59, Tryz.ntmps59
  go_wp2_with (first
    | (refine wpList_st rfl 85 (.tmp 0) (.tmp 1) rfl (store_arr (cs := startL.map wv) i8W (wv_one _) F0.out (by rfl)) ?_)
    | fail)
  have hres := setRow_heap _ w.heap.size _ (startL.map wv).toArray 85 _ F0.out
  exact bodyPost_ret (results_cell_row (P := Tryz.prog) rfl _ _ w.heap.size 85 (startL.map wv).toArray (0, 0) _ rfl hres arr8W rfl i8W) rfl ⟨rfl, ((Below.refl _ _).alloc (Nat.le_refl _) _).trans (grown_below (grown_setRow _ _ _) (Nat.le_refl _) (by simp))⟩

/-- how many bytes stand ahead of the length in what is put behind n bytes -/
def padK (n : Nat) : Nat := 64 - (n % 64 + 8) % 64
def padL (n : Nat) : List UInt8 := 128 :: List.replicate (padK n - 1) 0 ++ putBig (8 * n % 18446744073709551616) 8
theorem padK_pos (n : Nat) : 1 ≤ padK n ∧ padK n ≤ 64 := by unfold padK; omega
theorem padL_len (n : Nat) : (padL n).length = padK n + 8 := by have := padK_pos n; simp [padL, putBig_len]; omega
theorem own_heap {w : World} {base g n : Nat} {bs : List UInt8} (h : w.heap[g]? = some (.cells (bs.map bv).toArray 5 (0, 0))) (hb : base ≤ g) (hl : bs.length = n) (hn : n ≤ maxLen) : w.ownsRow base 5 1 (.slice (some ⟨g, 0, none⟩) n n) n (bs.map bv) := by
  refine ⟨by simp [hl], .inr ⟨g, n, _, rfl, hb, h, Nat.le_refl _, hn, by simp [hl], ?_⟩⟩
  simp [hl, List.take_of_length_le]
theorem pad_first (k : Nat) (hk : 1 ≤ k) : (List.replicate k (Value.int .u8 0)).set 0 (.int .u8 128) = ((128 :: List.replicate (k - 1) 0 : List UInt8)).map bv := by
  obtain ⟨j, rfl⟩ : ∃ j, k = j + 1 := ⟨k - 1, by omega⟩
  simp [List.replicate_succ, bv]

set_option maxHeartbeats 800000 in
theorem pad_any (n : Nat) (w : World) (hn : n ≤ 9223372036854775807) :
    Calls Tryz.prog 91 #[.int .i64 (n : Int)] w fun e w' => ∃ v, e = .returned v ∧ w'.ownsRow w.heap.size 5 1 v (padK n + 8) ((padL n).map bv) ∧ Below w.heap.size w w' := by
  obtain ⟨r, hr⟩ : ∃ r, r = n % 64 := ⟨_, rfl⟩
  obtain ⟨s, hs⟩ : ∃ s, s = (r + 8) % 64 := ⟨_, rfl⟩
  obtain ⟨k, hk⟩ : ∃ k, k = padK n := ⟨_, rfl⟩
  obtain ⟨x, hx⟩ : ∃ x, x = 8 * n % 18446744073709551616 := ⟨_, rfl⟩
  have hk1 := padK_pos n
  have hks : k = 64 - s := by rw [hk, hs, hr]; rfl
  rw [← hk] at hk1
  have HL : Hid (padL n = (128 :: List.replicate (k - 1) 0) ++ putBig x 8) := by show _ = _; rw [hk, hx]; rfl
  have HK : Hid (padK n = k) := hk.symm
  have e1 : (n : Int).tmod 64 = (r : Int) := by rw [Int.tmod_eq_emod_of_nonneg (by omega)]; omega
  have e2 : ((r : Int) + 8).tmod 64 = (s : Int) := by rw [Int.tmod_eq_emod_of_nonneg (by omega)]; omega
  have e3 : 64 - (s : Int) = (k : Int) := by omega
  have e4 : 8 * (n : Int) % 18446744073709551616 = (x : Int) := by omega
  have e5 : (n : Int) % 18446744073709551616 = (n : Int) := by omega
  have e6 : ¬ ((n : Int) < 0) := by omega
  have HX : Hid (x < 18446744073709551616) := by show x < _; omega
  have hr64 : r < 64 := by omega
  have hs64 : s < 64 := by omega
  rw [HL.out, HK.out]
  have hmk := make_run (P := Tryz.prog) uT made8 rfl .i64 .i64 k (by omega) (by omega) w
  obtain ⟨W1, hW1⟩ : ∃ W1, W1 = w.alloc (.cells (List.replicate k (Value.int .u8 0)).toArray 5) := ⟨_, rfl⟩
  rw [← hW1] at hmk
  have F0 : Hid (W1.heap[w.heap.size]? = some (.cells (List.replicate k (Value.int .u8 0)).toArray 5 (0, 0))) := by rw [hW1]; exact heap_alloc_new' w _
  have FB : Hid (Below w.heap.size w W1) := by rw [hW1]; exact (Below.refl _ _).alloc (Nat.le_refl _) _
  have c0 : W1.cell? ⟨w.heap.size, 0, none⟩ = some (.int .u8 0) := by
    rw [cell_of_heap F0.out]; simp [show 0 < k by omega]
  have fz := frozen_of_heap F0.out 0
  have hk0 : (0 : Int) < (k : Int) := by omega
  have e7 : IntKind.u64.wrap (8 * (n : Int)) = (x : Int) := by rw [IntKind.wrap_u64]; exact e4
  have HP := Lib.hid (pad_first k hk1.1)
  clear hr hs hk hx hks hn hW1
  go_enter Tryz.func91, Tryz.ntmps91
  go_wp2_with fail
  generalize hW2 : W1.setCell _ _ = W2
  have F2 : Hid (W2.heap[w.heap.size]? = some (.cells (((128 :: List.replicate (k - 1) 0 : List UInt8)).map bv).toArray 5 (0, 0))) := by
    rw [← hW2]; have := heap_set F0.out 0 (.int .u8 128); rw [HP.out] at this; exact this
  have B2 : Hid (Below w.heap.size w W2) := by rw [← hW2]; exact FB.out.setCell (Nat.le_refl _) _
  clear hW2
  try rw [e7]
  refine (putBig_any x 8 _ HX.out (by omega)).mono ?_
  rintro e w3 ⟨g3, hg3, rfl, hk3, hb3⟩
  have F3 : Hid (w3.heap[w.heap.size]? = _) := (hb3.block _ (lt_of_heap F2.out)).trans F2.out
  have B3 : Hid (Below w.heap.size w w3) := B2.out.step hb3
  have R3 := Lib.hid (row_of_heap hk3 (Nat.lt_succ_self g3))
  have hl : Hid ((128 :: List.replicate (k - 1) 0 : List UInt8).length = k) := by show _ = _; simp; omega
  have OW := Lib.hid (own_heap F3.out (Nat.le_refl _) hl.out (by simp [maxLen]; omega))
  have hk72 : k + 8 ≤ 2147483647 := by omega
  clear hk3 hb3 hg3
  go_wp2_with (
    at_builtin
    refine wpList_app8 rfl (.tmp 14) (.tmp 18) rfl w.heap.size _ k (128 :: List.replicate (k - 1) 0) rfl ?_ _ 8 8 (g3 + 1) (putBig x 8) rfl ?_ ?_ ?_ ?_ ?_
    · exact OW.out
    · exact R3.out
    · exact putBig_len _ _
    · exact hk72
    · exact B3.out.size
    rintro v' w4 hown hgr
    have HO := Lib.hid hown
    have HE : Hid (Below w.heap.size w w4) := B3.out.grown hgr B3.out.size (fun g hg => (OW.out.lt g hg).1)
    clear hown hgr)
  go_ret
  exact ⟨_, rfl, HO.out, HE.out⟩
theorem pad_neg (n : Int) (w : World) (hn : n < 0) : Calls Tryz.prog 91 #[.int .i64 n] w fun e w' => e = .returned (.slice none 0 0) ∧ w = w' := by
  go_enter Tryz.func91, Tryz.ntmps91
  go_wp2
  go_ret
  exact ⟨rfl, rfl⟩
end Go.Proofs.YtimgggpojbpfkaaGreatDoor

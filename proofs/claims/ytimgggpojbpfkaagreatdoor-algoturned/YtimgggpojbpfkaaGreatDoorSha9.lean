/- The contract of sha.Sum. -/
import Derived.Test.YtimgggpojbpfkaaGreatDoorSha8
namespace Go.Proofs.YtimgggpojbpfkaaGreatDoor
open Go.RowKit
set_option maxRecDepth 100000
set_option linter.unusedVariables false
set_option linter.unusedSimpArgs false
def sumL (bs : List UInt8) : List UInt8 := finishL (wholeN startL bs (bs.length / 64)) (bs.drop (64 * (bs.length / 64))) bs.length
theorem sumL_len (bs : List UInt8) : (sumL bs).length = 32 := by
  rw [sumL, finishL, outL_len, wholeN_len _ _ _ (wholeN_len _ _ _ rfl)]
set_option maxHeartbeats 2000000 in
theorem sum_any (A : Option Addr) (n c : Nat) (bs : List UInt8) (w : World) (hl : bs.length = n) (hS : Sl w A c bs) (hR : Rnd w) :
    Calls Tryz.prog 37 #[.slice A n c] w fun e w' => e = .returned (.agg ((sumL bs).map bv).toArray) ∧ Below w.heap.size w w' := by
  have HL := Lib.hid hl; have HS := Lib.hid hS; have HR := Lib.hid hR
  have hn : n ≤ 9223372036854775807 := by have h1 := hS.1; have h2 := hS.2.1; unfold maxLen at h2; omega
  have HN := Lib.hid hn
  have F0 : Hid ((w.alloc (.cells (List.replicate 32 (Value.int .u8 0)).toArray 65)).heap[w.heap.size]? = some (.cells (List.replicate 32 (Value.int .u8 0)).toArray 65 (0, 0))) := heap_alloc_new' w _
  have FB : Hid (Below w.heap.size w (w.alloc (.cells (List.replicate 32 (Value.int .u8 0)).toArray 65))) := (Below.refl _ _).alloc (Nat.le_refl _) _
  have hSL : Hid (sumL bs = finishL (wholeN startL bs (n / 64)) (bs.drop (64 * (n / 64))) n) := by show _ = _; rw [← hl]; rfl
  have hZl : Hid (((sumL bs).map bv).length = 32) := by show _ = _; rw [List.length_map, sumL_len]
  have hdl : Hid ((bs.drop (64 * (n / 64))).length = n % 64) := by show _ = _; rw [List.length_drop, hl]; omega
  clear hl hS hR hn
  go_enter Tryz.func37, Tryz.ntmps37
  go_wp2_with fail
  generalize hV : w.alloc _ = W0
  have F0 : Hid (W0.heap[w.heap.size]? = some (.cells (List.replicate 32 (Value.int .u8 0)).toArray 65 (0, 0))) := by rw [← hV]; exact F0.out
  have FB : Hid (Below w.heap.size w W0) := by rw [← hV]; exact FB.out
  clear hV
  refine (start_any W0).mono ?_
  rintro e w1 ⟨rfl, hB1⟩
  have F1 := Lib.hid ((hB1.block _ (lt_of_heap F0.out)).trans F0.out)
  have FB1 := Lib.hid (FB.out.step hB1)
  have HR1 : Hid (Rnd w1) := HR.out.ext FB1.out
  have HS1 : Hid (Sl w1 A c bs) := ⟨HS.out.1, HS.out.2.1, HS.out.2.2.after FB1.out⟩
  clear hB1
  go_wp2_with fail
  refine (whole_any startL A n c bs w1 rfl HL.out HS1.out HR1.out).mono ?_
  have hYl := Lib.hid (wholeN_len startL bs (n / 64) rfl)
  generalize wholeN startL bs (n / 64) = Y at hSL hYl ⊢
  generalize bs.drop (64 * (n / 64)) = R at hSL hdl ⊢
  rintro e w2 ⟨A2, c2, rfl, hA2, hB2⟩
  have F2 := Lib.hid ((hB2.block _ (lt_of_heap F1.out)).trans F1.out)
  have FB2 := Lib.hid (FB1.out.step hB2)
  have HA2 : Hid (Sl w2 A2 c2 R) := ⟨hA2.1, hA2.2.1, hA2.2.2.after hB2⟩
  have hi8 : Hid ((Tryz.prog.info? 85).map (·.size) = some (Y.map wv).length) := by show _ = _; rw [List.length_map, hYl.out]; exact i8W
  have hle : Hid ((List.replicate 8 (Value.int .u32 0)).length = (Y.map wv).length) := by show _ = _; rw [List.length_map, hYl.out]; rfl
  clear hA2 hB2 F0 F1 FB FB1 HR1 HS1
  go_wp2_with (first
    | (refine wpList_st rfl 85 (.tmp 3) (.tmp 9) rfl (store_arr (cs := Y.map wv) (old := List.replicate 8 (Value.int .u32 0)) hi8.out (wv_one _) (heap_alloc_new' w2 _) hle.out) ?_
       generalize hV : World.setRow _ _ _ = W5
       have M0 := Lib.hid (heap_of_setRow hV (heap_alloc_new' w2 _))
       have MB := Lib.hid (below_of_setRow hV (Nat.le_refl w2.heap.size) (Nat.le_of_lt (lt_of_heap (heap_alloc_new' w2 _))))
       clear hV)
    | (refine wpList_ld rfl 85 (.tmp 3) rfl (load_arr arr8W rfl hi8.out M0.out) ?_))
  have B5 := Lib.hid ((((Below.refl w2.heap.size w2).alloc (Nat.le_refl _) _).trans MB.out))
  have F5 := Lib.hid ((B5.out.block _ (lt_of_heap F2.out)).trans F2.out)
  have FB5 := Lib.hid (FB2.out.step B5.out)
  have HR5 : Hid (Rnd W5) := HR.out.ext FB5.out
  have HS5 : Hid (Sl W5 A2 c2 R) := ⟨HA2.out.1, HA2.out.2.1, HA2.out.2.2.after B5.out⟩
  have hm : Hid (n % 64 ≤ 2147000000) := by show _ ≤ _; omega
  clear MB M0 B5 F2 FB2 HA2
  refine (finish_any Y A2 (n % 64) c2 n R W5 hYl.out hdl.out hm.out HN.out HS5.out HR5.out).mono ?_
  rw [← hSL.out]
  obtain ⟨Z, HZ⟩ : ∃ Z, Hid (sumL bs = Z) := ⟨_, rfl⟩
  rw [HZ.out]
  rw [HZ.out] at hZl
  rintro e w6 ⟨rfl, hB6⟩
  have P1 := Lib.hid ((hB6.block _ (lt_of_heap F5.out)).trans F5.out)
  have PB := Lib.hid (FB5.out.step hB6)
  have hi32 : Hid ((Tryz.prog.info? 65).map (·.size) = some (Z.map bv).length) := by show _ = _; rw [hZl.out]; exact i32B
  clear hB6 F5 FB5 HR5 HS5
  go_wp2_with (first
    | (refine wpList_st rfl 65 (.tmp 2) (.tmp 15) rfl (store_arr (cs := Z.map bv) (old := List.replicate 32 (Value.int .u8 0)) hi32.out (bv_one _) P1.out (by rw [hZl.out]; simp)) ?_)
    | fail)
  have hres := setRow_heap w6 w.heap.size _ (Z.map bv).toArray 65 _ P1.out
  rw [HZ.out]
  exact bodyPost_ret (results_cell_row (P := Tryz.prog) rfl _ _ w.heap.size 65 (Z.map bv).toArray (0, 0) _ rfl hres arr32B rfl (by rw [List.size_toArray, hZl.out]; exact i32B)) rfl ⟨rfl, PB.out.trans (grown_below (grown_setRow _ _ _) (Nat.le_refl _) PB.out.size)⟩
end Go.Proofs.YtimgggpojbpfkaaGreatDoor

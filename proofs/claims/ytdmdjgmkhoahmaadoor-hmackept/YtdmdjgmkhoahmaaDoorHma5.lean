/- The law file's own 'awake' (layer 7). -/
import Derived.Test.YtdmdjgmkhoahmaaDoorHma4
import Derived.Lib.SlBytesConst
namespace Go.Proofs.YtdmdjgmkhoahmaaDoor
open Go.RowKit
set_option linter.unusedVariables false
set_option linter.unusedSimpArgs false
def keyX : List UInt8 := [107, 101, 121]
def foxX : List UInt8 := [84, 104, 101, 32, 113, 117, 105, 99, 107, 32, 98, 114, 111, 119, 110, 32, 102, 111, 120, 32, 106, 117, 109, 112, 115, 32, 111, 118, 101, 114, 32, 116, 104, 101, 32, 108, 97, 122, 121, 32, 100, 111, 103]
theorem fox_len : foxX.length = 43 := rfl
set_option maxRecDepth 100000 in
theorem hmac_fox : (hmacL keyX foxX).take 4 = [247, 188, 131, 244] := by decide +kernel
theorem fox4 : ∃ r : List UInt8, hmacL keyX foxX = 247 :: 188 :: 131 :: 244 :: r ∧ r.length = 28 := by
  have h := hmac_fox
  have hl := hmacL_len keyX foxX
  generalize hmacL keyX foxX = Z at h hl
  match Z, h, hl with
  | a :: b :: c :: d :: r, h, hl =>
    simp at h hl
    obtain ⟨rfl, rfl, rfl, rfl⟩ := h
    exact ⟨r, rfl, hl⟩
def keyA : Array Value := #[.int .u8 107, .int .u8 101, .int .u8 121]
def foxA : Array Value := #[.int .u8 84, .int .u8 104, .int .u8 101, .int .u8 32, .int .u8 113, .int .u8 117, .int .u8 105, .int .u8 99, .int .u8 107, .int .u8 32, .int .u8 98, .int .u8 114, .int .u8 111, .int .u8 119, .int .u8 110, .int .u8 32, .int .u8 102, .int .u8 111, .int .u8 120, .int .u8 32, .int .u8 106, .int .u8 117, .int .u8 109, .int .u8 112, .int .u8 115, .int .u8 32, .int .u8 111, .int .u8 118, .int .u8 101, .int .u8 114, .int .u8 32, .int .u8 116, .int .u8 104, .int .u8 101, .int .u8 32, .int .u8 108, .int .u8 97, .int .u8 122, .int .u8 121, .int .u8 32, .int .u8 100, .int .u8 111, .int .u8 103]
theorem keyA_eq : keyA = (keyX.map bv).toArray := rfl
theorem foxA_eq : foxA = (foxX.map bv).toArray := rfl
set_option maxHeartbeats 1000000 in
theorem awake7_any (w : World) (hR : Rnd w) : Calls Tryd.prog 9 #[] w fun e w' => e = .returned (.bool true) ∧ Below w.heap.size w w' := by
  have HR := Lib.hid hR
  clear hR
  obtain ⟨r, hr, hrl⟩ := fox4
  have H4 := Lib.hid hr
  have HRL := Lib.hid hrl
  have hcv1 := Lib.run_convert_bytes_const (P := Tryd.prog) w 22 5 #[.int .u8 107, .int .u8 101, .int .u8 121] 3 3 uT Tryd.underlying5
  have hcv2 := Lib.run_convert_bytes_const (P := Tryd.prog) (w.alloc (.cells #[.int .u8 107, .int .u8 101, .int .u8 121] 5 (3, 4))) 22 5 #[.int .u8 84, .int .u8 104, .int .u8 101, .int .u8 32, .int .u8 113, .int .u8 117, .int .u8 105, .int .u8 99, .int .u8 107, .int .u8 32, .int .u8 98, .int .u8 114, .int .u8 111, .int .u8 119, .int .u8 110, .int .u8 32, .int .u8 102, .int .u8 111, .int .u8 120, .int .u8 32, .int .u8 106, .int .u8 117, .int .u8 109, .int .u8 112, .int .u8 115, .int .u8 32, .int .u8 111, .int .u8 118, .int .u8 101, .int .u8 114, .int .u8 32, .int .u8 116, .int .u8 104, .int .u8 101, .int .u8 32, .int .u8 108, .int .u8 97, .int .u8 122, .int .u8 121, .int .u8 32, .int .u8 100, .int .u8 111, .int .u8 103] 43 43 uT Tryd.underlying5
  rw [World.size_alloc] at hcv2
  have HHA := Lib.hid (fun A c A' c' W hS hS' hR => hmac_any A 3 c keyX A' 43 c' foxX W rfl fox_len (by omega) hS hS' hR)
  rw [H4.out] at HHA
  have HS1 : Hid (∀ W g, W.heap[g]? = some (.cells #[.int .u8 107, .int .u8 101, .int .u8 121] 5 (3, 4)) → Sl W (some ⟨g, 0, none⟩) 3 keyX) := fun W g h => sl_row (bs := keyX) rfl (by omega) (by rw [← keyA_eq]; exact h)
  have HS2 : Hid (∀ W g, W.heap[g]? = some (.cells #[.int .u8 84, .int .u8 104, .int .u8 101, .int .u8 32, .int .u8 113, .int .u8 117, .int .u8 105, .int .u8 99, .int .u8 107, .int .u8 32, .int .u8 98, .int .u8 114, .int .u8 111, .int .u8 119, .int .u8 110, .int .u8 32, .int .u8 102, .int .u8 111, .int .u8 120, .int .u8 32, .int .u8 106, .int .u8 117, .int .u8 109, .int .u8 112, .int .u8 115, .int .u8 32, .int .u8 111, .int .u8 118, .int .u8 101, .int .u8 114, .int .u8 32, .int .u8 116, .int .u8 104, .int .u8 101, .int .u8 32, .int .u8 108, .int .u8 97, .int .u8 122, .int .u8 121, .int .u8 32, .int .u8 100, .int .u8 111, .int .u8 103] 5 (43, 44)) → Sl W (some ⟨g, 0, none⟩) 43 foxX) := fun W g h => sl_row (bs := foxX) rfl (by omega) (by rw [← foxA_eq]; exact h)
  have hi32 : Hid ((Tryd.prog.info? 23).map (·.size) = some ((247 :: 188 :: 131 :: 244 :: r : List UInt8).map bv).length) := by show _ = _; rw [List.length_map]; simp only [List.length_cons, HRL.out]; exact i32B
  have hle : Hid ((List.replicate 32 (Value.int .u8 0)).length = ((247 :: 188 :: 131 :: 244 :: r : List UInt8).map bv).length) := by show _ = _; rw [List.length_map]; simp only [List.length_cons, HRL.out]; rfl
  clear hr hrl H4
  go_enter Tryd.func9, Tryd.ntmps9
  go_wp2_with fail
  generalize hV : (w.alloc _).alloc _ = W0
  have F1 := Lib.hid (HS1.out W0 w.heap.size (by rw [← hV]; exact (heap2 w _ _).1))
  have F2 := Lib.hid (HS2.out W0 (w.heap.size + 1) (by rw [← hV]; exact (heap2 w _ _).2.1))
  have FB : Hid (Below w.heap.size w W0) := by rw [← hV]; exact (heap2 w _ _).2.2
  clear hV hcv1 hcv2
  refine (HHA.out _ _ _ _ W0 F1.out F2.out (HR.out.ext FB.out)).mono ?_
  rintro e w1 ⟨rfl, hB1⟩
  have HB1 := Lib.hid (FB.out.step hB1)
  clear hB1
  go_wp2_with (first
    | (refine wpList_st rfl 23 (.tmp 1) (.tmp 6) rfl (store_arr (cs := (247 :: 188 :: 131 :: 244 :: r : List UInt8).map bv) (old := List.replicate 32 (Value.int .u8 0)) hi32.out (bv_one _) (heap_alloc_new' w1 _) hle.out) ?_
       generalize hV : World.setRow _ _ _ = W5
       have M0 := Lib.hid (heap_of_setRow hV (heap_alloc_new' w1 _))
       have MB := Lib.hid (HB1.out.trans (((Below.refl _ w1).alloc (Nat.le_refl _) _).trans (below_of_setRow hV (Nat.le_refl w1.heap.size) (by simp)) |>.mono HB1.out.size))
       have c0 : W5.cell? ⟨w1.heap.size, 0, none⟩ = some (.int .u8 247) := cell_of_heap M0.out 0
       have c1 : W5.cell? ⟨w1.heap.size, 1, none⟩ = some (.int .u8 188) := cell_of_heap M0.out 1
       have c2 : W5.cell? ⟨w1.heap.size, 2, none⟩ = some (.int .u8 131) := cell_of_heap M0.out 2
       have c3 : W5.cell? ⟨w1.heap.size, 3, none⟩ = some (.int .u8 244) := cell_of_heap M0.out 3
       clear hV)
    | fail)
  go_ret
  exact ⟨rfl, MB.out⟩
end Go.Proofs.YtdmdjgmkhoahmaaDoor

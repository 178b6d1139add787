/- AES in Lean, and the contracts of the small functions of package aes. -/
import Derived.Test.YtjmpbcfbfbjenaaSha7
import Derived.Test.YtjmpbcfbfbjenaaRefS1
namespace Go.Proofs.Ytjmpbcfbfbjenaa
open Go.RowKit
set_option linter.unusedVariables false
set_option maxRecDepth 100000
set_option linter.unusedSimpArgs false
def dblW (x : W32) : W32 := ((x &&& 2139062143#32) <<< 1) ^^^ ((x >>> 7 &&& 16843009#32) * 27#32)
def mixW (x : W32) : W32 := dblW x ^^^ dblW (rotl x 8) ^^^ rotl x 8 ^^^ rotl x 16 ^^^ rotl x 24
def unmixW (x : W32) : W32 := mixW (mixW (mixW x))
theorem shl32 (x : W32) (k : Nat) (m : Int) (hm : m = 2 ^ k) : ((x.toNat : Int) * m) % 4294967296 = ((x <<< k).toNat : Int) := by
  rw [BitVec.toNat_shiftLeft, Nat.shiftLeft_eq, hm]; simp
theorem mul32 (x y : W32) : ((x.toNat : Int) * (y.toNat : Int)) % 4294967296 = ((x * y).toNat : Int) := by
  rw [BitVec.toNat_mul]; simp
set_option maxHeartbeats 1000000 in
theorem double_any (x : W32) (w : World) : Calls Try.prog 92 #[wv x] w fun e w' => e = .returned (wv (dblW x)) ∧ w = w' := by
  unfold wv
  obtain ⟨x7, h7⟩ : ∃ z, z = x >>> 7 := ⟨_, rfl⟩
  obtain ⟨f, hf⟩ : ∃ z, z = x7 &&& 16843009#32 := ⟨_, rfl⟩
  obtain ⟨a, ha⟩ : ∃ z, z = x &&& 2139062143#32 := ⟨_, rfl⟩
  obtain ⟨a2, ha2⟩ : ∃ z, z = a <<< 1 := ⟨_, rfl⟩
  obtain ⟨p, hp⟩ : ∃ z, z = f * 27#32 := ⟨_, rfl⟩
  obtain ⟨r, hr⟩ : ∃ z, z = dblW x := ⟨_, rfl⟩
  have u1 : (x.toNat : Int) / 128 = (x7.toNat : Int) := by rw [h7, shr32]; rfl
  have u2 : bits .and .u32 (x7.toNat : Int) 16843009 = (f.toNat : Int) := by rw [hf]; exact and32 x7 16843009#32
  have u3 : bits .and .u32 (x.toNat : Int) 2139062143 = (a.toNat : Int) := by rw [ha]; exact and32 x 2139062143#32
  have u4 : (a.toNat : Int) * 2 % 4294967296 = (a2.toNat : Int) := by rw [ha2]; exact shl32 a 1 2 rfl
  have u5 : (f.toNat : Int) * 27 % 4294967296 = (p.toNat : Int) := by rw [hp]; exact mul32 f 27#32
  have u6 : Hid (bits .xor .u32 (a2.toNat : Int) (p.toNat : Int) = (r.toNat : Int)) := by show _ = _; rw [hr, xor32, ha2, hp, ha, hf, h7]; rfl
  rw [← hr]
  clear h7 hf ha ha2 hp hr
  go_enter Try.func92, Try.ntmps92
  go_wp2
  go_ret
  exact ⟨ret_int (by first | exact u6.out | (rw [u6.out])), rfl⟩
set_option maxHeartbeats 1000000 in
theorem mixW_any (x : W32) (w : World) : Calls Try.prog 74 #[wv x] w fun e w' => e = .returned (wv (mixW x)) ∧ w = w' := by
  unfold wv
  obtain ⟨n, hn⟩ : ∃ z, z = rotl x 8 := ⟨_, rfl⟩
  obtain ⟨d1, hd1⟩ : ∃ z, z = dblW x := ⟨_, rfl⟩
  obtain ⟨d2, hd2⟩ : ∃ z, z = dblW n := ⟨_, rfl⟩
  obtain ⟨s1, hs1⟩ : ∃ z, z = d1 ^^^ d2 := ⟨_, rfl⟩
  obtain ⟨s2, hs2⟩ : ∃ z, z = s1 ^^^ n := ⟨_, rfl⟩
  obtain ⟨r16, h16⟩ : ∃ z, z = rotl x 16 := ⟨_, rfl⟩
  obtain ⟨s3, hs3⟩ : ∃ z, z = s2 ^^^ r16 := ⟨_, rfl⟩
  obtain ⟨r24, h24⟩ : ∃ z, z = rotl x 24 := ⟨_, rfl⟩
  obtain ⟨r, hr⟩ : ∃ z, z = mixW x := ⟨_, rfl⟩
  have u1 : bits .xor .u32 (d1.toNat : Int) (d2.toNat : Int) = (s1.toNat : Int) := by rw [hs1]; exact xor32 _ _
  have u2 : bits .xor .u32 (s1.toNat : Int) (n.toNat : Int) = (s2.toNat : Int) := by rw [hs2]; exact xor32 _ _
  have u3 : bits .xor .u32 (s2.toNat : Int) (r16.toNat : Int) = (s3.toNat : Int) := by rw [hs3]; exact xor32 _ _
  have u4 : Hid (bits .xor .u32 (s3.toNat : Int) (r24.toNat : Int) = (r.toNat : Int)) := by show _ = _; rw [hr, xor32, h24, hs3, hs2, hs1, hd1, hd2, hn, h16]; rfl
  have HN := Lib.hid hn; have HD1 := Lib.hid hd1; have HD2 := Lib.hid hd2; have H16 := Lib.hid h16; have H24 := Lib.hid h24
  rw [← hr]
  clear hn hd1 hd2 hs1 hs2 h16 hs3 h24 hr
  go_enter Try.func74, Try.ntmps74
  go_wp2_with fail
  refine (left_any x 8 w).mono ?_
  rw [← HN.out]
  rintro e w1 ⟨rfl, rfl⟩
  go_wp2_with fail
  refine (double_any x w).mono ?_
  rw [← HD1.out]
  rintro e w1 ⟨rfl, rfl⟩
  unfold wv
  go_wp2_with fail
  refine (double_any n w).mono ?_
  rw [← HD2.out]
  rintro e w1 ⟨rfl, rfl⟩
  unfold wv
  go_wp2_with fail
  refine (left_any x 16 w).mono ?_
  rw [← H16.out]
  rintro e w1 ⟨rfl, rfl⟩
  go_wp2_with fail
  refine (left_any x 24 w).mono ?_
  rw [← H24.out]
  rintro e w1 ⟨rfl, rfl⟩
  go_wp2
  go_ret
  exact ⟨ret_int (by first | exact u4.out | (rw [u4.out])), rfl⟩
theorem unmixW_any (x : W32) (w : World) : Calls Try.prog 81 #[wv x] w fun e w' => e = .returned (wv (unmixW x)) ∧ w = w' := by
  have H1 := Lib.hid (fun W => mixW_any x W)
  have H2 := Lib.hid (fun W => mixW_any (mixW x) W)
  have H3 := Lib.hid (fun W => mixW_any (mixW (mixW x)) W)
  unfold unmixW
  generalize mixW (mixW (mixW x)) = x3 at H3 ⊢
  generalize mixW (mixW x) = x2 at H2 H3
  generalize mixW x = x1 at H1 H2
  go_enter Try.func81, Try.ntmps81
  go_wp2_with fail
  refine (H1.out w).mono ?_
  rintro e w1 ⟨rfl, rfl⟩
  go_wp2_with fail
  refine (H2.out w).mono ?_
  rintro e w1 ⟨rfl, rfl⟩
  go_wp2_with fail
  refine (H3.out w).mono ?_
  rintro e w1 ⟨rfl, rfl⟩
  go_wp2
  go_ret
  exact ⟨rfl, rfl⟩
def sboxL : List UInt8 := [
  99, 124, 119, 123, 242, 107, 111, 197, 48, 1, 103, 43, 254, 215, 171, 118,
  202, 130, 201, 125, 250, 89, 71, 240, 173, 212, 162, 175, 156, 164, 114, 192,
  183, 253, 147, 38, 54, 63, 247, 204, 52, 165, 229, 241, 113, 216, 49, 21,
  4, 199, 35, 195, 24, 150, 5, 154, 7, 18, 128, 226, 235, 39, 178, 117,
  9, 131, 44, 26, 27, 110, 90, 160, 82, 59, 214, 179, 41, 227, 47, 132,
  83, 209, 0, 237, 32, 252, 177, 91, 106, 203, 190, 57, 74, 76, 88, 207,
  208, 239, 170, 251, 67, 77, 51, 133, 69, 249, 2, 127, 80, 60, 159, 168,
  81, 163, 64, 143, 146, 157, 56, 245, 188, 182, 218, 33, 16, 255, 243, 210,
  205, 12, 19, 236, 95, 151, 68, 23, 196, 167, 126, 61, 100, 93, 25, 115,
  96, 129, 79, 220, 34, 42, 144, 136, 70, 238, 184, 20, 222, 94, 11, 219,
  224, 50, 58, 10, 73, 6, 36, 92, 194, 211, 172, 98, 145, 149, 228, 121,
  231, 200, 55, 109, 141, 213, 78, 169, 108, 86, 244, 234, 101, 122, 174, 8,
  186, 120, 37, 46, 28, 166, 180, 198, 232, 221, 116, 31, 75, 189, 139, 138,
  112, 62, 181, 102, 72, 3, 246, 14, 97, 53, 87, 185, 134, 193, 29, 158,
  225, 248, 152, 17, 105, 217, 142, 148, 155, 30, 135, 233, 206, 85, 40, 223,
  140, 161, 137, 13, 191, 230, 66, 104, 65, 153, 45, 15, 176, 84, 187, 22]
theorem sboxL_len : sboxL.length = 256 := by decide +kernel
def zeros256 : List Value := List.replicate 256 (Value.int .u8 0)
theorem zeros256_len : zeros256.length = 256 := by unfold zeros256; exact List.length_replicate
theorem zeroTb (W : World) : (zeroValue 97).run Try.prog W = .ok (.agg zeros256.toArray) W := by kernel_rfl
theorem arrTb : Try.prog.underlying 97 = some (.array 256 5) := Try.underlying97
theorem iTb : (Try.prog.info? 97).map (·.size) = some 256 := by kernel_rfl
theorem subCells : (sboxL.map bv).length = 256 := by rw [List.length_map]; exact sboxL_len
def sboxV : List Value := sboxL.map bv
set_option maxRecDepth 100000 in
set_option maxHeartbeats 2000000 in
theorem forward_any (w : World) : Calls Try.prog 70 #[] w fun e w' => e = .returned (.agg (sboxL.map bv).toArray) ∧ Below w.heap.size w w' := by
  have F0 : Hid ((w.alloc (.cells zeros256.toArray 97)).heap[w.heap.size]? = some (.cells zeros256.toArray 97 (0, 0))) := heap_alloc_new' w _
  have HI : Hid ((Try.prog.info? 97).map (·.size) = some sboxV.length) := by show _ = some (sboxL.map bv).length; rw [subCells]; exact iTb
  have HIs : Hid ((Try.prog.info? 97).map (·.size) = some sboxV.toArray.size) := by show _ = some (sboxL.map bv).toArray.size; rw [List.size_toArray, subCells]; exact iTb
  have HE : Hid (zeros256.length = sboxV.length) := by show _ = (sboxL.map bv).length; rw [subCells, zeros256_len]
  have HO : Hid (∀ v ∈ sboxV, v.oneCell' = true) := bv_one sboxL
  have hz := zeroTb
  have HV : Hid (sboxL.map bv = sboxV) := rfl
  have HB : Hid (∀ (a : Act) (o : Oper), True) := fun _ _ => trivial
  rw [HV.out]
  go_enter Try.func70, Try.ntmps70
  go_wp2_with (first
    | (refine wpList_run (o := ⟨some 1, _, _, _, _, _⟩) rfl (v := .agg sboxV.toArray) (w' := w.alloc (.cells zeros256.toArray 97)) (by kernel_rfl) ?_
       obtain ⟨R, hR⟩ : ∃ R, Hid (sboxV = R) := ⟨_, rfl⟩
       rw [hR.out] at HI HIs HE HO ⊢)
    | (refine wpList_st rfl 97 (.tmp 0) (.tmp 1) rfl (store_arr (cs := R) HI.out HO.out F0.out HE.out) ?_))
  have hres := setRow_heap _ w.heap.size _ R.toArray 97 _ F0.out
  exact bodyPost_ret (results_cell_row (P := Try.prog) rfl _ _ w.heap.size 97 R.toArray (0, 0) _ rfl hres arrTb rfl HIs.out) rfl ⟨by rw [hR.out], ((Below.refl _ _).alloc (Nat.le_refl _) _).trans (grown_below (grown_setRow _ _ _) (Nat.le_refl _) (by simp))⟩
def subL (x : UInt8) : UInt8 := sboxL.getD x.toNat 0
end Go.Proofs.Ytjmpbcfbfbjenaa

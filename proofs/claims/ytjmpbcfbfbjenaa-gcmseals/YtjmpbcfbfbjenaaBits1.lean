/- Contracts of the functions of package bits, the smallest ones. -/
import Derived.Test.YtjmpbcfbfbjenaaChecked
import Derived.WalkKit
import Derived.WalkSpells
import Derived.Lib.Hide
import Derived.Test.YtjmpbcfbfbjenaaNum
import Derived.Test.YtjmpbcfbfbjenaaMem
namespace Go.Proofs.Ytjmpbcfbfbjenaa
open Go.RowKit
set_option linter.unusedVariables false
set_option maxRecDepth 100000
theorem left_any (x : BitVec 32) (n : Int) (w : World) :
    Calls Try.prog 91 #[.int .u32 (x.toNat : Int), .int .i64 n] w fun e w' => e = .returned (.int .u32 ((rotl x n).toNat : Int)) ∧ w = w' := by
  have hk : (n % 32).toNat < 32 := by omega
  have ha := and31 n
  unfold rotl
  generalize (n % 32).toNat = k at hk ha
  have hs : (IntKind.u64.wrap (32 - (k : Int))).toNat = 32 - k := by rw [IntKind.wrap_u64]; omega
  have hm := Lib.hid (left_math x k hk)
  go_enter Try.func91, Try.ntmps91
  go_wp2
  go_ret
  exact ⟨ret_int hm.out, rfl⟩

theorem uT : Try.prog.underlying 26 = some (.slice 5) := Try.underlying26
theorem s8 : (Try.prog.info? 5).map (·.size) = some 1 := by kernel_rfl

theorem big_any (A : Option Addr) (c : Nat) (bs : List UInt8) (B : Nat) (w : World) (h1 : bs.length ≤ c) (h2 : c ≤ maxLen) (hB : B ≤ w.heap.size) (hr : RowAt w B A (bs.map bv)) :
    Calls Try.prog 89 #[.slice A bs.length c] w fun e w' => e = .returned (.int .u64 (big bs : Int)) ∧ Below w.heap.size w w' := by
  unfold maxLen at h2
  have hr' := hr.cut (c := c) (l := bs.length - 8) (by simp) (by simpa using h1)
  obtain ⟨L, hL⟩ : ∃ L, L = bs.drop (bs.length - 8) := ⟨_, rfl⟩
  have hbig : big bs = bigN L := by rw [big, hL]
  have hcut0 := cut_from uT s8 A bs.length c .i64 ((bs.length - 8 : Nat) : Int) (by omega) (by omega)
  have hm : bs.length - (bs.length - 8) = L.length := by rw [hL, List.length_drop]
  rw [Int.toNat_natCast, hm] at hcut0
  rw [← List.map_drop, ← hL] at hr'
  have hL8 : L.length ≤ 8 := by omega
  have hmx : (if (bs.length : Int) - 8 < 0 then (0 : Int) else bs.length - 8) = ((bs.length - 8 : Nat) : Int) := by split <;> omega
  have hbl : (bs.length : Int) ≤ 9223372036854775807 := by omega
  rw [hbig]
  clear hbig hm hL hr h1 h2
  generalize cutS A c (bs.length - 8) = A' at hcut0 hr'
  generalize c - (bs.length - 8) = c' at hcut0
  generalize bs.length = n at hcut0 hmx hbl
  have harr := arr_from (P := Try.prog) (t := 124) Try.underlying124 s8 ⟨w.heap.size, 0, none⟩ .i64 (8 - (L.length : Int)) (by omega) (by omega)
  have e1 : (8 - (L.length : Int)).toNat = 8 - L.length := by omega
  have e2 : 8 - (8 - L.length) = L.length := by omega
  rw [e1, e2] at harr
  clear e1 e2
  have hwb : Below w.heap.size w (w.alloc (.cells (List.replicate 8 (.int .u8 0)).toArray 124)) := (Below.refl _ _).alloc (Nat.le_refl _) _
  obtain ⟨W2, hcopy, hblk, _, hgr⟩ := copy_run uT s8 (sT := 26) 3 _ w.heap.size (8 - L.length) (List.replicate 8 (.int .u8 0)) 124 (heap_alloc_new' w _)
    (some (cutA ⟨w.heap.size, 0, none⟩ 8 (8 - L.length))) A' L.length L.length L.length c' B (L.map bv) (by simp) (fun hp => by
      simp only [List.length_map] at hp; unfold cutA; rw [if_neg (by omega), add_none]; simp) (hr'.below (hwb.mono hB)) (by simp; omega) (bv_one L)
  have hbel : Below w.heap.size w W2 := hwb.trans (grown_below hgr (Nat.le_refl _) (by simp))
  obtain ⟨L8, hL8'⟩ : ∃ L8, L8 = List.replicate (8 - L.length) 0 ++ L := ⟨_, rfl⟩
  have hsp : splice (List.replicate 8 (.int .u8 0)) (8 - L.length) (L.map bv) = L8.map bv := by
    have := splice_split (List.replicate (8 - L.length) (Value.int .u8 0)) (List.replicate L.length (Value.int .u8 0)) [] (L.map bv) (by simp)
    rw [hL8', List.map_append, List.map_replicate]
    simp only [List.length_replicate, List.append_nil, List.replicate_append_replicate, show 8 - L.length + L.length = 8 by omega] at this
    exact this
  rw [hsp] at hblk
  have hlen : L8.length = 8 := by rw [hL8']; simp; omega
  have hN : bigN L8 = bigN L := by rw [hL8', bigN_zeros]
  have hcell : ∀ k, k < 8 → W2.cell? ⟨w.heap.size, k, none⟩ = some (.int .u8 ((L8.getD k 0).toNat : Int)) := by
    intro k hk
    rw [cell_of_heap hblk, List.getElem?_map]
    simp [List.getD, hlen, hk, bv]
  rw [← hN]
  simp only [List.length_map, List.reduceReplicate] at hcopy
  clear hsp hL8' hN hblk hgr hwb
  have HB := Lib.hid hbel
  have HL := Lib.hid hlen
  clear hbel hlen
  go_enter Try.func89, Try.ntmps89
  go_wp2_with fail
  go_loop [4, 18] (fun nv iv => ∃ k : Nat, k ≤ 8 ∧ iv = .int .i64 k ∧ nv = .int .u64 (bigN (L8.take k))) (fun _ i => 8 - (intOf i).toNat)
  case atStart => exact ⟨0, by omega, rfl, rfl⟩
  case round =>
    obtain ⟨k, hk, rfl, rfl⟩ := hrel
    by_cases hlt : k < 8
    · have hck := hcell k hlt
      have hs := Lib.hid (take_snoc8 L8 k (by rw [HL.out]; exact hlt))
      have hN7 := bigN_lt7 (L8.take k) (by rw [List.length_take]; omega)
      clear hcell
      generalize L8.getD k 0 = x at hck hs
      have hb : x.toNat < 256 := x.toNat_lt
      have hj := Lib.hid (shl8_or (bigN (L8.take k)) x.toNat hN7 hb)
      go_wp2
      go_round
      case rel => exact ⟨k + 1, by omega, by go_num, by rw [hs.out, bigN_snoc]; exact congrArg _ hj.out⟩
      case measure => simp [intOf]; omega
    · go_wp2
      go_ret
      have : k = 8 := by omega
      exact ⟨ret_int (by rw [List.take_of_length_le (by rw [HL.out]; omega)]), HB.out⟩
end Go.Proofs.Ytjmpbcfbfbjenaa
/- ghash.Lengths; palfreyref06.Lengths, Padded. -/
import Derived.Test.YtjlljifllnmdoaaRefG2
import Derived.Test.YtjlljifllnmdoaaRef1
import Derived.Test.YtjlljifllnmdoaaApp
namespace Go.Proofs.Ytjlljifllnmdoaa
open Go.RowKit
set_option maxRecDepth 100000
set_option linter.unusedVariables false
set_option linter.unusedSimpArgs false
theorem g_own_below {w w' : World} {base : Nat} {e : TypeId} {s : Nat} {v : Value} {n : Nat} {xs : List Value} (h : w.ownsRow base e s v n xs) (hb : Below w.heap.size w w') : w'.ownsRow base e s v n xs := by
  obtain ⟨h0, h | ⟨g, cap, cur, hv, hg, hh, r⟩⟩ := h
  · exact ⟨h0, .inl h⟩
  · exact ⟨h0, .inr ⟨g, cap, cur, hv, hg, (hb.block _ (lt_of_heap hh)).trans hh, r⟩⟩
theorem g_own_ge {w : World} {base : Nat} {e : TypeId} {s : Nat} {v : Value} {n : Nat} {xs : List Value} (h : w.ownsRow base e s v n xs) {B : Nat} (hB : B ≤ base) : ∀ g, v.ownBlock = some g → B ≤ g := fun g hq => Nat.le_trans hB (h.lt g hq).1
/-- 8 times a length, as 64 bits hold it -/
def len8 (z : Int) : Nat := (8 * z % 18446744073709551616).toNat
theorem len8_lt (z : Int) : len8 z < 18446744073709551616 := by unfold len8; omega
theorem len8_wrap (z : Int) : IntKind.u64.wrap (8 * IntKind.u64.wrap z) = (len8 z : Int) := by rw [IntKind.wrap_u64, IntKind.wrap_u64]; unfold len8; omega
theorem len8_mod (z : Int) : 8 * (z % 18446744073709551616) % 18446744073709551616 = (len8 z : Int) := by unfold len8; omega
theorem len_row (p q : Nat) (hq : q < 18446744073709551616) : rowL (p * 18446744073709551616 + q) = [p, q] := by
  unfold rowL hiV loV
  rw [show (p * 18446744073709551616 + q) / 18446744073709551616 = p by omega, show (p * 18446744073709551616 + q) % 18446744073709551616 = q by omega]
theorem len_lt (p q : Nat) (hp : p < 18446744073709551616) (hq : q < 18446744073709551616) : p * 18446744073709551616 + q < 2 ^ 128 := by rw [e128]; omega
/-- two lengths as a block -/
def lenL (a b : Int) : List UInt8 := blkL (len8 a * 18446744073709551616 + len8 b)
theorem lenL_len (a b : Int) : (lenL a b).length = 16 := blkL_len _
theorem lenL_parts (a b : Int) : putBig (len8 a) 8 ++ putBig (len8 b) 8 = lenL a b := by
  have h := flatR_end (len8 a * 18446744073709551616 + len8 b)
  have hb := len8_lt b
  rw [show hiV (len8 a * 18446744073709551616 + len8 b) = len8 a by unfold hiV; omega, show loV (len8 a * 18446744073709551616 + len8 b) = len8 b by unfold loV; omega] at h
  exact h
set_option maxHeartbeats 1000000 in
theorem glen_any (a b : Int) (w : World) : Calls Try.prog 14 #[.int .i64 a, .int .i64 b] w fun e w' => e = .returned (.agg ((lenL a b).map bv).toArray) ∧ Below w.heap.size w w' := by
  have HR := Lib.hid (len_row (len8 a) (len8 b) (len8_lt b))
  have HF := Lib.hid (fun W => gflat_any (len8 a * 18446744073709551616 + len8 b) W (len_lt _ _ (len8_lt a) (len8_lt b)))
  rw [HR.out] at HF
  change Hid (∀ W, Calls _ _ _ W fun e w' => e = .returned (.agg ((lenL a b).map bv).toArray) ∧ _) at HF
  have u1 := len8_mod a
  have u2 := len8_mod b
  have u3 := len8_wrap a
  have u4 := len8_wrap b
  have HZL := Lib.hid (lenL_len a b)
  generalize lenL a b = Z at HF HZL ⊢
  generalize len8 a = p at HF u1 u3
  generalize len8 b = q at HF u2 u4
  have hi16 : Hid ((Try.prog.info? 23).map (·.size) = some (Z.map bv).length) := i16l Z HZL.out
  have hz16 : ∀ W, (zeroValue 23).run Try.prog W = .ok (.agg ((blkL 0).map bv).toArray) W := fun W => by kernel_rfl
  have HB0 : Hid ((blkL 0).length = 16) := blkL_len 0
  generalize blkL 0 = B0 at hz16 HB0
  go_enter Try.func14, Try.ntmps14
  go_wp2_with fail
  generalize hV : w.alloc _ = W0
  have F0 : Hid (W0.heap[w.heap.size]? = some (.cells (B0.map bv).toArray 23 (0, 0))) := heap_of_alloc hV
  have FB := Lib.hid (below_of_alloc hV (Nat.le_refl w.heap.size))
  clear hV
  refine (HF.out W0).mono ?_
  rintro e w1 ⟨rfl, hb1⟩
  have P0 := Lib.hid ((hb1.block _ (lt_of_heap F0.out)).trans F0.out)
  have PB := Lib.hid (FB.out.step hb1)
  clear hb1 F0 FB
  go_wp2_with (first
    | (refine wpList_st rfl 23 (.tmp 4) (.tmp 12) rfl (store_arr (cs := Z.map bv) hi16.out (bv_one _) (old := B0.map bv) P0.out (by rw [List.length_map, List.length_map, HB0.out, HZL.out])) ?_)
    | fail)
  have hres := setRow_heap w1 w.heap.size _ (Z.map bv).toArray 23 _ P0.out
  exact bodyPost_ret (results_cell_row (P := Try.prog) rfl _ _ w.heap.size 23 (Z.map bv).toArray (0, 0) _ rfl hres arr16B rfl (by rw [List.size_toArray, List.length_map, HZL.out]; exact i16B)) rfl ⟨rfl, PB.out.trans (grown_below (grown_setRow _ _ _) (Nat.le_refl _) PB.out.size)⟩
end Go.Proofs.Ytjlljifllnmdoaa

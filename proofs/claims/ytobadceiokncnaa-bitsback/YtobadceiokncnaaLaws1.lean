/- The walks of the laws BitsBack, BitsZeros. -/
import Derived.Test.YtobadceiokncnaaAwake1
import Derived.Test.YtobadceiokncnaaLift
import Derived.Deep.QuietTactic
import Derived.BigQuiet
import Derived.Deep.RegionLaw
namespace Go.Proofs.Ytobadceiokncnaa
open Go.RowKit
set_option linter.unusedVariables false

theorem getD_put (x n i : Nat) (h : i < n) : (putBig x n)[i]? = some (byteAt x (n - 1 - i)) ∧ (putLittle x n)[i]? = some (byteAt x i) := by
  simp [putBig, putLittle, h]

theorem bitsBack_walk (w : World) (x : Nat) (hx : x < 18446744073709551616) :
    Calls Try.prog 6 #[.int .u64 (x : Int)] w fun e w' => e = .returned (.bool true) ∧ Below w.heap.size w w' := by
  have b1 : (((big (putBig x 8) : Nat) : Int) == (x : Int)) = true := by rw [big_put x 8 (by omega), Nat.mod_eq_of_lt (by simpa using hx)]; simp
  have b2 : (((littleN ((putLittle x 8).take 8) : Nat) : Int) == (x : Int)) = true := by
    rw [List.take_of_length_le (by rw [putLittle_len]; omega), littleN_put, Nat.mod_eq_of_lt (by simpa using hx)]; simp
  have b3 : (((big (putBig x 4) : Nat) : Int) == (x : Int) % 4294967296) = true := by rw [big_put x 4 (by omega)]; simp
  have HX := Lib.hid hx
  clear hx
  go_enter Try.func6, Try.ntmps6
  go_wp2_with (first
    | (go_at_call 15; refine (putBig_any x 8 _ HX.out (by omega)).mono ?_; rintro e w1 ⟨g1, hg1, rfl, hk1, hb1⟩; have HK1 := Lib.hid hk1; have HB1 := Lib.hid hb1; clear hk1 hb1)
    | (go_at_call 17; refine (putLittle_any x 8 _ HX.out (by omega)).mono ?_; rintro e w2 ⟨g2, hg2, rfl, hk2, hb2⟩; have HK2 := Lib.hid hk2; have HB2 := Lib.hid hb2; clear hk2 hb2))
  have hlt1 := lt_of_heap HK1.out
  have HK1' := Lib.hid ((HB2.out.block g1 hlt1).trans HK1.out)
  go_loopw [5] (fun iv wr => ∃ k n : Nat, k ≤ 8 ∧ iv = .int .i64 k ∧ wr = w2.drewN n) (fun i _ => 8 - (intOf i).toNat)
  case atStart => exact ⟨0, 0, by omega, rfl, rfl⟩
  case round =>
    obtain ⟨k, n, hk, rfl, rfl⟩ := hrel
    by_cases hlt : k < 8
    · have c1 : w2.cell? ⟨g1, k, none⟩ = some (.int .u8 ((byteAt x (7 - k)).toNat : Int)) := by
        rw [cell_of_heap HK1'.out, List.getElem?_map, (getD_put x 8 k hlt).1]; rfl
      have c2 : w2.cell? ⟨g2, 7 - k, none⟩ = some (.int .u8 ((byteAt x (7 - k)).toNat : Int)) := by
        rw [cell_of_heap HK2.out, List.getElem?_map, (getD_put x 8 (7 - k) (by omega)).2]; rfl
      have e1 : (7 - (k : Int)).toNat = 7 - k := by omega
      have e2 : 0 ≤ 7 - (k : Int) := by omega
      have e3 : 7 - (k : Int) < 8 := by omega
      have e4 : (k : Int) < 8 := by omega
      go_wp2_with fail
      go_quiet (fail)
      go_wp2
      go_roundw
      case rel => exact ⟨k + 1, _, by omega, by go_num, rfl⟩
      case measure => simp [intOf]; omega
    · go_wp2_with fail
      refine (big_row g1 8 (putBig x 8) (w2.drewN n) (putBig_len x 8) (by omega) HK1'.out).mono ?_
      rintro e w3 ⟨rfl, hb3⟩
      have HB3 := Lib.hid hb3; clear hb3
      go_wp2_with fail
      refine (little_row g2 8 (putLittle x 8) _ (putLittle_len x 8) (by omega) ((HB3.out.block g2 (lt_of_heap HK2.out)).trans HK2.out)).mono ?_
      rintro e w4 ⟨rfl, hb4⟩
      have HB4 := Lib.hid hb4; clear hb4
      go_wp2_with fail
      refine (putBig_any x 4 _ HX.out (by omega)).mono ?_
      rintro e w5 ⟨g5, hg5, rfl, hk5, hb5⟩
      have HB5 := Lib.hid hb5; have HK5 := Lib.hid hk5; clear hb5 hk5
      go_wp2_with fail
      refine (big_row g5 4 (putBig x 4) _ (putBig_len x 4) (by omega) HK5.out).mono ?_
      rintro e w6 ⟨rfl, hb6⟩
      have HB6 := Lib.hid hb6; clear hb6
      go_wp2_with fail
      refine (awake_any _).mono ?_
      rintro e w7 ⟨rfl, hb7⟩
      have HB7 := Lib.hid hb7; clear hb7
      go_wp2
      go_ret
      refine ⟨rfl, ?_⟩
      have t1 := HB1.out.step HB2.out
      have t2 := Below.step (w1 := w2.drewN n) ⟨t1.os, t1.tape, t1.output, t1.size, t1.block⟩ HB3.out
      exact (((t2.step HB4.out).step HB5.out).step HB6.out).step HB7.out

theorem own_put {w : World} {base g n : Nat} {bs : List UInt8} (hg : base ≤ g) (hl : bs.length = n) (hn : n ≤ 2147483647) (h : w.heap[g]? = some (.cells (bs.map bv).toArray 5 (0, 0))) :
    w.ownsRow base 5 1 (.slice (some ⟨g, 0, none⟩) n n) n (bs.map bv) :=
  ⟨by simp [hl], .inr ⟨g, n, _, rfl, hg, h, Nat.le_refl _, by simp [maxLen]; omega, by simp [hl], by simp [← hl, List.take_of_length_le]⟩⟩

theorem own_zeros {W : World} {base g k : Nat} (h : W.heap[g]? = some (.cells (Array.replicate k (.int .u8 0)) 5)) (hb : base ≤ g) (hk : k ≤ 2147483647) :
    W.ownsRow base 5 1 (.slice (some ⟨g, 0, none⟩) k k) k ((List.replicate k (0 : UInt8)).map bv) :=
  own_put hb (by simp) hk (by rw [h]; simp [bv])
theorem below_own {W0 w w2 : World} {base g n c : Nat} (h : Below base W0 w) (hgr : w.grownBy w2 (Value.slice (some ⟨g, 0, none⟩) n c).ownBlock) (hb : base ≤ g) (hs : base ≤ w.heap.size) : Below base W0 w2 :=
  h.trans (grown_below hgr hb hs)
theorem zeros_big (k x : Nat) (hx : x < 18446744073709551616) : big (List.replicate k 0 ++ putBig x 8) = x := by
  have hl : (List.replicate k (0 : UInt8) ++ putBig x 8).length - 8 = (List.replicate k (0 : UInt8)).length := by simp [putBig_len]
  rw [big, hl, List.drop_left, bigN_put, Nat.mod_eq_of_lt (by simpa using hx)]
theorem front_big (a : List UInt8) (k x : Nat) (hx : x < 18446744073709551616) : big (a ++ (List.replicate k 0 ++ putBig x 8)) = x := by
  have hl : (a ++ (List.replicate k (0 : UInt8) ++ putBig x 8)).length - 8 = (a ++ List.replicate k (0 : UInt8)).length := by simp [putBig_len]; omega
  rw [big, hl, ← List.append_assoc, List.drop_left, bigN_put, Nat.mod_eq_of_lt (by simpa using hx)]
theorem zeros_little (k x : Nat) (hx : x < 18446744073709551616) : littleN ((putLittle x 8 ++ List.replicate k 0).take 8) = x := by
  rw [List.take_append_of_le_length (by rw [putLittle_len]; omega), List.take_of_length_le (by rw [putLittle_len]; omega), littleN_put, Nat.mod_eq_of_lt (by simpa using hx)]

theorem bitsZeros_walk (w : World) (x : Nat) (hx : x < 18446744073709551616) (m : UInt8) :
    Calls Try.prog 10 #[.int .u64 (x : Int), .int .u8 (m.toNat : Int)] w fun e w' => e = .returned (.bool true) ∧ Below w.heap.size w w' := by
  obtain ⟨k, hk, hk20⟩ : ∃ k : Nat, (m.toNat : Int) % 20 = (k : Int) ∧ k < 20 := ⟨m.toNat % 20, by omega, by omega⟩
  have hmk := make_run (P := Try.prog) uT made8 rfl .i64 .i64 k (by omega) (by omega)
  have hb : m.toNat < 256 := m.toNat_lt
  have b1 : (((big (List.replicate k 0 ++ putBig x 8) : Nat) : Int) == (x : Int)) = true := by rw [zeros_big k x hx]; simp
  have b2 : (((littleN ((putLittle x 8 ++ List.replicate k 0).take 8) : Nat) : Int) == (x : Int)) = true := by rw [zeros_little k x hx]; simp
  have b3 : (((big (1 :: 2 :: 3 :: (List.replicate k 0 ++ putBig x 8)) : Nat) : Int) == (x : Int)) = true := by have := front_big [1, 2, 3] k x hx; rw [show (1 :: 2 :: 3 :: (List.replicate k 0 ++ putBig x 8)) = [1, 2, 3] ++ (List.replicate k 0 ++ putBig x 8) from rfl, this]; simp
  have HX := Lib.hid hx
  clear hx
  go_enter Try.func10, Try.ntmps10
  go_wp2_with fail
  go_region_law (first
    | (go_simp; go_at_call 15; refine (putBig_any x 8 _ HX.out (by omega)).mono ?_; rintro e w1 ⟨g1, hg1, rfl, hk1, hb1⟩; have HK1 := Lib.hid hk1; have HB1 := Lib.hid hb1; clear hk1 hb1)
    | (refine step_app8 rfl (.tmp 12) (.tmp 14) rfl w.heap.size _ k (List.replicate k 0) rfl ?_ _ 8 8 (g1 + 1) (putBig x 8) rfl ?_ ?_ ?_ ?_ ?_
       · first
         | exact own_zeros (g := w.heap.size) ((HB1.out.block w.heap.size (by simp)).trans (heap_alloc_new' w _)) (Nat.le_refl _) (by omega)
         | exact own_zeros (g := w1.heap.size) (heap_alloc_new' w1 _) HB1.out.size (by omega)
       · first
         | exact row_of_heap HK1.out (Nat.lt_succ_self _)
         | exact row_of_heap ((Below.heap_alloc w1 _ g1 (lt_of_heap HK1.out)).trans HK1.out) (Nat.lt_succ_self _)
       · exact putBig_len x 8
       · omega
       · first
         | exact Nat.le_trans (by simp) HB1.out.size
         | exact Nat.le_trans HB1.out.size (by simp)
       rintro v' w2 hown hgr
       have hB2 : Below w.heap.size w w2 := by
         first
         | exact below_own (((Below.refl _ _).alloc (Nat.le_refl _) _).drew.trans (HB1.out.mono (by simp))) hgr (Nat.le_refl _) (Nat.le_trans (by simp) HB1.out.size)
         | exact below_own (((Below.refl _ w).drew.trans HB1.out).alloc HB1.out.size _) hgr HB1.out.size (Nat.le_trans HB1.out.size (by simp))
       obtain ⟨A2, c2, rfl, _, hc2, hm2, hr2⟩ := own_read hown
       have HO2 := Lib.hid hr2
       have HB2 := Lib.hid hB2
       clear hown hgr hB2 hr2 HB1 HK1 hg1 hmk))
  all_goals
    go_wp2_with fail
    refine (putLittle_any x 8 _ HX.out (by omega)).mono ?_
    rintro e w3 ⟨g3, hg3, rfl, hk3, hb3⟩
    have HK3 := Lib.hid hk3; have HB3 := Lib.hid hb3; clear hk3 hb3
    go_wp2_with (
      at_builtin
      refine wpList_app0 rfl (.tmp 17) (.tmp 18) rfl w2.heap.size _ 8 (putLittle x 8) rfl ?_ k rfl ?_ ?_ ?_
      · exact own_put hg3 (putLittle_len x 8) (by omega) HK3.out
      · omega
      · exact HB3.out.size
      rintro v4 w4 hown4 hgr4
      have HB4 := Lib.hid (below_own HB3.out hgr4 hg3 HB3.out.size)
      obtain ⟨A4, c4, rfl, hl4, hc4, hm4, hr4⟩ := own_read hown4
      have HO4 := Lib.hid hr4
      have HL4 := Lib.hid hl4
      clear hr4 hl4 hown4 hgr4 HK3 HB3 hg3)
    go_wp2_with fail
    refine (big_n A2 (k + 8) c2 (List.replicate k 0 ++ putBig x 8) w4 (by simp [putBig_len]) hc2 hm2 (HO2.out.after HB4.out)).mono ?_
    rintro e w5 ⟨rfl, hb5⟩
    have HB5 := Lib.hid hb5; clear hb5
    go_wp2_with fail
    refine (little_n A4 (8 + k) c4 (putLittle x 8 ++ List.replicate k 0) w5 HL4.out hc4 hm4 (HO4.out.after HB5.out)).mono ?_
    rintro e w6 ⟨rfl, hb6⟩
    have HB6 := Lib.hid hb6; clear hb6
    go_wp2_with (
      at_builtin
      refine wpList_app8 rfl (.tmp 31) (.tmp 32) rfl w6.heap.size _ 3 [1, 2, 3] rfl ?_ A2 (k + 8) c2 (w6.heap.size + 1) (List.replicate k 0 ++ putBig x 8) rfl ?_ ?_ ?_ ?_ ?_
      · exact own_put (Nat.le_refl _) rfl (by omega) (heap_alloc_new' w6 _)
      · exact ((((HO2.out.after HB4.out).after HB5.out).after HB6.out).after ((Below.refl _ w6).alloc (Nat.le_refl _) _)).more (by simp)
      · simp [putBig_len]
      · omega
      · simp
      rintro v7 w7 hown7 hgr7
      have HB7 := Lib.hid (below_own ((Below.refl _ w6).alloc (Nat.le_refl _) _) hgr7 (Nat.le_refl _) (by simp))
      obtain ⟨A7, c7, rfl, hl7, hc7, hm7, hr7⟩ := own_read hown7
      have HO7 := Lib.hid hr7
      have HL7 := Lib.hid hl7
      clear hr7 hl7 hown7 hgr7)
    refine (big_n A7 (3 + (k + 8)) c7 ([1, 2, 3] ++ (List.replicate k 0 ++ putBig x 8)) w7 HL7.out hc7 hm7 HO7.out).mono ?_
    rintro e w8 ⟨rfl, hb8⟩
    have HB8 := Lib.hid hb8; clear hb8
    go_wp2_with fail
    refine (awake_any _).mono ?_
    rintro e w9 ⟨rfl, hb9⟩
    have HB9 := Lib.hid hb9; clear hb9
    go_wp2
    go_ret
    exact ⟨rfl, (((((HB2.out.step HB4.out).step HB5.out).step HB6.out).step HB7.out).step HB8.out).step HB9.out⟩
end Go.Proofs.Ytobadceiokncnaa
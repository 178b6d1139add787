/- The walk of the law BitsSteps. -/
import Derived.Test.YtobadceiokncnaaCount
import Derived.Test.YtobadceiokncnaaAwake1
import Derived.Test.YtobadceiokncnaaLiftA
import Derived.Test.YtobadceiokncnaaReg
namespace Go.Proofs.Ytobadceiokncnaa
open Go.RowKit
set_option linter.unusedVariables false
set_option linter.unusedSimpArgs false

theorem countL_len (c : List UInt8) (n : Nat) : (countL c n).length = 16 := by simp [countL, putBig_len]
theorem bigN_count (c : List UInt8) (n : Nat) : bigN (countL c n) = (bigN c + n) % 340282366920938463463374607431768211456 := by
  rw [countL, bigN_put]
  have : (256 : Nat) ^ 16 = 340282366920938463463374607431768211456 := by decide
  rw [this, Nat.mod_mod]
theorem count_count (c : List UInt8) (n m : Nat) : countL (countL c n) m = countL c (n + m) := by
  rw [countL, bigN_count, countL]
  congr 1
  omega
theorem putBig_big (c : List UInt8) : putBig (bigN c) c.length = c := by
  suffices h : ∀ l : List UInt8, putBig (bigN l.reverse) l.length = l.reverse by
    have := h c.reverse; simpa using this
  intro l
  induction l with
  | nil => simp [putBig]
  | cons b l ih =>
    rw [List.reverse_cons, bigN_snoc, List.length_cons, putBig_split]
    have hb : b.toNat < 256 := b.toNat_lt
    have e : (bigN l.reverse * 256 + b.toNat) / 256 ^ 1 = bigN l.reverse := by omega
    rw [e, ih]
    congr 1
    simp only [putBig, List.range_succ, List.range_zero, List.nil_append, List.map_cons, List.map_nil, byteAt, Nat.pow_zero, Nat.div_one]
    congr 1
    rw [← UInt8.toNat_inj, UInt8.toNat_ofNat']; omega
theorem count_zero (c : List UInt8) (hc : c.length = 16) : countL c 0 = c := by
  have h := bigN_lt c
  rw [hc, show (256 : Nat) ^ 16 = 340282366920938463463374607431768211456 by decide] at h
  rw [countL, Nat.add_zero, Nat.mod_eq_of_lt h, ← hc]
  exact putBig_big c
theorem count_inj (c : List UInt8) (n m : Nat) (hn : n < 4294967296) (hm : m < 4294967296) : countL c n = countL c m ↔ n = m := by
  constructor
  · intro h
    have h2 := congrArg bigN h
    rw [bigN_count, bigN_count] at h2
    omega
  · rintro rfl; rfl

theorem i16' (bs : List UInt8) (h : bs.length = 16) : (Try.prog.info? 32).map (·.size) = some (bs.map bv).length := by rw [List.length_map, h]; exact i16
set_option maxHeartbeats 800000 in
theorem bitsSteps_walk (w : World) (c : List UInt8) (hc : c.length = 16) (n m : BitVec 32) :
    Calls Try.prog 9 #[.agg (c.map bv).toArray, .int .u32 (n.toNat : Int), .int .u32 (m.toNat : Int)] w fun e w' => e = .returned (.bool true) ∧ Below w.heap.size w w' := by
  have hn := n.isLt
  have hm := m.isLt
  generalize n.toNat = n at hn ⊢
  generalize m.toNat = m at hm ⊢
  obtain ⟨s, hs⟩ : ∃ s, n + m = s := ⟨_, rfl⟩
  have wn : IntKind.u64.wrap (n : Int) = (n : Int) := by rw [IntKind.wrap_u64]; omega
  have wm : IntKind.u64.wrap (m : Int) = (m : Int) := by rw [IntKind.wrap_u64]; omega
  have ws : IntKind.u64.wrap ((n : Int) + (m : Int)) = (s : Int) := by rw [IntKind.wrap_u64]; omega
  have hs33 : s < 8589934592 := by omega
  have HS := Lib.hid hs
  have q1 := eql_bytes arr16T Try.underlying5 s8 (countL c s) (countL c s) (countL_len _ _) (countL_len _ _)
  have q2 := eql_bytes arr16T Try.underlying5 s8 (countL c n) (countL c m) (countL_len _ _) (countL_len _ _)
  have q3 := eql_bytes arr16T Try.underlying5 s8 (countL c 0) c (countL_len _ _) hc
  rw [decide_eq_true rfl] at q1
  rw [decide_eq_true (count_zero c hc)] at q3
  have e2 : decide (countL c n = countL c m) = ((n : Int) == (m : Int)) := by
    rw [Bool.eq_iff_iff, decide_eq_true_eq, count_inj c n m (by omega) (by omega)]
    simp; omega
  rw [e2] at q2
  clear e2 hs
  have HC := Lib.hid hc
  clear hc
  have G0 : (w.alloc (.cells (c.map bv).toArray 32)).heap[w.heap.size]? = some (.cells (c.map bv).toArray 32 (0, 0)) := heap_alloc_new' w _
  have D0 := Lib.hid G0
  clear G0
  go_enter Try.func9, Try.ntmps9
  go_wp2_with (first
      | (refine wpList_ld rfl 32 (.tmp 3) rfl (load_arr arr16T rfl (i16' c HC.out) D0.out) ?_)
      | fail)
  refine (count_any c n _ HC.out (by omega)).mono ?_
  rintro e w1 ⟨rfl, hb1⟩
  have HB1 := Lib.hid hb1; clear hb1
  go_wp2_with fail
  refine (count_any (countL c n) m _ (countL_len _ _) (by omega)).mono ?_
  rintro e w2 ⟨rfl, hb2⟩
  have HB2 := Lib.hid hb2; clear hb2
  rw [count_count, HS.out]
  go_wp2_with (first
      | (refine wpList_st rfl 32 (.tmp 7) (.tmp 14) rfl (store_arr (i16' _ (countL_len c s)) (bv_one _) (old := List.replicate 16 (Value.int .u8 0)) (heap_alloc_new' w2 _) (by simp [countL_len])) ?_)
      | fail)
  have B2 : Below w.heap.size w w2 := (((Below.refl _ _).alloc (Nat.le_refl _) _).step HB1.out).step HB2.out
  have f0 : w2.heap[w.heap.size]? = some (.cells (c.map bv).toArray 32 (0, 0)) :=
    (HB2.out.block _ (Nat.lt_of_lt_of_le (lt_of_heap D0.out) HB1.out.size)).trans ((HB1.out.block _ (lt_of_heap D0.out)).trans D0.out)
  have hlt := lt_of_heap f0
  generalize hW3 : (w2.alloc _).setRow _ _ = W3
  have f1 : W3.heap[w.heap.size]? = some (.cells (c.map bv).toArray 32 (0, 0)) := by
    rw [← hW3, setRow_other _ _ _ _ (by omega)]; exact (Below.heap_alloc w2 _ _ hlt).trans f0
  have f2 : W3.heap[w2.heap.size]? = some (.cells ((countL c s).map bv).toArray 32 (0, 0)) := by
    rw [← hW3]; exact setRow_heap _ _ _ _ _ _ (heap_alloc_new' w2 _)
  have B3 : Below w.heap.size w W3 := by
    rw [← hW3]; exact (B2.alloc B2.size _).trans (grown_below (grown_setRow _ _ _) B2.size (by have := B2.size; simp; omega))
  have HB3 := Lib.hid B3
  have F1 := Lib.hid f1
  have F2 := Lib.hid f2
  have hc0 := Lib.hid (fun W => count_any c 0 W HC.out (by omega))
  clear hW3 f0 f1 f2 hlt B2 B3 HB1 HB2 D0
  have HX : Hid (Ext W3 W3.drew) := (Below.refl _ _).drew
  have ld1 : Hid (∀ W, Ext W3 W → (Instr.loadAt 32 (.pointer (some ⟨w.heap.size, 0, none⟩))).run Try.prog W = .ok (.agg (c.map bv).toArray) W) := fun W hW => load_arr arr16T rfl (i16' c HC.out) ((hW.block _ (lt_of_heap F1.out)).trans F1.out)
  have ld2 : Hid (∀ W, Ext W3 W → (Instr.loadAt 32 (.pointer (some ⟨w2.heap.size, 0, none⟩))).run Try.prog W = .ok (.agg ((countL c s).map bv).toArray) W) := fun W hW => load_arr arr16T rfl (i16' _ (countL_len _ _)) ((hW.block _ (lt_of_heap F2.out)).trans F2.out)
  refine reg_start (by kernel_rfl) ?_
  try simp only [Act.put, List.setIfInBounds_toArray, List.set_cons_zero, List.set_cons_succ]
  refine reg_load 0 (some 15) (fun W hW => ld2.out W (HX.out.trans hW)) rfl rfl rfl rfl (by kernel_rfl) (by kernel_rfl) (by kernel_rfl) (fun _ _ _ h => h) (by rfl) ?_
  simp only [Act.put, List.setIfInBounds_toArray, List.set_cons_zero, List.set_cons_succ]
  refine reg_load 1 (some 16) (fun W hW => ld1.out W (HX.out.trans hW)) rfl rfl rfl rfl (by kernel_rfl) (by kernel_rfl) (by kernel_rfl) (fun _ _ _ h => h) (by rfl) ?_
  simp only [Act.put, List.setIfInBounds_toArray, List.set_cons_zero, List.set_cons_succ]
  refine reg_take (v := ?_) 2 (some 17) rfl rfl (by kernel_rfl) (by kernel_rfl) (by kernel_rfl) (fun _ _ _ h => h) (by rfl) (fun W hW => ?_) ?_
  rotate_left
  · (go_simp; try rfl)
  simp only [Act.put, List.setIfInBounds_toArray, List.set_cons_zero, List.set_cons_succ]
  refine reg_take (v := ?_) 3 (some 18) rfl rfl (by kernel_rfl) (by kernel_rfl) (by kernel_rfl) (fun _ _ _ h => h) (by rfl) (fun W hW => ?_) ?_
  rotate_left
  · (go_simp; try rfl)
  simp only [Act.put, List.setIfInBounds_toArray, List.set_cons_zero, List.set_cons_succ]
  refine reg_take (v := ?_) 4 (some 19) rfl rfl (by kernel_rfl) (by kernel_rfl) (by kernel_rfl) (fun _ _ _ h => h) (by rfl) (fun W hW => ?_) ?_
  rotate_left
  · (go_simp; try rfl)
  simp only [Act.put, List.setIfInBounds_toArray, List.set_cons_zero, List.set_cons_succ]
  refine reg_take (v := ?_) 5 (some 20) rfl rfl (by kernel_rfl) (by kernel_rfl) (by kernel_rfl) (fun _ _ _ h => h) (by rfl) (fun W hW => ?_) ?_
  rotate_left
  · (go_simp; try rfl)
  simp only [Act.put, List.setIfInBounds_toArray, List.set_cons_zero, List.set_cons_succ]
  refine reg_take (v := ?_) 6 (some 21) rfl rfl (by kernel_rfl) (by kernel_rfl) (by kernel_rfl) (fun _ _ _ h => h) (by rfl) (fun W hW => ?_) ?_
  rotate_left
  · (go_simp; try rfl)
  simp only [Act.put, List.setIfInBounds_toArray, List.set_cons_zero, List.set_cons_succ]
  refine reg_eff 7 rfl (by kernel_rfl) (fun K hK => ?_)
  go_simp
  refine (count_any c s _ HC.out (by omega)).mono ?_
  rintro e w4 ⟨rfl, hE⟩
  refine hK.out _ _ hE ?_
  have HX := Lib.hid (Ext.trans HX.out hE)
  clear hE hK K
  try simp only [Act.put, List.setIfInBounds_toArray, List.set_cons_zero, List.set_cons_succ]
  refine reg_take (v := ?_) 8 (some 23) rfl rfl (by kernel_rfl) (by kernel_rfl) (by kernel_rfl) (fun _ _ _ h => h) (by rfl) (fun W hW => ?_) ?_
  rotate_left
  · (go_simp; try rfl)
  simp only [Act.put, List.setIfInBounds_toArray, List.set_cons_zero, List.set_cons_succ]
  refine reg_take (v := ?_) 9 (some 24) rfl rfl (by kernel_rfl) (by kernel_rfl) (by kernel_rfl) (fun _ _ _ h => h) (by rfl) (fun W hW => ?_) ?_
  rotate_left
  · (go_simp; try rfl)
  simp only [Act.put, List.setIfInBounds_toArray, List.set_cons_zero, List.set_cons_succ]
  refine reg_load 10 (some 25) (fun W hW => ld1.out W (HX.out.trans hW)) rfl rfl rfl rfl (by kernel_rfl) (by kernel_rfl) (by kernel_rfl) (fun _ _ _ h => h) (by rfl) ?_
  simp only [Act.put, List.setIfInBounds_toArray, List.set_cons_zero, List.set_cons_succ]
  refine reg_take (v := ?_) 11 (some 26) rfl rfl (by kernel_rfl) (by kernel_rfl) (by kernel_rfl) (fun _ _ _ h => h) (by rfl) (fun W hW => ?_) ?_
  rotate_left
  · (go_simp; try rfl)
  simp only [Act.put, List.setIfInBounds_toArray, List.set_cons_zero, List.set_cons_succ]
  refine reg_take (v := ?_) 12 (some 27) rfl rfl (by kernel_rfl) (by kernel_rfl) (by kernel_rfl) (fun _ _ _ h => h) (by rfl) (fun W hW => ?_) ?_
  rotate_left
  · (go_simp; try rfl)
  simp only [Act.put, List.setIfInBounds_toArray, List.set_cons_zero, List.set_cons_succ]
  refine reg_load 14 (some 29) (fun W hW => ld1.out W (HX.out.trans hW)) rfl rfl rfl rfl (by kernel_rfl) (by kernel_rfl) (by kernel_rfl) (fun _ _ _ h => h) (by rfl) ?_
  simp only [Act.put, List.setIfInBounds_toArray, List.set_cons_zero, List.set_cons_succ]
  refine reg_take (v := ?_) 15 (some 30) rfl rfl (by kernel_rfl) (by kernel_rfl) (by kernel_rfl) (fun _ _ _ h => h) (by rfl) (fun W hW => ?_) ?_
  rotate_left
  · (go_simp; try rfl)
  simp only [Act.put, List.setIfInBounds_toArray, List.set_cons_zero, List.set_cons_succ]
  refine reg_take (v := ?_) 16 (some 31) rfl rfl (by kernel_rfl) (by kernel_rfl) (by kernel_rfl) (fun _ _ _ h => h) (by rfl) (fun W hW => ?_) ?_
  rotate_left
  · (go_simp; try rfl)
  simp only [Act.put, List.setIfInBounds_toArray, List.set_cons_zero, List.set_cons_succ]
  refine reg_take (v := ?_) 19 (some 34) rfl rfl (by kernel_rfl) (by kernel_rfl) (by kernel_rfl) (fun _ _ _ h => h) (by rfl) (fun W hW => ?_) ?_
  rotate_left
  · (go_simp; try rfl)
  simp only [Act.put, List.setIfInBounds_toArray, List.set_cons_zero, List.set_cons_succ]
  refine reg_take (v := ?_) 20 (some 35) rfl rfl (by kernel_rfl) (by kernel_rfl) (by kernel_rfl) (fun _ _ _ h => h) (by rfl) (fun W hW => ?_) ?_
  rotate_left
  · (go_simp; try rfl)
  simp only [Act.put, List.setIfInBounds_toArray, List.set_cons_zero, List.set_cons_succ]
  refine reg_take (v := ?_) 21 (some 36) rfl rfl (by kernel_rfl) (by kernel_rfl) (by kernel_rfl) (fun _ _ _ h => h) (by rfl) (fun W hW => ?_) ?_
  rotate_left
  · (go_simp; try rfl)
  simp only [Act.put, List.setIfInBounds_toArray, List.set_cons_zero, List.set_cons_succ]
  refine reg_eff 13 rfl (by kernel_rfl) (fun K hK => ?_)
  go_simp
  refine (count_any c n _ HC.out (by omega)).mono ?_
  rintro e w5 ⟨rfl, hE⟩
  refine hK.out _ _ hE ?_
  have HX := Lib.hid (Ext.trans HX.out hE)
  clear hE hK K
  try simp only [Act.put, List.setIfInBounds_toArray, List.set_cons_zero, List.set_cons_succ]
  refine reg_eff 17 rfl (by kernel_rfl) (fun K hK => ?_)
  go_simp
  refine (count_any c m _ HC.out (by omega)).mono ?_
  rintro e w6 ⟨rfl, hE⟩
  refine hK.out _ _ hE ?_
  have HX := Lib.hid (Ext.trans HX.out hE)
  clear hE hK K
  try simp only [Act.put, List.setIfInBounds_toArray, List.set_cons_zero, List.set_cons_succ]
  refine reg_take (v := ?_) 18 (some 33) rfl rfl (by kernel_rfl) (by kernel_rfl) (by kernel_rfl) (fun _ _ _ h => h) (by rfl) (fun W hW => ?_) ?_
  rotate_left
  · (go_simp; try rfl)
  simp only [Act.put, List.setIfInBounds_toArray, List.set_cons_zero, List.set_cons_succ]
  refine reg_take (v := ?_) 22 (some 37) rfl rfl (by kernel_rfl) (by kernel_rfl) (by kernel_rfl) (fun _ _ _ h => h) (by rfl) (fun W hW => ?_) ?_
  rotate_left
  · (go_simp; try rfl)
  simp only [Act.put, List.setIfInBounds_toArray, List.set_cons_zero, List.set_cons_succ]
  refine reg_take (v := ?_) 23 (some 38) rfl rfl (by kernel_rfl) (by kernel_rfl) (by kernel_rfl) (fun _ _ _ h => h) (by rfl) (fun W hW => ?_) ?_
  rotate_left
  · (go_simp; try rfl)
  simp only [Act.put, List.setIfInBounds_toArray, List.set_cons_zero, List.set_cons_succ]
  refine reg_take (v := ?_) 24 (some 39) rfl rfl (by kernel_rfl) (by kernel_rfl) (by kernel_rfl) (fun _ _ _ h => h) (by rfl) (fun W hW => ?_) ?_
  rotate_left
  · (go_simp; try rfl)
  simp only [Act.put, List.setIfInBounds_toArray, List.set_cons_zero, List.set_cons_succ]
  refine reg_load 25 (some 40) (fun W hW => ld1.out W (HX.out.trans hW)) rfl rfl rfl rfl (by kernel_rfl) (by kernel_rfl) (by kernel_rfl) (fun _ _ _ h => h) (by rfl) ?_
  simp only [Act.put, List.setIfInBounds_toArray, List.set_cons_zero, List.set_cons_succ]
  refine reg_load 27 (some 42) (fun W hW => ld1.out W (HX.out.trans hW)) rfl rfl rfl rfl (by kernel_rfl) (by kernel_rfl) (by kernel_rfl) (fun _ _ _ h => h) (by rfl) ?_
  simp only [Act.put, List.setIfInBounds_toArray, List.set_cons_zero, List.set_cons_succ]
  refine reg_eff 26 rfl (by kernel_rfl) (fun K hK => ?_)
  go_simp
  refine (hc0.out _).mono ?_
  rintro e w7 ⟨rfl, hE⟩
  refine hK.out _ _ hE ?_
  have HX := Lib.hid (Ext.trans HX.out hE)
  clear hE hK K
  try simp only [Act.put, List.setIfInBounds_toArray, List.set_cons_zero, List.set_cons_succ]
  refine reg_take (v := ?_) 28 (some 43) rfl rfl (by kernel_rfl) (by kernel_rfl) (by kernel_rfl) (fun _ _ _ h => h) (by rfl) (fun W hW => ?_) ?_
  rotate_left
  · (go_simp; try rfl)
  simp only [Act.put, List.setIfInBounds_toArray, List.set_cons_zero, List.set_cons_succ]
  refine reg_take (v := ?_) 29 (some 44) rfl rfl (by kernel_rfl) (by kernel_rfl) (by kernel_rfl) (fun _ _ _ h => h) (by rfl) (fun W hW => ?_) ?_
  rotate_left
  · (go_simp; try rfl)
  simp only [Act.put, List.setIfInBounds_toArray, List.set_cons_zero, List.set_cons_succ]
  refine reg_take (v := ?_) 30 (some 45) rfl rfl (by kernel_rfl) (by kernel_rfl) (by kernel_rfl) (fun _ _ _ h => h) (by rfl) (fun W hW => ?_) ?_
  rotate_left
  · (go_simp; try rfl)
  simp only [Act.put, List.setIfInBounds_toArray, List.set_cons_zero, List.set_cons_succ]
  refine reg_eff 31 rfl (by kernel_rfl) (fun K hK => ?_)
  go_simp
  refine (awake_any _).mono ?_
  rintro e w8 ⟨rfl, hE⟩
  refine hK.out _ _ hE ?_
  have HX := Lib.hid (Ext.trans HX.out hE)
  clear hE hK K
  try simp only [Act.put, List.setIfInBounds_toArray, List.set_cons_zero, List.set_cons_succ]
  refine reg_take (v := ?_) 32 (some 47) rfl rfl (by kernel_rfl) (by kernel_rfl) (by kernel_rfl) (fun _ _ _ h => h) (by rfl) (fun W hW => ?_) ?_
  rotate_left
  · (go_simp; try rfl)
  simp only [Act.put, List.setIfInBounds_toArray, List.set_cons_zero, List.set_cons_succ]
  refine reg_take (v := ?_) 33 (some 6) rfl rfl (by kernel_rfl) (by kernel_rfl) (by kernel_rfl) (fun _ _ _ h => h) (by rfl) (fun W hW => ?_) ?_
  rotate_left
  · (go_simp; try rfl)
  simp only [Act.put, List.setIfInBounds_toArray, List.set_cons_zero, List.set_cons_succ]
  refine reg_done (by kernel_rfl) ?_
  go_wp2
  go_ret
  exact ⟨rfl, HB3.out.step HX.out⟩
end Go.Proofs.Ytobadceiokncnaa

/- Layer 6: Pad, the law's example, exclusive or of blocks, powers of x. -/
import Derived.Test.YtdogfopnjojliaaGha2
import Derived.StillTailTactics
namespace Go.Proofs.Ytdogfopnjojliaa
open Go.RowKit
set_option linter.unusedVariables false
set_option linter.unusedSimpArgs false
/-- how many noughts make n bytes whole blocks -/
def padN (n : Nat) : Nat := (16 - n % 16) % 16
theorem gpad_any (n : Nat) (w : World) (hn : n ≤ 9223372036854775807) : Calls Try.prog 16 #[.int .i64 (n : Int)] w fun e w' => e = .returned (.int .i64 (padN n : Int)) ∧ w = w' := by
  by_cases h : n < 1
  · have h0 : n = 0 := by omega
    subst h0
    go_enter Try.func16, Try.ntmps16
    go_wp2
    go_ret
    exact ⟨rfl, rfl⟩
  · have q1 : ¬ ((n : Int) < 1) := by omega
    have hp : (16 - (n : Int) % 16) % 16 = ((padN n : Nat) : Int) := by unfold padN; omega
    have HP := Lib.hid hp
    clear hp
    go_enter Try.func16, Try.ntmps16
    go_wp2
    go_ret
    exact ⟨ret_int (by have := HP.out; omega), rfl⟩
theorem gpad_neg (n : Int) (w : World) (hn : n ≤ 0) : Calls Try.prog 16 #[.int .i64 n] w fun e w' => e = .returned (.int .i64 0) ∧ w = w' := by
  have q1 : n < 1 := by omega
  go_enter Try.func16, Try.ntmps16
  go_wp2
  go_ret
  exact ⟨rfl, rfl⟩
def oneB : List UInt8 := [128, 0, 0, 0, 0, 0, 0, 0, 0, 0, 0, 0, 0, 0, 0, 0]
def exB : List UInt8 := [1, 2, 3, 0, 0, 0, 0, 0, 0, 0, 0, 0, 0, 0, 0, 0]
def zerB : List UInt8 := [0, 0, 0, 0, 0, 0, 0, 0, 0, 0, 0, 0, 0, 0, 0, 0]
theorem big_one : bigN oneB = oneV := by decide
theorem big_zer : bigN zerB = 0 := by decide
theorem gmul_one (a : List UInt8) (h : a.length = 16) : gmulL a oneB = a := by
  rw [gmulL, big_one, mulV_one _ (big16_lt a h), blk_big a h]
theorem gmul_zero (a : List UInt8) : gmulL a zerB = zerB := by
  rw [gmulL, big_zer, mulV_zero]; decide
theorem gmul_comm (a b : List UInt8) (ha : a.length = 16) (hb : b.length = 16) : gmulL a b = gmulL b a := by
  rw [gmulL, gmulL, mulV_comm _ _ (big16_lt a ha) (big16_lt b hb)]
theorem big_gmul (a b : List UInt8) (hb : b.length = 16) : bigN (gmulL a b) = mulV (bigN a) (bigN b) := bigN_blk _ (mulV_lt _ _ (big16_lt b hb))
theorem gmul_assoc (a b c : List UInt8) (ha : a.length = 16) (hb : b.length = 16) (hc : c.length = 16) : gmulL (gmulL a b) c = gmulL a (gmulL b c) := by
  rw [gmulL, big_gmul a b hb, gmulL, big_gmul b c hc, mulV_assoc _ _ _ (big16_lt a ha) (big16_lt b hb) (big16_lt c hc)]
theorem blkL_inj (n m : Nat) (hn : n < 2 ^ 128) (hm : m < 2 ^ 128) (h : blkL n = blkL m) : n = m := by
  rw [← bigN_blk n hn, h, bigN_blk m hm]
theorem big_xor (a b : List UInt8) (ha : a.length = 16) (hb : b.length = 16) : bigN (xorL a b) = bigN a ^^^ bigN b := by
  have hx : (xorL a b).length = 16 := by rw [xorL_len, ha, hb]; rfl
  refine eq_of_bits _ _ (big16_lt _ hx) (Nat.xor_lt_two_pow (big16_lt a ha) (big16_lt b hb)) fun i hi => ?_
  have hk : i / 8 < 16 := by omega
  rw [bitV_xor, bit_byte _ hx i hi, bit_byte a ha i hi, bit_byte b hb i hi]
  have e : (xorL a b).getD (i / 8) 0 = a.getD (i / 8) 0 ^^^ b.getD (i / 8) 0 := by
    simp [xorL, List.getD, List.getElem?_zipWith, show i / 8 < a.length by omega, show i / 8 < b.length by omega]
  rw [e, UInt8.toNat_xor, Nat.testBit_xor]
theorem gmul_xor (a b c : List UInt8) (hb : b.length = 16) (hc : c.length = 16) : gmulL a (xorL b c) = xorL (gmulL a b) (gmulL a c) := by
  have hl : (xorL (gmulL a b) (gmulL a c)).length = 16 := by rw [xorL_len, gmulL_len, gmulL_len]; rfl
  rw [← blk_big _ hl, big_xor _ _ (gmulL_len _ _) (gmulL_len _ _), big_gmul a b hb, big_gmul a c hc, gmulL, big_xor b c hb hc, mulV_xor]
theorem gmul_inj (a b c : List UInt8) (ha : a.length = 16) (hb : b.length = 16) (hc : c.length = 16) (h0 : c ≠ zerB) (h : gmulL a c = gmulL b c) : a = b := by
  have hc0 : bigN c ≠ 0 := fun e => h0 (by rw [← blk_big c hc, e]; decide)
  have := mulV_inj _ _ _ (big16_lt a ha) (big16_lt b hb) (big16_lt c hc) hc0 (blkL_inj _ _ (mulV_lt _ _ (big16_lt c hc)) (mulV_lt _ _ (big16_lt c hc)) h)
  rw [← blk_big a ha, this, blk_big b hb]
theorem i16l (l : List UInt8) (h : l.length = 16) : (Try.prog.info? 22).map (·.size) = some (l.map bv).length := by rw [List.length_map, h]; exact i16B
set_option maxHeartbeats 2000000 in
theorem gawake_any (w : World) : Calls Try.prog 12 #[] w fun e w' => e = .returned (.bool true) ∧ Below w.heap.size w w' := by
  have hz16 : ∀ W, (zeroValue 22).run Try.prog W = .ok (.agg zer16.toArray) W := fun W => by kernel_rfl
  have hlz : Hid (zer16.length = 16) := rfl
  have BD1 : Hid (∀ W, (Instr.build 22 #[(0, .int .u8 1), (1, .int .u8 2), (2, .int .u8 3)]).run Try.prog W = .ok (.agg (exB.map bv).toArray) W) := fun W => by kernel_rfl
  have BD2 : Hid (∀ W, (Instr.build 22 #[(0, .int .u8 128)]).run Try.prog W = .ok (.agg (oneB.map bv).toArray) W) := fun W => by kernel_rfl
  have GM := Lib.hid (fun W => gmul_any exB oneB W rfl rfl)
  rw [gmul_one exB rfl] at GM
  have q1 := eql_bytes (P := Try.prog) arr16B Try.underlying5 s8 exB exB rfl rfl
  rw [decide_eq_true rfl] at q1
  have LE : Hid (exB.length = 16) := rfl
  generalize exB = E at BD1 GM q1 LE
  generalize oneB = O at BD2 GM
  generalize zer16 = Z at hz16 hlz
  have PD := Lib.hid (fun W => gpad_any 17 W (by omega))
  go_enter Try.func12, Try.ntmps12
  go_upto_region 2 with (first
    | (refine wpList_run (o := ⟨some 2, _, _, _, _, _⟩) rfl (v := .agg (E.map bv).toArray) (w' := w) (exec_bld rfl (by simp only [List.map_toArray, List.map_cons, List.map_nil]; exact BD1.out w)) ?_)
    | (refine wpList_st rfl 22 (.tmp 1) (.tmp 2) rfl (store_arr (cs := E.map bv) (i16l E LE.out) (bv_one _) (heap_alloc_new' w _) (by rw [List.length_map, LE.out]; exact hlz.out)) ?_
       generalize hV : World.setRow _ _ _ = W1
       have M1 := Lib.hid (heap_of_setRow hV (heap_alloc_new' w _))
       have MB := Lib.hid (((Below.refl w.heap.size w).alloc (Nat.le_refl _) _).trans (below_of_setRow hV (Nat.le_refl w.heap.size) (by simp)))
       clear hV)
    | fail)
  have HX : Hid (Ext W1 W1.drew) := (Below.refl _ _).drew
  have G1 : Hid (∀ W, Ext W1 W → (Instr.loadAt 22 (.pointer (some ⟨w.heap.size, 0, none⟩))).run Try.prog W = .ok (.agg (E.map bv).toArray) W) := fun W hW => load_arr arr16B rfl (i16l E LE.out) ((hW.block _ (lt_of_heap M1.out)).trans M1.out)
  refine reg_start (by kernel_rfl) ?_
  try simp only [Act.put, List.setIfInBounds_toArray, List.set_cons_zero, List.set_cons_succ]
  generalize W1.drew = W2 at HX ⊢
  refine reg_load 0 (some 3) (fun W hW => G1.out W (Ext.trans HX.out hW)) rfl rfl rfl rfl (by kernel_rfl) (by kernel_rfl) (by kernel_rfl) (fun _ _ _ h => h) (by rfl) ?_
  simp only [Act.put, List.setIfInBounds_toArray, List.set_cons_zero, List.set_cons_succ]
  refine reg_take (v := ?_) 1 (some 4) rfl rfl (by kernel_rfl) (by kernel_rfl) (by kernel_rfl) (fun _ _ _ h => h) (by rfl) (fun W hW => ?_) ?_
  rotate_left
  · exact exec_bld rfl (by simp only [List.map_toArray, List.map_cons, List.map_nil]; exact BD2.out W)
  simp only [Act.put, List.setIfInBounds_toArray, List.set_cons_zero, List.set_cons_succ]
  refine reg_load 3 (some 6) (fun W hW => G1.out W (Ext.trans HX.out hW)) rfl rfl rfl rfl (by kernel_rfl) (by kernel_rfl) (by kernel_rfl) (fun _ _ _ h => h) (by rfl) ?_
  simp only [Act.put, List.setIfInBounds_toArray, List.set_cons_zero, List.set_cons_succ]
  refine reg_eff 2 rfl (by kernel_rfl) (fun K hK => ?_)
  go_simp
  refine (GM.out _).mono ?_
  rintro e w3 ⟨rfl, hE⟩
  refine hK.out _ _ hE ?_
  have HX := Lib.hid (Ext.trans HX.out hE)
  clear hE hK K
  try simp only [Act.put, List.setIfInBounds_toArray, List.set_cons_zero, List.set_cons_succ]
  refine reg_take (v := ?_) 4 (some 7) rfl rfl (by kernel_rfl) (by kernel_rfl) (by kernel_rfl) (fun _ _ _ h => h) (by rfl) (fun W hW => ?_) ?_
  rotate_left
  · (go_simp; try rfl)
  simp only [Act.put, List.setIfInBounds_toArray, List.set_cons_zero, List.set_cons_succ]
  refine reg_take (v := ?_) 5 (some 8) rfl rfl (by kernel_rfl) (by kernel_rfl) (by kernel_rfl) (fun _ _ _ h => h) (by rfl) (fun W hW => ?_) ?_
  rotate_left
  · (go_simp; try rfl)
  simp only [Act.put, List.setIfInBounds_toArray, List.set_cons_zero, List.set_cons_succ]
  refine reg_eff 6 rfl (by kernel_rfl) (fun K hK => ?_)
  go_simp
  refine (PD.out _).mono ?_
  rintro e w4 ⟨rfl, rfl⟩
  have hE := Ext.refl w3
  refine hK.out _ _ hE ?_
  have HX := Lib.hid (Ext.trans HX.out hE)
  clear hE hK K
  try simp only [Act.put, List.setIfInBounds_toArray, List.set_cons_zero, List.set_cons_succ]
  refine reg_take (v := ?_) 7 (some 10) rfl rfl (by kernel_rfl) (by kernel_rfl) (by kernel_rfl) (fun _ _ _ h => h) (by rfl) (fun W hW => ?_) ?_
  rotate_left
  · (go_simp; try rfl)
  simp only [Act.put, List.setIfInBounds_toArray, List.set_cons_zero, List.set_cons_succ]
  refine reg_take (v := ?_) 8 (some 11) rfl rfl (by kernel_rfl) (by kernel_rfl) (by kernel_rfl) (fun _ _ _ h => h) (by rfl) (fun W hW => ?_) ?_
  rotate_left
  · (go_simp; try rfl)
  simp only [Act.put, List.setIfInBounds_toArray, List.set_cons_zero, List.set_cons_succ]
  refine reg_take (v := ?_) 9 (some 0) rfl rfl (by kernel_rfl) (by kernel_rfl) (by kernel_rfl) (fun _ _ _ h => h) (by rfl) (fun W hW => ?_) ?_
  rotate_left
  · (go_simp; try rfl)
  simp only [Act.put, List.setIfInBounds_toArray, List.set_cons_zero, List.set_cons_succ]
  refine reg_done (by kernel_rfl) ?_
  go_wp2
  go_ret
  exact ⟨rfl, MB.out.step HX.out⟩
def bothN (a b : List UInt8) (i : Nat) : List UInt8 := (xorL a b).take i ++ a.drop i
theorem bothN_len (a b : List UInt8) (i : Nat) (ha : a.length = 16) (hb : b.length = 16) (hi : i ≤ 16) : (bothN a b i).length = 16 := by simp [bothN, xorL_len, ha, hb]; omega
theorem bothN_get (a b : List UInt8) (i : Nat) (ha : a.length = 16) (hb : b.length = 16) (hi : i < 16) : (bothN a b i).getD i 0 = a.getD i 0 := by
  have hl : ((xorL a b).take i).length = i := by simp [xorL_len, ha, hb]; omega
  simp only [bothN, List.getD]
  rw [List.getElem?_append_right (by omega), hl]; simp
theorem bothN_step (a b : List UInt8) (i : Nat) (ha : a.length = 16) (hb : b.length = 16) (hi : i < 16) : (bothN a b i).set i (a.getD i 0 ^^^ b.getD i 0) = bothN a b (i + 1) := by
  have hx : i < (xorL a b).length := by rw [xorL_len, ha, hb]; exact hi
  have hl : ((xorL a b).take i).length = i := by rw [List.length_take]; omega
  unfold bothN
  rw [List.set_append_right _ _ (by omega), hl, Nat.sub_self, List.drop_eq_getElem_cons (show i < a.length by omega), List.set_cons_zero, List.take_succ_eq_append_getElem hx, List.append_assoc]
  congr 1
  simp [xorL, List.getD, ha, hb, hi]
theorem both_any (a b : List UInt8) (w : World) (ha : a.length = 16) (hb : b.length = 16) :
    Calls Try.prog 19 #[.agg (a.map bv).toArray, .agg (b.map bv).toArray] w fun e w' => e = .returned (.agg ((xorL a b).map bv).toArray) ∧ Below w.heap.size w w' := by
  have hz16 : ∀ W, (zeroValue 22).run Try.prog W = .ok (.agg zer16.toArray) W := fun W => by kernel_rfl
  have hlz : Hid (zer16.length = 16) := rfl
  have HA := Lib.hid ha; have HBL := Lib.hid hb
  clear ha hb
  generalize zer16 = Z at hz16 hlz
  obtain ⟨q, HQ⟩ : ∃ q, Hid (w.heap.size = q) := ⟨_, rfl⟩
  have hb0 : Hid (a = bothN a b 0) := by show a = _; simp [bothN]
  go_enter Try.func19, Try.ntmps19
  go_wp2_with fail
  generalize hV : ((w.alloc _).alloc _).alloc _ = W0
  have G := heap3 w (.cells (a.map bv).toArray 22) (.cells (b.map bv).toArray 22) (.cells Z.toArray 22)
  rw [hV] at G
  rw [HQ.out] at G ⊢
  have F0 : Hid (W0.heap[q]? = some (.cells ((bothN a b 0).map bv).toArray 22 (0, 0))) := by show _ = _; rw [← hb0.out]; exact G.1
  have F1 := Lib.hid G.2.1; have F2 := Lib.hid G.2.2.1; have FB := Lib.hid G.2.2.2
  clear G hV
  go_loopw [5] (fun vi wr => ∃ (i : Nat), i ≤ 16 ∧ vi = .int .i64 (i : Int) ∧ Hid (Below q w wr) ∧ Hid (wr.heap[q]? = some (.cells ((bothN a b i).map bv).toArray 22 (0, 0))) ∧ Hid (wr.heap[q + 1]? = some (.cells (b.map bv).toArray 22 (0, 0))) ∧ Hid (wr.heap[q + 2]? = some (.cells Z.toArray 22 (0, 0)))) (fun i _ => 16 - (intOf i).toNat)
  case atStart => exact ⟨0, by omega, rfl, FB, F0, F1, F2⟩
  case round =>
    clear FB F0 F1 F2
    obtain ⟨i, hi, rfl, HB, H0, H1, H2⟩ := hrel
    by_cases hlt : i < 16
    · have e1 : (i : Int) < 16 := by omega
      have c0 : wr.cell? ⟨q, i, none⟩ = some (.int .u8 ((a.getD i 0).toNat : Int)) := by
        rw [cell_of_heap H0.out, List.getElem?_map, ← bothN_get a b i HA.out HBL.out hlt]
        simp [List.getD, bothN_len a b i HA.out HBL.out hi, hlt, bv]
      have c1 : wr.cell? ⟨q + 1, i, none⟩ = some (.int .u8 ((b.getD i 0).toNat : Int)) := by
        rw [cell_of_heap H1.out, List.getElem?_map]
        simp [List.getD, HBL.out, hlt, bv]
      have fz := frozen_of_heap H0.out i
      have HST := Lib.hid (bothN_step a b i HA.out HBL.out hlt)
      generalize a.getD i 0 = x at c0 HST
      generalize b.getD i 0 = y at c1 HST
      have hx := xor8 x y
      generalize x ^^^ y = z at hx HST
      go_wp2_with fail
      go_still_tail 9, (by kernel_rfl)
      change wpList _ _ _ _ _ wr.drew
      go_wp2
      go_roundw
      case rel =>
        refine ⟨i + 1, by omega, by go_num, ?_, ?_, ?_, ?_⟩
        · exact HB.out.drew.setCell (Nat.le_refl _) _
        · have := heap_set (w := wr.drew) H0.out i (bv z)
          rw [← List.map_set, HST.out] at this
          exact this
        · exact (Below.heap_setCell wr.drew _ _ _ (show q + 1 ≠ q by omega)).trans H1.out
        · exact (Below.heap_setCell wr.drew _ _ _ (show q + 2 ≠ q by omega)).trans H2.out
      case measure => simp [intOf]; omega
    · have hi16 : i = 16 := by omega
      have hx : bothN a b 16 = xorL a b := by simp [bothN, HA.out, HBL.out, xorL_len, List.take_of_length_le]
      have hl : (xorL a b).length = 16 := by rw [xorL_len, HA.out, HBL.out]; rfl
      have H0' : Hid (wr.heap[q]? = some (.cells ((xorL a b).map bv).toArray 22 (0, 0))) := by have := H0.out; rw [hi16, hx] at this; exact this
      have HL := Lib.hid hl
      obtain ⟨X, HXL⟩ : ∃ X, Hid (xorL a b = X) := ⟨_, rfl⟩
      rw [HXL.out] at H0' HL
      clear H0 hx hl hi16
      have e1 : ¬ ((i : Int) < 16) := by omega
      go_wp2_with (first
        | (refine wpList_ld rfl 22 (.tmp 2) rfl (load_arr arr16B rfl (i16l X HL.out) H0'.out) ?_)
        | (refine wpList_st rfl 22 (.tmp 4) (.tmp 19) rfl (store_arr (cs := X.map bv) (i16l X HL.out) (bv_one _) H2.out (by rw [List.length_map, HL.out]; exact hlz.out)) ?_
           generalize hV : World.setRow _ _ _ = W4
           have hres := heap_of_setRow hV H2.out
           have JB := Lib.hid (HB.out.trans (below_of_setRow hV (by omega) (by rw [← HQ.out]; exact HB.out.size)))
           clear hV))
      exact bodyPost_ret (results_cell_row (P := Try.prog) rfl _ _ (q + 2) 22 (X.map bv).toArray (0, 0) _ rfl hres arr16B rfl (by rw [List.size_toArray]; exact i16l X HL.out)) rfl ⟨by rw [HXL.out], by rw [HQ.out]; exact JB.out⟩
end Go.Proofs.Ytdogfopnjojliaa

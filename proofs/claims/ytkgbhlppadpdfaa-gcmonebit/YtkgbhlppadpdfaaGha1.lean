/- Package ghash: rows of two words; up, flat. -/
import Derived.Test.YtkgbhlppadpdfaaGhaM2
import Derived.Test.YtkgbhlppadpdfaaPoly7
import Derived.Test.YtkgbhlppadpdfaaAes3
import Derived.Test.YtkgbhlppadpdfaaLaws3
import Derived.Test.YtkgbhlppadpdfaaReg4
namespace Go.Proofs.Ytkgbhlppadpdfaa
open Go.RowKit
set_option maxRecDepth 100000
set_option linter.unusedVariables false
set_option linter.unusedSimpArgs false
/-- the two words of a number of 128 bits, the higher one first -/
def hiV (n : Nat) : Nat := n / 18446744073709551616
def loV (n : Nat) : Nat := n % 18446744073709551616
def rowL (n : Nat) : List Nat := [hiV n, loV n]
theorem rowL_len (n : Nat) : (rowL n).length = 2 := rfl
theorem e64 : (2 : Nat) ^ 64 = 18446744073709551616 := by decide
theorem e128 : (2 : Nat) ^ 128 = 340282366920938463463374607431768211456 := by decide
theorem hiV_lt (n : Nat) (h : n < 2 ^ 128) : hiV n < 18446744073709551616 := by rw [e128] at h; unfold hiV; omega
theorem loV_lt (n : Nat) : loV n < 18446744073709551616 := Nat.mod_lt _ (by decide)
theorem hiV_xor (a b : Nat) : hiV (a ^^^ b) = hiV a ^^^ hiV b := by
  have := Nat.xor_div_two_pow (a := a) (b := b) (n := 64)
  rwa [e64] at this
theorem loV_xor (a b : Nat) : loV (a ^^^ b) = loV a ^^^ loV b := by
  have := Nat.xor_mod_two_pow (a := a) (b := b) (n := 64)
  rwa [e64] at this
theorem up_hi (n : Nat) : hiV (upV n) = hiV n / 2 ^^^ sel (decide (loV n % 2 = 1)) 16212958658533785600 := by
  have ht : n.testBit 0 = decide (loV n % 2 = 1) := by
    rw [Nat.testBit_zero]; congr 1; unfold loV; apply propext; omega
  rw [upV, hiV_xor, ht]
  congr 1
  · rw [Nat.shiftRight_eq_div_pow]; unfold hiV; omega
  · cases decide (loV n % 2 = 1) <;> rfl
theorem up_lo (n : Nat) : loV (upV n) = hiV n % 2 * 9223372036854775808 + loV n / 2 := by
  rw [upV, loV_xor]
  have h0 : loV (sel (n.testBit 0) 299076299051606071403356588563077529600) = 0 := by cases n.testBit 0 <;> rfl
  rw [h0, Nat.xor_zero, Nat.shiftRight_eq_div_pow]
  unfold loV hiV; omega
theorem and1 (x : Nat) (hx : x < 18446744073709551616) : bits .and .u64 (x : Int) 1 = ((x % 2 : Nat) : Int) := by
  have h := u64_and_nat x 1 hx (by decide)
  rw [show x &&& 1 = x % 2 from Nat.and_two_pow_sub_one_eq_mod x 1] at h
  exact h
theorem neg1 (b : Nat) (hb : b < 2) : IntKind.u64.wrap (-(b : Int)) = ((sel (decide (b = 1)) 18446744073709551615 : Nat) : Int) := by
  rw [IntKind.wrap_u64]
  by_cases h : b = 1
  · subst h; rfl
  · have : b = 0 := by omega
    subst this; rfl
theorem mask_and (c : Bool) (x : Nat) (hx : x < 18446744073709551616) : bits .and .u64 (x : Int) ((sel c 18446744073709551615 : Nat) : Int) = ((sel c x : Nat) : Int) := by
  rw [u64_and_nat x _ hx (sel_lt c (by decide))]
  cases c
  · simp [sel]
  · have h := Nat.and_two_pow_sub_one_eq_mod x 64
    rw [e64, Nat.mod_eq_of_lt hx] at h
    show ((x &&& 18446744073709551615 : Nat) : Int) = _
    rw [show (18446744073709551616 - 1 : Nat) = 18446744073709551615 from rfl] at h
    rw [h]; rfl
theorem mask_and' (c : Bool) (x : Nat) (hx : x < 18446744073709551616) : bits .and .u64 ((sel c 18446744073709551615 : Nat) : Int) (x : Int) = ((sel c x : Nat) : Int) := by
  rw [u64_and_nat _ x (sel_lt c (by decide)) hx, Nat.and_comm, ← u64_and_nat x _ hx (sel_lt c (by decide))]
  exact mask_and c x hx
theorem or63 (a b : Nat) (hb : b < 9223372036854775808) : bits .or .u64 ((a * 9223372036854775808 % 18446744073709551616 : Nat) : Int) (b : Int) = ((a % 2 * 9223372036854775808 + b : Nat) : Int) := by
  have e : a * 9223372036854775808 % 18446744073709551616 = a % 2 * 9223372036854775808 := by omega
  have h1 : a % 2 * 9223372036854775808 < 18446744073709551616 := by omega
  have h2 : b < 18446744073709551616 := by omega
  have hj : ∀ i, (2 : Nat) ^ i = 9223372036854775808 → (a % 2 * 9223372036854775808) ||| b = a % 2 * 9223372036854775808 + b := fun i hi => nat_join i _ b (by rw [hi]; exact Nat.mul_mod_left _ _) (by rw [hi]; exact hb)
  rw [e, u64_or_nat _ _ h1 h2, hj 63 (by decide)]
theorem up_cases (n : Nat) (hn : n < 2 ^ 128) : ∃ hi lo b h2 l2 s m k : Nat, hiV n = hi ∧ loV n = lo ∧ bits .and .u64 (lo : Int) 1 = (b : Int) ∧ IntKind.u64.wrap (-(b : Int)) = (m : Int) ∧ (hi : Int) / 2 = (h2 : Int) ∧ bits .and .u64 (m : Int) 16212958658533785600 = (k : Int) ∧
    bits .xor .u64 (h2 : Int) (k : Int) = ((hiV (upV n) : Nat) : Int) ∧ IntKind.u64.wrap ((hi : Int) * 9223372036854775808) = (s : Int) ∧ (lo : Int) / 2 = (l2 : Int) ∧ bits .or .u64 (s : Int) (l2 : Int) = ((loV (upV n) : Nat) : Int) := by
  have h1 := hiV_lt n hn
  have h2 := loV_lt n
  refine ⟨hiV n, loV n, loV n % 2, hiV n / 2, loV n / 2, hiV n * 9223372036854775808 % 18446744073709551616, sel (decide (loV n % 2 = 1)) 18446744073709551615, sel (decide (loV n % 2 = 1)) 16212958658533785600, rfl, rfl, and1 _ h2, neg1 _ (by omega), by omega, mask_and' _ _ (by decide), ?_, ?_, by omega, ?_⟩
  · rw [up_hi, u64_xor_nat _ _ (by omega) (sel_lt _ (by decide))]
  · rw [IntKind.wrap_u64]; omega
  · rw [up_lo, or63 _ _ (by omega)]
theorem arr2 : Try.prog.underlying 92 = some (.array 2 90) := Try.underlying92
theorem i2 : (Try.prog.info? 92).map (·.size) = some 2 := by kernel_rfl
theorem i2l (l : List Nat) (h : l.length = 2) : (Try.prog.info? 92).map (·.size) = some (l.map uv).length := by rw [List.length_map, h]; exact i2
set_option maxHeartbeats 2000000 in
theorem up_any (n : Nat) (w : World) (hn : n < 2 ^ 128) :
    Calls Try.prog 78 #[.agg ((rowL n).map uv).toArray] w fun e w' => e = .returned (.agg ((rowL (upV n)).map uv).toArray) ∧ Below w.heap.size w w' := by
  obtain ⟨hi, lo, b, h2, l2, s, m, k, h_hi, h_lo, hb, hm, hh2, hk, hx, hs, hl2, ho⟩ := up_cases n hn
  have hr : rowL (upV n) = [hiV (upV n), loV (upV n)] := rfl
  rw [hr]
  have hr0 : rowL n = [hi, lo] := by rw [rowL, h_hi, h_lo]
  rw [hr0]
  clear h_hi h_lo hr hr0
  generalize hiV (upV n) = hi' at hx ⊢
  generalize loV (upV n) = lo' at ho ⊢
  have hbd : ∀ W, (Instr.build 92 #[(0, .int .u64 (hi' : Int)), (1, .int .u64 (lo' : Int))]).run Try.prog W = .ok (.agg (([hi', lo'] : List Nat).map uv).toArray) W := fun W => by kernel_rfl
  simp only [List.map_cons, List.map_nil, uv] at hbd ⊢
  go_enter Try.func78, Try.ntmps78
  go_wp2
  have hh := heap2p w (.cells #[.int .u64 (hi : Int), .int .u64 (lo : Int)] 92) (.cells #[.int .u64 (hi' : Int), .int .u64 (lo' : Int)] 92)
  exact bodyPost_ret (results_cell_row (P := Try.prog) rfl _ _ (w.heap.size + 1) 92 #[.int .u64 (hi' : Int), .int .u64 (lo' : Int)] (0, 0) _ rfl hh.2.1 arr2 rfl i2) rfl ⟨rfl, hh.2.2⟩

/-- a number of 128 bits as a block -/
def blkL (n : Nat) : List UInt8 := putBig n 16
theorem blkL_len (n : Nat) : (blkL n).length = 16 := putBig_len _ _
def flatR (n : Nat) (i : Nat) : List UInt8 := if i = 0 then List.replicate 16 0 else if i = 1 then putBig (hiV n) 8 ++ List.replicate 8 0 else blkL n
theorem flatR_len (n i : Nat) : (flatR n i).length = 16 := by
  unfold flatR; split
  · simp
  · split
    · simp [putBig_len]
    · exact blkL_len n
theorem flatR_end (n : Nat) : putBig (hiV n) 8 ++ putBig (loV n) 8 = blkL n := by
  unfold blkL
  rw [show (16 : Nat) = 8 + 8 from rfl, putBig_split]
  have m1 := putBig_mod n 8 8 (Nat.le_refl _)
  have h8 : (256 : Nat) ^ 8 = 18446744073709551616 := by decide
  rw [h8] at m1 ⊢
  rw [← m1]; rfl
theorem flatR_step (n i : Nat) (hi : i < 2) : splice ((flatR n i).map bv) (8 * i) ((putBig ((rowL n).getD i 0) 8).map bv) = (flatR n (i + 1)).map bv := by
  match i, hi with
  | 0, _ =>
    have := splice_first (bv 0) 8 8 ((putBig (hiV n) 8).map bv) (by simp [putBig_len])
    simp only [flatR, List.map_append, List.map_replicate]
    exact this
  | 1, _ =>
    have := splice_last (bv 0) 8 8 ((putBig (hiV n) 8).map bv) ((putBig (loV n) 8).map bv) (by simp [putBig_len]) (by simp [putBig_len])
    rw [show flatR n (1 + 1) = blkL n from rfl, ← flatR_end, List.map_append, ← this]
    simp only [flatR, List.map_append, List.map_replicate]
    rfl
set_option maxHeartbeats 2000000 in
theorem gflat_any (n : Nat) (w : World) (hn : n < 2 ^ 128) :
    Calls Try.prog 55 #[.agg ((rowL n).map uv).toArray] w fun e w' => e = .returned (.agg ((blkL n).map bv).toArray) ∧ Below w.heap.size w w' := by
  have HN : Hid (∀ i, i < 2 → (rowL n).getD i 0 < 18446744073709551616) := fun i hi => by
    match i, hi with
    | 0, _ => exact hiV_lt n hn
    | 1, _ => exact loV_lt n
  clear hn
  have HRL := Lib.hid (rowL_len n)
  have HFS := Lib.hid (flatR_step n)
  obtain ⟨R, HR⟩ : ∃ R, Hid (rowL n = R) := ⟨_, rfl⟩
  rw [HR.out] at HRL HFS HN ⊢
  go_enter Try.func55, Try.ntmps55
  go_wp2_with fail
  generalize hV : ((w.alloc _).alloc _).alloc _ = W0
  have F0 : Hid (W0.heap[w.heap.size]? = some (.cells (R.map uv).toArray 92 (0, 0))) := by rw [← hV]; exact (heap3 w _ _ _).1
  have F1 : Hid (W0.heap[w.heap.size + 1]? = some (.cells (List.replicate 16 (Value.int .u8 0)).toArray 33 (0, 0))) := by rw [← hV]; exact (heap3 w _ _ _).2.1
  have F2 : Hid (W0.heap[w.heap.size + 1 + 1]? = some (.cells ((flatR n 0).map bv).toArray 33 (0, 0))) := by rw [← hV]; exact (heap3 w _ _ _).2.2.1
  have FB : Hid (Below w.heap.size w W0) := by rw [← hV]; exact (heap3 w _ _ _).2.2.2
  clear hV
  generalize hg2 : w.heap.size + 1 + 1 = g2 at F2 ⊢
  generalize hg1 : w.heap.size + 1 = g1 at F1 ⊢
  have HG2 : Hid (w.heap.size + 1 + 1 = g2) := hg2
  have HG1 : Hid (w.heap.size + 1 = g1) := hg1
  clear hg1 hg2
  go_loopw [5] (fun vi wr => ∃ (i : Nat), i ≤ 2 ∧ vi = .int .i64 (i : Int) ∧ Hid (Below w.heap.size w wr) ∧ Hid (wr.heap[w.heap.size]? = some (.cells (R.map uv).toArray 92 (0, 0))) ∧ Hid (wr.heap[g1]? = some (.cells (List.replicate 16 (Value.int .u8 0)).toArray 33 (0, 0))) ∧
     Hid (wr.heap[g2]? = some (.cells ((flatR n i).map bv).toArray 33 (0, 0)))) (fun i _ => 2 - (intOf i).toNat)
  case atStart => exact ⟨0, by omega, rfl, FB, F0, F1, F2⟩
  case round =>
    clear F0 F1 F2 FB
    obtain ⟨i, hi, rfl, HB, H0, H1, H2⟩ := hrel
    by_cases hlt : i < 2
    · have e1 : (i : Int) < 2 := by omega
      obtain ⟨q, hq⟩ : ∃ q, q = 8 * i := ⟨_, rfl⟩
      have sl := arr_from arr16B s8 ⟨g2, 0, none⟩ .i64 (q : Int) (by omega) (by omega)
      rw [Int.toNat_natCast, show cutA ⟨g2, 0, none⟩ 16 q = ⟨g2, q, none⟩ from by unfold cutA; rw [if_neg (by omega), Addr.add_mid, Nat.zero_add]] at sl
      have u1 : IntKind.i64.wrap (8 * (i : Int)) = (q : Int) := by rw [IntKind.wrap_i64]; omega
      have c0 := ucell H0.out i (by rw [HRL.out]; exact hlt)
      have HST := Lib.hid (HFS.out i hlt)
      have HX64 := Lib.hid (HN.out i hlt)
      rw [← hq] at HST
      generalize R.getD i 0 = x at c0 HST HX64
      have HQ : Hid (q + 8 ≤ 16) := by show _ ≤ _; omega
      have HL32 := Lib.hid (flatR_len n i)
      clear hq
      have HX : Hid (Below g2 wr wr.drew) := (Below.refl _ _).drew
      have q2 : w.heap.size < g2 := by have := HG2.out; omega
      have hg2w : Hid (g2 ≤ wr.heap.size) := Nat.le_of_lt (lt_of_heap H2.out)
      go_wp2_with fail
      refine regB_start (g2) (by kernel_rfl) ?_
      try simp only [Act.put, List.setIfInBounds_toArray, List.set_cons_zero, List.set_cons_succ]
      refine regB_take (v := ?_) 0 (some 8) rfl rfl (by kernel_rfl) (by kernel_rfl) (by kernel_rfl) (fun _ _ _ h => h) (by rfl) (fun W hW => ?_) ?_
      rotate_left
      · (go_simp; try rfl)
      simp only [Act.put, List.setIfInBounds_toArray, List.set_cons_zero, List.set_cons_succ]
      refine regB_take (v := ?_) 1 (some 9) rfl rfl (by kernel_rfl) (by kernel_rfl) (by kernel_rfl) (fun _ _ _ h => h) (by rfl) (fun W hW => ?_) ?_
      rotate_left
      · (go_simp; try rfl)
      simp only [Act.put, List.setIfInBounds_toArray, List.set_cons_zero, List.set_cons_succ]
      refine regB_take (v := ?_) 2 (some 10) rfl rfl (by kernel_rfl) (by kernel_rfl) (by kernel_rfl) (fun _ _ _ h => h) (by rfl) (fun W hW => ?_) ?_
      rotate_left
      · (go_simp; try rfl)
      simp only [Act.put, List.setIfInBounds_toArray, List.set_cons_zero, List.set_cons_succ]
      refine regB_take (v := ?_) 3 (some 11) rfl rfl (by kernel_rfl) (by kernel_rfl) (by kernel_rfl) (fun _ _ _ h => h) (by rfl) (fun W hW => ?_) ?_
      rotate_left
      · (go_simp; try rfl)
      simp only [Act.put, List.setIfInBounds_toArray, List.set_cons_zero, List.set_cons_succ]
      refine regB_take (v := ?_) 4 (some 12) rfl rfl (by kernel_rfl) (by kernel_rfl) (by kernel_rfl) (fun _ _ _ h => h) (by rfl) (fun W hW => ?_) ?_
      rotate_left
      · (go_simp; try rfl)
      simp only [Act.put, List.setIfInBounds_toArray, List.set_cons_zero, List.set_cons_succ]
      refine regB_load 5 (some 13) (fun W hW => load_cell Try.underlying90 ((hW.cell q2).trans c0)) rfl rfl rfl rfl (by kernel_rfl) (by kernel_rfl) (by kernel_rfl) (fun _ _ _ h => h) (by rfl) ?_
      simp only [Act.put, List.setIfInBounds_toArray, List.set_cons_zero, List.set_cons_succ]
      refine regB_eff 6 rfl (by kernel_rfl) (fun K hK => ?_)
      go_simp
      refine (putBig_any x 8 _ HX64.out (by omega)).mono ?_
      rintro e w3 ⟨g3, hg3, rfl, hk3, hE0⟩
      have F3 : Hid (w3.heap[g2]? = _) := (hE0.block _ (lt_of_heap (w := wr.drew) H2.out)).trans H2.out
      have F1' : Hid (w3.heap[g1]? = _) := (hE0.block _ (lt_of_heap (w := wr.drew) H1.out)).trans H1.out
      have F0' : Hid (w3.heap[w.heap.size]? = _) := (hE0.block _ (lt_of_heap (w := wr.drew) H0.out)).trans H0.out
      have FB' : Hid (Below w.heap.size w w3) := Below.step (w1 := wr.drew) HB.out.drew hE0
      have R3 := Lib.hid (row_of_heap hk3 (Nat.lt_succ_self g3))
      have hE : Below g2 wr.drew w3 := RowKit.Below.mono hE0 hg2w.out
      clear hE0 hk3 hg3
      refine hK.out _ _ hE ?_
      have HX := Lib.hid (Below.trans HX.out hE)
      clear hE hK K
      try simp only [Act.put, List.setIfInBounds_toArray, List.set_cons_zero, List.set_cons_succ]
      refine regB_eff 7 rfl (by kernel_rfl) (fun K hK => ?_)
      obtain ⟨w5, hrun, hblk, _, hgr⟩ := copy_run uT s8 (sT := 23) 3 w3 g2 q ((flatR n i).map bv) 33 F3.out (some ⟨g2, q, none⟩) (some ⟨g3, 0, none⟩) (16 - q) (16 - q) 8 8 (g3 + 1) ((putBig x 8).map bv) (by have := HQ.out; simp only [List.length_map, putBig_len]; omega) (fun _ => rfl) R3.out (by have := HQ.out; simp only [List.length_map, putBig_len, HL32.out]; omega) (bv_one _)
      rw [HST.out] at hblk
      have E2 := Lib.hid hblk
      have EG := Lib.hid hgr
      refine step_cpy rfl (.tmp 10) (.tmp 14) 23 23 rfl hrun ?_
      have hE : Below g2 w3 w5 := grown_below hgr (Nat.le_refl _) (Nat.le_of_lt (lt_of_heap F3.out))
      clear hrun hblk hgr
      refine hK.out _ _ hE ?_
      have HX := Lib.hid (Below.trans HX.out hE)
      clear hE hK K
      try simp only [Act.put, List.setIfInBounds_toArray, List.set_cons_zero, List.set_cons_succ]
      refine regB_done (by kernel_rfl) ?_
      clear u1
      go_wp2
      go_roundw
      case rel =>
        have q3 := HG2.out
        have q1 := HG1.out
        refine ⟨i + 1, by omega, by go_num, ?_, ?_, ?_, E2⟩
        · exact FB'.out.trans (grown_below EG.out (by omega) FB'.out.size)
        · exact (EG.out.block _ (lt_of_heap F0'.out) (by simp; omega)).trans F0'.out
        · exact (EG.out.block _ (lt_of_heap F1'.out) (by simp; omega)).trans F1'.out
      case measure => simp [intOf]; omega
    · have H2' : Hid (wr.heap[g2]? = some (.cells ((blkL n).map bv).toArray 33 (0, 0))) := by have := H2.out; rw [show i = 2 by omega] at this; exact this
      have hl : Hid (((blkL n).map bv).length = 16) := by show _ = _; rw [List.length_map, blkL_len]
      obtain ⟨L, HL⟩ : ∃ L, Hid (blkL n = L) := ⟨_, rfl⟩
      rw [HL.out] at hl H2'
      go_wp2_with (first
        | (refine wpList_ld rfl 33 (.tmp 3) rfl (load_arr arr16B rfl (by rw [hl.out]; exact i16B) H2'.out) ?_)
        | (refine wpList_st rfl 33 (.tmp 2) (.tmp 17) rfl (store_arr (cs := L.map bv) (by rw [hl.out]; exact i16B) (bv_one _) H1.out (by rw [hl.out]; simp)) ?_))
      have hres := setRow_heap wr g1 _ (L.map bv).toArray 33 _ H1.out
      rw [HL.out]
      exact bodyPost_ret (results_cell_row (P := Try.prog) rfl _ _ g1 33 (L.map bv).toArray (0, 0) _ rfl hres arr16B rfl (by rw [List.size_toArray, hl.out]; exact i16B)) rfl ⟨rfl, HB.out.trans (grown_below (grown_setRow _ _ _) (by have := HG1.out; omega) HB.out.size)⟩
end Go.Proofs.Ytkgbhlppadpdfaa

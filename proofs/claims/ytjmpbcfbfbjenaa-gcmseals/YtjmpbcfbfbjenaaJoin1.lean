/- Joined: CtrM Count Awake1 Laws3 Ctr1 LiftC LiftN KeyZ Ctr2 GhaM1 GhaM2 Reg3 Poly1 Poly2 Poly3 Poly4 Poly5 Sha7b Poly6 Poly7 Reg4 Gha1 Gha2 Gha3 Gha4 LawsG3 RefG1. -/
import Derived.Test.YtjmpbcfbfbjenaaBits3
import Derived.Test.YtjmpbcfbfbjenaaBits2
import Derived.OpenShut
import Derived.Test.YtjmpbcfbfbjenaaLiftA
import Derived.Test.YtjmpbcfbfbjenaaReg
import Derived.Test.YtjmpbcfbfbjenaaAes10
import Derived.Test.YtjmpbcfbfbjenaaLift
import Derived.Deep.Strs
import Derived.Test.YtjmpbcfbfbjenaaNum
import Derived.Test.YtjmpbcfbfbjenaaReg2
import Derived.StillTail
import Derived.Test.YtjmpbcfbfbjenaaSha4
import Derived.Laws.Externs
import Derived.Test.YtjmpbcfbfbjenaaRefS1
import Derived.Test.YtjmpbcfbfbjenaaSha7
import Derived.Deep.MidRow
import Derived.Test.YtjmpbcfbfbjenaaAes3
import Derived.StillTailTactics
/- The mathematics of a stream put to bytes. -/
namespace Go.Proofs.Ytjmpbcfbfbjenaa
open Go.RowKit
set_option linter.unusedVariables false
set_option maxRecDepth 100000
/-- bytes, and the stream f from its place p on -/
def ctrL (f : Nat → UInt8) (p : Nat) : List UInt8 → List UInt8
  | [] => []
  | x :: r => (x ^^^ f p) :: ctrL f (p + 1) r
theorem ctrL_len (f : Nat → UInt8) : ∀ (b : List UInt8) (p : Nat), (ctrL f p b).length = b.length
  | [], _ => rfl
  | x :: r, p => by simp [ctrL, ctrL_len f r]
theorem ctrL_append (f : Nat → UInt8) : ∀ (a : List UInt8) (p : Nat) (b : List UInt8), ctrL f p (a ++ b) = ctrL f p a ++ ctrL f (p + a.length) b
  | [], _, _ => by simp [ctrL]
  | x :: r, p, b => by
    simp only [List.cons_append, ctrL, ctrL_append f r, List.length_cons]
    rw [show p + 1 + r.length = p + (r.length + 1) by omega]
theorem ctrL_back (f : Nat → UInt8) : ∀ (b : List UInt8) (p : Nat), ctrL f p (ctrL f p b) = b
  | [], _ => rfl
  | x :: r, p => by simp [ctrL, ctrL_back f r, UInt8.xor_assoc]
theorem ctrL_get (f : Nat → UInt8) : ∀ (b : List UInt8) (p i : Nat) (h : i < b.length) (h' : i < (ctrL f p b).length), (ctrL f p b)[i] = b[i] ^^^ f (p + i)
  | x :: r, p, 0, _, _ => by simp [ctrL]
  | x :: r, p, i + 1, h, h' => by
    have := ctrL_get f r (p + 1) i (by simpa using h) (by rw [ctrL_len]; simpa using h)
    simp only [ctrL, List.getElem_cons_succ]
    rw [this, show p + 1 + i = p + (i + 1) by omega]
theorem ctrL_congr (f g : Nat → UInt8) : ∀ (b : List UInt8) (p q : Nat), (∀ i, i < b.length → f (p + i) = g (q + i)) → ctrL f p b = ctrL g q b
  | [], _, _, _ => rfl
  | x :: r, p, q, h => by
    have h0 := h 0 (by simp)
    simp only [Nat.add_zero] at h0
    simp only [ctrL, h0]
    rw [ctrL_congr f g r (p + 1) (q + 1) (fun i hi => by have := h (i + 1) (by simp; omega); rwa [show p + (i + 1) = p + 1 + i by omega, show q + (i + 1) = q + 1 + i by omega] at this)]
theorem ctrL_zero (b : List UInt8) (p : Nat) : ctrL (fun _ => 0) p b = b := by
  induction b generalizing p with
  | nil => rfl
  | cons x r ih => simp [ctrL, ih]
theorem ctrL_set (f : Nat → UInt8) : ∀ (b : List UInt8) (p n : Nat) (y : UInt8), ctrL f p (b.set n (b.getD n 0 ^^^ y)) = (ctrL f p b).set n ((ctrL f p b).getD n 0 ^^^ y)
  | [], _, _, _ => by simp [ctrL]
  | x :: r, p, 0, y => by
    simp only [ctrL, List.set_cons_zero, List.getD_cons_zero]
    rw [UInt8.xor_assoc, UInt8.xor_comm y, ← UInt8.xor_assoc]
  | x :: r, p, n + 1, y => by
    simp only [ctrL, List.set_cons_succ, List.getD_cons_succ]
    rw [ctrL_set f r]
/-- the bytes of a row of blocks -/
def blkF (E : Nat → List UInt8) (i : Nat) : UInt8 := (E (i / 16)).getD (i % 16) 0
/-- what is left of a block, put to bytes -/
theorem ctrL_block (E : Nat → List UInt8) (p : Nat) (b : List UInt8) (h : (E (p / 16)).length = 16) : xorL b ((E (p / 16)).drop (p % 16)) = ctrL (blkF E) p (b.take (min b.length (16 - p % 16))) := by
  have hl : (xorL b ((E (p / 16)).drop (p % 16))).length = min b.length (16 - p % 16) := by rw [xorL_len, List.length_drop, h]
  have hl2 : (ctrL (blkF E) p (b.take (min b.length (16 - p % 16)))).length = min b.length (16 - p % 16) := by rw [ctrL_len, List.length_take]; omega
  apply List.ext_getElem
  · rw [hl, hl2]
  · intro i h1 h2
    rw [ctrL_get _ _ _ _ (by rw [← ctrL_len (blkF E) _ p]; exact h2)]
    rw [hl] at h1
    have hq : (p + i) / 16 = p / 16 := by omega
    have hr : (p + i) % 16 = p % 16 + i := by omega
    have hi : p % 16 + i < (E (p / 16)).length := by omega
    rw [blkF, hq, hr, List.getD_eq_getElem?_getD, List.getElem?_eq_getElem hi]
    simp [xorL]
theorem ctrL_take (f : Nat → UInt8) (p n : Nat) (b : List UInt8) : (ctrL f p b).take n = ctrL f p (b.take n) := by
  by_cases h : n ≤ b.length
  · have := ctrL_append f (b.take n) p (b.drop n)
    rw [List.take_append_drop] at this
    rw [this, List.take_append_of_le_length (by rw [ctrL_len, List.length_take]; omega), List.take_of_length_le (by rw [ctrL_len, List.length_take]; omega)]
  · rw [List.take_of_length_le (by rw [ctrL_len]; omega), List.take_of_length_le (by omega)]
/-- one more step of the loop over blocks -/
theorem ctr_step (E : Nat → List UInt8) (p j m : Nat) (b : List UInt8) (h : (E ((p + j) / 16)).length = 16) (hj : j ≤ b.length) (hm : m = min (b.length - j) (16 - (p + j) % 16)) :
    ctrL (blkF E) p (b.take j) ++ xorL (b.drop j) ((E ((p + j) / 16)).drop ((p + j) % 16)) = ctrL (blkF E) p (b.take (j + m)) := by
  rw [ctrL_block E (p + j) (b.drop j) h, List.length_drop, ← hm, List.take_add, ctrL_append, List.length_take, Nat.min_eq_left hj]
end Go.Proofs.Ytjmpbcfbfbjenaa

/- Contract of bits.Count. -/
namespace Go.Proofs.Ytjmpbcfbfbjenaa
open Go.RowKit
set_option linter.unusedVariables false
set_option maxRecDepth 100000

/-- an array of bytes as a value -/
def aggB (bs : List UInt8) : Value := .agg (bs.map bv).toArray
theorem arr16T : Try.prog.underlying 23 = some (.array 16 5) := Try.underlying23
theorem i16 : (Try.prog.info? 23).map (·.size) = some 16 := by kernel_rfl

theorem count_any (c : List UInt8) (n : Nat) (w : World) (hc : c.length = 16) (hn : n < 18446744073709551616) :
    Calls Try.prog 64 #[.agg (c.map bv).toArray, .int .u64 (n : Int)] w fun e w' => e = .returned (.agg ((countL c n).map bv).toArray) ∧ Below w.heap.size w w' := by
  have harr1 := arr_to arr16T s8 ⟨w.heap.size, 0, none⟩ .i64 8 (by omega) (by omega)
  have harr2 := arr_from arr16T s8 ⟨w.heap.size, 0, none⟩ .i64 8 (by omega) (by omega)
  simp only [show (8 : Int).toNat = 8 from rfl, show cutA ⟨w.heap.size, 0, none⟩ 16 8 = ⟨w.heap.size, 8, none⟩ from rfl, Nat.reduceSub] at harr1 harr2
  obtain ⟨hi, lo, low, e1, e2, hhi, hlow, hwl, high, hlt, hm, hcase⟩ := count_cases c n hc hn
  have HLT := Lib.hid hlt; have HM := Lib.hid hm
  have HE1 := Lib.hid e1; have HE2 := Lib.hid e2; have HHI := Lib.hid hhi; have HLOW := Lib.hid hlow
  have HCASE := Lib.hid hcase
  have HC := Lib.hid hc
  clear hn hc e1 e2 hhi hlow hcase hlt hm
  go_enter Try.func64, Try.ntmps64
  go_wp2_with fail
  generalize hW : (w.alloc _).alloc _ = W0
  have F0 : W0.heap[w.heap.size]? = some (.cells (c.map bv).toArray 23 (0, 0)) := by rw [← hW]; exact heap_alloc2_old w _ _
  have F1 : W0.heap[w.heap.size + 1]? = some (.cells (List.replicate 16 (Value.int .u8 0)).toArray 23 (0, 0)) := by rw [← hW]; exact heap_alloc2_new w _ _
  have FB : Below w.heap.size w W0 := by rw [← hW]; exact two_below w _ _
  have G0 := Lib.hid F0
  have G1 := Lib.hid F1
  have GB := Lib.hid FB
  clear F0 F1 FB hW
  go_region_law (first
    | (go_simp; go_at_call 89; first
        | ((with_reducible refine (big_n (some ⟨w.heap.size, 0, none⟩) 8 16 (c.take 8) W0.drew ?_ ?_ ?_ ?_).mono ?_)
           · rw [List.length_take, HC.out]; rfl
           · omega
           · simp [maxLen]
           · exact row_sub (w := W0.drew) G0.out 0 8 (lt_of_heap G0.out)
           rintro e w1 ⟨rfl, hb1⟩
           rw [HE1.out]
           have HB1 := Lib.hid hb1; clear hb1)
        | ((with_reducible refine (big_n (some ⟨w.heap.size, 8, none⟩) 8 8 (c.drop 8) w1 ?_ ?_ ?_ ?_).mono ?_)
           · rw [List.length_drop, HC.out]
           · omega
           · simp [maxLen]
           · have := row_sub ((HB1.out.block _ (lt_of_heap (w := W0.drew) G0.out)).trans G0.out) 8 8 (Nat.lt_of_lt_of_le (lt_of_heap G0.out) HB1.out.size)
             rwa [List.take_of_length_le (by rw [List.length_drop, HC.out]; omega)] at this
           rintro e w2 ⟨rfl, hb2⟩
           rw [HE2.out]
           have HB2 := Lib.hid hb2; clear hb2)))
  have G1' := Lib.hid ((HB2.out.block _ (Nat.lt_of_lt_of_le (lt_of_heap G1.out) HB1.out.size)).trans ((HB1.out.block _ (lt_of_heap (w := W0.drew) G1.out)).trans G1.out))
  have GB' := Lib.hid ((Below.step (w1 := W0.drew) GB.out.drew HB1.out).step HB2.out)
  clear G0 G1 GB HB1 HB2 HE1 HE2
  rcases HCASE.out with ⟨hcar, hw⟩ | ⟨hcar, rfl⟩
  all_goals
    clear HCASE HHI
    go_wp2_with fail
    generalize hW3 : w2.alloc _ = W3
    have T2 : W3.heap[w2.heap.size]? = some (.cells (List.replicate 16 (Value.int .u8 0)).toArray 23 (0, 0)) := by rw [← hW3]; exact heap_alloc_new' w2 _
    have T1 : W3.heap[w.heap.size + 1]? = some (.cells (List.replicate 16 (Value.int .u8 0)).toArray 23 (0, 0)) := by rw [← hW3]; exact (Below.heap_alloc w2 _ _ (lt_of_heap G1'.out)).trans G1'.out
    have TB : Below w.heap.size w W3 := by rw [← hW3]; exact GB'.out.alloc GB'.out.size _
    have hle : w.heap.size ≤ w2.heap.size := GB'.out.size
    have hne : w.heap.size + 1 ≠ w2.heap.size := by have := lt_of_heap G1'.out; omega
    have HNE := Lib.hid hne; have HLE := Lib.hid hle
    have D1 := Lib.hid T1; have D2 := Lib.hid T2; have DB := Lib.hid TB
    clear T1 T2 TB hW3 G1' GB' hle hne
    have harr3 := arr_to arr16T s8 ⟨w2.heap.size, 0, none⟩ .i64 8 (by omega) (by omega)
    have harr4 := arr_from arr16T s8 ⟨w2.heap.size, 0, none⟩ .i64 8 (by omega) (by omega)
    simp only [show (8 : Int).toNat = 8 from rfl, show cutA ⟨w2.heap.size, 0, none⟩ 16 8 = ⟨w2.heap.size, 8, none⟩ from rfl, Nat.reduceSub] at harr3 harr4
    go_region_law (first
      | (go_simp; go_at_call 93; refine (putBig_any high 8 _ HLT.out (by omega)).mono ?_; rintro e w4 ⟨g4, hg4, rfl, hk4, hb4⟩; have HK4 := Lib.hid hk4; have HB4 := Lib.hid hb4; clear hk4 hb4 hg4)
      | (have D2' := (HB4.out.block _ (lt_of_heap (w := W3.drew) D2.out)).trans D2.out
         have D1' := (HB4.out.block _ (lt_of_heap (w := W3.drew) D1.out)).trans D1.out
         have DB' := Below.step (w1 := W3.drew) DB.out.drew HB4.out
         obtain ⟨w5, hrun, hblk, _, hgr⟩ := copy_run uT s8 (sT := 26) 3 w4 w2.heap.size 0 (List.replicate 16 (Value.int .u8 0)) 23 D2' (some ⟨w2.heap.size, 0, none⟩) (some ⟨g4, 0, none⟩) 8 16 8 8 (g4 + 1) ((putBig high 8).map bv)
           (by simp [putBig_len]) (fun _ => rfl) (row_of_heap HK4.out (Nat.lt_succ_self _)) (by simp [putBig_len]) (bv_one _)
         have E2 := Lib.hid hblk
         have E1 := Lib.hid ((hgr.block _ (lt_of_heap D1') (by have := HNE.out; simp; omega)).trans D1')
         have EB := Lib.hid (DB'.trans (grown_below hgr HLE.out DB'.size))
         refine step_cpy rfl (.tmp 19) (.tmp 21) 26 26 rfl hrun ?_
         clear hrun hblk hgr D1 D2 DB D1' D2' DB' HB4 HK4))
    have sp1 := splice_first (Value.int .u8 0) 8 8 ((putBig high 8).map bv) (by simp [putBig_len])
    have E2' := E2.out
    rw [show (16 : Nat) = 8 + 8 from rfl, sp1] at E2'
    have F2 := Lib.hid E2'
    clear E2 E2' sp1
    go_wp2_with fail
    go_region_law (first
      | (go_simp; go_at_call 93; refine (putBig_any low 8 _ HLOW.out (by omega)).mono ?_; rintro e w6 ⟨g6, hg6, rfl, hk6, hb6⟩; have HK6 := Lib.hid hk6; have HB6 := Lib.hid hb6; clear hk6 hb6 hg6)
      | (have D2' := (HB6.out.block _ (lt_of_heap (w := w5.drew) F2.out)).trans F2.out
         have D1' := (HB6.out.block _ (lt_of_heap (w := w5.drew) E1.out)).trans E1.out
         have DB' := Below.step (w1 := w5.drew) EB.out.drew HB6.out
         obtain ⟨w7, hrun, hblk, _, hgr⟩ := copy_run uT s8 (sT := 26) 3 w6 w2.heap.size 8 ((putBig high 8).map bv ++ List.replicate 8 (Value.int .u8 0)) 23 D2' (some ⟨w2.heap.size, 8, none⟩) (some ⟨g6, 0, none⟩) 8 8 8 8 (g6 + 1) ((putBig low 8).map bv)
           (by simp [putBig_len]) (fun _ => rfl) (row_of_heap HK6.out (Nat.lt_succ_self _)) (by simp [putBig_len]) (bv_one _)
         rw [splice_last (Value.int .u8 0) 8 8 ((putBig high 8).map bv) ((putBig low 8).map bv) (by simp [putBig_len]) (by simp [putBig_len]), ← List.map_append, HM.out] at hblk
         have E3 := Lib.hid hblk
         have E4 := Lib.hid ((hgr.block _ (lt_of_heap D1') (by have := HNE.out; simp; omega)).trans D1')
         have EB2 := Lib.hid (DB'.trans (grown_below hgr HLE.out DB'.size))
         refine step_cpy rfl (.tmp 23) (.tmp 25) 26 26 rfl hrun ?_
         clear hrun hblk hgr F2 E1 EB D1' D2' DB' HB6 HK6))
    have hl16 : (countL c n).length = 16 := by simp [countL, putBig_len]
    have HL := Lib.hid hl16
    clear hl16
    go_wp2_with (first
      | (refine wpList_ld rfl 23 (.tmp 7) rfl (load_arr arr16T rfl (by rw [List.length_map, HL.out]; exact i16) E3.out) ?_)
      | (refine wpList_st rfl 23 (.tmp 4) (.tmp 27) rfl (store_arr (by rw [List.length_map, HL.out]; exact i16) (bv_one _) E4.out (by simp [HL.out])) ?_))
    have hres := setRow_heap w7 (w.heap.size + 1) _ ((countL c n).map bv).toArray 23 _ E4.out
    exact bodyPost_ret (results_cell_row (P := Try.prog) rfl _ _ (w.heap.size + 1) 23 ((countL c n).map bv).toArray (0, 0) _ rfl hres arr16T rfl (by simp [HL.out, i16])) rfl ⟨rfl, EB2.out.trans (grown_below (grown_setRow _ _ _) (by omega) EB2.out.size)⟩
end Go.Proofs.Ytjmpbcfbfbjenaa

/- Contract of the law file's own 'awake' (the chapter's examples), and the law BitsTurns' walk. -/
namespace Go.Proofs.Ytjmpbcfbfbjenaa
open Go.RowKit
set_option maxRecDepth 100000
set_option linter.unusedVariables false

theorem row_two (w : World) (b1 b2 : UInt8) : RowAt (w.alloc (.cells #[.int .u8 (b1.toNat : Int), .int .u8 (b2.toNat : Int)] 5)) (w.heap.size + 1) (some ⟨w.heap.size, 0, none⟩) ([b1, b2].map bv) := by
  refine .inr ⟨w.heap.size, 0, rfl, by omega, fun j u hu => ?_⟩
  have := cell_of_heap (w := w.alloc (.cells ([b1, b2].map bv).toArray 5)) (heap_alloc_new' w _) (0 + j)
  exact this.trans (by simpa using hu)

theorem int_i16 {a : Int} (h : (Lit.int .i16 a).wf = true) : -32768 ≤ a ∧ a ≤ 32767 := by
  have := bounds_i16 h; omega
end Go.Proofs.Ytjmpbcfbfbjenaa
/- The walk of the law BitsSteps. -/
namespace Go.Proofs.Ytjmpbcfbfbjenaa
open Go.RowKit
set_option maxRecDepth 100000
set_option linter.unusedVariables false
set_option linter.unusedSimpArgs false

theorem countL_len (c : List UInt8) (n : Nat) : (countL c n).length = 16 := by simp [countL, putBig_len]
theorem bigN_count (c : List UInt8) (n : Nat) : bigN (countL c n) = (bigN c + n) % 340282366920938463463374607431768211456 := by
  rw [countL, bigN_put]
  have : (256 : Nat) ^ 16 = 340282366920938463463374607431768211456 := by decide
  rw [this, Nat.mod_mod]
theorem count_count (c : List UInt8) (n m : Nat) : countL (countL c n) m = countL c (n + m) := by
  rw [countL, bigN_count, countL]
  congr 1
  omega
theorem putBig_big (c : List UInt8) : putBig (bigN c) c.length = c := by
  suffices h : ∀ l : List UInt8, putBig (bigN l.reverse) l.length = l.reverse by
    have := h c.reverse; simpa using this
  intro l
  induction l with
  | nil => simp [putBig]
  | cons b l ih =>
    rw [List.reverse_cons, bigN_snoc, List.length_cons, putBig_split]
    have hb : b.toNat < 256 := b.toNat_lt
    have e : (bigN l.reverse * 256 + b.toNat) / 256 ^ 1 = bigN l.reverse := by omega
    rw [e, ih]
    congr 1
    simp only [putBig, List.range_succ, List.range_zero, List.nil_append, List.map_cons, List.map_nil, byteAt, Nat.pow_zero, Nat.div_one]
    congr 1
    rw [← UInt8.toNat_inj, UInt8.toNat_ofNat']; omega
theorem count_zero (c : List UInt8) (hc : c.length = 16) : countL c 0 = c := by
  have h := bigN_lt c
  rw [hc, show (256 : Nat) ^ 16 = 340282366920938463463374607431768211456 by decide] at h
  rw [countL, Nat.add_zero, Nat.mod_eq_of_lt h, ← hc]
  exact putBig_big c
theorem count_inj (c : List UInt8) (n m : Nat) (hn : n < 4294967296) (hm : m < 4294967296) : countL c n = countL c m ↔ n = m := by
  constructor
  · intro h
    have h2 := congrArg bigN h
    rw [bigN_count, bigN_count] at h2
    omega
  · rintro rfl; rfl

theorem i16' (bs : List UInt8) (h : bs.length = 16) : (Try.prog.info? 23).map (·.size) = some (bs.map bv).length := by rw [List.length_map, h]; exact i16
end Go.Proofs.Ytjmpbcfbfbjenaa

/- Package ctr: crypt, Crypt. -/
namespace Go.Proofs.Ytjmpbcfbfbjenaa
open Go.RowKit
set_option linter.unusedVariables false
set_option maxRecDepth 100000
set_option linter.unusedSimpArgs false
theorem c_own_below {w w' : World} {base : Nat} {e : TypeId} {s : Nat} {v : Value} {n : Nat} {xs : List Value} (h : w.ownsRow base e s v n xs) (hb : Below w.heap.size w w') : w'.ownsRow base e s v n xs := by
  obtain ⟨h0, h | ⟨g, cap, cur, hv, hg, hh, r⟩⟩ := h
  · exact ⟨h0, .inl h⟩
  · exact ⟨h0, .inr ⟨g, cap, cur, hv, hg, (hb.block _ (lt_of_heap hh)).trans hh, r⟩⟩
theorem c_own_ge {w : World} {base : Nat} {e : TypeId} {s : Nat} {v : Value} {n : Nat} {xs : List Value} (h : w.ownsRow base e s v n xs) {B : Nat} (hB : B ≤ base) : ∀ g, v.ownBlock = some g → B ≤ g := fun g hq => Nat.le_trans hB (h.lt g hq).1
theorem c_own_ne {w : World} {base : Nat} {e : TypeId} {s : Nat} {v : Value} {n : Nat} {xs : List Value} (h : w.ownsRow base e s v n xs) {g : Nat} (hB : g < base) : some g ≠ v.ownBlock := fun hq => by have := (h.lt g hq.symm).1; omega
theorem own_mono {w : World} {base b' : Nat} {e : TypeId} {s : Nat} {v : Value} {n : Nat} {xs : List Value} (h : w.ownsRow base e s v n xs) (hb : b' ≤ base) : w.ownsRow b' e s v n xs := by
  obtain ⟨h0, h | ⟨g, cap, cur, hv, hg, r⟩⟩ := h
  · exact ⟨h0, .inl h⟩
  · exact ⟨h0, .inr ⟨g, cap, cur, hv, Nat.le_trans hb hg, r⟩⟩
theorem c_hid_mp {J J' : Act → World → Prop} (h : Hid (J = J')) {a : Act} {w : World} (hh : J' a w) : J a w := by rw [h.out]; exact hh
/-- a label in a scope, behind code of which none jumps, to which its own code jumps back -/
theorem c_scope_label {P : Program} {a : Act} {w : World} {Q : Exit → Act → World → Prop} {ahead rest : Code} (l : Nat) (J : Act → World → Prop) (μ : Act → World → Nat) (hf : findLabel (ahead.seq ((Code.label l).seq rest)) l = some (Code.skip.seq rest)) (h0 : ahead.wp P (fun e a w => e = .normal ∧ J a w) a w)
    (pass : ∀ a w, J a w → rest.wp P (Exit.jump l (fun a' w' => J a' w' ∧ μ a' w' < μ a w) Q) a w) : (Code.scope (ahead.seq ((Code.label l).seq rest))).wp P Q a w := by
  refine wp_scope_jumps l J μ hf (wp_seq (Code.wp_mono ?_ h0)) (fun a w h => wp_seq (wp_skip (pass a w h)))
  rintro e a w ⟨rfl, hJ⟩
  refine wp_seq (wp_label ?_)
  refine Code.wp_mono ?_ (pass a w hJ)
  intro e a w h
  cases e <;> first | exact h | exact ⟨h.1, h.2.1⟩
theorem make_room {P : Program} {t e : TypeId} {z : Value} {bytes : Nat} (ht : P.underlying t = some (.slice e)) (hi : (P.info? e).map (fun i => (i.zero, i.size, i.bytes)) = some (some z, 1, bytes)) (hz : z.cells = #[z])
    (kl kc : IntKind) (n : Nat) (hb : bytes * n ≤ 281474976710656) (h63 : n ≤ 9223372036854775807) (W : World) :
    (Instr.makeSlice t (.int kl 0) (.int kc (n : Int))).run P W = .ok (.slice (some ⟨W.heap.size, 0, none⟩) 0 n) (W.alloc (.cells (List.replicate n z).toArray e)) := by
  obtain ⟨i, hi, h1, h2, h3⟩ := info_parts hi
  have hr := run_make (P := P) W t e i z ht hi h1 kl kc 0 n (by omega) (by omega) (by rw [h3, ← Int.natCast_mul]; omega) (by omega)
  rw [Int.toNat_natCast, h2, Nat.mul_one, madeCells_one z hz] at hr
  exact hr
theorem own_room {w : World} {g n base : Nat} {z : Value} {e : TypeId} (hb : base ≤ g) (hn : n ≤ maxLen) (h : w.heap[g]? = some (.cells (Array.replicate n z) e (0, 0))) : w.ownsRow base e 1 (.slice (some ⟨g, 0, none⟩) 0 n) 0 [] :=
  ⟨rfl, .inr ⟨g, n, _, rfl, hb, h, Nat.zero_le _, hn, by simp, by simp⟩⟩
/-- a block's cells from r on, as a slice -/
theorem sl_from {W : World} {g r : Nat} {x : List UInt8} {t : TypeId} {fr : Nat × Nat} (hx : x.length = 16) (hr : r < 16) (hk : W.heap[g]? = some (.cells (x.map bv).toArray t fr)) : Sl W (some (cutA ⟨g, 0, none⟩ 16 r)) (16 - r) (x.drop r) := by
  have h := sl_cut (sl_row hx (by omega) hk) (k := r) (by omega)
  have e : cutS (some ⟨g, 0, none⟩) 16 r = some (cutA ⟨g, 0, none⟩ 16 r) := by
    unfold cutS cutA; split <;> rfl
  rw [e] at h
  exact h
theorem i16c (l : List UInt8) (h : l.length = 16) : (Try.prog.info? 23).map (·.size) = some (l.map bv).length := by rw [List.length_map, h]; exact i16B
/-- what enciphers, as calls see it -/
def Enc (w : World) (kp : Value) (E : List UInt8 → List UInt8) : Prop :=
  (∀ x, x.length = 16 → (E x).length = 16) ∧ ∀ W, Below w.heap.size w W → ∀ x, x.length = 16 → Calls Try.prog 36 #[kp, .agg (x.map bv).toArray] W fun e w' => e = .returned (.agg ((E x).map bv).toArray) ∧ Below W.heap.size W w'
theorem Enc.ext {w w' : World} {kp : Value} {E : List UInt8 → List UInt8} (h : Enc w kp E) (hb : Below w.heap.size w w') : Enc w' kp E := ⟨h.1, fun W hW x hx => h.2 W (hb.step hW) x hx⟩
theorem KeyAt.enc {w : World} {g n : Nat} {ws : List W32} (h : KeyAt w g ws n) (hn : 1 ≤ n) (hn2 : n ≤ 14) : Enc w (.pointer (some ⟨g, 0, none⟩)) (encL ws n) :=
  ⟨fun x hx => by rw [encL, encT, outL_len, addW_len _ _ _ (shiftW_len _ _) (by have := h.1; omega)], fun W hW x hx => enc_any g n ws x W hx hn hn2 (h.ext hW)⟩
theorem enc_nil (w : World) : Enc w (.pointer none) (fun _ => List.replicate 16 0) :=
  ⟨fun _ _ => by simp, fun W _ x hx => enc_none _ x W hx (fun W' _ => rounds_nil W')⟩
/-- the stream of what enciphers, and an iv -/
def strmF (E : List UInt8 → List UInt8) (iv : List UInt8) : Nat → UInt8 := blkF fun i => E (countL iv i)
theorem c_left {n j m t : Nat} (h : m = n - j ∧ j ≤ n) (h2 : t ≤ m) : Hid (m - t = n - (j + t) ∧ j + t ≤ n) := by
  show _ ∧ _; omega
set_option maxHeartbeats 4000000 in
theorem ctrc_any (kp : Value) (E : List UInt8 → List UInt8) (iv : List UInt8) (p : Nat) (A : Option Addr) (n c : Nat) (bs : List UInt8) (w : World) (hiv : iv.length = 16) (hE : Enc w kp E) (hl : bs.length = n) (hn : p + n ≤ 2147483647) (hS : Sl w A c bs) :
    Calls Try.prog 33 #[kp, .agg (iv.map bv).toArray, .int .i64 (p : Int), .slice A n c] w fun e w' => ∃ v, e = .returned v ∧ w'.ownsRow w.heap.size 5 1 v n ((ctrL (strmF E iv) p bs).map bv) ∧ Below w.heap.size w w' := by
  have hz : ∀ W, (zeroValue 23).run Try.prog W = .ok (.agg zeros16.toArray) W := fun W => by kernel_rfl
  have HZL : Hid (zeros16.length = 16) := rfl
  generalize zeros16 = Z at hz HZL
  have HIV := Lib.hid hiv; have HE := Lib.hid hE; have HL := Lib.hid hl; have HS := Lib.hid hS; have HN := Lib.hid hn
  have STEP : Hid (∀ j m, j ≤ n → m = min (n - j) (16 - (p + j) % 16) → ctrL (strmF E iv) p (bs.take j) ++ xorL (bs.drop j) ((E (countL iv ((p + j) / 16))).drop ((p + j) % 16)) = ctrL (strmF E iv) p (bs.take (j + m))) := fun j m h1 h2 => ctr_step (fun i => E (countL iv i)) p j m bs (hE.1 _ (countL_len _ _)) (by omega) (by omega)
  have ST0 : Hid (ctrL (strmF E iv) p (bs.take 0) = []) := by show _ = _; rw [List.take_zero]; rfl
  have STN : Hid (ctrL (strmF E iv) p (bs.take n) = ctrL (strmF E iv) p bs) := by show _ = _; rw [List.take_of_length_le (by omega)]
  have hmk := make_room (P := Try.prog) uT made8 rfl .i64 .i64 n (by omega) (by omega) (w.alloc (.cells (iv.map bv).toArray 23))
  have hn31 : n ≤ 2147483647 := by omega
  have HMX : Hid (n ≤ maxLen) := by show _ ≤ _; simp [maxLen]; omega
  clear hiv hE hl hn hS
  obtain ⟨q, HQ⟩ : ∃ q, Hid (w.heap.size = q) := ⟨_, rfl⟩
  generalize ctrL (strmF E iv) p = CT at STEP ST0 STN ⊢
  go_enter Try.func33, Try.ntmps33
  go_wp2
  have G := heap2 w (.cells (iv.map bv).toArray 23) (.cells (Array.replicate n (Value.int .u8 0)) 5)
  obtain ⟨J, HJ0⟩ : ∃ J : Act → World → Prop, Hid (J = fun a' w' => ∃ (j s : Nat) (A' : Option Addr) (m c' : Nat) (v9 u4 u6 u7 u8 u10 u11 u12 u13 u14 u15 u16 u17 u18 u19 u20 u21 u22 u23 u24 u25 u26 u27 u28 u29 u30 u31 u32 u33 u34 u35 u36 u37 u38 u39 u40 u41 : Value),
      a' = { tmps := #[kp, .agg (iv.map bv).toArray, .int .i64 (s : Int), .slice A' m c', u4, .pointer (some ⟨q, 0, none⟩), u6, u7, u8, v9, u10, u11, u12, u13, u14, u15, u16, u17, u18, u19, u20, u21, u22, u23, u24, u25, u26, u27, u28, u29, u30, u31, u32, u33, u34, u35, u36, u37, u38, u39, u40, u41], defers := [] } ∧
      Hid (s = p + j) ∧ Hid (m = n - j ∧ j ≤ n) ∧ Hid (Sl w A' c' (bs.drop j)) ∧ Hid (Below w.heap.size w w') ∧ Hid (w'.heap[q]? = some (.cells (iv.map bv).toArray 23 (0, 0))) ∧
      Hid (w'.ownsRow (q + 1) 5 1 v9 j ((CT (bs.take j)).map bv))) := ⟨_, rfl⟩
  rw [HQ.out]
  refine c_scope_label 0 J (fun a' _ => (sliceLen (a'.tmps.getD 3 undef))) rfl ?first ?pass
  case first =>
    go_wp2
    rw [HJ0.out]
    refine ⟨0, p, A, n, c, _, _, _, _, _, _, _, _, _, _, _, _, _, _, _, _, _, _, _, _, _, _, _, _, _, _, _, _, _, _, _, _, _, _, _, _, _, rfl, ?_, ?_, HS, ?_, ?_, ?_⟩
    · exact rfl
    · show _ ∧ _; omega
    · exact G.2.2
    · show _ = _; rw [← HQ.out]; exact G.1
    · show World.ownsRow _ _ _ _ _ _ _; rw [ST0.out]; exact own_room (by have := HQ.out; omega) HMX.out G.2.1
  case pass =>
    clear G hmk
    intro a' w' hJ'
    rw [HJ0.out] at hJ'
    obtain ⟨j, s, A', m, c', v9, u4, u6, u7, u8, u10, u11, u12, u13, u14, u15, u16, u17, u18, u19, u20, u21, u22, u23, u24, u25, u26, u27, u28, u29, u30, u31, u32, u33, u34, u35, u36, u37, u38, u39, u40, u41, rfl, HSJ, HJ, HA, HB, H0, HO⟩ := hJ'
    have hdl : (bs.drop j).length = m := by have h1 := HL.out; have h2 := HJ.out; rw [List.length_drop]; omega
    by_cases hm : 0 < m
    · have e1 : (0 : Int) < (m : Int) := by omega
      obtain ⟨k, hk⟩ : ∃ k, k = s / 16 := ⟨_, rfl⟩
      obtain ⟨r, hr⟩ : ∃ r, r = s % 16 := ⟨_, rfl⟩
      obtain ⟨t, ht⟩ : ∃ t, t = min m (16 - r) := ⟨_, rfl⟩
      have u1 : (s : Int) / 16 = (k : Int) := by omega
      have u2 : (s : Int) % 16 = (r : Int) := by omega
      have hks : k < 18446744073709551616 := by have h1 := HSJ.out; have h2 := HJ.out; have h3 := HN.out; omega
      have hs31 : s ≤ 2147483647 := by have h1 := HSJ.out; have h2 := HJ.out; have h3 := HN.out; omega
      have hm31 : m ≤ 2147483647 := by have h2 := HJ.out; omega
      have hk31 : k ≤ 2147483647 := by omega
      have hr16 : r < 16 := by omega
      have hjt : Hid (j + t ≤ 2147483647) := by have h1 := HSJ.out; have h2 := HJ.out; have h3 := HN.out; show _ ≤ _; omega
      have HST := Lib.hid (STEP.out j t HJ.out.2 (by have h1 := HSJ.out; have h2 := HJ.out; rw [← h1, ← hr]; omega))
      rw [← HSJ.out, ← hk, ← hr] at HST
      have HT := Lib.hid ht
      have ht16 : Hid (t ≤ m ∧ t ≤ 16 ∧ 0 < t ∧ 0 < m) := by show _ ∧ _ ∧ _ ∧ _; omega
      have hcut := cut_from uT s8 A' m c' .i64 (t : Int) (by omega) (by omega)
      rw [Int.toNat_natCast] at hcut
      obtain ⟨X, hX⟩ : ∃ X, X = bs.drop j := ⟨_, rfl⟩
      rw [← hX] at HST
      have HXL : Hid (X.length = m) := by show _ = _; rw [hX]; exact hdl
      have HXS : Hid (Sl w A' c' X) := by show Sl _ _ _ _; rw [hX]; exact HA.out
      have HCL := Lib.hid (countL_len iv k)
      have HC := Lib.hid (fun W => count_any iv k W HIV.out hks)
      generalize countL iv k = CB at HST HCL HC
      have HEL := Lib.hid (HE.out.1 CB HCL.out)
      have HEC := Lib.hid (fun W hW => HE.out.2 W hW CB HCL.out)
      generalize E CB = EB at HST HEL HEC
      clear hX hdl ht hk hr
      go_wp2_with (first
        | (refine wpList_ld rfl 23 (.tmp 5) rfl (load_arr arr16B rfl (i16c iv HIV.out) H0.out) ?_)
        | fail)
      refine (HC.out w').mono ?_
      rintro e w1 ⟨rfl, hb1⟩
      have B1 := Lib.hid (HB.out.step hb1)
      have O1 := Lib.hid (c_own_below HO.out hb1)
      have I1 := Lib.hid ((hb1.block _ (lt_of_heap H0.out)).trans H0.out)
      clear hb1 HC
      go_wp2_with fail
      refine (HEC.out w1 B1.out).mono ?_
      rintro e w2 ⟨rfl, hb2⟩
      have B2 := Lib.hid (B1.out.step hb2)
      have O2 := Lib.hid (c_own_below O1.out hb2)
      have I2 := Lib.hid ((hb2.block _ (lt_of_heap I1.out)).trans I1.out)
      clear hb2 B1 O1 I1 HEC
      have sl := arr_from arr16B s8 ⟨w2.heap.size, 0, none⟩ .i64 (r : Int) (by omega) (by omega)
      rw [Int.toNat_natCast] at sl
      go_wp2_with (first
        | (refine wpList_st rfl 23 (.tmp 10) (.tmp 24) rfl (store_arr (cs := EB.map bv) (old := Z) (i16c EB HEL.out) (bv_one _) (heap_alloc_new' w2 _) (by rw [List.length_map, HEL.out, HZL.out])) ?_
           generalize hV : World.setRow _ _ _ = W3
           have M3 := Lib.hid (heap_of_setRow hV (heap_alloc_new' w2 _))
           have MB := Lib.hid (((Below.refl w2.heap.size w2).alloc (Nat.le_refl _) _).trans (below_of_setRow hV (Nat.le_refl w2.heap.size) (by simp)))
           clear hV)
        | fail)
      have B3 := Lib.hid (B2.out.step MB.out)
      have O3 := Lib.hid (c_own_below O2.out MB.out)
      have I3 := Lib.hid ((MB.out.block _ (lt_of_heap I2.out)).trans I2.out)
      clear MB B2 O2 I2
      generalize w2.heap.size = g10 at M3 ⊢
      refine (xor_n A' (some (cutA ⟨g10, 0, none⟩ 16 r)) m (16 - r) t c' (16 - r) X (EB.drop r) W3 HXL.out (by rw [List.length_drop, HEL.out]) HT.out.symm (HXS.out.below B3.out) (sl_from HEL.out hr16 M3.out) hm31 (by omega)).mono ?_
      rintro e w4 ⟨g3, hg3, rfl, hk3, hb4⟩
      have B4 := Lib.hid (B3.out.step hb4)
      have O4 := Lib.hid (c_own_below O3.out hb4)
      have I4 := Lib.hid ((hb4.block _ (lt_of_heap I3.out)).trans I3.out)
      have R4 := Lib.hid (row_of_heap hk3 (Nat.lt_succ_self g3))
      have XL : Hid ((xorL X (EB.drop r)).length = t) := by show _ = _; rw [xorL_len, List.length_drop, HEL.out, HXL.out, HT.out]
      generalize xorL X (EB.drop r) = XR at HST R4 XL
      clear hb4 hk3 hg3 B3 O3 I3
      have hq4 : Hid (q + 1 ≤ w4.heap.size) := lt_of_heap I4.out
      go_wp2_with (
        at_builtin
        refine wpList_app8 rfl (.tmp 30) (.tmp 31) rfl (q + 1) v9 j (CT (bs.take j)) rfl O4.out (some ⟨g3, 0, none⟩) t t (g3 + 1) XR rfl R4.out XL.out hjt.out hq4.out ?_
        rintro v5 w5 hown hgr
        rw [HST.out] at hown
        have O5 := Lib.hid hown
        have B5 := Lib.hid (B4.out.grown hgr (by have := hq4.out; have := HQ.out; omega) (c_own_ge O4.out (by have := HQ.out; omega)))
        have I5 := Lib.hid ((hgr.block _ (lt_of_heap I4.out) (c_own_ne O4.out (Nat.lt_succ_self q))).trans I4.out)
        clear hown hgr)
      go_step3
      have hA := sl_cut HA.out (k := t) (by have h1 := HL.out; have h2 := HJ.out; have h3 := ht16.out; rw [List.length_drop]; omega)
      rw [List.drop_drop] at hA
      have hwr : wrap64 ((s : Int) + (t : Int)) = ((s + t : Nat) : Int) := by have h1 := HSJ.out; have h2 := HJ.out; have h3 := HN.out; have h4 := ht16.out; rw [wrap64]; omega
      refine ⟨rfl, c_hid_mp HJ0 ⟨j + t, s + t, cutS A' c' t, m - t, c' - t, v5, _, _, _, _, _, _, _, _, _, _, _, _, _, _, _, _, _, _, _, _, _, _, _, _, _, _, _, _, _, _, _, _, _, _, _, _, by rw [hwr], ?_, ?_, ?_, B5, I5, O5⟩, ?_⟩
      · have h1 := HSJ.out; show _ = _; omega
      · exact c_left HJ.out ht16.out.1
      · exact hA
      · exact Nat.sub_lt ht16.out.2.2.2 ht16.out.2.2.1
    · have hj : j = n := by have h2 := HJ.out; omega
      have e1 : ¬ ((0 : Int) < (m : Int)) := by omega
      rw [hj, STN.out] at HO
      clear hdl
      go_wp2_with fail
      simp only [Exit.jump]
      go_ret
      exact ⟨_, rfl, own_mono HO.out (by have := HQ.out; omega), HB.out⟩
set_option maxHeartbeats 1000000 in
theorem Crypt_any (kp : Value) (E : List UInt8 → List UInt8) (iv : List UInt8) (A : Option Addr) (n c : Nat) (bs : List UInt8) (w : World) (hiv : iv.length = 16) (hE : Enc w kp E) (hl : bs.length = n) (hn : n ≤ 2147483647) (hS : Sl w A c bs) :
    Calls Try.prog 9 #[kp, .agg (iv.map bv).toArray, .slice A n c] w fun e w' => ∃ v, e = .returned v ∧ w'.ownsRow w.heap.size 5 1 v n ((ctrL (strmF E iv) 0 bs).map bv) ∧ Below w.heap.size w w' := by
  have HIV := Lib.hid hiv
  have hB0 : Below w.heap.size w (w.alloc (.cells (iv.map bv).toArray 23)) := (Below.refl _ _).alloc (Nat.le_refl _) _
  have HC := Lib.hid (ctrc_any kp E iv 0 A n c bs (w.alloc (.cells (iv.map bv).toArray 23)) hiv (hE.ext hB0) hl (by omega) (hS.below hB0))
  have HB0 := Lib.hid hB0
  clear hiv hE hl hS hB0
  generalize ctrL (strmF E iv) 0 bs = R at HC ⊢
  go_enter Try.func9, Try.ntmps9
  go_wp2_with (first
    | (refine wpList_ld rfl 23 (.tmp 4) rfl (load_arr arr16B rfl (i16c iv HIV.out) (heap_alloc_new' w _)) ?_)
    | fail)
  refine HC.out.mono ?_
  rintro e w1 ⟨v, rfl, hO, hB⟩
  have HO := Lib.hid hO; have HB1 := Lib.hid (HB0.out.step hB)
  clear hO hB
  go_wp2_with fail
  go_ret
  exact ⟨_, rfl, own_mono HO.out (by simp), HB1.out⟩
end Go.Proofs.Ytjmpbcfbfbjenaa

/- Rows of integers within a struct. -/
namespace Go.Proofs.Ytjmpbcfbfbjenaa
open Go.RowKit Go.ChangeShapes Go.WideShapes Go.ChangeAt
set_option maxRecDepth 100000
set_option linter.unusedVariables false
set_option linter.unusedSimpArgs false
/-- cells that read as a row of integers -/
theorem cells_ints {H : Type} {enc : TypeId × Value → H} {P : Program} {W : World} {b0 : Nat} {sp : Nat → Bool} {held : Bool} {t e : TypeId} {n : Nat} {k : IntKind} {cs : List Value} {fuel : Nat} {x : DataW H × List MemPlace}
    (ht : P.underlying t = some (.array n e)) (he : P.underlying e = some (.int k)) (hce : P.cellsOf e = 1) (hct : P.cellsOf t = n)
    (hf : DataW.trod enc P W b0 sp held fuel t cs = some x) :
    ∃ zs : List Int, cs = zs.map (Value.int k) ∧ zs.length = n ∧ ∀ z ∈ zs, (Lit.int k z).wf = true := by
  obtain ⟨xs, m, _, _, hl, hxl, hget⟩ := DataW.trod_array ht hf
  rw [hce] at hget
  have hcl : cs.length = n := by rw [hl, hct]
  have key : ∀ i, i < n → ∃ z, cs[i]? = some (.int k z) ∧ (Lit.int k z).wf = true := by
    intro i hi
    have h1 := hget i hi
    have hx : ∃ y, xs[i]? = some y := ⟨xs[i], List.getElem?_eq_getElem (by omega)⟩
    obtain ⟨y, hy⟩ := hx
    rw [hy] at h1
    obtain ⟨z, hz, _, hw⟩ := DataW.trod_int he h1
    refine ⟨z, ?_, hw⟩
    rw [Nat.mul_one] at hz
    have := congrArg (fun l => l[0]?) hz
    simpa [List.getElem?_take] using this
  refine ⟨cs.map (fun v => match v with | .int _ z => z | _ => 0), ?_, by rw [List.length_map, hcl], ?_⟩
  · rw [List.map_map]
    apply List.ext_getElem?
    intro i
    by_cases hi : i < n
    · obtain ⟨z, hz, _⟩ := key i hi
      simp [hz]
    · rw [List.getElem?_eq_none (by omega), List.getElem?_eq_none (by simp; omega)]
  · intro z hz
    obtain ⟨v, hv, rfl⟩ := List.mem_map.1 hz
    obtain ⟨i, hi, rfl⟩ := List.mem_iff_getElem.1 hv
    obtain ⟨z, hz, hw⟩ := key i (by omega)
    rw [List.getElem?_eq_getElem hi, Option.some.injEq] at hz
    rw [hz]; exact hw
end Go.Proofs.Ytjmpbcfbfbjenaa

/- A key, whether it is long, and an IV, that come in (layer 8). -/
namespace Go.Proofs.Ytjmpbcfbfbjenaa
open Go.RowKit Go.ChangeShapes Go.WideShapes Go.ChangeAt
set_option maxRecDepth 100000
set_option linter.unusedVariables false
set_option linter.unusedSimpArgs false
def kCells (k : List UInt8) (b : Bool) (n : List UInt8) : List Value := k.map bv ++ ([.bool b] ++ n.map bv)
theorem split49 (L : List Value) (h : L.length = 49) : L = L.take 32 ++ ((L.drop 32).take 1 ++ (L.drop 33).take 16) := by
  have h1 := List.take_append_drop 32 L
  have h2 := List.take_append_drop 1 (L.drop 32)
  rw [List.drop_drop] at h2
  have h4 : (L.drop 33).take 16 = L.drop 33 := List.take_of_length_le (by simp; omega)
  rw [h4, show L.drop 33 = L.drop (32 + 1) from rfl, h2, h1]
theorem k_of_cells {H : Type} {enc : TypeId × Value → H} {W : World} {b0 : Nat} {sp : Nat → Bool} {held : Bool} {cs : List Value} {fuel : Nat} {x : DataW H × List MemPlace}
    (hf : DataW.trod enc Try.prog W b0 sp held fuel 25 cs = some x) : ∃ k b n, cs = kCells k b n ∧ k.length = 32 ∧ n.length = 16 := by
  obtain ⟨y0, y1, y2, m, _, hl, h0, h1, h2⟩ := Go.Deep.trod_struct3 Try.underlying25 hf
  have hc : Try.prog.cellsOf 25 = 49 := by kernel_rfl
  have c0 : Try.prog.cellsOf 22 = 32 := by kernel_rfl
  have c1 : Try.prog.cellsOf 4 = 1 := by kernel_rfl
  have c2 : Try.prog.cellsOf 23 = 16 := by kernel_rfl
  rw [hc] at hl
  rw [c0] at h0
  rw [c1] at h1
  rw [c2] at h2
  obtain ⟨z0, e0, hz0, w0⟩ := cells_ints Try.underlying22 Try.underlying5 (by kernel_rfl) c0 h0
  obtain ⟨b, e1, _⟩ := DataW.trod_bool Try.underlying4 h1
  obtain ⟨z2, e2, hz2, w2⟩ := cells_ints Try.underlying23 Try.underlying5 (by kernel_rfl) c2 h2
  obtain ⟨k, rfl⟩ := bytes_of w0
  obtain ⟨n, rfl⟩ := bytes_of w2
  refine ⟨k, b, n, ?_, by simpa using hz0, by simpa using hz2⟩
  have hs := split49 cs hl
  simp only [List.drop_zero] at e0
  rw [e0, e1, e2] at hs
  rw [hs]
  simp [kCells, Function.comp_def]
  rfl
theorem open_palfreylaw08_Key {H : Type} {enc : TypeId × Value → H} {W : World} {base b0 : Nat} {sp : Nat → Bool} {held : Bool} {v : Value} {d : DataW H} {p : List MemPlace}
    (hv : Value.okWide Try.prog W .any base 25 v) (h : DataW.Trod enc Try.prog W b0 sp held 25 v d p) :
    ∃ y : List UInt8 × Bool × List UInt8, v = .agg (kCells y.1 y.2.1 y.2.2).toArray ∧ y.1.length = 32 ∧ y.2.2.length = 16 := by
  obtain ⟨cs, rfl, hsz⟩ := okWide_struct Try.underlying25 hv
  obtain ⟨fuel, hf⟩ := h
  simp only [Value.cells] at hf
  obtain ⟨k, b, n, e, hk, hn⟩ := k_of_cells hf
  refine ⟨(k, b, n), ?_, hk, hn⟩
  congr 1
  apply Array.ext'
  rw [e]
end Go.Proofs.Ytjmpbcfbfbjenaa

/- A key with its IV in memory, and its round keys (the laws' own functions bytes, keys). -/
namespace Go.Proofs.Ytjmpbcfbfbjenaa
open Go.RowKit
set_option linter.unusedVariables false
set_option maxRecDepth 100000
set_option linter.unusedSimpArgs false
theorem k_strOf_beq (a b : List UInt8) : ((strOf a).toList == (strOf b).toList) = decide (a = b) := by
  have h : ∀ l : List UInt8, (strOf l).toList = l := fun l => by rw [ByteArray.toList_eq]; rfl
  rw [h, h]; rw [Bool.eq_iff_iff]; simp
theorem k_strOf_size (a : List UInt8) : (strOf a).size = a.length := by simp [strOf, ByteArray.size]
theorem k_strOf_append (a b : List UInt8) : strOf a ++ strOf b = strOf (a ++ b) := by
  apply ByteArray.ext; simp [strOf]
theorem Sl.extk {w w' : World} {A : Option Addr} {c : Nat} {bs : List UInt8} (h : Sl w A c bs) (hb : Ext w w') : Sl w' A c bs := h.below hb
theorem k_range_ext {W W' : World} {g o : Nat} {cs : List Value} (h : W.rangeAt g o cs) (hg : g < W.heap.size) (hE : Ext W W') : W'.rangeAt g o cs := fun j v hv => (hE.cell hg).trans (h j v hv)
/-- which bytes of it are the key -/
def keyB (k : List UInt8) (b : Bool) : List UInt8 := if b then k else k.take 16
def keyW (b : Bool) : Nat := if b then 8 else 4
theorem keyB_len (k : List UInt8) (b : Bool) (hk : k.length = 32) : (keyB k b).length = 4 * keyW b := by
  cases b <;> simp [keyB, keyW, hk]
def KZ (W : World) (g : Nat) (k : List UInt8) (b : Bool) (n : List UInt8) : Prop := g < W.heap.size ∧ W.rangeAt g 0 (k.map bv) ∧ W.cell? ⟨g, 32, none⟩ = some (.bool b) ∧ W.rangeAt g 33 (n.map bv)
theorem KZ.ext {W W' : World} {g : Nat} {k n : List UInt8} {b : Bool} (h : KZ W g k b n) (hE : Ext W W') : KZ W' g k b n :=
  ⟨Nat.lt_of_lt_of_le h.1 hE.size, k_range_ext h.2.1 h.1 hE, (hE.cell h.1).trans h.2.2.1, k_range_ext h.2.2.2 h.1 hE⟩
theorem kz_of {W : World} {g : Nat} {k n : List UInt8} {b : Bool} {post : List Value} {t : TypeId} {fr : Nat × Nat} (h : W.heap[g]? = some (.cells (kCells k b n ++ post).toArray t fr)) (hk : k.length = 32) (hn : n.length = 16) : KZ W g k b n := by
  refine ⟨lt_of_heap h, fun j v hv => ?_, ?_, fun j v hv => ?_⟩
  · have hj := (List.getElem?_eq_some_iff.1 hv).1
    rw [cell_of_heap h, kCells, Nat.zero_add, List.append_assoc, List.getElem?_append_left hj]; exact hv
  · rw [cell_of_heap h, kCells, List.append_assoc, List.getElem?_append_right (by simp [hk]), List.length_map, hk]; rfl
  · have hj := (List.getElem?_eq_some_iff.1 hv).1
    rw [cell_of_heap h, kCells, List.append_assoc, List.getElem?_append_right (by simp [hk]; omega), List.length_map, hk, List.append_assoc, List.getElem?_append_right (by simp; omega), List.getElem?_append_left (by simp at hj ⊢; omega)]
    rw [show 33 + j - 32 - [Value.bool b].length = j by simp; omega]; exact hv
theorem kz_new (w : World) (k n : List UInt8) (b : Bool) (t : TypeId) (hk : k.length = 32) (hn : n.length = 16) : KZ (w.alloc (.cells (kCells k b n).toArray t)) w.heap.size k b n :=
  kz_of (post := []) (by rw [List.append_nil]; exact heap_alloc_new' w _) hk hn
theorem kCells_len (k n : List UInt8) (b : Bool) (hk : k.length = 32) (hn : n.length = 16) : (kCells k b n).length = 49 := by simp [kCells, hk, hn]
theorem KZ.key {W : World} {g : Nat} {k n : List UInt8} {b : Bool} (h : KZ W g k b n) (hk : k.length = 32) : Sl W (some ⟨g, 0, none⟩) 32 (keyB k b) := by
  refine ⟨by rw [keyB_len k b hk]; cases b <;> simp [keyW], by simp [maxLen], .inr ⟨g, 0, rfl, h.1, fun j u hu => ?_⟩⟩
  refine h.2.1 j u ?_
  cases b
  · simp only [keyB, Bool.false_eq_true, if_false, List.map_take] at hu
    rw [List.getElem?_take] at hu
    split at hu
    · exact hu
    · cases hu
  · exact hu
theorem arr32Z : Try.prog.underlying 22 = some (.array 32 5) := Try.underlying22
theorem i16z (l : List UInt8) (h : l.length = 16) : (Try.prog.info? 23).map (·.size) = some (l.map bv).length := by rw [List.length_map, h]; exact i16B
set_option maxHeartbeats 1000000 in
theorem kbytes_any (k : List UInt8) (b : Bool) (n : List UInt8) (w : World) (hk : k.length = 32) (hn : n.length = 16) :
    Calls Try.prog 11 #[.agg (kCells k b n).toArray] w fun e w' => e = .returned (.slice (some ⟨w.heap.size, 0, none⟩) (4 * keyW b) 32) ∧ Sl w' (some ⟨w.heap.size, 0, none⟩) 32 (keyB k b) ∧ Below w.heap.size w w' := by
  have Z0 := kz_new w k n b 25 hk hn
  have HS := Lib.hid (Z0.key hk)
  have hc := Z0.2.2.1
  have sl := arr_to arr32Z s8 ⟨w.heap.size, 0, none⟩ .i64 16 (by omega) (by omega)
  rw [show (16 : Int).toNat = 16 from rfl] at sl
  have sl2 := arr_all arr32Z s8 ⟨w.heap.size, 0, none⟩
  clear Z0
  generalize (kCells k b n).toArray = Z at HS hc ⊢
  generalize keyB k b = KB at HS ⊢
  cases b
  · go_enter Try.func11, Try.ntmps11
    go_wp2
    go_ret
    exact ⟨rfl, HS.out, (Below.refl _ _).alloc (Nat.le_refl _) _⟩
  · go_enter Try.func11, Try.ntmps11
    go_wp2
    go_ret
    exact ⟨rfl, HS.out, (Below.refl _ _).alloc (Nat.le_refl _) _⟩
theorem iKey : (Try.prog.info? 25).map (·.size) = some 49 := by kernel_rfl
set_option maxHeartbeats 1000000 in
theorem keys_any (k : List UInt8) (b : Bool) (n : List UInt8) (w : World) (hk : k.length = 32) (hn : n.length = 16) :
    Calls Try.prog 8 #[.agg (kCells k b n).toArray] w fun e w' => ∃ g, e = .returned (.tuple #[.pointer (some ⟨g, 0, none⟩), .bool true]) ∧ w.heap.size ≤ g ∧ KeyAt w' g (expandL (keyB k b)) (keyW b + 6) ∧ Below w.heap.size w w' := by
  have HBY := Lib.hid (fun W => kbytes_any k b n W hk hn)
  have HL := Lib.hid (kCells_len k n b hk hn)
  have HKL := Lib.hid (keyB_len k b hk)
  have HW : Hid (keyW b = 4 ∨ keyW b = 8) := by show _ ∨ _; cases b <;> simp [keyW]
  generalize kCells k b n = Z at HBY HL ⊢
  generalize keyB k b = KB at HBY HKL ⊢
  generalize keyW b = nk at HBY HKL HW ⊢
  clear hk hn
  go_enter Try.func8, Try.ntmps8
  go_wp2_with (first
    | (refine wpList_ld rfl 25 (.tmp 1) rfl (load_arr Try.underlying25 rfl (by rw [HL.out]; exact iKey) (heap_alloc_new' w _)) ?_)
    | fail)
  generalize hV : w.alloc _ = W0
  have B0 := Lib.hid (below_of_alloc hV (Nat.le_refl w.heap.size))
  clear hV
  refine (HBY.out W0).mono ?_
  rintro e w1 ⟨rfl, hS1, hb1⟩
  have S1 := Lib.hid hS1; have B1 := Lib.hid (B0.out.step hb1)
  clear hS1 hb1
  go_wp2_with fail
  refine (expand_any (some ⟨W0.heap.size, 0, none⟩) (4 * nk) 32 nk KB w1 HKL.out rfl HW.out S1.out).mono ?_
  rintro e w2 ⟨g, rfl, hg, hK, hb2⟩
  have K2 := Lib.hid hK; have B2 := Lib.hid (B1.out.step hb2)
  have HG : Hid (w.heap.size ≤ g) := Nat.le_trans B1.out.size hg
  clear hK hb2 hg
  go_wp2
  go_ret2
  exact ⟨g, rfl, HG.out, K2.out, B2.out⟩
end Go.Proofs.Ytjmpbcfbfbjenaa

/- The law file's own 'awake' (layer 8). -/
namespace Go.Proofs.Ytjmpbcfbfbjenaa
open Go.RowKit
set_option linter.unusedVariables false
set_option maxRecDepth 100000
set_option linter.unusedSimpArgs false
def nineL : List UInt8 := [0, 0, 0, 0, 0, 0, 0, 0, 0, 0, 0, 0, 0, 0, 0, 9]
def nineV : Array Value := #[.int .u8 0, .int .u8 0, .int .u8 0, .int .u8 0, .int .u8 0, .int .u8 0, .int .u8 0, .int .u8 0, .int .u8 0, .int .u8 0, .int .u8 0, .int .u8 0, .int .u8 0, .int .u8 0, .int .u8 0, .int .u8 9]
theorem nine_lit : (nineL.map bv).toArray = nineV := rfl
theorem xorL_zeros (y : List UInt8) (h : y.length = 16) : xorL (List.replicate 16 0) y = y := by
  apply List.ext_getElem
  · rw [xorL_len, List.length_replicate, h]; rfl
  · intro i h1 h2
    simp only [xorL, List.getElem_zipWith, List.getElem_replicate]
    exact UInt8.zero_xor
theorem ctr_zeros (E : List UInt8 → List UInt8) (x : List UInt8) (hx : x.length = 16) (hE : (E x).length = 16) : ctrL (strmF E x) 0 (List.replicate 16 0) = E x := by
  have h := ctrL_block (fun i => E (countL x i)) 0 (List.replicate 16 0) (by show (E (countL x 0)).length = 16; rw [count_zero x hx]; exact hE)
  simp only [Nat.zero_div, Nat.zero_mod, List.drop_zero, List.length_replicate, Nat.sub_zero, Nat.min_self] at h
  rw [count_zero x hx, xorL_zeros _ hE, List.take_of_length_le (by simp)] at h
  exact h.symm
def zer16c : List UInt8 := List.replicate 16 0
theorem zer16c_len : zer16c.length = 16 := by simp [zer16c]
set_option maxHeartbeats 4000000 in
theorem awake8_any (w : World) : Calls Try.prog 12 #[] w fun e w' => e = .returned (.bool true) ∧ Below w.heap.size w w' := by
  have hz : ∀ W, (zeroValue 23).run Try.prog W = .ok (.agg zeros16.toArray) W := fun W => by kernel_rfl
  have HZL : Hid (zeros16.length = 16) := rfl
  have hmk : ∀ W, (Instr.makeSlice 26 (.int .i64 16) (.int .i64 16)).run Try.prog W = .ok (.slice (some ⟨W.heap.size, 0, none⟩) 16 16) (W.alloc (.cells (zer16c.map bv).toArray 5)) := fun W => by
    rw [zer16c, List.map_replicate]; exact make_run (P := Try.prog) uT made8 rfl .i64 .i64 16 (by omega) (by omega) W
  have hbd : ∀ W, (Instr.build 23 #[(15, .int .u8 9)]).run Try.prog W = .ok (.agg nineV) W := fun W => by kernel_rfl
  have BD := Lib.hid hbd
  have HZC := Lib.hid zer16c_len
  have HX16 := Lib.hid (fun A W (hS : Sl W A 16 zer16c) => expand_any A 16 16 4 zer16c W zer16c_len rfl (.inl rfl) hS)
  have HWS : Hid ((expandL zer16c).length = 60) := expandL_len _ (by rw [zer16c_len]; omega)
  have HXZ := Lib.hid (ctr_zeros (encL (expandL zer16c) 10) nineL rfl)
  generalize expandL zer16c = ws at HX16 HWS HXZ
  have HCZ : Hid (List.replicate 16 0 = zer16c) := rfl
  rw [HCZ.out] at HXZ
  have S0 := Lib.hid (fun (W : World) => sl_row (g := W.heap.size) zer16c_len (by omega) (heap_alloc_new' W (.cells (zer16c.map bv).toArray 5)))
  clear HCZ
  generalize zer16c = Z0 at hmk HX16 HXZ S0 HZC
  generalize zeros16 = Z at hz HZL
  go_enter Try.func12, Try.ntmps12
  go_wp2_with fail
  refine (HX16.out _ _ (S0.out w)).mono ?_
  rintro e w1 ⟨gk, rfl, _, hK1, hb1⟩
  have K1 := Lib.hid (KeyAt.enc hK1 (by omega) (by omega))
  have B1 : Hid (Below w.heap.size w w1) := ((Below.refl w.heap.size w).alloc (Nat.le_refl _) _).step hb1
  clear hK1 hb1 HX16
  have HEL := Lib.hid (K1.out.1 nineL rfl)
  have HEC := Lib.hid (fun W hW => K1.out.2 W hW nineL rfl)
  have HCR := Lib.hid (fun A W hW (hS : Sl W A 16 Z0) => Crypt_any (.pointer (some ⟨gk, 0, none⟩)) (encL ws (4 + 6)) nineL A 16 16 Z0 W rfl (K1.out.ext hW) HZC.out (by omega) hS)
  have HXZ := Lib.hid (HXZ.out HEL.out)
  rw [HXZ.out] at HCR
  rw [nine_lit] at HEC HCR
  generalize encL ws (4 + 6) nineL = EB at HEL HEC HCR
  clear K1 HXZ
  generalize nineV = NV at BD HEC HCR hbd
  go_wp2_with (first
    | (refine wpList_run (o := ⟨some 10, _, _, _, _, _⟩) rfl (v := .agg NV) (w' := w1) (exec_build rfl (by simp only [List.map_toArray, List.map_cons, List.map_nil]; exact BD.out w1)) ?_)
    | fail)
  refine (HEC.out w1 (Below.refl _ _)).mono ?_
  rintro e w2 ⟨rfl, hb2⟩
  have X2 : Hid (Ext w1 w2) := hb2
  clear hb2
  go_wp2_with (first
    | (refine wpList_st rfl 23 (.tmp 3) (.tmp 11) rfl (store_arr (cs := EB.map bv) (old := Z) (i16c EB HEL.out) (bv_one _) (heap_alloc_new' w2 _) (by rw [List.length_map, HEL.out, HZL.out])) ?_
       generalize hV : World.setRow _ _ _ = W3
       have M3 := Lib.hid (heap_of_setRow hV (heap_alloc_new' w2 _))
       have MB := Lib.hid (((Below.refl w2.heap.size w2).alloc (Nat.le_refl _) _).trans (below_of_setRow hV (Nat.le_refl w2.heap.size) (by simp)))
       clear hV)
    | fail)
  generalize w2.heap.size = g3 at M3 ⊢
  have X3 : Hid (Ext w1 W3) := X2.out.step MB.out
  clear X2 MB
  have S3 := Lib.hid (sl_row HEL.out (by omega) M3.out)
  have sl := arr_all arr16B s8 ⟨g3, 0, none⟩
  have HX : Hid (Ext W3 W3.drew) := (Below.refl _ _).drew
  have hq : ((strOf EB).toList == (strOf EB).toList) = true := beq_self_eq_true _
  refine reg_start (by kernel_rfl) ?_
  try simp only [Act.put, List.setIfInBounds_toArray, List.set_cons_zero, List.set_cons_succ]
  generalize W3.drew = W4 at HX ⊢
  refine reg_take (v := ?_) 0 (some 12) rfl rfl (by kernel_rfl) (by kernel_rfl) (by kernel_rfl) (fun _ _ _ h => h) (by rfl) (fun W hW => ?_) ?_
  rotate_left
  · (go_simp; try rfl)
  simp only [Act.put, List.setIfInBounds_toArray, List.set_cons_zero, List.set_cons_succ]
  refine reg_take (v := ?_) 1 (some 13) rfl rfl (by kernel_rfl) (by kernel_rfl) (by kernel_rfl) (fun _ _ _ h => h) (by rfl) (fun W hW => ?_) ?_
  rotate_left
  · (go_simp; try rfl)
  simp only [Act.put, List.setIfInBounds_toArray, List.set_cons_zero, List.set_cons_succ]
  refine reg_take (v := ?_) 2 (some 14) rfl rfl (by kernel_rfl) (by kernel_rfl) (by kernel_rfl) (fun _ _ _ h => h) (by rfl) (fun W hW => ?_) ?_
  rotate_left
  · (go_simp; try rfl)
  simp only [Act.put, List.setIfInBounds_toArray, List.set_cons_zero, List.set_cons_succ]
  refine reg_take (v := ?_) 3 (some 15) rfl rfl (by kernel_rfl) (by kernel_rfl) (by kernel_rfl) (fun _ _ _ h => h) (by rfl) (fun W hW => ?_) ?_
  rotate_left
  · (go_simp; try rfl)
  simp only [Act.put, List.setIfInBounds_toArray, List.set_cons_zero, List.set_cons_succ]
  refine reg_take (v := ?_) 4 (some 16) rfl rfl (by kernel_rfl) (by kernel_rfl) (by kernel_rfl) (fun _ _ _ h => h) (by rfl) (fun W hW => ?_) ?_
  rotate_left
  · exact exec_build rfl (by simp only [List.map_toArray, List.map_cons, List.map_nil]; exact BD.out W)
  simp only [Act.put, List.setIfInBounds_toArray, List.set_cons_zero, List.set_cons_succ]
  refine reg_take (v := ?_) 8 (some 20) rfl rfl (by kernel_rfl) (by kernel_rfl) (by kernel_rfl) (fun _ _ _ h => h) (by rfl) (fun W hW => ?_) ?_
  rotate_left
  · (go_simp; try rfl)
  simp only [Act.put, List.setIfInBounds_toArray, List.set_cons_zero, List.set_cons_succ]
  refine reg_conv 9 (some 21) (fun W hW => conv_string W (some ⟨g3, 0, none⟩) 16 16 EB HEL.out (S3.out.extk (HX.out.trans hW))) rfl rfl rfl rfl (by kernel_rfl) (by kernel_rfl) (by kernel_rfl) (fun _ _ _ h => h) (by rfl) ?_
  simp only [Act.put, List.setIfInBounds_toArray, List.set_cons_zero, List.set_cons_succ]
  refine reg_eff 5 rfl (by kernel_rfl) (fun K hK => ?_)
  go_simp
  have hE : Ext W4 (W4.alloc (.cells (Z0.map bv).toArray 5)) := (Below.refl _ _).alloc (Nat.le_refl _) _
  have S5 := Lib.hid (S0.out W4)
  refine hK.out _ _ hE ?_
  have HX := Lib.hid (Ext.trans HX.out hE)
  clear hE hK K
  try simp only [Act.put, List.setIfInBounds_toArray, List.set_cons_zero, List.set_cons_succ]
  refine reg_eff 6 rfl (by kernel_rfl) (fun K hK => ?_)
  go_simp
  refine (HCR.out (some ⟨W4.heap.size, 0, none⟩) _ (X3.out.step HX.out) S5.out).mono ?_
  rintro e w5 ⟨v5, rfl, hO5, hE⟩
  obtain ⟨A5, c5, rfl, hl5, hc5, hm5, hr5⟩ := own_read hO5
  have S6 : Hid (Sl w5 A5 c5 EB) := ⟨by omega, hm5, hr5⟩
  clear hO5 hl5 hc5 hm5 hr5
  refine hK.out _ _ hE ?_
  have HX := Lib.hid (Ext.trans HX.out hE)
  clear hE hK K
  try simp only [Act.put, List.setIfInBounds_toArray, List.set_cons_zero, List.set_cons_succ]
  refine reg_conv 7 (some 19) (fun W hW => conv_string W A5 16 c5 EB HEL.out (S6.out.extk hW)) rfl rfl rfl rfl (by kernel_rfl) (by kernel_rfl) (by kernel_rfl) (fun _ _ _ h => h) (by rfl) ?_
  simp only [Act.put, List.setIfInBounds_toArray, List.set_cons_zero, List.set_cons_succ]
  refine reg_take (v := ?_) 10 (some 22) rfl rfl (by kernel_rfl) (by kernel_rfl) (by kernel_rfl) (fun _ _ _ h => h) (by rfl) (fun W hW => ?_) ?_
  rotate_left
  · (go_simp; try rfl)
  simp only [Act.put, List.setIfInBounds_toArray, List.set_cons_zero, List.set_cons_succ]
  refine reg_take (v := ?_) 11 (some 23) rfl rfl (by kernel_rfl) (by kernel_rfl) (by kernel_rfl) (fun _ _ _ h => h) (by rfl) (fun W hW => ?_) ?_
  rotate_left
  · (go_simp; try rfl)
  simp only [Act.put, List.setIfInBounds_toArray, List.set_cons_zero, List.set_cons_succ]
  refine reg_take (v := ?_) 12 (some 0) rfl rfl (by kernel_rfl) (by kernel_rfl) (by kernel_rfl) (fun _ _ _ h => h) (by rfl) (fun W hW => ?_) ?_
  rotate_left
  · (go_simp; try rfl)
  simp only [Act.put, List.setIfInBounds_toArray, List.set_cons_zero, List.set_cons_succ]
  refine reg_done (by kernel_rfl) ?_
  go_wp2
  go_ret
  exact ⟨rfl, B1.out.step (X3.out.step HX.out)⟩
end Go.Proofs.Ytjmpbcfbfbjenaa

/- The mathematics of layer 6: blocks as numbers of 128 bits, the highest bit for x to the 0th; their products. Nothing of the program. -/
namespace Go.Proofs.Ytjmpbcfbfbjenaa
set_option linter.unusedVariables false
set_option linter.unusedSimpArgs false

/-- v, if c; else nought -/
def sel (c : Bool) (v : Nat) : Nat := if c then v else 0
theorem sel_xor (c : Bool) (v w : Nat) : sel c (v ^^^ w) = sel c v ^^^ sel c w := by cases c <;> simp [sel]
theorem sel_xor_left (c d : Bool) (v : Nat) : sel (c ^^ d) v = sel c v ^^^ sel d v := by cases c <;> cases d <;> simp [sel]
theorem sel_zero (c : Bool) : sel c 0 = 0 := by cases c <;> rfl
theorem sel_true (v : Nat) : sel true v = v := rfl
theorem sel_false (v : Nat) : sel false v = 0 := rfl
theorem sel_lt (c : Bool) {v n : Nat} (h : v < n) : sel c v < n := by cases c <;> simp [sel] <;> omega
theorem xor4N (a b c d : Nat) : (a ^^^ b) ^^^ (c ^^^ d) = (a ^^^ c) ^^^ (b ^^^ d) := by
  rw [Nat.xor_assoc, Nat.xor_assoc, ← Nat.xor_assoc b c d, Nat.xor_comm b c, Nat.xor_assoc c b d]

/-- times x -/
def upV (r : Nat) : Nat := (r >>> 1) ^^^ sel (r.testBit 0) 299076299051606071403356588563077529600
theorem upV_xor (a b : Nat) : upV (a ^^^ b) = upV a ^^^ upV b := by
  unfold upV; rw [Nat.testBit_xor, sel_xor_left, Nat.shiftRight_xor_distrib, xor4N]
theorem upV_zero : upV 0 = 0 := by decide
theorem upV_sel (c : Bool) (v : Nat) : upV (sel c v) = sel c (upV v) := by cases c <;> simp [sel, upV_zero]
theorem upV_lt (r : Nat) (h : r < 2 ^ 128) : upV r < 2 ^ 128 := by
  unfold upV
  refine Nat.xor_lt_two_pow ?_ (sel_lt _ (by decide))
  rw [Nat.shiftRight_eq_div_pow]; omega
/-- times x to the n-th -/
def upN (v : Nat) : Nat → Nat
  | 0 => v
  | n + 1 => upV (upN v n)
theorem upN_xor (a b n : Nat) : upN (a ^^^ b) n = upN a n ^^^ upN b n := by
  induction n with
  | zero => rfl
  | succ n ih => rw [upN, ih, upV_xor]; rfl
theorem upN_zero (n : Nat) : upN 0 n = 0 := by
  induction n with
  | zero => rfl
  | succ n ih => rw [upN, ih, upV_zero]
theorem upN_sel (c : Bool) (v n : Nat) : upN (sel c v) n = sel c (upN v n) := by cases c <;> simp [sel, upN_zero]
theorem upN_lt (v n : Nat) (h : v < 2 ^ 128) : upN v n < 2 ^ 128 := by
  induction n with
  | zero => exact h
  | succ n ih => exact upV_lt _ ih
theorem upN_add (v n m : Nat) : upN v (n + m) = upN (upN v n) m := by
  induction m with
  | zero => rfl
  | succ m ih => rw [← Nat.add_assoc, upN, ih]; rfl
/-- the i-th bit of a block -/
def bitV (a i : Nat) : Bool := a.testBit (127 - i)
theorem bitV_xor (a b i : Nat) : bitV (a ^^^ b) i = (bitV a i ^^ bitV b i) := Nat.testBit_xor ..
theorem bitV_sel (c : Bool) (v i : Nat) : bitV (sel c v) i = (c && bitV v i) := by cases c <;> simp [sel, bitV]
/-- the sum of b times x to the i-th over the first n bits of a -/
def actN (a b : Nat) : Nat → Nat
  | 0 => 0
  | n + 1 => actN a b n ^^^ sel (bitV a n) (upN b n)
def mulV (a b : Nat) : Nat := actN a b 128
theorem actN_xor (a b c n : Nat) : actN a (b ^^^ c) n = actN a b n ^^^ actN a c n := by
  induction n with
  | zero => simp [actN]
  | succ n ih => rw [actN, ih, upN_xor, sel_xor, xor4N]; rfl
theorem actN_xor_left (a b c n : Nat) : actN (a ^^^ b) c n = actN a c n ^^^ actN b c n := by
  induction n with
  | zero => simp [actN]
  | succ n ih => rw [actN, ih, bitV_xor, sel_xor_left, xor4N]; rfl
theorem actN_zero (a n : Nat) : actN a 0 n = 0 := by
  induction n with
  | zero => rfl
  | succ n ih => rw [actN, ih, upN_zero, sel_zero]; rfl
theorem actN_sel (a : Nat) (c : Bool) (v n : Nat) : actN a (sel c v) n = sel c (actN a v n) := by cases c <;> simp [sel, actN_zero]
theorem upV_upN (b n : Nat) : upV (upN b n) = upN (upV b) n := by
  induction n with
  | zero => rfl
  | succ n ih => rw [upN, ih]; rfl
theorem actN_up (a b n : Nat) : upV (actN a b n) = actN a (upV b) n := by
  induction n with
  | zero => exact upV_zero
  | succ n ih => rw [actN, upV_xor, ih, upV_sel, upV_upN]; rfl
theorem actN_upN (a b n m : Nat) : upN (actN a b n) m = actN a (upN b m) n := by
  induction m with
  | zero => rfl
  | succ m ih => rw [upN, ih, actN_up]; rfl
theorem actN_comm (a b c n m : Nat) : actN a (actN b c n) m = actN b (actN a c m) n := by
  induction m with
  | zero => rw [actN, actN, actN_zero]
  | succ m ih => rw [actN, ih, actN_upN, ← actN_sel, ← actN_xor]; rfl
theorem actN_lt (a b n : Nat) (h : b < 2 ^ 128) : actN a b n < 2 ^ 128 := by
  induction n with
  | zero => rw [actN]; decide
  | succ n ih => exact Nat.xor_lt_two_pow ih (sel_lt _ (upN_lt _ _ h))
/-- the block that is one; powers of x -/
def oneV : Nat := 170141183460469231731687303715884105728
def pw (i : Nat) : Nat := upN oneV i
theorem oneV_lt : oneV < 2 ^ 128 := by decide
theorem pw_lt (i : Nat) : pw i < 2 ^ 128 := upN_lt _ _ oneV_lt
theorem pw_eq (i : Nat) (h : i < 128) : pw i = 2 ^ (127 - i) := by
  have : ∀ i : Fin 128, pw i.1 = 2 ^ (127 - i.1) := by decide +kernel
  exact this ⟨i, h⟩
theorem pw128 : pw 128 = pw 0 ^^^ pw 1 ^^^ pw 2 ^^^ pw 7 := by decide +kernel
theorem pw_add (i m : Nat) : pw (i + m) = upN (pw i) m := upN_add _ _ _
theorem pw_over (i : Nat) (h : 128 ≤ i) : pw i = pw (i - 128) ^^^ pw (i - 127) ^^^ pw (i - 126) ^^^ pw (i - 121) := by
  obtain ⟨m, rfl⟩ : ∃ m, i = 128 + m := ⟨i - 128, by omega⟩
  rw [pw_add, pw128, upN_xor, upN_xor, upN_xor, ← pw_add, ← pw_add, ← pw_add, ← pw_add]
  rw [show 128 + m - 128 = 0 + m by omega, show 128 + m - 127 = 1 + m by omega, show 128 + m - 126 = 2 + m by omega, show 128 + m - 121 = 7 + m by omega]
theorem bitV_pw (i j : Nat) (hi : i < 128) (hj : j < 128) : bitV (pw i) j = decide (i = j) := by
  rw [pw_eq i hi, bitV, Nat.testBit_two_pow]
  by_cases h : i = j
  · simp [h]
  · simp [h]; omega
theorem eq_of_bits (a b : Nat) (ha : a < 2 ^ 128) (hb : b < 2 ^ 128) (h : ∀ i, i < 128 → bitV a i = bitV b i) : a = b := by
  apply Nat.eq_of_testBit_eq
  intro i
  by_cases hi : i < 128
  · have := h (127 - i) (by omega)
    unfold bitV at this
    rwa [show 127 - (127 - i) = i by omega] at this
  · rw [Nat.testBit_lt_two_pow (Nat.lt_of_lt_of_le ha (Nat.pow_le_pow_right (by decide) (by omega))), Nat.testBit_lt_two_pow (Nat.lt_of_lt_of_le hb (Nat.pow_le_pow_right (by decide) (by omega)))]
theorem bits_actN_one (a n : Nat) (hn : n ≤ 128) (j : Nat) (hj : j < 128) : bitV (actN a oneV n) j = (decide (j < n) && bitV a j) := by
  induction n with
  | zero => simp [actN, bitV]
  | succ n ih =>
    have hp := bitV_pw n j (by omega) hj
    rw [actN, bitV_xor, ih (by omega), bitV_sel]
    show (_ ^^ (bitV a n && bitV (pw n) j)) = _
    rw [hp]
    by_cases h1 : j < n
    · simp [h1, show ¬ n = j by omega, show j < n + 1 by omega]
    · by_cases h2 : n = j
      · subst h2; simp
      · simp [h1, h2, show ¬ j < n + 1 by omega]
theorem mulV_one (a : Nat) (h : a < 2 ^ 128) : mulV a oneV = a := by
  refine eq_of_bits _ _ (actN_lt _ _ _ oneV_lt) h fun i hi => ?_
  rw [mulV, bits_actN_one a 128 (by omega) i hi]; simp [hi]
theorem mulV_lt (a b : Nat) (h : b < 2 ^ 128) : mulV a b < 2 ^ 128 := actN_lt a b 128 h
theorem mulV_zero (a : Nat) : mulV a 0 = 0 := actN_zero a 128
theorem mulV_xor (a b c : Nat) : mulV a (b ^^^ c) = mulV a b ^^^ mulV a c := actN_xor a b c 128
theorem mulV_xor_left (a b c : Nat) : mulV (a ^^^ b) c = mulV a c ^^^ mulV b c := actN_xor_left a b c 128
theorem mulV_comm (a b : Nat) (ha : a < 2 ^ 128) (hb : b < 2 ^ 128) : mulV a b = mulV b a := by
  have h := actN_comm a b oneV 128 128
  have h1 : actN b oneV 128 = b := mulV_one b hb
  have h2 : actN a oneV 128 = a := mulV_one a ha
  rw [h1, h2] at h
  exact h
theorem mulV_assoc (a b c : Nat) (ha : a < 2 ^ 128) (hb : b < 2 ^ 128) (hc : c < 2 ^ 128) : mulV (mulV a b) c = mulV a (mulV b c) := by
  rw [mulV_comm (mulV a b) c (mulV_lt a b hb) hc, mulV_comm b c hb hc]
  exact actN_comm c a b 128 128
theorem mulV_upN (a b n : Nat) : mulV a (upN b n) = upN (mulV a b) n := (actN_upN a b 128 n).symm
theorem mulV_pw (a n : Nat) (ha : a < 2 ^ 128) : mulV a (pw n) = upN a n := by
  rw [pw, mulV_upN, mulV_one a ha]
theorem pw_mul (n m : Nat) : mulV (pw n) (pw m) = pw (n + m) := by rw [mulV_pw _ _ (pw_lt n), ← pw_add]

/-- two maps that go over sums are the same if they are on the powers of x -/
theorem lin_ext (f g : Nat → Nat) (hf : ∀ a b, a < 2 ^ 128 → b < 2 ^ 128 → f (a ^^^ b) = f a ^^^ f b) (hg : ∀ a b, a < 2 ^ 128 → b < 2 ^ 128 → g (a ^^^ b) = g a ^^^ g b) (h : ∀ i, i < 128 → f (pw i) = g (pw i)) (a : Nat) (ha : a < 2 ^ 128) : f a = g a := by
  have f0 : f 0 = 0 := by have := hf 0 0 (by decide) (by decide); simpa using this
  have g0 : g 0 = 0 := by have := hg 0 0 (by decide) (by decide); simpa using this
  suffices H : ∀ n, n ≤ 128 → f (actN a oneV n) = g (actN a oneV n) by
    have := H 128 (Nat.le_refl _)
    rwa [show actN a oneV 128 = a from mulV_one a ha] at this
  intro n
  induction n with
  | zero => intro _; rw [actN, f0, g0]
  | succ n ih =>
    intro hn
    have hl := sel_lt (bitV a n) (pw_lt n)
    have hs : f (sel (bitV a n) (pw n)) = g (sel (bitV a n) (pw n)) := by
      cases bitV a n
      · rw [sel_false, f0, g0]
      · exact h n (by omega)
    rw [actN]
    show f (actN a oneV n ^^^ sel (bitV a n) (pw n)) = g (actN a oneV n ^^^ sel (bitV a n) (pw n))
    rw [hf _ _ (actN_lt _ _ _ oneV_lt) hl, hg _ _ (actN_lt _ _ _ oneV_lt) hl, ih (by omega)]
    exact congrArg _ hs
end Go.Proofs.Ytjmpbcfbfbjenaa

/- The mathematics of layer 6: blocks that are not nought can be divided by (Berlekamp's test of x^128 + x^7 + x^2 + x + 1). -/
namespace Go.Proofs.Ytjmpbcfbfbjenaa
set_option linter.unusedVariables false
set_option linter.unusedSimpArgs false

/-- squared, and squared n times -/
def sq (a : Nat) : Nat := mulV a a
def sqN (a : Nat) : Nat → Nat
  | 0 => a
  | n + 1 => sq (sqN a n)
theorem sq_lt (a : Nat) (h : a < 2 ^ 128) : sq a < 2 ^ 128 := mulV_lt a a h
theorem sqN_lt (a n : Nat) (h : a < 2 ^ 128) : sqN a n < 2 ^ 128 := by
  induction n with
  | zero => exact h
  | succ n ih => exact sq_lt _ ih
theorem sq_xor (a b : Nat) (ha : a < 2 ^ 128) (hb : b < 2 ^ 128) : sq (a ^^^ b) = sq a ^^^ sq b := by
  unfold sq
  rw [mulV_xor, mulV_xor_left, mulV_xor_left, mulV_comm b a hb ha, xor4N, Nat.xor_comm (mulV a a) (mulV a b), xor4N, Nat.xor_self, Nat.zero_xor]
theorem sqN_xor (a b n : Nat) (ha : a < 2 ^ 128) (hb : b < 2 ^ 128) : sqN (a ^^^ b) n = sqN a n ^^^ sqN b n := by
  induction n with
  | zero => rfl
  | succ n ih => rw [sqN, ih, sq_xor _ _ (sqN_lt a n ha) (sqN_lt b n hb)]; rfl
theorem mul4 (a b c d : Nat) (ha : a < 2 ^ 128) (hb : b < 2 ^ 128) (hc : c < 2 ^ 128) (hd : d < 2 ^ 128) : mulV (mulV a b) (mulV c d) = mulV (mulV a c) (mulV b d) := by
  rw [mulV_assoc a b _ ha hb (mulV_lt c d hd), ← mulV_assoc b c d hb hc hd, mulV_comm b c hb hc, mulV_assoc c b d hc hb hd, ← mulV_assoc a c _ ha hc (mulV_lt b d hd)]
theorem sq_mul (a b : Nat) (ha : a < 2 ^ 128) (hb : b < 2 ^ 128) : sq (mulV a b) = mulV (sq a) (sq b) := mul4 a b a b ha hb ha hb
theorem sqN_mul (a b n : Nat) (ha : a < 2 ^ 128) (hb : b < 2 ^ 128) : sqN (mulV a b) n = mulV (sqN a n) (sqN b n) := by
  induction n with
  | zero => rfl
  | succ n ih => rw [sqN, ih, sq_mul _ _ (sqN_lt a n ha) (sqN_lt b n hb)]; rfl
theorem sqN_x : sqN (pw 1) 128 = pw 1 := by decide +kernel
theorem sqN_one : sqN (pw 0) 128 = pw 0 := by
  have h : ∀ n, sqN (pw 0) n = pw 0 := by
    intro n
    induction n with
    | zero => rfl
    | succ n ih => rw [sqN, ih]; exact pw_mul 0 0
  exact h 128
theorem sqN_pw (i : Nat) : sqN (pw i) 128 = pw i := by
  induction i with
  | zero => exact sqN_one
  | succ i ih => rw [← pw_mul i 1, sqN_mul _ _ _ (pw_lt i) (pw_lt 1), ih, sqN_x]
theorem sqN_all (a : Nat) (ha : a < 2 ^ 128) : sqN a 128 = a :=
  lin_ext (fun a => sqN a 128) (fun a => a) (fun a b ha hb => sqN_xor a b 128 ha hb) (fun _ _ _ _ => rfl) (fun i _ => sqN_pw i) a ha

/-- a map that undoes squaring and taking off, up to the bit of x to the 0th -/
def undoL : List Nat := [22349210433241643211303706255459310228, 42781086895802961305837899807692839847, 127851678626037577171681551665634892711, 64161864867486123575827494532326627698, 85316382760920269238759725736663866279, 114910088095513088234682618273958557012, 42894216934927469609366581567841114482, 32564043359013102798989312672802603315, 95950206727199596221990182218906622887, 46326064391129892899928697286047832434, 109593176112373424743067390032837178708, 142223934881672753734463413618344281941, 45552672926497301355174195688401803634, 94354540392079830942767997527157175399, 33893271354798018671893119733082947891, 133492860460135582475628106552095754965, 96614820725092054158442085749046795175, 123504943270841248069084356367027567956, 45993757392183663931702745520977746290, 84108166368187411435240813705953482624, 109427022612900310258954414150302135636, 65334698174074460006561831602428846656, 142140858131936196492406925677076760405, 26944648382676130012539518143993095923, 45594211301365579976202439659035564402, 34751615226583747878589791662865156403, 94333771204645691632253875541840295015, 58594332839845026287895736368243621554, 33882886761080949016636058740424507699, 49689517202507746048320574050840187699, 133487668163277047647999576055766534869, 87518597506017800282691648887090017190, 96617416873521321572256350997211405223, 123492369287794167071922631989304127700, 123506241345055881775991488991109872980, 88394181544543220452557894239097387942, 45994406429290980785156311833018898802, 49921000057622566873658450198655872755, 84108490886741069861967596861974058880, 35809052500604244266195401481916326771, 109427184872177139472317805728312423764, 79569572989071969373811419141996187585, 65334779303712874613243527391433990720, 4726979706471076424241489524707209152, 142140898696755403795747773571579332437, 58275656592714443450777541729474286387, 26944628100266526360869094196741809907, 140308235276560358896028355552301283989, 45594221442570381802037651632661207410, 44935323831971706514111515550899780402, 34751610155981346965672185676052334899, 115575792119390803779456185938199600469, 94333773739946892088712678535246705767, 159324042485362573657552647614603385767, 58594334107495626516125137864946826930, 153238470225796900814681174335121648678, 33882886127255648902521357992072905011, 59792954277794325190837842541115644722, 49689517519420396105377924425015989043, 72978216601350599591347508359916847681, 133487668004820722619470900868678634197, 163309321578052146805450802438263305319, 87518597585245962796955986480633967526, 6161591008139076220601646446843146177, 96617416833907240315124182200439430055, 67288019353279926038130604499846823936, 123492369307601207700488716387690115284, 72992884249465865451566362034747193217, 123506241354959402090274531190302866772, 93226277353508642900164249188457535015, 88394181539591460295416373139500891046, 6116654749483988959971426010360459777, 45994406431766860863727072382817147250, 113870918609522322281985099445019275925, 49921000058860506912943830473554996979, 161537358671016203777973217828391545831, 84108490886122099842324906724524496768, 63089105448741488643398279942380763954, 35809052500294759256374056413191545715, 96504253903287235160744645914913229863, 109427184872331881977228478262674814292, 9537274821874957483351388617584152641, 79569572988994598121356082874814992321, 122557457634345817322758110469731963540, 65334779303751560239471195525024588352, 161542955870533464563010084267448332775, 4726979706490419237355323591502507968, 53639910565545342273528145980335791795, 142140898696765075202304690604976981845, 51613027339492204128265575524803459891, 58275656592719279154056000246173111091, 81071795988965022717357904530596407232, 26944628100264108509229864938392397555, 92325303522414418149753570460923091879, 140308235276559149970208740923126577813, 100983558286137050684044238585428660711, 45594221442569777339127844318073854322, 132003651752985294974180122299820886164, 44935323831972008745566419208193456946, 100972845268357601278728964017462078439, 34751610155981195849944733847405496627, 133436244703473040169882794575366898389, 115575792119390728221592460023876181333, 161752945482599484730126084874801441767, 94333773739946854309780815578084996199, 149021274876537960721224429182834492454, 159324042485362592547018579093184240551, 5725366257701666555538562805218717057, 58594334107495617071392172125656399538, 127777348636302309636952298273557535380, 153238470225796905537047657204766862374, 133385434108064708788808215410435911893, 33882886127255646541338116557250298163, 275464514806027128612938827324864, 59792954277794326371429463258526948146, 12764899024296983899235621676887115841, 49689517519420395515082114066310337331, 126976600203468727039316187211004055892, 72978216601350599296199603180564021825, 108887185710678174598840578861931466132, 133487668004820722767044853458355047125, 126814247099887467207929949960147586332, 163309321578052146879237778733101511783, 72921817864677867521778898634038080609, 87518597585245962833849474628053070758, 71430717218983613641036104277415506289, 6161591008139076202154902373133594561, 0]
def undoN (v : Nat) : Nat → List Nat → Nat
  | _, [] => 0
  | i, l :: ls => sel (bitV v i) l ^^^ undoN v (i + 1) ls
theorem undoN_xor (a b : Nat) (ls : List Nat) : ∀ i, undoN (a ^^^ b) i ls = undoN a i ls ^^^ undoN b i ls := by
  induction ls with
  | nil => intro i; simp [undoN]
  | cons l ls ih => intro i; rw [undoN, undoN, undoN, bitV_xor, sel_xor_left, ih, xor4N]
def pwsT : Nat → Nat → Nat → Bool
  | 0, _, _ => true
  | k + 1, i, two => undoN (two ^^^ pw i) 0 undoL == sel (!(i == 0)) (pw i) && pwsT k (i + 1) (upV (upV two))
theorem pwsT_ok : pwsT 128 0 oneV = true := by decide +kernel
theorem pwsT_out : ∀ k i two, pwsT k i two = true → two = pw (2 * i) → ∀ j, i ≤ j → j < i + k → undoN (pw (2 * j) ^^^ pw j) 0 undoL = sel (!(j == 0)) (pw j) := by
  intro k
  induction k with
  | zero => intro i two _ _ j h1 h2; omega
  | succ k ih =>
    intro i two h ht j h1 h2
    rw [pwsT, Bool.and_eq_true, beq_iff_eq] at h
    by_cases hj : j = i
    · subst hj; rw [← ht]; exact h.1
    · exact ih (i + 1) _ h.2 (by rw [ht]; rfl) j (by omega) (by omega)
theorem undo_pw (j : Nat) (hj : j < 128) : undoN (sq (pw j) ^^^ pw j) 0 undoL = sel (!(j == 0)) (pw j) := by
  have := pwsT_out 128 0 oneV pwsT_ok rfl j (by omega) (by omega)
  rwa [show sq (pw j) = pw (2 * j) by unfold sq; rw [pw_mul]; congr 1; omega]
/-- only nought and one are their own squares -/
theorem idem (e : Nat) (he : e < 2 ^ 128) (h : sq e = e) : e = 0 ∨ e = oneV := by
  have key := lin_ext (fun e => undoN (sq e ^^^ e) 0 undoL) (fun e => e ^^^ sel (bitV e 0) oneV)
    (fun a b ha hb => by
      show undoN (sq (a ^^^ b) ^^^ (a ^^^ b)) 0 undoL = _
      rw [sq_xor a b ha hb, xor4N, undoN_xor])
    (fun a b ha hb => by
      show (a ^^^ b) ^^^ sel (bitV (a ^^^ b) 0) oneV = _
      rw [bitV_xor, sel_xor_left, xor4N])
    (fun i hi => by
      show undoN (sq (pw i) ^^^ pw i) 0 undoL = pw i ^^^ sel (bitV (pw i) 0) oneV
      rw [undo_pw i hi, bitV_pw i 0 hi (by decide)]
      by_cases h0 : i = 0
      · subst h0; show 0 = pw 0 ^^^ pw 0; simp
      · simp [h0, sel])
    e he
  have key' : undoN (sq e ^^^ e) 0 undoL = e ^^^ sel (bitV e 0) oneV := key
  rw [h, Nat.xor_self] at key'
  have h0 : undoN 0 0 undoL = 0 := by have := undoN_xor 0 0 undoL 0; simpa using this
  rw [h0] at key'
  have hx : e = sel (bitV e 0) oneV := by
    have := congrArg (fun z => z ^^^ sel (bitV e 0) oneV) key'
    simp only [Nat.xor_assoc, Nat.xor_self, Nat.xor_zero, Nat.zero_xor] at this
    exact this.symm
  cases hb : bitV e 0
  · left; rw [hx, hb]; rfl
  · right; rw [hx, hb]; rfl
/-- c to the (2^n - 1)-th, and to the one below -/
def lessN (c : Nat) : Nat → Nat
  | 0 => oneV
  | n + 1 => mulV (lessN c n) (sqN c (n + 1))
theorem lessN_lt (c n : Nat) (hc : c < 2 ^ 128) : lessN c n < 2 ^ 128 := by
  cases n with
  | zero => exact oneV_lt
  | succ n => exact mulV_lt _ _ (sqN_lt c (n + 1) hc)
theorem one_mul (a : Nat) (ha : a < 2 ^ 128) : mulV oneV a = a := by rw [mulV_comm _ _ oneV_lt ha, mulV_one a ha]
theorem lessN_mul (c n : Nat) (hc : c < 2 ^ 128) : mulV (mulV (lessN c n) c) c = sqN c (n + 1) := by
  induction n with
  | zero => rw [lessN, one_mul c hc]; rfl
  | succ n ih =>
    have hl := lessN_lt c n hc
    have hs := sqN_lt c (n + 1) hc
    rw [lessN, mulV_assoc (lessN c n) _ c hl hs hc, mulV_comm (sqN c (n + 1)) c hs hc, ← mulV_assoc (lessN c n) c _ hl hc hs, mulV_assoc (mulV (lessN c n) c) _ c (mulV_lt _ _ hc) hs hc,
      mulV_comm (sqN c (n + 1)) c hs hc, ← mulV_assoc (mulV (lessN c n) c) c _ (mulV_lt _ _ hc) hc hs, ih]
    rfl
/-- a block that is not nought has one by which it is one -/
theorem inverse (c : Nat) (hc : c < 2 ^ 128) (h0 : c ≠ 0) : mulV (lessN c 127) c = oneV := by
  have hl := lessN_lt c 127 hc
  have hg := mulV_lt (lessN c 127) c hc
  have h1 : mulV (mulV (lessN c 127) c) c = c := (lessN_mul c 127 hc).trans (sqN_all c hc)
  rcases idem (mulV (lessN c 127) c) hg (by
    unfold sq
    rw [mulV_assoc (lessN c 127) c _ hl hc hg, mulV_comm c _ hc hg, h1]) with h | h
  · rw [h, mulV_comm 0 c (by decide) hc, mulV_zero] at h1
    exact absurd h1.symm h0
  · exact h
theorem mulV_inj (a b c : Nat) (ha : a < 2 ^ 128) (hb : b < 2 ^ 128) (hc : c < 2 ^ 128) (h0 : c ≠ 0) (h : mulV a c = mulV b c) : a = b := by
  have hl := lessN_lt c 127 hc
  have e : ∀ a, a < 2 ^ 128 → mulV (mulV a c) (lessN c 127) = a := fun a ha => by
    rw [mulV_assoc a c _ ha hc hl, mulV_comm c _ hc hl, inverse c hc h0, mulV_one a ha]
  rw [← e a ha, h, e b hb]
end Go.Proofs.Ytjmpbcfbfbjenaa

/- Regions that draw their order, in which a call or a store (the bar) waits for loads whose cells are stored into behind it: ahead of the bar the world is held, behind it it is free. Over any program. -/
namespace Go.Proofs.Ytjmpbcfbfbjenaa
open Go.RowKit
set_option maxRecDepth 100000
set_option linter.unusedVariables false
section
variable {P : Program} {ops : Array Oper} {Q : Exit → Act → World → Prop} {md : Region.Mode} {b : Nat} {S : World → Prop}
/-- whatever order is picked; as long as the bar has not come up, the world meets S -/
def Bar (P : Program) (md : Region.Mode) (ops : Array Oper) (Q : Exit → Act → World → Prop) (b : Nat) (S : World → Prop) : Nat → Array Bool → Act → World → Prop
  | 0, listed, a, w => Region.ready md ops listed = [] ∧ Q .normal a w
  | n + 1, listed, a, w => (Region.ready md ops listed = [] → Q .normal a w) ∧
    ∀ i ∈ Region.ready md ops listed, wpOp P ops Q i (fun a' w' => (((listed.setIfInBounds i true).getD b true = false) → S w') ∧ Bar P md ops Q b S n (listed.setIfInBounds i true) a' w') a w
theorem Bar.any : ∀ (n : Nat) (listed : Array Bool) (a : Act) (w : World), Bar P md ops Q b S n listed a w → wpAny P md ops Q n listed a w
  | 0, _, _, _, h => h
  | n + 1, _, _, _, h => ⟨h.1, fun i hi => wpOp_mono (fun a' w' h' => Bar.any n _ a' w' h'.2) (h.2 i hi)⟩
/-- behind the bar -/
theorem Bar.past : ∀ (n : Nat) (listed : Array Bool) (a : Act) (w : World), listed.getD b true = true → wpAnyH P md ops Q (fun _ => True) n listed a w → Bar P md ops Q b S n listed a w
  | 0, _, _, _, _, h => h
  | n + 1, listed, a, w, hb, h => ⟨h.1, fun i hi => wpOp_mono (fun a' w' h' => by
      have hb' : (listed.setIfInBounds i true).getD b true = true := by
        by_cases e : i = b
        · subst e; simp only [Array.getD_eq_getD_getElem?, Array.getElem?_setIfInBounds, if_true]; split <;> rfl
        · rw [getD_set_ne true e]; exact hb
      exact ⟨fun h0 => absurd (hb'.symm.trans h0) (by decide), Bar.past n _ a' w' hb' h'.2⟩) (h.2 i hi)⟩
/-- what may come up may be taken first: (1) it yields in whatever world, or (2) in every world that meets S, and the bar waits for it -/
theorem Bar.first {i : Nat} {oi : Oper} {v : Value} {T : World → Prop} (hi : ops[i]? = some oi) (hsel : ∀ (j : Nat) (o : Oper) cs b, ops[j]? = some o → o.op ≠ .select cs b)
    (hQ : ∀ c a w, Q (.panic c) (a.put oi.dst v) w → Q (.panic c) a w)
    (hT : (∀ w, T w) ∨ ((∀ w, S w → T w) ∧ Region.waitsFor md ops b i = true)) (hib : i ≠ b) :
    ∀ (n : Nat) (listed : Array Bool) (a : Act) (w : World),
      (∀ j oj, ops[j]? = some oj → j ≠ i → listed.getD j true = false → (∀ e ∈ oj.after, Region.binds md e = true → e.on ≠ i) → oi.apart ops oj = true) →
      i ∈ Region.ready md ops listed → (listed.getD b true = false ∨ ∀ w, T w) → YieldsIf P ops T oi v a → (listed.getD b true = false → S w) →
      Bar P md ops Q b S n (listed.setIfInBounds i true) (a.put oi.dst v) w → Bar P md ops Q b S (n + 1) listed a w := by
  have useT : ∀ (listed : Array Bool) (w : World), (listed.getD b true = false ∨ ∀ w, T w) → (listed.getD b true = false → S w) → T w := by
    intro listed w h1 h2
    rcases hT with h | h
    · exact h w
    · rcases h1 with h1 | h1
      · exact h.1 w (h2 h1)
      · exact h1 w
  have same : ∀ (listed : Array Bool) (w : World), (listed.getD b true = false → S w) → ((listed.setIfInBounds i true).getD b true = false → S w) := by
    intro listed w h h0
    rw [getD_set_ne true hib] at h0
    exact h h0
  intro n
  induction n with
  | zero =>
    intro listed a w _ hr hb hy hS H
    refine ⟨fun h => (by rw [h] at hr; cases hr), fun j hj => ?_⟩
    by_cases hji : j = i
    · subst hji; exact hy.wpOp hi (useT _ _ hb hS) ⟨same _ _ hS, H⟩
    · have := ready_mono hj hji
      rw [H.1] at this
      cases this
  | succ n ih =>
    intro listed a w hfree hr hb hy hS H
    refine ⟨fun h => (by rw [h] at hr; cases hr), fun j hj => ?_⟩
    by_cases hji : j = i
    · subst hji; exact hy.wpOp hi (useT _ _ hb hS) ⟨same _ _ hS, H⟩
    · have h1 := H.2 j (ready_mono hj hji)
      obtain ⟨hjun, oj, hoj, hall⟩ := mem_ready.1 hj
      have hnot : ∀ e ∈ oj.after, Region.binds md e = true → e.on ≠ i := fun e he hb heq => by
        have h1 := hall e he hb
        have h0 := (mem_ready.1 hr).1
        rw [heq] at h1
        rcases Nat.lt_or_ge i listed.size with h' | h'
        · simp [h'] at h0 h1; rw [h0] at h1; cases h1
        · simp [Array.getElem?_eq_none h'] at h1
      have h2 := wpOp_putIf hoj (hfree j oj hoj hji hjun hnot) (fun cs b => hsel i oi cs b hi) (fun cs b => hsel j oj cs b hoj) hQ hy h1
      have hfree' : ∀ k ok, ops[k]? = some ok → k ≠ i → (listed.setIfInBounds j true).getD k true = false →
          (∀ e ∈ ok.after, Region.binds md e = true → e.on ≠ i) → oi.apart ops ok = true := fun k ok hk hki hun hno => by
        refine hfree k ok hk hki ?_ hno
        by_cases hjk : j = k
        · subst hjk; exact hjun
        · rw [getD_set_ne true hjk] at hun; exact hun
      have hb' : (listed.setIfInBounds j true).getD b true = false ∨ ∀ w, T w := by
        rcases hb with hb | hb
        · rcases hT with h | h
          · exact .inr h
          · have hjb : j ≠ b := by
              intro e
              subst e
              obtain ⟨ob, hob, e, he, hbi, hon⟩ := Region.waitsFor_spec h.2
              rw [hoj] at hob
              cases hob
              exact hnot e he hbi hon
            exact .inl (by rw [getD_set_ne true hjb]; exact hb)
        · exact .inr hb
      have hji' : (listed.setIfInBounds j true).setIfInBounds i true = (listed.setIfInBounds i true).setIfInBounds j true := Array.setIfInBounds_comm _ _ hji
      refine wpOp_mono (fun a' w' h3 => ?_) h2
      have hS' : (listed.setIfInBounds j true).getD b true = false → S w' := by
        intro h0
        refine h3.2.1 ?_
        rw [← hji', getD_set_ne true hib]
        exact h0
      refine ⟨hS', ih (listed.setIfInBounds j true) a' w' hfree' (ready_mono hr (Ne.symm hji)) hb' h3.1 hS' ?_⟩
      rw [hji']
      exact h3.2.2
theorem regK_start {id : Nat} {a : Act} {w : World} (b : Nat) (S : World → Prop) (hm : P.follows .mixedOrders = true) (h : Bar P .any ops Q b S ops.size (Array.replicate ops.size false) a w.drew) : (Code.region id ops true).wp P Q a w :=
  wp_region_any hm (Bar.any _ _ _ _ h)
theorem regK_take (i : Nat) {o : Oper} {v : Value} {fuel : Nat} {listed : Array Bool} {a : Act} {w : World} (d : Option Tmp) (hi : ops[i]? = some o) (hd : o.dst = d)
    (hs : Region.noSelect ops = true) (hf : Region.free .any ops listed i = true) (hr : (Region.ready .any ops listed).contains i = true)
    (hQ : ∀ c a w, Q (.panic c) (a.put o.dst v) w → Q (.panic c) a w) (hw : Region.wanted o (yielded ops a.tmps) = true) (hb : (i != b) = true) (hS : S w)
    (hy : ∀ W, (execOp a.eval o).run P W = .ok (.value v) W)
    (h : Bar P .any ops Q b S fuel (listed.setIfInBounds i true) (a.put d v) w) : Bar P .any ops Q b S (fuel + 1) listed a w := by
  subst hd
  exact Bar.first (T := fun _ => True) hi (Region.noSelect_spec hs) hQ (.inl fun _ => trivial) (by simpa using hb) fuel listed a w (Region.free_spec hi hf) (by simpa using hr) (.inr fun _ => trivial) (.inl ⟨hw, fun W _ => hy W⟩) (fun _ => hS) h
theorem regK_load (i : Nat) {o : Oper} {ty : TypeId} {x : Operand} {p v : Value} {fuel : Nat} {listed : Array Bool} {a : Act} {w : World} (d : Option Tmp)
    (hrun : ∀ W, S W → (Instr.loadAt ty p).run P W = .ok v W) (hi : ops[i]? = some o) (hd : o.dst = d) (ho : o.op = .load ty x) (hx : a.eval x = p)
    (hs : Region.noSelect ops = true) (hf : Region.free .any ops listed i = true) (hr : (Region.ready .any ops listed).contains i = true)
    (hQ : ∀ c a w, Q (.panic c) (a.put o.dst v) w → Q (.panic c) a w) (hw : Region.wanted o (yielded ops a.tmps) = true) (hb : (i != b && Region.waitsFor .any ops b i && !listed.getD b true) = true) (hS : S w)
    (h : Bar P .any ops Q b S fuel (listed.setIfInBounds i true) (a.put d v) w) : Bar P .any ops Q b S (fuel + 1) listed a w := by
  subst hd
  simp only [Bool.and_eq_true, bne_iff_ne, ne_eq, Bool.not_eq_true'] at hb
  exact Bar.first (T := S) hi (Region.noSelect_spec hs) hQ (.inr ⟨fun _ h => h, hb.1.2⟩) hb.1.1 fuel listed a w (Region.free_spec hi hf) (by simpa using hr) (.inl hb.2) (.inl ⟨hw, fun W hW => exec_load ho hx (hrun W hW)⟩) (fun _ => hS) h
/-- the bar itself; behind it nothing is held -/
def Free (_ _ : World) : Prop := True
instance : Pre Free where
  refl _ := trivial
  trans _ _ := trivial
theorem regK_bar (i : Nat) {o : Oper} {fuel : Nat} {listed : Array Bool} {a : Act} {w : World} (hi : ops[i]? = some o) (hr : Region.ready .any ops listed = [i]) (hib : (listed.setIfInBounds i true).getD b true = true)
    (h : ∀ K : Act → World → Prop, Hid (∀ a' w', Free w w' → RegS P ops Q Free fuel (listed.setIfInBounds i true) a' w' → K a' w') → if Region.wanted o (yielded ops a.tmps) = true then Oper.wp P o a w K Q else K (a.put o.dst undef) w) :
    Bar P .any ops Q b S (fuel + 1) listed a w := by
  refine ⟨fun h0 => (by rw [hr] at h0; cases h0), fun j hj => ?_⟩
  rw [hr] at hj
  obtain rfl : j = i := by simpa using hj
  refine wpOp_step hi fun K hK => h K fun a' w' _ hR => hK a' w' ⟨fun h0 => absurd (hib.symm.trans h0) (by decide), ?_⟩
  exact Bar.past _ _ _ _ hib hR
end
end Go.Proofs.Ytjmpbcfbfbjenaa

/- Words of 64 bits: sums and products with what is carried (math/bits.Add64, Mul64; poly.onto). -/
namespace Go.Proofs.Ytjmpbcfbfbjenaa
open Go.RowKit
set_option maxRecDepth 100000
set_option linter.unusedVariables false
set_option linter.unusedSimpArgs false
theorem mul_math (x y x0 x1 y0 y1 : Nat) (hx : x = x0 + 4294967296 * x1) (hy : y = y0 + 4294967296 * y1) (h0 : x0 < 4294967296) (h1 : x1 < 4294967296) (h2 : y0 < 4294967296) (h3 : y1 < 4294967296) :
    let t := x1 * y0 + x0 * y0 / 4294967296
    let u := t % 4294967296 + x0 * y1
    t < 18446744073709551616 ∧ u < 18446744073709551616 ∧ x1 * y1 + t / 4294967296 + u / 4294967296 = x * y / 18446744073709551616 ∧ x0 * y0 < 18446744073709551616 ∧ x * y / 18446744073709551616 < 18446744073709551616 ∧ x1 * y1 + t / 4294967296 < 18446744073709551616 ∧ x1 * y0 < 18446744073709551616 ∧ x0 * y1 < 18446744073709551616 ∧ x1 * y1 < 18446744073709551616 := by
  have e : x * y = x0 * y0 + 4294967296 * (x1 * y0 + x0 * y1) + 18446744073709551616 * (x1 * y1) := by
    rw [hx, hy, Nat.add_mul, Nat.mul_add, Nat.mul_add]
    have e1 : x0 * (4294967296 * y1) = 4294967296 * (x0 * y1) := by rw [Nat.mul_left_comm]
    have e2 : 4294967296 * x1 * y0 = 4294967296 * (x1 * y0) := Nat.mul_assoc _ _ _
    have e3 : 4294967296 * x1 * (4294967296 * y1) = 18446744073709551616 * (x1 * y1) := by rw [Nat.mul_assoc, Nat.mul_left_comm x1, ← Nat.mul_assoc]
    rw [e1, e2, e3]; omega
  have b : ∀ a c, a < 4294967296 → c < 4294967296 → a * c ≤ 18446744065119617025 := by
    intro a c ha hc
    calc a * c ≤ 4294967295 * 4294967295 := Nat.mul_le_mul (by omega) (by omega)
      _ = 18446744065119617025 := by decide
  have b0 := b x0 y0 h0 h2
  have b1 := b x1 y0 h1 h2
  have b2 := b x0 y1 h0 h3
  have b3 := b x1 y1 h1 h3
  rw [e]
  generalize x0 * y0 = p0 at *
  generalize x1 * y0 = p1 at *
  generalize x0 * y1 = p2 at *
  generalize x1 * y1 = p3 at *
  simp only
  omega
theorem mask32 (x : Nat) (hx : x < 18446744073709551616) : bits .and .u64 (x : Int) 4294967295 = ((x % 4294967296 : Nat) : Int) := by
  rw [u64_and _ _ (by omega) (by omega) (by decide) (by decide)]
  have : (4294967295 : Int).toNat = 2 ^ 32 - 1 := by decide
  rw [this, Int.toNat_natCast, Nat.and_two_pow_sub_one_eq_mod]
set_option maxHeartbeats 2000000 in
theorem mul64_any (x y : Nat) (w : World) (hx : x < 18446744073709551616) (hy : y < 18446744073709551616) :
    Calls Try.prog 104 #[.int .u64 (x : Int), .int .u64 (y : Int)] w fun e w' =>
      e = .returned (.tuple #[.int .u64 ((x * y / 18446744073709551616 : Nat) : Int), .int .u64 ((x * y % 18446744073709551616 : Nat) : Int)]) ∧ w = w' := by
  obtain ⟨x0, hx0⟩ : ∃ a, a = x % 4294967296 := ⟨_, rfl⟩
  obtain ⟨x1, hx1⟩ : ∃ a, a = x / 4294967296 := ⟨_, rfl⟩
  obtain ⟨y0, hy0⟩ : ∃ a, a = y % 4294967296 := ⟨_, rfl⟩
  obtain ⟨y1, hy1⟩ : ∃ a, a = y / 4294967296 := ⟨_, rfl⟩
  have hm := mul_math x y x0 x1 y0 y1 (by omega) (by omega) (by omega) (by omega) (by omega) (by omega)
  simp only at hm
  obtain ⟨m1, m2, m3, m4, m5, m6, m7, m8, m9⟩ := hm
  obtain ⟨lo, hlo⟩ : ∃ a, a = x * y % 18446744073709551616 := ⟨_, rfl⟩
  obtain ⟨hi, hhi⟩ : ∃ a, a = x * y / 18446744073709551616 := ⟨_, rfl⟩
  have w0 : IntKind.u64.wrap ((x : Int) * (y : Int)) = (lo : Int) := by rw [IntKind.wrap_u64, hlo, ← Int.natCast_mul]; omega
  rw [← hlo, ← hhi]
  rw [← hhi] at m3 m5
  have a1 : bits .and .u64 (x : Int) 4294967295 = (x0 : Int) := by rw [mask32 x hx, hx0]
  have a2 : bits .and .u64 (y : Int) 4294967295 = (y0 : Int) := by rw [mask32 y hy, hy0]
  have a3 : (x : Int) / 4294967296 = (x1 : Int) := by omega
  have a4 : (y : Int) / 4294967296 = (y1 : Int) := by omega
  clear hlo hhi hx0 hx1 hy0 hy1 hx hy
  have w1 : IntKind.u64.wrap ((x0 : Int) * (y0 : Int)) = ((x0 * y0 : Nat) : Int) := by rw [IntKind.wrap_u64, ← Int.natCast_mul]; omega
  have w2 : IntKind.u64.wrap ((x1 : Int) * (y0 : Int)) = ((x1 * y0 : Nat) : Int) := by rw [IntKind.wrap_u64, ← Int.natCast_mul]; omega
  have w3 : IntKind.u64.wrap ((x0 : Int) * (y1 : Int)) = ((x0 * y1 : Nat) : Int) := by rw [IntKind.wrap_u64, ← Int.natCast_mul]; omega
  have w4 : IntKind.u64.wrap ((x1 : Int) * (y1 : Int)) = ((x1 * y1 : Nat) : Int) := by rw [IntKind.wrap_u64, ← Int.natCast_mul]; omega
  generalize x0 * y0 = p0 at *
  generalize x1 * y0 = p1 at *
  generalize x0 * y1 = p2 at *
  generalize x1 * y1 = p3 at *
  obtain ⟨q0, hq0⟩ : ∃ a, a = p0 / 4294967296 := ⟨_, rfl⟩
  rw [← hq0] at m1 m2 m3 m6
  have b1 : (p0 : Int) / 4294967296 = (q0 : Int) := by omega
  obtain ⟨t, ht⟩ : ∃ a, a = p1 + q0 := ⟨_, rfl⟩
  rw [← ht] at m1 m2 m3 m6
  have b2 : IntKind.u64.wrap ((p1 : Int) + (q0 : Int)) = (t : Int) := by rw [IntKind.wrap_u64]; omega
  obtain ⟨t0, ht0⟩ : ∃ a, a = t % 4294967296 := ⟨_, rfl⟩
  obtain ⟨t1, ht1⟩ : ∃ a, a = t / 4294967296 := ⟨_, rfl⟩
  have b3 : bits .and .u64 (t : Int) 4294967295 = (t0 : Int) := by rw [mask32 t m1, ht0]
  have b4 : (t : Int) / 4294967296 = (t1 : Int) := by omega
  obtain ⟨u, hu⟩ : ∃ a, a = t0 + p2 := ⟨_, rfl⟩
  rw [← ht0, ← hu] at m2 m3
  rw [← ht1] at m3 m6
  have b5 : IntKind.u64.wrap ((t0 : Int) + (p2 : Int)) = (u : Int) := by rw [IntKind.wrap_u64]; omega
  obtain ⟨v, hv⟩ : ∃ a, a = p3 + t1 := ⟨_, rfl⟩
  have b6 : IntKind.u64.wrap ((p3 : Int) + (t1 : Int)) = (v : Int) := by rw [IntKind.wrap_u64]; omega
  obtain ⟨u1, hu1⟩ : ∃ a, a = u / 4294967296 := ⟨_, rfl⟩
  have b7 : (u : Int) / 4294967296 = (u1 : Int) := by omega
  have b8 : IntKind.u64.wrap ((v : Int) + (u1 : Int)) = (hi : Int) := by rw [IntKind.wrap_u64]; omega
  clear hq0 ht ht0 ht1 hu hv hu1 m1 m2 m3 m4 m5 m6 m7 m8 m9
  go_enter Try.func104, Try.ntmps104
  go_wp2
  exact bodyPost_ret (results_tmp2 rfl _ _ _) rfl ⟨rfl, rfl⟩
theorem onto_math (a x y b : Nat) (ha : a < 18446744073709551616) (hb : b < 18446744073709551616) (hx : x < 18446744073709551616) (hy : y < 18446744073709551616) : a + x * y + b < 340282366920938463463374607431768211456 := by
  have : x * y ≤ 18446744073709551615 * 18446744073709551615 := Nat.mul_le_mul (by omega) (by omega)
  omega
end Go.Proofs.Ytjmpbcfbfbjenaa

/- Numbers of three words: plus. -/
namespace Go.Proofs.Ytjmpbcfbfbjenaa
open Go.RowKit
set_option maxRecDepth 100000
set_option linter.unusedVariables false
set_option linter.unusedSimpArgs false
def uv (n : Nat) : Value := .int .u64 (n : Int)
theorem uv_one (l : List Nat) : ∀ v ∈ l.map uv, v.oneCell' = true := by
  intro v hv
  obtain ⟨b, _, rfl⟩ := List.mem_map.1 hv
  rfl
theorem ucell {w : World} {g : Nat} {l : List Nat} {t : TypeId} {fr : Nat × Nat} (h : w.heap[g]? = some (.cells (l.map uv).toArray t fr)) (i : Nat) (hi : i < l.length) : w.cell? ⟨g, i, none⟩ = some (.int .u64 ((l.getD i 0 : Nat) : Int)) := by
  rw [cell_of_heap h, List.getElem?_map]
  simp [List.getD, hi, uv]
theorem ust_row {W W' : World} {g i B : Nat} {l : List Nat} {t : TypeId} {v : Nat} (hW : W.setCell ⟨g, i, none⟩ (.int .u64 (v : Int)) = W') (hB : B ≤ g) (H : W.heap[g]? = some (.cells (l.map uv).toArray t (0, 0))) :
    W'.heap[g]? = some (.cells ((l.set i v).map uv).toArray t (0, 0)) ∧ Below B W W' ∧ ∀ k, k ≠ g → W'.heap[k]? = W.heap[k]? := by
  subst hW
  refine ⟨?_, (Below.refl _ _).setCell hB _, fun k hk => Below.heap_setCell W _ _ _ hk⟩
  have := heap_set H i (uv v)
  rw [← List.map_set] at this
  exact this
theorem cell_eq' {W W0 : World} (h : W = W0) {a : Addr} {v : Value} (hc : W0.cell? a = some v) : W.cell? a = some v := by rw [h]; exact hc
theorem s64 : (Try.prog.info? 61).map (·.size) = some 1 := by kernel_rfl
/-- a number's three words, the lowest one first -/
def numL (n : Nat) : List Nat := [n % 18446744073709551616, n / 18446744073709551616 % 18446744073709551616, n / 340282366920938463463374607431768211456 % 18446744073709551616]
def plusN (x y : Nat) : Nat → List Nat
  | 0 => numL x
  | 1 => [(x + y) % 18446744073709551616, x / 18446744073709551616 % 18446744073709551616, x / 340282366920938463463374607431768211456 % 18446744073709551616]
  | 2 => [(x + y) % 18446744073709551616, (x + y) / 18446744073709551616 % 18446744073709551616, x / 340282366920938463463374607431768211456 % 18446744073709551616]
  | _ => numL (x + y)
def carryN (x y : Nat) : Nat → Nat
  | 0 => 0
  | 1 => (x % 18446744073709551616 + y % 18446744073709551616) / 18446744073709551616
  | 2 => (x % 340282366920938463463374607431768211456 + y % 340282366920938463463374607431768211456) / 340282366920938463463374607431768211456
  | _ => (x % 6277101735386680763835789423207666416102355444464034512896 + y % 6277101735386680763835789423207666416102355444464034512896) / 6277101735386680763835789423207666416102355444464034512896
theorem plusN_len (x y i : Nat) : (plusN x y i).length = 3 := by
  match i with
  | 0 => rfl
  | 1 => rfl
  | 2 => rfl
  | _ + 3 => rfl
theorem plus_math (x y i : Nat) (hi : i < 3) : ∃ a b c s c', (plusN x y i).getD i 0 = a ∧ (numL y).getD i 0 = b ∧ carryN x y i = c ∧ c ≤ 1 ∧ (a + b + c) % 18446744073709551616 = s ∧ (a + b + c) / 18446744073709551616 = c' ∧
    carryN x y (i + 1) = c' ∧ (plusN x y i).set i s = plusN x y (i + 1) := by
  match i, hi with
  | 0, _ =>
    refine ⟨_, _, _, _, _, rfl, rfl, rfl, by simp [carryN], rfl, rfl, ?_, ?_⟩
    · simp only [carryN, plusN, numL, List.getD_cons_zero]; omega
    · simp only [carryN, plusN, numL, List.getD_cons_zero, List.set_cons_zero]
      congr 1; omega
  | 1, _ =>
    refine ⟨_, _, _, _, _, rfl, rfl, rfl, by simp only [carryN]; omega, rfl, rfl, ?_, ?_⟩
    · simp only [carryN, plusN, numL, List.getD_cons_zero, List.getD_cons_succ]; omega
    · simp only [carryN, plusN, numL, List.getD_cons_zero, List.getD_cons_succ, List.set_cons_zero, List.set_cons_succ]
      congr 2; omega
  | 2, _ =>
    refine ⟨_, _, _, _, _, rfl, rfl, rfl, by simp only [carryN]; omega, rfl, rfl, ?_, ?_⟩
    · simp only [carryN, plusN, numL, List.getD_cons_zero, List.getD_cons_succ]; omega
    · simp only [carryN, plusN, numL, List.getD_cons_zero, List.getD_cons_succ, List.set_cons_zero, List.set_cons_succ]
      congr 3; omega
theorem heap3p (w : World) (o1 o2 o3 : Obj) : (((w.alloc o1).alloc o2).alloc o3).heap[w.heap.size]? = some o1 ∧ (((w.alloc o1).alloc o2).alloc o3).heap[w.heap.size + 1]? = some o2 ∧ (((w.alloc o1).alloc o2).alloc o3).heap[w.heap.size + 2]? = some o3 ∧
    Below w.heap.size w (((w.alloc o1).alloc o2).alloc o3) := heap3 w o1 o2 o3
def zeros3 : List Value := List.replicate 3 (Value.int .u64 0)
end Go.Proofs.Ytjmpbcfbfbjenaa

/- Numbers of five words, brought to three: fold. -/
namespace Go.Proofs.Ytjmpbcfbfbjenaa
open Go.RowKit
set_option maxRecDepth 100000
set_option linter.unusedVariables false
set_option linter.unusedSimpArgs false
/-- all blocks but g are as they were -/
def Grow (g : Nat) (w W : World) : Prop := w.grownBy W (some g)
instance (g : Nat) : Pre (Grow g) where
  refl w := World.grownBy.refl w _
  trans h k := ⟨k.os.trans h.os, k.tape.trans h.tape, k.output.trans h.output, Nat.le_trans h.size k.size, fun i hi hn => (k.block i (Nat.lt_of_lt_of_le hi h.size) hn).trans (h.block i hi hn)⟩
theorem Grow.trans {g : Nat} {a b c : World} (h : Grow g a b) (k : Grow g b c) : Grow g a c := Pre.trans h k
theorem Grow.of_ext {g : Nat} {w W : World} (h : Ext w W) : Grow g w W := ⟨h.os, h.tape, h.output, h.size, fun k hk _ => h.block k hk⟩
theorem Grow.heap {g b : Nat} {w W : World} {o : Obj} (h : Grow g w W) (hb : b ≠ g) (hc : w.heap[b]? = some o) : W.heap[b]? = some o :=
  (h.block b (lt_of_heap hc) (fun e => hb (by injection e))).trans hc
theorem Grow.setRow (g : Nat) (W : World) (cs : Array Value) : Grow g W (W.setRow g cs) := grown_setRow W g cs
theorem Grow.below {g B : Nat} {w W : World} (h : Grow g w W) (hB : B ≤ g) (hs : B ≤ w.heap.size) : Below B w W := grown_below h hB hs
theorem Grow.drew (g : Nat) (w : World) : Grow g w w.drew := Grow.of_ext (Below.refl _ _).drew
/-- the words of a number, five of them -/
def numL5 (n : Nat) : List Nat := [n % 18446744073709551616, n / 18446744073709551616 % 18446744073709551616, n / 340282366920938463463374607431768211456 % 18446744073709551616, n / 6277101735386680763835789423207666416102355444464034512896 % 18446744073709551616, n / 115792089237316195423570985008687907853269984665640564039457584007913129639936 % 18446744073709551616]
theorem andNot3 (x : Nat) (hx : x < 18446744073709551616) : bits .andNot .u64 (x : Int) 3 = ((4 * (x / 4) : Nat) : Int) := by
  have h := u64_andNot_nat x 3 hx (by decide)
  have e : x &&& (18446744073709551615 - 3) = 4 * (x / 4) := by
    have e1 : (18446744073709551615 - 3 : Nat) = (2 ^ 62 - 1) <<< 2 := by decide
    have e2 : 4 * (x / 4) = (x >>> 2) <<< 2 := by rw [Nat.shiftRight_eq_div_pow, Nat.shiftLeft_eq]; omega
    rw [e1, e2]
    apply Nat.eq_of_testBit_eq
    intro i
    simp only [Nat.testBit_and, Nat.testBit_shiftLeft, Nat.testBit_two_pow_sub_one, Nat.testBit_shiftRight]
    by_cases h2 : 2 ≤ i
    · have e3 : 2 + (i - 2) = i := by omega
      rw [e3]
      by_cases h64 : i < 64
      · have : i - 2 < 62 := by omega
        simp [h2, this]
      · have hf : x.testBit i = false := Nat.testBit_lt_two_pow (Nat.lt_of_lt_of_le hx (Nat.le_trans (by decide : 18446744073709551616 ≤ 2 ^ 64) (Nat.pow_le_pow_right (by decide) (by omega))))
        simp [hf]
    · simp [h2]
  rw [e] at h
  exact h
theorem and3 (x : Nat) (hx : x < 18446744073709551616) : bits .and .u64 (x : Int) 3 = ((x % 4 : Nat) : Int) := by
  have h := u64_and_nat x 3 hx (by decide)
  have e : x &&& 3 = x % 4 := Nat.and_two_pow_sub_one_eq_mod x 2
  rw [e] at h
  exact h
theorem or62 (a b : Nat) (ha : a < 4611686018427387904) : bits .or .u64 (a : Int) (((b * 4611686018427387904 % 18446744073709551616 : Nat)) : Int) = ((a + b % 4 * 4611686018427387904 : Nat) : Int) := by
  have e : b * 4611686018427387904 % 18446744073709551616 = b % 4 * 4611686018427387904 := by omega
  have hb1 : b % 4 * 4611686018427387904 < 18446744073709551616 := by omega
  have ha1 : a < 18446744073709551616 := by omega
  have hj : ∀ i, (2 : Nat) ^ i = 4611686018427387904 → (b % 4 * 4611686018427387904) ||| a = b % 4 * 4611686018427387904 + a := fun i hi => nat_join i _ a (by rw [hi]; exact Nat.mul_mod_left _ _) (by rw [hi]; exact ha)
  rw [e, u64_or_nat _ _ ha1 hb1, Nat.or_comm, hj 62 (by decide), Nat.add_comm]
/-- what stands above the lowest 130 bits is taken five times -/
def foldN (n : Nat) : Nat := n % 1361129467683753853853498429727072845824 + 5 * (n / 1361129467683753853853498429727072845824)
theorem fold_math (n x0 x1 x2 x3 : Nat) (hn : n < 115792089237316195423570985008687907853269984665640564039457584007913129639936) (h0 : x0 = n % 18446744073709551616) (h1 : x1 = n / 18446744073709551616 % 18446744073709551616) (h2 : x2 = n / 340282366920938463463374607431768211456 % 18446744073709551616)
    (h3 : x3 = n / 6277101735386680763835789423207666416102355444464034512896 % 18446744073709551616) :
    [x0, x1, x2 % 4] = numL (n % 1361129467683753853853498429727072845824) ∧ [4 * (x2 / 4), x3, 0] = numL (4 * (n / 1361129467683753853853498429727072845824)) ∧
      [x2 / 4 + x3 % 4 * 4611686018427387904, x3 / 4, 0] = numL (n / 1361129467683753853853498429727072845824) ∧ n % 1361129467683753853853498429727072845824 + (4 * (n / 1361129467683753853853498429727072845824) + n / 1361129467683753853853498429727072845824) = foldN n := by
  refine ⟨?_, ?_, ?_, ?_⟩
  · unfold numL; congr 1
    · omega
    · congr 1
      · omega
      · congr 1; omega
  · unfold numL; congr 1
    · omega
    · congr 1
      · omega
      · congr 1; omega
  · unfold numL; congr 1
    · omega
    · congr 1
      · omega
      · congr 1; omega
  · unfold foldN; omega
theorem exec_bld {P : Program} {o : Oper} {a : Act} {W : World} {t : TypeId} {parts : Array (Nat × Operand)} {v : Value} (ho : o.op = .build t parts) (hrun : (Instr.build t (parts.map fun (i, x) => (i, a.eval x))).run P W = .ok v W) :
    (execOp a.eval o).run P W = .ok (.value v) W := by
  unfold execOp
  simp only [ho, Sem.run_bind, hrun, Result.andThen_ok, Sem.run_pure]
theorem heap2p (w : World) (o1 o2 : Obj) : ((w.alloc o1).alloc o2).heap[w.heap.size]? = some o1 ∧ ((w.alloc o1).alloc o2).heap[w.heap.size + 1]? = some o2 ∧ Below w.heap.size w ((w.alloc o1).alloc o2) := by
  have h := heap3 w o1 o2 o1
  refine ⟨?_, ?_, two_below w o1 o2⟩
  · rw [← h.1]; exact (Below.heap_alloc ((w.alloc o1).alloc o2) o1 _ (by simp; omega)).symm
  · rw [← h.2.1]; exact (Below.heap_alloc ((w.alloc o1).alloc o2) o1 _ (by simp)).symm
end Go.Proofs.Ytjmpbcfbfbjenaa

/- Numbers of three words: times. -/
namespace Go.Proofs.Ytjmpbcfbfbjenaa
open Go.RowKit
set_option maxRecDepth 100000
set_option linter.unusedVariables false
set_option linter.unusedSimpArgs false
def tval (X R L : List Nat) (i j : Nat) : Nat := L.getD (i + j) 0 + X.getD j 0 * R.getD i 0 + L.getD (i + 3) 0
def tstep (X R L : List Nat) (i j : Nat) : List Nat := (L.set (i + j) (tval X R L i j % 18446744073709551616)).set (i + 3) (tval X R L i j / 18446744073709551616)
def outK (X R : List Nat) : Nat → List Nat
  | 0 => [0, 0, 0, 0, 0]
  | k + 1 => tstep X R (outK X R k) (k / 3) (k % 3)
theorem outK_len (X R : List Nat) (k : Nat) : (outK X R k).length = 5 := by
  induction k with
  | zero => rfl
  | succ k ih => simp [outK, tstep, ih]
theorem set_lt (L : List Nat) (i v B : Nat) (hv : v < B) (h : ∀ m, L.getD m 0 < B) : ∀ m, (L.set i v).getD m 0 < B := by
  intro m
  have := h m
  simp only [List.getD, List.getElem?_set] at this ⊢
  split
  · split <;> simp <;> omega
  · exact this
theorem outK_lt (X R : List Nat) (hX : ∀ m, X.getD m 0 < 18446744073709551616) (hR : ∀ m, R.getD m 0 < 18446744073709551616) (k : Nat) : ∀ m, (outK X R k).getD m 0 < 18446744073709551616 := by
  induction k with
  | zero =>
    intro m
    match m with
    | 0 => show (0 : Nat) < _; decide
    | 1 => show (0 : Nat) < _; decide
    | 2 => show (0 : Nat) < _; decide
    | 3 => show (0 : Nat) < _; decide
    | 4 => show (0 : Nat) < _; decide
    | m + 5 => simp [outK]
  | succ k ih =>
    have ht := onto_math _ _ _ _ (ih (k / 3 + k % 3)) (ih (k / 3 + 3)) (hX (k % 3)) (hR (k / 3))
    have hv : tval X R (outK X R k) (k / 3) (k % 3) < 340282366920938463463374607431768211456 := ht
    exact set_lt _ _ _ _ (by omega) (set_lt _ _ _ _ (by omega) ih)
theorem numL_lt (n : Nat) : ∀ m, (numL n).getD m 0 < 18446744073709551616 := by
  intro m
  match m with
  | 0 => exact Nat.mod_lt _ (by decide)
  | 1 => exact Nat.mod_lt _ (by decide)
  | 2 => exact Nat.mod_lt _ (by decide)
  | m + 3 => simp [numL]
theorem out_six (x0 x1 x2 r0 r1 r2 : Nat) : ∃ a b c d e, outK [x0, x1, x2] [r0, r1, r2] 6 = [a, b, c, d, e] ∧ a < 18446744073709551616 ∧ b < 18446744073709551616 ∧ c < 18446744073709551616 ∧ d < 18446744073709551616 ∧
    a + 18446744073709551616 * b + 340282366920938463463374607431768211456 * c + 6277101735386680763835789423207666416102355444464034512896 * d + 115792089237316195423570985008687907853269984665640564039457584007913129639936 * e =
      x0 * r0 + 18446744073709551616 * (x1 * r0 + x0 * r1) + 340282366920938463463374607431768211456 * (x2 * r0 + x1 * r1) + 6277101735386680763835789423207666416102355444464034512896 * (x2 * r1) := by
  have s0 : outK [x0, x1, x2] [r0, r1, r2] 0 = [0, 0, 0, 0, 0] := rfl
  obtain ⟨t1, h1⟩ : ∃ t, t = 0 + x0 * r0 + 0 := ⟨_, rfl⟩
  have s1 : outK [x0, x1, x2] [r0, r1, r2] 1 = [t1 % 18446744073709551616, 0, 0, t1 / 18446744073709551616, 0] := by rw [outK, s0, h1]; rfl
  obtain ⟨t2, h2⟩ : ∃ t, t = 0 + x1 * r0 + t1 / 18446744073709551616 := ⟨_, rfl⟩
  have s2 : outK [x0, x1, x2] [r0, r1, r2] 2 = [t1 % 18446744073709551616, t2 % 18446744073709551616, 0, t2 / 18446744073709551616, 0] := by rw [outK, s1, h2]; rfl
  obtain ⟨t3, h3⟩ : ∃ t, t = 0 + x2 * r0 + t2 / 18446744073709551616 := ⟨_, rfl⟩
  have s3 : outK [x0, x1, x2] [r0, r1, r2] 3 = [t1 % 18446744073709551616, t2 % 18446744073709551616, t3 % 18446744073709551616, t3 / 18446744073709551616, 0] := by rw [outK, s2, h3]; rfl
  obtain ⟨t4, h4⟩ : ∃ t, t = t2 % 18446744073709551616 + x0 * r1 + 0 := ⟨_, rfl⟩
  have s4 : outK [x0, x1, x2] [r0, r1, r2] 4 = [t1 % 18446744073709551616, t4 % 18446744073709551616, t3 % 18446744073709551616, t3 / 18446744073709551616, t4 / 18446744073709551616] := by rw [outK, s3, h4]; rfl
  obtain ⟨t5, h5⟩ : ∃ t, t = t3 % 18446744073709551616 + x1 * r1 + t4 / 18446744073709551616 := ⟨_, rfl⟩
  have s5 : outK [x0, x1, x2] [r0, r1, r2] 5 = [t1 % 18446744073709551616, t4 % 18446744073709551616, t5 % 18446744073709551616, t3 / 18446744073709551616, t5 / 18446744073709551616] := by rw [outK, s4, h5]; rfl
  obtain ⟨t6, h6⟩ : ∃ t, t = t3 / 18446744073709551616 + x2 * r1 + t5 / 18446744073709551616 := ⟨_, rfl⟩
  have s6 : outK [x0, x1, x2] [r0, r1, r2] 6 = [t1 % 18446744073709551616, t4 % 18446744073709551616, t5 % 18446744073709551616, t6 % 18446744073709551616, t6 / 18446744073709551616] := by rw [outK, s5, h6]; rfl
  refine ⟨_, _, _, _, _, s6, Nat.mod_lt _ (by decide), Nat.mod_lt _ (by decide), Nat.mod_lt _ (by decide), Nat.mod_lt _ (by decide), ?_⟩
  clear s0 s1 s2 s3 s4 s5 s6
  generalize x0 * r0 = p00 at *
  generalize x1 * r0 = p10 at *
  generalize x2 * r0 = p20 at *
  generalize x0 * r1 = p01 at *
  generalize x1 * r1 = p11 at *
  generalize x2 * r1 = p21 at *
  omega
theorem words5 (n a b c d e : Nat) (ha : a < 18446744073709551616) (hb : b < 18446744073709551616) (hc : c < 18446744073709551616) (hd : d < 18446744073709551616) (he : e < 18446744073709551616)
    (h : a + 18446744073709551616 * b + 340282366920938463463374607431768211456 * c + 6277101735386680763835789423207666416102355444464034512896 * d + 115792089237316195423570985008687907853269984665640564039457584007913129639936 * e = n) : [a, b, c, d, e] = numL5 n := by
  unfold numL5
  have h0 : a = n % 18446744073709551616 := by omega
  have h1 : b = n / 18446744073709551616 % 18446744073709551616 := by omega
  have h2 : c = n / 340282366920938463463374607431768211456 % 18446744073709551616 := by omega
  have h3 : d = n / 6277101735386680763835789423207666416102355444464034512896 % 18446744073709551616 := by omega
  have h4 : e = n / 115792089237316195423570985008687907853269984665640564039457584007913129639936 % 18446744073709551616 := by omega
  rw [← h0, ← h1, ← h2, ← h3, ← h4]
theorem out_math (x r : Nat) (hx : x < 6277101735386680763835789423207666416102355444464034512896) (hr : r < 340282366920938463463374607431768211456) : outK (numL x) (numL r) 6 = numL5 (x * r) := by
  obtain ⟨x0, h0⟩ : ∃ a, a = x % 18446744073709551616 := ⟨_, rfl⟩
  obtain ⟨x1, h1⟩ : ∃ a, a = x / 18446744073709551616 % 18446744073709551616 := ⟨_, rfl⟩
  obtain ⟨x2, h2⟩ : ∃ a, a = x / 340282366920938463463374607431768211456 % 18446744073709551616 := ⟨_, rfl⟩
  obtain ⟨r0, h3⟩ : ∃ a, a = r % 18446744073709551616 := ⟨_, rfl⟩
  obtain ⟨r1, h4⟩ : ∃ a, a = r / 18446744073709551616 % 18446744073709551616 := ⟨_, rfl⟩
  obtain ⟨r2, h5⟩ : ∃ a, a = r / 340282366920938463463374607431768211456 % 18446744073709551616 := ⟨_, rfl⟩
  have ex : numL x = [x0, x1, x2] := by rw [h0, h1, h2]; rfl
  have er : numL r = [r0, r1, r2] := by rw [h3, h4, h5]; rfl
  have e1 : x = x0 + 18446744073709551616 * x1 + 340282366920938463463374607431768211456 * x2 := by omega
  have e2 : r = r0 + 18446744073709551616 * r1 := by omega
  have hlt := outK_lt (numL x) (numL r) (numL_lt x) (numL_lt r) 6 4
  rw [ex, er] at hlt ⊢
  obtain ⟨a, b, c, d, e, hs, ha, hb, hc, hd, hv⟩ := out_six x0 x1 x2 r0 r1 r2
  rw [hs] at hlt ⊢
  refine words5 _ a b c d e ha hb hc hd hlt (hv.trans ?_)
  rw [e1, e2]
  clear hs hv ex er e1 e2 h0 h1 h2 h3 h4 h5 hlt
  have q : ∀ u v : Nat, (18446744073709551616 * u) * v = 18446744073709551616 * (u * v) := fun u v => Nat.mul_assoc _ _ _
  have q' : ∀ u v : Nat, u * (18446744073709551616 * v) = 18446744073709551616 * (u * v) := fun u v => Nat.mul_left_comm _ _ _
  have q2 : ∀ u v : Nat, (340282366920938463463374607431768211456 * u) * v = 340282366920938463463374607431768211456 * (u * v) := fun u v => Nat.mul_assoc _ _ _
  simp only [Nat.add_mul, Nat.mul_add, q, q', q2]
  omega
end Go.Proofs.Ytjmpbcfbfbjenaa

/- poly: least, value, step. -/
namespace Go.Proofs.Ytjmpbcfbfbjenaa
open Go.RowKit
set_option maxRecDepth 100000
set_option linter.unusedVariables false
set_option linter.unusedSimpArgs false
/-- what x is modulo 2^130 - 5, of its lowest 128 bits -/
def leastN (x : Nat) : Nat := x + 5 * ((x + 5) / 1361129467683753853853498429727072845824)
theorem littleN_append (a b : List UInt8) : littleN (a ++ b) = littleN a + 256 ^ a.length * littleN b := by
  unfold littleN
  rw [List.reverse_append, bigN_append, List.length_reverse, Nat.mul_comm, Nat.add_comm]
theorem value_math (bs : List UInt8) (h1 : 16 ≤ bs.length) (h2 : bs.length ≤ 24) : numL (littleN bs) = [littleN ((bs.take 8).take 8), littleN (((bs.drop 8).take 8).take 8), littleN ((bs.drop 16).take 8)] := by
  have e : bs = bs.take 8 ++ ((bs.drop 8).take 8 ++ bs.drop 16) := by
    have h1 := List.take_append_drop 8 bs
    have h2 := List.take_append_drop 8 (bs.drop 8)
    rw [List.drop_drop] at h2
    rw [h2, h1]
  have p8 : (256 : Nat) ^ 8 = 18446744073709551616 := by decide
  have la : (bs.take 8).length = 8 := by rw [List.length_take]; omega
  have lb : ((bs.drop 8).take 8).length = 8 := by rw [List.length_take, List.length_drop]; omega
  have lc : (bs.drop 16).length ≤ 8 := by rw [List.length_drop]; omega
  have ha := littleN_lt (bs.take 8)
  have hb := littleN_lt ((bs.drop 8).take 8)
  have hc := littleN_lt (bs.drop 16)
  have hc' : littleN (bs.drop 16) < 256 ^ 8 := Nat.lt_of_lt_of_le hc (Nat.pow_le_pow_right (by decide) lc)
  rw [List.take_of_length_le (l := bs.take 8) (by omega), List.take_of_length_le (l := (bs.drop 8).take 8) (by omega), List.take_of_length_le (l := bs.drop 16) lc]
  have hv : littleN bs = littleN (bs.take 8) + 18446744073709551616 * littleN ((bs.drop 8).take 8) + 340282366920938463463374607431768211456 * littleN (bs.drop 16) := by
    conv => lhs; rw [e]
    rw [littleN_append, littleN_append, la, lb, p8, Nat.mul_add, ← Nat.mul_assoc]
    omega
  rw [la, p8] at ha
  rw [lb, p8] at hb
  rw [p8] at hc'
  generalize littleN (bs.take 8) = a at *
  generalize littleN ((bs.drop 8).take 8) = b at *
  generalize littleN (bs.drop 16) = c at *
  rw [hv]
  clear hc
  unfold numL
  have q0 : (a + 18446744073709551616 * b + 340282366920938463463374607431768211456 * c) % 18446744073709551616 = a := by omega
  have q1 : (a + 18446744073709551616 * b + 340282366920938463463374607431768211456 * c) / 18446744073709551616 % 18446744073709551616 = b := by omega
  have q2 : (a + 18446744073709551616 * b + 340282366920938463463374607431768211456 * c) / 340282366920938463463374607431768211456 % 18446744073709551616 = c := by omega
  rw [q0, q1, q2]
theorem sl_take' {w : World} {A : Option Addr} {c q : Nat} {b : List UInt8} (h : Sl w A c b) : Sl w A c (b.take q) := by
  have := h.2.2.take q
  rw [← List.map_take] at this
  exact ⟨by have := h.1; rw [List.length_take]; omega, h.2.1, this⟩
theorem sl_drop' {w : World} {A : Option Addr} {c k : Nat} {l : List UInt8} (h : Sl w A c l) (hk : k ≤ l.length) : Sl w (cutS A c k) (c - k) (l.drop k) := by
  have h1 := h.1
  have h2 := h.2.1
  refine ⟨by rw [List.length_drop]; omega, by omega, ?_⟩
  have := h.2.2.cut (c := c) (l := k) (by simpa using hk) (by simpa using h1)
  rwa [← List.map_drop] at this
end Go.Proofs.Ytjmpbcfbfbjenaa

/- The contract of sha.whole once more: what it hands back lies in what it was handed. -/
namespace Go.Proofs.Ytjmpbcfbfbjenaa
open Go.RowKit
set_option maxRecDepth 100000
set_option linter.unusedVariables false
set_option linter.unusedSimpArgs false
/-- nothing at A lies in block g -/
def ApartG (A : Option Addr) (g : Nat) : Prop := ∀ a, A = some a → a.block ≠ g
theorem apart_cut {A : Option Addr} {g c k : Nat} (h : ApartG A g) : ApartG (cutS A c k) g := by
  intro a ha
  unfold cutS at ha
  split at ha
  · exact h a ha
  · cases A with
    | none => simp at ha
    | some x =>
      simp only [Option.map_some, Option.some.injEq] at ha
      rw [← ha]
      have : (x.add k).block = x.block := by unfold Addr.add; split <;> rfl
      rw [this]; exact h x rfl
end Go.Proofs.Ytjmpbcfbfbjenaa

/- poly: step, whole. -/
namespace Go.Proofs.Ytjmpbcfbfbjenaa
open Go.RowKit
set_option maxRecDepth 100000
set_option linter.unusedVariables false
set_option linter.unusedSimpArgs false
theorem heap_eq' {W W0 : World} (h : W = W0) {g : Nat} {o : Obj} (hc : W0.heap[g]? = some o) : W.heap[g]? = some o := by rw [h]; exact hc
theorem heap4 (w : World) (o1 o2 o3 o4 : Obj) : ∀ W, (((w.alloc o1).alloc o2).alloc o3).alloc o4 = W → W.heap[w.heap.size]? = some o1 ∧ W.heap[w.heap.size + 1]? = some o2 ∧ W.heap[w.heap.size + 2]? = some o3 ∧ W.heap[w.heap.size + 3]? = some o4 ∧ Below w.heap.size w W := by
  rintro W rfl
  have h := heap3 w o1 o2 o3
  generalize hV : ((w.alloc _).alloc _).alloc _ = W at h ⊢
  have hs : W.heap.size = w.heap.size + 3 := by rw [← hV]; simp
  have ho := fun k hk => Below.heap_alloc W o4 k hk
  refine ⟨(ho _ (by omega)).trans h.1, (ho _ (by omega)).trans h.2.1, (ho _ (by omega)).trans h.2.2.1, ?_, h.2.2.2.alloc h.2.2.2.size _⟩
  rw [← hs]; exact heap_alloc_new' W _
/-- the sum so far, gone on by a part -/
def stepN (r h : Nat) (part : List UInt8) : Nat := foldN ((h + littleN (part ++ [1])) * r)
theorem foldN_lt (n : Nat) (hn : n < 115792089237316195423570985008687907853269984665640564039457584007913129639936) : foldN n < 2722258935367507707706996859454145691648 := by unfold foldN; omega
theorem mark_lt (part : List UInt8) (h : part.length ≤ 16) : littleN (part ++ [1]) < 680564733841876926926749214863536422912 := by
  rw [littleN_snoc]
  have h1 := littleN_lt part
  have h2 : 256 ^ part.length ≤ 256 ^ 16 := Nat.pow_le_pow_right (by decide) h
  have h3 : (256 : Nat) ^ 16 = 340282366920938463463374607431768211456 := by decide
  rw [h3] at h2
  have h4 : (1 : UInt8).toNat = 1 := rfl
  rw [h4, Nat.mul_one]
  omega
theorem step_lt (r h : Nat) (part : List UInt8) (hp : part.length ≤ 16) (hh : h < 2722258935367507707706996859454145691648) (hr : r < 21267647932558653966460912964485513216) :
    h + littleN (part ++ [1]) < 6277101735386680763835789423207666416102355444464034512896 ∧ (h + littleN (part ++ [1])) * r < 115792089237316195423570985008687907853269984665640564039457584007913129639936 := by
  have h1 := mark_lt part hp
  refine ⟨by omega, ?_⟩
  have h2 : (h + littleN (part ++ [1])) * r ≤ 3402823669209384634633746074317682114560 * 21267647932558653966460912964485513216 := Nat.mul_le_mul (by omega) (by omega)
  exact Nat.lt_of_le_of_lt h2 (by decide)
theorem stepN_lt (r h : Nat) (part : List UInt8) (hp : part.length ≤ 16) (hh : h < 2722258935367507707706996859454145691648) (hr : r < 21267647932558653966460912964485513216) : stepN r h part < 2722258935367507707706996859454145691648 :=
  foldN_lt _ (step_lt r h part hp hh hr).2
def zeros17 : List Value := List.replicate 17 (Value.int .u8 0)
/-- the sum so far, gone on by the first j whole parts -/
def partsN (r h : Nat) (bs : List UInt8) : Nat → Nat
  | 0 => h
  | j + 1 => stepN r (partsN r h bs j) ((bs.drop (16 * j)).take 16)
theorem partsN_lt (r h : Nat) (bs : List UInt8) (j : Nat) (hh : h < 2722258935367507707706996859454145691648) (hr : r < 21267647932558653966460912964485513216) : partsN r h bs j < 2722258935367507707706996859454145691648 := by
  induction j with
  | zero => exact hh
  | succ j ih => exact stepN_lt r _ _ (by rw [List.length_take]; omega) ih hr
end Go.Proofs.Ytjmpbcfbfbjenaa

/- poly: Clamp, New; a state in memory. -/
namespace Go.Proofs.Ytjmpbcfbfbjenaa
open Go.RowKit
set_option maxRecDepth 100000
set_option linter.unusedVariables false
set_option linter.unusedSimpArgs false
def clampA (l : List UInt8) : Nat → List UInt8
  | 0 => l
  | i + 1 => (clampA l i).set (4 * i + 3) ((clampA l i).getD (4 * i + 3) 0 &&& 15)
def clampB (l : List UInt8) : Nat → List UInt8
  | 0 => l
  | i + 1 => (clampB l i).set (4 * i + 4) ((clampB l i).getD (4 * i + 4) 0 &&& 252)
theorem clampA_len (l : List UInt8) (i : Nat) : (clampA l i).length = l.length := by
  induction i with
  | zero => rfl
  | succ i ih => rw [clampA, List.length_set, ih]
theorem clampB_len (l : List UInt8) (i : Nat) : (clampB l i).length = l.length := by
  induction i with
  | zero => rfl
  | succ i ih => rw [clampB, List.length_set, ih]
/-- the first half of a key, clamped -/
def clampL (l : List UInt8) : List UInt8 := clampB (clampA l 4) 3
theorem clampL_len (l : List UInt8) : (clampL l).length = l.length := by rw [clampL, clampB_len, clampA_len]
theorem bcell {w : World} {g : Nat} {l : List UInt8} {t : TypeId} {fr : Nat × Nat} (h : w.heap[g]? = some (.cells (l.map bv).toArray t fr)) (i : Nat) (hi : i < l.length) : w.cell? ⟨g, i, none⟩ = some (.int .u8 ((l.getD i 0).toNat : Int)) := by
  rw [cell_of_heap h, List.getElem?_map]
  simp [List.getD, hi, bv]
theorem bst_row {W W' : World} {g i B : Nat} {l : List UInt8} {t : TypeId} {v : UInt8} (hW : W.setCell ⟨g, i, none⟩ (.int .u8 (v.toNat : Int)) = W') (hB : B ≤ g) (H : W.heap[g]? = some (.cells (l.map bv).toArray t (0, 0))) :
    W'.heap[g]? = some (.cells ((l.set i v).map bv).toArray t (0, 0)) ∧ Below B W W' ∧ ∀ k, k ≠ g → W'.heap[k]? = W.heap[k]? := by
  subst hW
  refine ⟨?_, (Below.refl _ _).setCell hB _, fun k hk => Below.heap_setCell W _ _ _ hk⟩
  have := heap_set H i (bv v)
  rw [← List.map_set] at this
  exact this
theorem arr16P : Try.prog.underlying 23 = some (.array 16 5) := Try.underlying23
theorem arr32P : Try.prog.underlying 22 = some (.array 32 5) := Try.underlying22
theorem i16P : (Try.prog.info? 23).map (·.size) = some 16 := by kernel_rfl
theorem i32P : (Try.prog.info? 22).map (·.size) = some 32 := by kernel_rfl
theorem i16p (l : List UInt8) (h : l.length = 16) : (Try.prog.info? 23).map (·.size) = some (l.map bv).length := by rw [List.length_map, h]; exact i16P
theorem i32p (l : List UInt8) (h : l.length = 32) : (Try.prog.info? 22).map (·.size) = some (l.map bv).length := by rw [List.length_map, h]; exact i32P
def zer16 : List Value := List.replicate 16 (Value.int .u8 0)
theorem getD_setU (l : List UInt8) (i j : Nat) (v : UInt8) (hi : i < l.length) : (l.set i v).getD j 0 = if i = j then v else l.getD j 0 := by
  simp only [List.getD, List.getElem?_set]
  split <;> simp [hi]
theorem and15_lt (x : UInt8) : (x &&& 15).toNat < 16 := by
  have h : (x &&& 15).toNat = x.toNat &&& 15 := UInt8.toNat_and _ _
  rw [h]
  have := Nat.and_two_pow_sub_one_eq_mod x.toNat 4
  have e : x.toNat &&& 15 = x.toNat % 16 := this
  omega
theorem clamp_top (l : List UInt8) (h : l.length = 16) : ((clampL l).getD 15 0).toNat < 16 := by
  have e3 : (clampL l).getD 15 0 = (clampA l 4).getD 15 0 := by
    unfold clampL
    simp only [clampB]
    rw [getD_setU _ _ _ _ (by simp [clampA_len, h]), if_neg (by decide), getD_setU _ _ _ _ (by simp [clampA_len, h]), if_neg (by decide), getD_setU _ _ _ _ (by simp [clampA_len, h]), if_neg (by decide)]
  have e4 : (clampA l 4).getD 15 0 = (clampA l 3).getD 15 0 &&& 15 := by
    rw [clampA, getD_setU _ _ _ _ (by rw [clampA_len, h]; decide), if_pos rfl]
  rw [e3, e4]; exact and15_lt _
theorem clamp_lt (l : List UInt8) (h : l.length = 16) : littleN (clampL l) < 21267647932558653966460912964485513216 := by
  have ht := clamp_top l h
  have hl : (clampL l).length = 16 := (clampL_len l).trans h
  generalize clampL l = c at ht hl
  have e : c = c.take 15 ++ [c.getD 15 0] := by
    have h1 := List.take_append_drop 15 c
    have h2 : c.drop 15 = [c.getD 15 0] := by
      rw [List.drop_eq_getElem_cons (by omega), List.drop_of_length_le (by omega)]
      simp [List.getD, hl]
    rw [h2] at h1; exact h1.symm
  have hl15 : (c.take 15).length = 15 := by rw [List.length_take, hl]; rfl
  rw [e, littleN_snoc, hl15]
  have h1 := littleN_lt (c.take 15)
  rw [hl15] at h1
  have p : (256 : Nat) ^ 15 = 1329227995784915872903807060280344576 := by decide
  rw [p] at h1 ⊢
  generalize (c.getD 15 0).toNat = x at ht
  generalize littleN (c.take 15) = y at h1
  omega
/-- a state's cells: both halves of the key, the sum so far, the bytes behind it, and how many they are -/
def pCells (R S H : List Nat) (T : List UInt8) (n : Nat) : List Value := R.map uv ++ (S.map uv ++ (H.map uv ++ (T.map bv ++ [.int .i64 (n : Int)])))
def rOf (key : List UInt8) : Nat := littleN (clampL (key.take 16))
def sOf (key : List UInt8) : Nat := littleN (key.drop 16)
def ptail (m : List UInt8) : List UInt8 := m.drop (16 * (m.length / 16)) ++ List.replicate (16 - m.length % 16) 0
theorem rOf_lt (key : List UInt8) (h : key.length = 32) : rOf key < 21267647932558653966460912964485513216 := clamp_lt _ (by rw [List.length_take, h]; rfl)
end Go.Proofs.Ytjmpbcfbfbjenaa

/- Regions that draw their order, by what holds as long as they go on: one proof for each operation, whatever order is picked. Over any program. -/
namespace Go.Proofs.Ytjmpbcfbfbjenaa
open Go.RowKit
set_option maxRecDepth 100000
set_option linter.unusedVariables false
def AllOps (S : Nat → Oper → Prop) : List Oper → Nat → Prop
  | [], _ => True
  | o :: os, i => S i o ∧ AllOps S os (i + 1)
theorem AllOps.get {S : Nat → Oper → Prop} : ∀ {os : List Oper} {k i : Nat} {o : Oper}, AllOps S os k → os[i]? = some o → S (k + i) o
  | [], _, _, _, _, h => by simp at h
  | o :: os, k, 0, _, h, hi => by simp at hi; subst hi; exact h.1
  | o :: os, k, i + 1, _, h, hi => by
    have := AllOps.get (k := k + 1) h.2 (by simpa using hi)
    rwa [show k + 1 + i = k + (i + 1) by omega] at this
section
variable {P : Program} {ops : Array Oper} {Q : Exit → Act → World → Prop}
/-- one operation keeps what holds -/
def StepOK (P : Program) (ops : Array Oper) (Q : Exit → Act → World → Prop) (J : (Nat → Bool) → Act → World → Prop) (i : Nat) (o : Oper) : Prop :=
  ∀ (L : Nat → Bool) (a : Act) (w : World), J L a w → L i = false → (∀ e ∈ o.after, Region.binds .any e = true → L e.on = true) →
    ∀ K : Act → World → Prop, Hid (∀ a' w', J (fun j => if j = i then true else L j) a' w' → K a' w') → if Region.wanted o (yielded ops a.tmps) = true then Oper.wp P o a w K Q else K (a.put o.dst undef) w
def below? : List Oper → Nat → Bool
  | [], _ => true
  | o :: os, i => o.after.all (fun e => !Region.binds .any e || decide (e.on < i)) && below? os (i + 1)
theorem below?_get : ∀ {os : List Oper} {k i : Nat} {o : Oper}, below? os k = true → os[i]? = some o → ∀ e ∈ o.after, Region.binds .any e = true → e.on < k + i
  | [], _, _, _, _, h => by simp at h
  | o :: os, k, 0, _, h, hi => by
    simp at hi; subst hi
    intro e he hb
    simp only [below?, Bool.and_eq_true, Array.all_eq_true'] at h
    have := h.1 e he
    simpa [hb] using this
  | o :: os, k, i + 1, _, h, hi => by
    simp only [below?, Bool.and_eq_true] at h
    have := below?_get (k := k + 1) h.2 (by simpa using hi)
    rwa [show k + 1 + i = k + (i + 1) by omega] at this
theorem getD_set_true (l : Array Bool) (i j : Nat) : (l.setIfInBounds i true).getD j true = if j = i then true else l.getD j true := by
  by_cases h : j = i
  · subst h
    simp only [Array.getD_eq_getD_getElem?, Array.getElem?_setIfInBounds, if_true]
    split <;> rfl
  · rw [if_neg h, getD_set_ne true (fun e => h e.symm)]
theorem inv_any (J : (Nat → Bool) → Act → World → Prop) (hb : below? ops.toList 0 = true) (steps : AllOps (StepOK P ops Q J) ops.toList 0) (done : ∀ L a w, (∀ j, L j = true) → J L a w → Q .normal a w) :
    ∀ (fuel : Nat) (listed : Array Bool) (a : Act) (w : World), listed.size = ops.size → listed.toList.count false ≤ fuel → J (fun j => listed.getD j true) a w → wpAny P .any ops Q fuel listed a w := by
  have fin : ∀ (listed : Array Bool) (a : Act) (w : World), listed.size = ops.size → J (fun j => listed.getD j true) a w → Region.ready .any ops listed = [] → Q .normal a w := by
    intro listed a w hs hJ hr
    refine done _ a w (fun j => ?_) hJ
    induction j using Nat.strongRecOn with
    | ind j ih =>
      by_cases hj : j < ops.size
      · cases hl : listed.getD j true with
        | true => rfl
        | false =>
          exfalso
          have hm : j ∈ Region.ready .any ops listed := by
            refine mem_ready.2 ⟨hl, ops[j], by simp [hj], fun e he hbi => ?_⟩
            have hlt := below?_get (k := 0) (i := j) (o := ops[j]) hb (by simp [hj]) e he hbi
            rw [Nat.zero_add] at hlt
            have h1 := ih e.on hlt
            have h2 : e.on < listed.size := by omega
            simpa [h2] using h1
          rw [hr] at hm; cases hm
      · have : listed.size ≤ j := by omega
        simp [Array.getElem?_eq_none this]
  intro fuel
  induction fuel with
  | zero =>
    intro listed a w hs hc hJ
    have hr : Region.ready .any ops listed = [] := by
      rw [List.eq_nil_iff_forall_not_mem]
      intro i hi
      have h0 := (mem_ready.1 hi).1
      have hlt : i < listed.size := by
        rcases Nat.lt_or_ge i listed.size with h | h
        · exact h
        · simp [Array.getElem?_eq_none h] at h0
      have hf : listed[i] = false := by simpa [hlt] using h0
      have hmem : false ∈ listed.toList := by rw [← hf]; simp
      have := List.count_pos_iff.2 hmem
      omega
    exact ⟨hr, fin listed a w hs hJ hr⟩
  | succ fuel ih =>
    intro listed a w hs hc hJ
    refine ⟨fin listed a w hs hJ, fun i hi => ?_⟩
    obtain ⟨h0, o, ho, hall⟩ := mem_ready.1 hi
    have hlt : i < listed.size := by
      rcases Nat.lt_or_ge i listed.size with h | h
      · exact h
      · simp [Array.getElem?_eq_none h] at h0
    have hst := steps.get (i := i) (o := o) (by simpa using ho)
    rw [Nat.zero_add] at hst
    refine wpOp_step ho fun K hK => hst _ a w hJ h0 (fun e he hbi => ?_) K fun a' w' hJ' => hK a' w' ?_
    · have := hall e he hbi
      rcases Nat.lt_or_ge e.on listed.size with h' | h'
      · simpa [h'] using this
      · simp [Array.getElem?_eq_none h']
    · refine ih _ a' w' (by simpa using hs) ?_ ?_
      · have hf : listed[i] = false := by simpa [hlt] using h0
        rw [Array.toList_setIfInBounds, List.count_set (by simpa using hlt)]
        have e1 : (listed.toList[i]'(by simpa using hlt)) = false := by simpa using hf
        rw [e1, if_pos (by rfl), if_neg (by decide)]
        omega
      · have e : (fun j => (listed.setIfInBounds i true).getD j true) = (fun j => if j = i then true else listed.getD j true) := funext fun j => getD_set_true listed i j
        rw [e]; exact hJ'
theorem reg_inv {id : Nat} {a : Act} {w : World} (J : (Nat → Bool) → Act → World → Prop) (hm : P.follows .mixedOrders = true) (hb : below? ops.toList 0 = true)
    (h0 : ∀ L : Nat → Bool, (∀ j, j < ops.size → L j = false) → J L a w.drew) (steps : AllOps (StepOK P ops Q J) ops.toList 0) (done : ∀ L a w, (∀ j, L j = true) → J L a w → Q .normal a w) : (Code.region id ops true).wp P Q a w := by
  refine wp_region_any hm (inv_any J hb steps done ops.size _ a w.drew (by simp) ?_ (h0 _ fun j hj => ?_))
  · simp
  · simp [hj]
end
end Go.Proofs.Ytjmpbcfbfbjenaa

/- Package ghash: rows of two words; up, flat. -/
namespace Go.Proofs.Ytjmpbcfbfbjenaa
open Go.RowKit
set_option maxRecDepth 100000
set_option linter.unusedVariables false
set_option linter.unusedSimpArgs false
/-- the two words of a number of 128 bits, the higher one first -/
def hiV (n : Nat) : Nat := n / 18446744073709551616
def loV (n : Nat) : Nat := n % 18446744073709551616
def rowL (n : Nat) : List Nat := [hiV n, loV n]
theorem rowL_len (n : Nat) : (rowL n).length = 2 := rfl
theorem e64 : (2 : Nat) ^ 64 = 18446744073709551616 := by decide
theorem e128 : (2 : Nat) ^ 128 = 340282366920938463463374607431768211456 := by decide
theorem hiV_lt (n : Nat) (h : n < 2 ^ 128) : hiV n < 18446744073709551616 := by rw [e128] at h; unfold hiV; omega
theorem loV_lt (n : Nat) : loV n < 18446744073709551616 := Nat.mod_lt _ (by decide)
theorem hiV_xor (a b : Nat) : hiV (a ^^^ b) = hiV a ^^^ hiV b := by
  have := Nat.xor_div_two_pow (a := a) (b := b) (n := 64)
  rwa [e64] at this
theorem loV_xor (a b : Nat) : loV (a ^^^ b) = loV a ^^^ loV b := by
  have := Nat.xor_mod_two_pow (a := a) (b := b) (n := 64)
  rwa [e64] at this
theorem up_hi (n : Nat) : hiV (upV n) = hiV n / 2 ^^^ sel (decide (loV n % 2 = 1)) 16212958658533785600 := by
  have ht : n.testBit 0 = decide (loV n % 2 = 1) := by
    rw [Nat.testBit_zero]; congr 1; unfold loV; apply propext; omega
  rw [upV, hiV_xor, ht]
  congr 1
  · rw [Nat.shiftRight_eq_div_pow]; unfold hiV; omega
  · cases decide (loV n % 2 = 1) <;> rfl
theorem up_lo (n : Nat) : loV (upV n) = hiV n % 2 * 9223372036854775808 + loV n / 2 := by
  rw [upV, loV_xor]
  have h0 : loV (sel (n.testBit 0) 299076299051606071403356588563077529600) = 0 := by cases n.testBit 0 <;> rfl
  rw [h0, Nat.xor_zero, Nat.shiftRight_eq_div_pow]
  unfold loV hiV; omega
theorem and1 (x : Nat) (hx : x < 18446744073709551616) : bits .and .u64 (x : Int) 1 = ((x % 2 : Nat) : Int) := by
  have h := u64_and_nat x 1 hx (by decide)
  rw [show x &&& 1 = x % 2 from Nat.and_two_pow_sub_one_eq_mod x 1] at h
  exact h
theorem neg1 (b : Nat) (hb : b < 2) : IntKind.u64.wrap (-(b : Int)) = ((sel (decide (b = 1)) 18446744073709551615 : Nat) : Int) := by
  rw [IntKind.wrap_u64]
  by_cases h : b = 1
  · subst h; rfl
  · have : b = 0 := by omega
    subst this; rfl
theorem mask_and (c : Bool) (x : Nat) (hx : x < 18446744073709551616) : bits .and .u64 (x : Int) ((sel c 18446744073709551615 : Nat) : Int) = ((sel c x : Nat) : Int) := by
  rw [u64_and_nat x _ hx (sel_lt c (by decide))]
  cases c
  · simp [sel]
  · have h := Nat.and_two_pow_sub_one_eq_mod x 64
    rw [e64, Nat.mod_eq_of_lt hx] at h
    show ((x &&& 18446744073709551615 : Nat) : Int) = _
    rw [show (18446744073709551616 - 1 : Nat) = 18446744073709551615 from rfl] at h
    rw [h]; rfl
theorem mask_and' (c : Bool) (x : Nat) (hx : x < 18446744073709551616) : bits .and .u64 ((sel c 18446744073709551615 : Nat) : Int) (x : Int) = ((sel c x : Nat) : Int) := by
  rw [u64_and_nat _ x (sel_lt c (by decide)) hx, Nat.and_comm, ← u64_and_nat x _ hx (sel_lt c (by decide))]
  exact mask_and c x hx
theorem or63 (a b : Nat) (hb : b < 9223372036854775808) : bits .or .u64 ((a * 9223372036854775808 % 18446744073709551616 : Nat) : Int) (b : Int) = ((a % 2 * 9223372036854775808 + b : Nat) : Int) := by
  have e : a * 9223372036854775808 % 18446744073709551616 = a % 2 * 9223372036854775808 := by omega
  have h1 : a % 2 * 9223372036854775808 < 18446744073709551616 := by omega
  have h2 : b < 18446744073709551616 := by omega
  have hj : ∀ i, (2 : Nat) ^ i = 9223372036854775808 → (a % 2 * 9223372036854775808) ||| b = a % 2 * 9223372036854775808 + b := fun i hi => nat_join i _ b (by rw [hi]; exact Nat.mul_mod_left _ _) (by rw [hi]; exact hb)
  rw [e, u64_or_nat _ _ h1 h2, hj 63 (by decide)]
theorem up_cases (n : Nat) (hn : n < 2 ^ 128) : ∃ hi lo b h2 l2 s m k : Nat, hiV n = hi ∧ loV n = lo ∧ bits .and .u64 (lo : Int) 1 = (b : Int) ∧ IntKind.u64.wrap (-(b : Int)) = (m : Int) ∧ (hi : Int) / 2 = (h2 : Int) ∧ bits .and .u64 (m : Int) 16212958658533785600 = (k : Int) ∧
    bits .xor .u64 (h2 : Int) (k : Int) = ((hiV (upV n) : Nat) : Int) ∧ IntKind.u64.wrap ((hi : Int) * 9223372036854775808) = (s : Int) ∧ (lo : Int) / 2 = (l2 : Int) ∧ bits .or .u64 (s : Int) (l2 : Int) = ((loV (upV n) : Nat) : Int) := by
  have h1 := hiV_lt n hn
  have h2 := loV_lt n
  refine ⟨hiV n, loV n, loV n % 2, hiV n / 2, loV n / 2, hiV n * 9223372036854775808 % 18446744073709551616, sel (decide (loV n % 2 = 1)) 18446744073709551615, sel (decide (loV n % 2 = 1)) 16212958658533785600, rfl, rfl, and1 _ h2, neg1 _ (by omega), by omega, mask_and' _ _ (by decide), ?_, ?_, by omega, ?_⟩
  · rw [up_hi, u64_xor_nat _ _ (by omega) (sel_lt _ (by decide))]
  · rw [IntKind.wrap_u64]; omega
  · rw [up_lo, or63 _ _ (by omega)]
theorem arr2 : Try.prog.underlying 110 = some (.array 2 61) := Try.underlying110
theorem i2 : (Try.prog.info? 110).map (·.size) = some 2 := by kernel_rfl
theorem i2l (l : List Nat) (h : l.length = 2) : (Try.prog.info? 110).map (·.size) = some (l.map uv).length := by rw [List.length_map, h]; exact i2
set_option maxHeartbeats 2000000 in
theorem up_any (n : Nat) (w : World) (hn : n < 2 ^ 128) :
    Calls Try.prog 105 #[.agg ((rowL n).map uv).toArray] w fun e w' => e = .returned (.agg ((rowL (upV n)).map uv).toArray) ∧ Below w.heap.size w w' := by
  obtain ⟨hi, lo, b, h2, l2, s, m, k, h_hi, h_lo, hb, hm, hh2, hk, hx, hs, hl2, ho⟩ := up_cases n hn
  have hr : rowL (upV n) = [hiV (upV n), loV (upV n)] := rfl
  rw [hr]
  have hr0 : rowL n = [hi, lo] := by rw [rowL, h_hi, h_lo]
  rw [hr0]
  clear h_hi h_lo hr hr0
  generalize hiV (upV n) = hi' at hx ⊢
  generalize loV (upV n) = lo' at ho ⊢
  have hbd : ∀ W, (Instr.build 110 #[(0, .int .u64 (hi' : Int)), (1, .int .u64 (lo' : Int))]).run Try.prog W = .ok (.agg (([hi', lo'] : List Nat).map uv).toArray) W := fun W => by kernel_rfl
  simp only [List.map_cons, List.map_nil, uv] at hbd ⊢
  go_enter Try.func105, Try.ntmps105
  go_wp2
  have hh := heap2p w (.cells #[.int .u64 (hi : Int), .int .u64 (lo : Int)] 110) (.cells #[.int .u64 (hi' : Int), .int .u64 (lo' : Int)] 110)
  exact bodyPost_ret (results_cell_row (P := Try.prog) rfl _ _ (w.heap.size + 1) 110 #[.int .u64 (hi' : Int), .int .u64 (lo' : Int)] (0, 0) _ rfl hh.2.1 arr2 rfl i2) rfl ⟨rfl, hh.2.2⟩

/-- a number of 128 bits as a block -/
def blkL (n : Nat) : List UInt8 := putBig n 16
theorem blkL_len (n : Nat) : (blkL n).length = 16 := putBig_len _ _
def flatR (n : Nat) (i : Nat) : List UInt8 := if i = 0 then List.replicate 16 0 else if i = 1 then putBig (hiV n) 8 ++ List.replicate 8 0 else blkL n
theorem flatR_len (n i : Nat) : (flatR n i).length = 16 := by
  unfold flatR; split
  · simp
  · split
    · simp [putBig_len]
    · exact blkL_len n
theorem flatR_end (n : Nat) : putBig (hiV n) 8 ++ putBig (loV n) 8 = blkL n := by
  unfold blkL
  rw [show (16 : Nat) = 8 + 8 from rfl, putBig_split]
  have m1 := putBig_mod n 8 8 (Nat.le_refl _)
  have h8 : (256 : Nat) ^ 8 = 18446744073709551616 := by decide
  rw [h8] at m1 ⊢
  rw [← m1]; rfl
theorem flatR_step (n i : Nat) (hi : i < 2) : splice ((flatR n i).map bv) (8 * i) ((putBig ((rowL n).getD i 0) 8).map bv) = (flatR n (i + 1)).map bv := by
  match i, hi with
  | 0, _ =>
    have := splice_first (bv 0) 8 8 ((putBig (hiV n) 8).map bv) (by simp [putBig_len])
    simp only [flatR, List.map_append, List.map_replicate]
    exact this
  | 1, _ =>
    have := splice_last (bv 0) 8 8 ((putBig (hiV n) 8).map bv) ((putBig (loV n) 8).map bv) (by simp [putBig_len]) (by simp [putBig_len])
    rw [show flatR n (1 + 1) = blkL n from rfl, ← flatR_end, List.map_append, ← this]
    simp only [flatR, List.map_append, List.map_replicate]
    rfl
set_option maxHeartbeats 2000000 in
theorem gflat_any (n : Nat) (w : World) (hn : n < 2 ^ 128) :
    Calls Try.prog 83 #[.agg ((rowL n).map uv).toArray] w fun e w' => e = .returned (.agg ((blkL n).map bv).toArray) ∧ Below w.heap.size w w' := by
  have HN : Hid (∀ i, i < 2 → (rowL n).getD i 0 < 18446744073709551616) := fun i hi => by
    match i, hi with
    | 0, _ => exact hiV_lt n hn
    | 1, _ => exact loV_lt n
  clear hn
  have HRL := Lib.hid (rowL_len n)
  have HFS := Lib.hid (flatR_step n)
  obtain ⟨R, HR⟩ : ∃ R, Hid (rowL n = R) := ⟨_, rfl⟩
  rw [HR.out] at HRL HFS HN ⊢
  go_enter Try.func83, Try.ntmps83
  go_wp2_with fail
  generalize hV : ((w.alloc _).alloc _).alloc _ = W0
  have F0 : Hid (W0.heap[w.heap.size]? = some (.cells (R.map uv).toArray 110 (0, 0))) := by rw [← hV]; exact (heap3 w _ _ _).1
  have F1 : Hid (W0.heap[w.heap.size + 1]? = some (.cells (List.replicate 16 (Value.int .u8 0)).toArray 23 (0, 0))) := by rw [← hV]; exact (heap3 w _ _ _).2.1
  have F2 : Hid (W0.heap[w.heap.size + 1 + 1]? = some (.cells ((flatR n 0).map bv).toArray 23 (0, 0))) := by rw [← hV]; exact (heap3 w _ _ _).2.2.1
  have FB : Hid (Below w.heap.size w W0) := by rw [← hV]; exact (heap3 w _ _ _).2.2.2
  clear hV
  generalize hg2 : w.heap.size + 1 + 1 = g2 at F2 ⊢
  generalize hg1 : w.heap.size + 1 = g1 at F1 ⊢
  have HG2 : Hid (w.heap.size + 1 + 1 = g2) := hg2
  have HG1 : Hid (w.heap.size + 1 = g1) := hg1
  clear hg1 hg2
  go_loopw [5] (fun vi wr => ∃ (i : Nat), i ≤ 2 ∧ vi = .int .i64 (i : Int) ∧ Hid (Below w.heap.size w wr) ∧ Hid (wr.heap[w.heap.size]? = some (.cells (R.map uv).toArray 110 (0, 0))) ∧ Hid (wr.heap[g1]? = some (.cells (List.replicate 16 (Value.int .u8 0)).toArray 23 (0, 0))) ∧
     Hid (wr.heap[g2]? = some (.cells ((flatR n i).map bv).toArray 23 (0, 0)))) (fun i _ => 2 - (intOf i).toNat)
  case atStart => exact ⟨0, by omega, rfl, FB, F0, F1, F2⟩
  case round =>
    clear F0 F1 F2 FB
    obtain ⟨i, hi, rfl, HB, H0, H1, H2⟩ := hrel
    by_cases hlt : i < 2
    · have e1 : (i : Int) < 2 := by omega
      obtain ⟨q, hq⟩ : ∃ q, q = 8 * i := ⟨_, rfl⟩
      have sl := arr_from arr16B s8 ⟨g2, 0, none⟩ .i64 (q : Int) (by omega) (by omega)
      rw [Int.toNat_natCast, show cutA ⟨g2, 0, none⟩ 16 q = ⟨g2, q, none⟩ from by unfold cutA; rw [if_neg (by omega), Addr.add_mid, Nat.zero_add]] at sl
      have u1 : IntKind.i64.wrap (8 * (i : Int)) = (q : Int) := by rw [IntKind.wrap_i64]; omega
      have c0 := ucell H0.out i (by rw [HRL.out]; exact hlt)
      have HST := Lib.hid (HFS.out i hlt)
      have HX64 := Lib.hid (HN.out i hlt)
      rw [← hq] at HST
      generalize R.getD i 0 = x at c0 HST HX64
      have HQ : Hid (q + 8 ≤ 16) := by show _ ≤ _; omega
      have HL32 := Lib.hid (flatR_len n i)
      clear hq
      have HX : Hid (Below g2 wr wr.drew) := (Below.refl _ _).drew
      have q2 : w.heap.size < g2 := by have := HG2.out; omega
      have hg2w : Hid (g2 ≤ wr.heap.size) := Nat.le_of_lt (lt_of_heap H2.out)
      go_wp2_with fail
      refine regB_start (g2) (by kernel_rfl) ?_
      try simp only [Act.put, List.setIfInBounds_toArray, List.set_cons_zero, List.set_cons_succ]
      refine regB_take (v := ?_) 0 (some 8) rfl rfl (by kernel_rfl) (by kernel_rfl) (by kernel_rfl) (fun _ _ _ h => h) (by rfl) (fun W hW => ?_) ?_
      rotate_left
      · (go_simp; try rfl)
      simp only [Act.put, List.setIfInBounds_toArray, List.set_cons_zero, List.set_cons_succ]
      refine regB_take (v := ?_) 1 (some 9) rfl rfl (by kernel_rfl) (by kernel_rfl) (by kernel_rfl) (fun _ _ _ h => h) (by rfl) (fun W hW => ?_) ?_
      rotate_left
      · (go_simp; try rfl)
      simp only [Act.put, List.setIfInBounds_toArray, List.set_cons_zero, List.set_cons_succ]
      refine regB_take (v := ?_) 2 (some 10) rfl rfl (by kernel_rfl) (by kernel_rfl) (by kernel_rfl) (fun _ _ _ h => h) (by rfl) (fun W hW => ?_) ?_
      rotate_left
      · (go_simp; try rfl)
      simp only [Act.put, List.setIfInBounds_toArray, List.set_cons_zero, List.set_cons_succ]
      refine regB_take (v := ?_) 3 (some 11) rfl rfl (by kernel_rfl) (by kernel_rfl) (by kernel_rfl) (fun _ _ _ h => h) (by rfl) (fun W hW => ?_) ?_
      rotate_left
      · (go_simp; try rfl)
      simp only [Act.put, List.setIfInBounds_toArray, List.set_cons_zero, List.set_cons_succ]
      refine regB_take (v := ?_) 4 (some 12) rfl rfl (by kernel_rfl) (by kernel_rfl) (by kernel_rfl) (fun _ _ _ h => h) (by rfl) (fun W hW => ?_) ?_
      rotate_left
      · (go_simp; try rfl)
      simp only [Act.put, List.setIfInBounds_toArray, List.set_cons_zero, List.set_cons_succ]
      refine regB_load 5 (some 13) (fun W hW => load_cell Try.underlying61 ((hW.cell q2).trans c0)) rfl rfl rfl rfl (by kernel_rfl) (by kernel_rfl) (by kernel_rfl) (fun _ _ _ h => h) (by rfl) ?_
      simp only [Act.put, List.setIfInBounds_toArray, List.set_cons_zero, List.set_cons_succ]
      refine regB_eff 6 rfl (by kernel_rfl) (fun K hK => ?_)
      go_simp
      refine (putBig_any x 8 _ HX64.out (by omega)).mono ?_
      rintro e w3 ⟨g3, hg3, rfl, hk3, hE0⟩
      have F3 : Hid (w3.heap[g2]? = _) := (hE0.block _ (lt_of_heap (w := wr.drew) H2.out)).trans H2.out
      have F1' : Hid (w3.heap[g1]? = _) := (hE0.block _ (lt_of_heap (w := wr.drew) H1.out)).trans H1.out
      have F0' : Hid (w3.heap[w.heap.size]? = _) := (hE0.block _ (lt_of_heap (w := wr.drew) H0.out)).trans H0.out
      have FB' : Hid (Below w.heap.size w w3) := Below.step (w1 := wr.drew) HB.out.drew hE0
      have R3 := Lib.hid (row_of_heap hk3 (Nat.lt_succ_self g3))
      have hE : Below g2 wr.drew w3 := RowKit.Below.mono hE0 hg2w.out
      clear hE0 hk3 hg3
      refine hK.out _ _ hE ?_
      have HX := Lib.hid (Below.trans HX.out hE)
      clear hE hK K
      try simp only [Act.put, List.setIfInBounds_toArray, List.set_cons_zero, List.set_cons_succ]
      refine regB_eff 7 rfl (by kernel_rfl) (fun K hK => ?_)
      obtain ⟨w5, hrun, hblk, _, hgr⟩ := copy_run uT s8 (sT := 26) 3 w3 g2 q ((flatR n i).map bv) 23 F3.out (some ⟨g2, q, none⟩) (some ⟨g3, 0, none⟩) (16 - q) (16 - q) 8 8 (g3 + 1) ((putBig x 8).map bv) (by have := HQ.out; simp only [List.length_map, putBig_len]; omega) (fun _ => rfl) R3.out (by have := HQ.out; simp only [List.length_map, putBig_len, HL32.out]; omega) (bv_one _)
      rw [HST.out] at hblk
      have E2 := Lib.hid hblk
      have EG := Lib.hid hgr
      refine step_cpy rfl (.tmp 10) (.tmp 14) 26 26 rfl hrun ?_
      have hE : Below g2 w3 w5 := grown_below hgr (Nat.le_refl _) (Nat.le_of_lt (lt_of_heap F3.out))
      clear hrun hblk hgr
      refine hK.out _ _ hE ?_
      have HX := Lib.hid (Below.trans HX.out hE)
      clear hE hK K
      try simp only [Act.put, List.setIfInBounds_toArray, List.set_cons_zero, List.set_cons_succ]
      refine regB_done (by kernel_rfl) ?_
      clear u1
      go_wp2
      go_roundw
      case rel =>
        have q3 := HG2.out
        have q1 := HG1.out
        refine ⟨i + 1, by omega, by go_num, ?_, ?_, ?_, E2⟩
        · exact FB'.out.trans (grown_below EG.out (by omega) FB'.out.size)
        · exact (EG.out.block _ (lt_of_heap F0'.out) (by simp; omega)).trans F0'.out
        · exact (EG.out.block _ (lt_of_heap F1'.out) (by simp; omega)).trans F1'.out
      case measure => simp [intOf]; omega
    · have H2' : Hid (wr.heap[g2]? = some (.cells ((blkL n).map bv).toArray 23 (0, 0))) := by have := H2.out; rw [show i = 2 by omega] at this; exact this
      have hl : Hid (((blkL n).map bv).length = 16) := by show _ = _; rw [List.length_map, blkL_len]
      obtain ⟨L, HL⟩ : ∃ L, Hid (blkL n = L) := ⟨_, rfl⟩
      rw [HL.out] at hl H2'
      go_wp2_with (first
        | (refine wpList_ld rfl 23 (.tmp 3) rfl (load_arr arr16B rfl (by rw [hl.out]; exact i16B) H2'.out) ?_)
        | (refine wpList_st rfl 23 (.tmp 2) (.tmp 17) rfl (store_arr (cs := L.map bv) (by rw [hl.out]; exact i16B) (bv_one _) H1.out (by rw [hl.out]; simp)) ?_))
      have hres := setRow_heap wr g1 _ (L.map bv).toArray 23 _ H1.out
      rw [HL.out]
      exact bodyPost_ret (results_cell_row (P := Try.prog) rfl _ _ g1 23 (L.map bv).toArray (0, 0) _ rfl hres arr16B rfl (by rw [List.size_toArray, hl.out]; exact i16B)) rfl ⟨rfl, HB.out.trans (grown_below (grown_setRow _ _ _) (by have := HG1.out; omega) HB.out.size)⟩
end Go.Proofs.Ytjmpbcfbfbjenaa

/- Package ghash: Mul. -/
namespace Go.Proofs.Ytjmpbcfbfbjenaa
open Go.RowKit
set_option maxRecDepth 100000
set_option linter.unusedVariables false
set_option linter.unusedSimpArgs false
/-- the product of two blocks -/
def gmulL (a b : List UInt8) : List UInt8 := blkL (mulV (bigN a) (bigN b))
theorem gmulL_len (a b : List UInt8) : (gmulL a b).length = 16 := blkL_len _
theorem big16_lt (a : List UInt8) (h : a.length = 16) : bigN a < 2 ^ 128 := by
  have := bigN_lt a
  rw [h] at this
  exact Nat.lt_of_lt_of_eq this (by decide)
theorem bigN_blk (n : Nat) (h : n < 2 ^ 128) : bigN (blkL n) = n := by
  rw [blkL, bigN_put, Nat.mod_eq_of_lt (Nat.lt_of_lt_of_eq h (by decide))]
theorem blk_big (a : List UInt8) (h : a.length = 16) : blkL (bigN a) = a := by
  have := putBig_big a
  rwa [h] at this
theorem byte_bit (n k j : Nat) (hj : j < 8) : (byteAt n k).toNat.testBit j = n.testBit (8 * k + j) := by
  rw [byteAt, UInt8.toNat_ofNat', pow256, show (2 : Nat) ^ 8 = 2 ^ 8 from rfl, Nat.testBit_mod_two_pow, Nat.testBit_div_two_pow]
  simp [hj, Nat.add_comm]
theorem bit_byte (a : List UInt8) (h : a.length = 16) (i : Nat) (hi : i < 128) : bitV (bigN a) i = (a.getD (i / 8) 0).toNat.testBit (7 - i % 8) := by
  have e : a.getD (i / 8) 0 = byteAt (bigN a) (15 - i / 8) := by
    have hb := blk_big a h
    have hk : i / 8 < 16 := by omega
    have : (blkL (bigN a)).getD (i / 8) 0 = byteAt (bigN a) (15 - i / 8) := by
      simp [blkL, putBig, List.getD, hk]
    rwa [hb] at this
  rw [e, byte_bit _ _ _ (by omega), bitV]
  congr 1; omega
theorem and1b (x k : Nat) (hx : x < 256) : bits .and .u8 ((x / 2 ^ k : Nat) : Int) 1 = ((x / 2 ^ k % 2 : Nat) : Int) := by
  have hlt : x / 2 ^ k < 256 := Nat.lt_of_le_of_lt (Nat.div_le_self _ _) hx
  have h := u8_and_nat (x / 2 ^ k) 1 hlt (by decide)
  rw [show x / 2 ^ k &&& 1 = x / 2 ^ k % 2 from Nat.and_two_pow_sub_one_eq_mod _ 1] at h
  exact h
theorem bit_num (x k : Nat) : x.testBit k = decide (x / 2 ^ k % 2 = 1) := Nat.testBit_eq_decide_div_mod_eq
/-- what the loop of Mul reckons in a round -/
theorem mul_cases (a : List UInt8) (h : a.length = 16) (B i : Nat) (hi : i < 128) (hB : B < 2 ^ 128) : ∃ (x : UInt8) (k y b m : Nat) (c : Bool), a.getD (i / 8) 0 = x ∧ k = 7 - i % 8 ∧ k ≤ 7 ∧ (x.toNat : Int) / 2 ^ k = (y : Int) ∧ bits .and .u8 (y : Int) 1 = (b : Int) ∧ b < 2 ∧ IntKind.u64.wrap (-(b : Int)) = (m : Int) ∧
    bitV (bigN a) i = c ∧ (∀ z : Nat, z < 18446744073709551616 → bits .and .u64 (z : Int) (m : Int) = ((sel c z : Nat) : Int)) := by
  refine ⟨a.getD (i / 8) 0, 7 - i % 8, (a.getD (i / 8) 0).toNat / 2 ^ (7 - i % 8), (a.getD (i / 8) 0).toNat / 2 ^ (7 - i % 8) % 2, sel (bitV (bigN a) i) 18446744073709551615, _, rfl, rfl, by omega, by simp, and1b _ _ (a.getD (i / 8) 0).toNat_lt, Nat.mod_lt _ (by decide), ?_, rfl, fun z hz => mask_and _ _ hz⟩
  rw [neg1 _ (Nat.mod_lt _ (by decide)), bit_byte a h i hi, bit_num]
theorem sum_hi (s p : Nat) (c : Bool) (hs : s < 2 ^ 128) (hp : p < 2 ^ 128) : bits .xor .u64 ((hiV s : Nat) : Int) ((sel c (hiV p) : Nat) : Int) = ((hiV (s ^^^ sel c p) : Nat) : Int) := by
  rw [u64_xor_nat _ _ (hiV_lt s hs) (sel_lt c (hiV_lt p hp)), hiV_xor]
  cases c <;> simp [sel, hiV]
theorem sum_lo (s p : Nat) (c : Bool) : bits .xor .u64 ((loV s : Nat) : Int) ((sel c (loV p) : Nat) : Int) = ((loV (s ^^^ sel c p) : Nat) : Int) := by
  rw [u64_xor_nat _ _ (loV_lt s) (sel_lt c (loV_lt p)), loV_xor]
  cases c <;> simp [sel, loV]
theorem row_of_words (a : List UInt8) (h : a.length = 16) : big (a.take 8) = hiV (bigN a) ∧ big (a.drop 8) = loV (bigN a) := by
  have e1 : big (a.take 8) = bigN (a.take 8) := by unfold big; rw [show (a.take 8).length - 8 = 0 by simp [h]]; rfl
  have e2 : big (a.drop 8) = bigN (a.drop 8) := by unfold big; rw [show (a.drop 8).length - 8 = 0 by simp [h]]; rfl
  have e := bigN_append (a.take 8) (a.drop 8)
  rw [List.take_append_drop, show (a.drop 8).length = 8 by simp [h]] at e
  have h8 : (256 : Nat) ^ 8 = 18446744073709551616 := by decide
  have hl := bigN_lt8 (a.drop 8) (by simp [h])
  rw [h8] at e
  rw [e1, e2, e]
  unfold hiV loV
  constructor <;> omega
theorem step_val {P : Program} {w w' : World} {ops : Array Oper} {o : Oper} {a : Act} {K : Act → World → Prop} {Q : Exit → Act → World → Prop} {E : Prop} (hg : o.guard = none) {v : Value}
    (hrun : (execOp a.eval o).run P w = .ok (.value v) w') (h : K (a.put o.dst v) w') : if Region.wanted o (yielded ops a.tmps) = true then Oper.wp P o a w K Q else E := by
  have hw : Region.wanted o (yielded ops a.tmps) = true := by simp [Region.wanted, hg]
  rw [if_pos hw]
  unfold Oper.wp
  simp only [hrun]
  exact h
/-- what holds in the region that makes b's words, whichever operations have come up -/
structure MJ (q : Nat) (R : List Nat) (W0 : World) (L : Nat → Bool) (v6 v9 v10 v11 v12 v13 : Value) (W : World) : Prop where
  b : Below W0.heap.size W0 W
  f0 : L 0 = true → v9 = .slice (some ⟨q + 1, 0, none⟩) 8 16
  f1 : L 1 = true → v10 = .int .u64 ((R.getD 0 0 : Nat) : Int)
  f2 : L 2 = true → v11 = .slice (some ⟨q + 1, 8, none⟩) 8 8
  f3 : L 3 = true → v12 = .int .u64 ((R.getD 1 0 : Nat) : Int)
  f4 : L 4 = true → v13 = .agg (R.map uv).toArray
  f5 : L 5 = true → ∃ (g : Nat) (Y : List Value), v6 = .pointer (some ⟨g, 0, none⟩) ∧ W0.heap.size ≤ g ∧ W.heap[g]? = some (.cells Y.toArray 110 (0, 0)) ∧ Y.length = 2 ∧ (L 6 = true → Y = R.map uv)
  d6 : L 6 = true → L 5 = true
theorem MJ.ext {q : Nat} {R : List Nat} {W0 : World} {L : Nat → Bool} {v6 v9 v10 v11 v12 v13 : Value} {W W' : World} (h : MJ q R W0 L v6 v9 v10 v11 v12 v13 W) (hE : Ext W W') : MJ q R W0 L v6 v9 v10 v11 v12 v13 W' :=
  ⟨h.b.trans (hE.mono h.b.size), h.f0, h.f1, h.f2, h.f3, h.f4, fun a => by
    obtain ⟨g, Y, h1, h2, h3, h4⟩ := h.f5 a
    exact ⟨g, Y, h1, h2, (hE.block _ (lt_of_heap h3)).trans h3, h4⟩, h.d6⟩
def mkM (q : Nat) (v0 v1 v6 v9 v10 v11 v12 v13 : Value) : Act := { tmps := #[v0, v1, .pointer (some ⟨q, 0, none⟩), .pointer (some ⟨q + 1, 0, none⟩), .pointer (some ⟨q + 2, 0, none⟩), .pointer (some ⟨q + 3, 0, none⟩), v6, undef, undef, v9, v10, v11, v12, v13, undef, undef, undef, undef, undef, undef, undef, undef, undef, undef, undef, undef, undef, undef, undef, undef, undef, undef, undef, undef, undef, undef, undef, undef, undef, undef, undef, undef, undef, undef, undef, undef, undef, undef, undef, undef], defers := [] }
set_option maxHeartbeats 4000000 in
theorem gmul_any (a b : List UInt8) (w : World) (ha : a.length = 16) (hb : b.length = 16) :
    Calls Try.prog 99 #[.agg (a.map bv).toArray, .agg (b.map bv).toArray] w fun e w' => e = .returned (.agg ((gmulL a b).map bv).toArray) ∧ Below w.heap.size w w' := by
  have HA := Lib.hid ha; have HBL := Lib.hid hb
  have hz : ∀ W, (zeroValue 110).run Try.prog W = .ok (.agg ((rowL 0).map uv).toArray) W := fun W => by kernel_rfl
  have hz16 : ∀ W, (zeroValue 23).run Try.prog W = .ok (.agg zer16.toArray) W := fun W => by kernel_rfl
  have hlz : Hid (zer16.length = 16) := rfl
  obtain ⟨hhi, hlo⟩ := row_of_words b hb
  have HHI := Lib.hid hhi; have HLO := Lib.hid hlo
  clear ha hb hhi hlo
  obtain ⟨Z0, HZ0⟩ : ∃ Z, Hid (rowL 0 = Z) := ⟨_, rfl⟩
  rw [HZ0.out] at hz
  generalize zer16 = Z at hz16 hlz
  obtain ⟨q, HQ⟩ : ∃ q, Hid (w.heap.size = q) := ⟨_, rfl⟩
  have G := Lib.hid (heap4 w (.cells (a.map bv).toArray 23) (.cells (b.map bv).toArray 23) (.cells Z.toArray 23) (.cells (Z0.map uv).toArray 110) _ rfl)
  go_enter Try.func99, Try.ntmps99
  go_upto_region 2 with (fail)
  generalize hV : (((w.alloc _).alloc _).alloc _).alloc _ = W0 at G ⊢
  clear hV hz16
  have G1 := G.out.2.1
  have GS : Hid (w.heap.size + 3 < W0.heap.size) := lt_of_heap G.out.2.2.2.1
  rw [HQ.out] at G1 GS G ⊢
  have sl0 := arr_to arr16B s8 ⟨q + 1, 0, none⟩ .i64 8 (by decide) (by decide)
  have sl1 := arr_from arr16B s8 ⟨q + 1, 0, none⟩ .i64 8 (by decide) (by decide)
  rw [show (8 : Int).toNat = 8 from rfl] at sl0 sl1
  rw [show cutA ⟨q + 1, 0, none⟩ 16 8 = ⟨q + 1, 8, none⟩ from by unfold cutA; rw [if_neg (by decide), Addr.add_mid, Nat.zero_add], show 16 - 8 = 8 from rfl] at sl1
  obtain ⟨B, hBN⟩ : ∃ B, B = bigN b := ⟨_, rfl⟩
  have hBlt : Hid (B < 2 ^ 128) := by show _ < _; rw [hBN]; exact big16_lt b HBL.out
  have hbd : Hid (∀ W, (Instr.build 110 #[(0, .int .u64 ((hiV B : Nat) : Int)), (1, .int .u64 ((loV B : Nat) : Int))]).run Try.prog W = .ok (.agg ((rowL B).map uv).toArray) W) := fun W => by kernel_rfl
  have HBN := Lib.hid hBN
  rw [← hBN] at HHI HLO
  clear hBN
  have HG1 := Lib.hid G1
  clear G1
  refine reg_inv (fun L a' W => ∃ v6 v9 v10 v11 v12 v13, a' = mkM q (.agg (a.map bv).toArray) (.agg (b.map bv).toArray) v6 v9 v10 v11 v12 v13 ∧ MJ q (rowL B) W0 L v6 v9 v10 v11 v12 v13 W) (by kernel_rfl) (by kernel_rfl) ?_
    (And.intro ?_ (And.intro ?_ (And.intro ?_ (And.intro ?_ (And.intro ?_ (And.intro ?_ (And.intro ?_ trivial))))))) ?_
  · intro L hL
    have hL' : ∀ j, j < 7 → L j = false := hL
    have no : ∀ j, j < 7 → L j = true → False := fun j hj h => by rw [hL' j hj] at h; cases h
    exact ⟨_, _, _, _, _, _, rfl, ⟨(Below.refl _ _).drew, fun h => (no 0 (by decide) h).elim, fun h => (no 1 (by decide) h).elim, fun h => (no 2 (by decide) h).elim, fun h => (no 3 (by decide) h).elim, fun h => (no 4 (by decide) h).elim, fun h => (no 5 (by decide) h).elim, fun h => (no 6 (by decide) h).elim⟩⟩
  · rintro L a' W ⟨v6, v9, v10, v11, v12, v13, rfl, H⟩ hLi hd K0 hK
    simp only [mkM]
    go_simp
    exact hK.out _ _ ⟨v6, _, v10, v11, v12, v13, rfl, ⟨H.b, fun _ => rfl, fun h => H.f1 h, fun h => H.f2 h, fun h => H.f3 h, fun h => H.f4 h, fun h => H.f5 h, fun h => H.d6 h⟩⟩
  · rintro L a' W ⟨v6, v9, v10, v11, v12, v13, rfl, H⟩ hLi hd K0 hK
    obtain rfl := H.f0 (hd ⟨0, .data⟩ (by simp) rfl)
    have hg1 : W.heap[q + 1]? = _ := (H.b.block _ (lt_of_heap HG1.out)).trans HG1.out
    have hr := row_sub hg1 0 8 (lt_of_heap hg1)
    rw [List.drop_zero] at hr
    simp only [mkM]
    go_simp
    refine (big_n (some ⟨q + 1, 0, none⟩) 8 16 (b.take 8) W (by rw [List.length_take, HBL.out]; rfl) (by decide) (by simp [maxLen]) hr).mono ?_
    rintro e W' ⟨rfl, hb⟩
    exact hK.out _ _ ⟨v6, _, _, v11, v12, v13, rfl, ⟨(H.ext hb).b, fun h => rfl, fun _ => by rw [HHI.out]; rfl, fun h => H.f2 h, fun h => H.f3 h, fun h => H.f4 h, fun h => (H.ext hb).f5 h, fun h => H.d6 h⟩⟩
  · rintro L a' W ⟨v6, v9, v10, v11, v12, v13, rfl, H⟩ hLi hd K0 hK
    simp only [mkM]
    go_simp
    exact hK.out _ _ ⟨v6, v9, v10, _, v12, v13, rfl, ⟨H.b, fun h => H.f0 h, fun h => H.f1 h, fun _ => rfl, fun h => H.f3 h, fun h => H.f4 h, fun h => H.f5 h, fun h => H.d6 h⟩⟩
  · rintro L a' W ⟨v6, v9, v10, v11, v12, v13, rfl, H⟩ hLi hd K0 hK
    obtain rfl := H.f2 (hd ⟨2, .data⟩ (by simp) rfl)
    have hg1 : W.heap[q + 1]? = _ := (H.b.block _ (lt_of_heap HG1.out)).trans HG1.out
    have hr := row_sub hg1 8 8 (lt_of_heap hg1)
    rw [List.take_of_length_le (by rw [List.length_drop, HBL.out]; decide)] at hr
    simp only [mkM]
    go_simp
    refine (big_n (some ⟨q + 1, 8, none⟩) 8 8 (b.drop 8) W (by rw [List.length_drop, HBL.out]) (by decide) (by simp [maxLen]) hr).mono ?_
    rintro e W' ⟨rfl, hb⟩
    exact hK.out _ _ ⟨v6, v9, v10, _, _, v13, rfl, ⟨(H.ext hb).b, fun h => H.f0 h, fun h => H.f1 h, fun h => rfl, fun _ => by rw [HLO.out]; rfl, fun h => H.f4 h, fun h => (H.ext hb).f5 h, fun h => H.d6 h⟩⟩
  · rintro L a' W ⟨v6, v9, v10, v11, v12, v13, rfl, H⟩ hLi hd K0 hK
    obtain rfl := H.f1 (hd ⟨1, .data⟩ (by simp) rfl)
    obtain rfl := H.f3 (hd ⟨3, .data⟩ (by simp) rfl)
    refine step_val rfl (v := .agg ((rowL B).map uv).toArray) (w' := W) (exec_bld rfl (by simp only [List.map_toArray, List.map_cons, List.map_nil]; exact hbd.out W)) ?_
    exact hK.out _ _ ⟨v6, v9, _, v11, _, _, rfl, ⟨H.b, fun h => H.f0 h, fun h => rfl, fun h => H.f2 h, fun h => rfl, fun _ => rfl, fun h => H.f5 h, fun h => H.d6 h⟩⟩
  · rintro L a' W ⟨v6, v9, v10, v11, v12, v13, rfl, H⟩ hLi hd K0 hK
    simp only [mkM]
    go_simp
    refine hK.out _ _ ⟨_, v9, v10, v11, v12, v13, rfl, ⟨(H.ext ((Below.refl _ W).alloc (Nat.le_refl _) _)).b, fun h => H.f0 h, fun h => H.f1 h, fun h => H.f2 h, fun h => H.f3 h, fun h => H.f4 h, fun _ => ⟨W.heap.size, Z0.map uv, rfl, H.b.size, heap_alloc_new' W _, by rw [List.length_map, ← HZ0.out]; rfl, fun h => ?_⟩, fun h => rfl⟩⟩
    have h6 : L 6 = true := h
    rw [H.d6 h6] at hLi; cases hLi
  · rintro L a' W ⟨v6, v9, v10, v11, v12, v13, rfl, H⟩ hLi hd K0 hK
    obtain rfl := H.f4 (hd ⟨4, .data⟩ (by simp) rfl)
    obtain ⟨g, Y, rfl, h2, h3, h4, _⟩ := H.f5 (hd ⟨5, .data⟩ (by simp) rfl)
    refine step_st1 rfl 110 (.tmp 6) (.tmp 13) rfl (store_arr (cs := (rowL B).map uv) (i2l (rowL B) rfl) (uv_one _) h3 (by rw [h4]; rfl)) ?_
    generalize hV : World.setRow _ _ _ = W'
    exact hK.out _ _ ⟨_, v9, v10, v11, v12, _, rfl, ⟨H.b.trans (below_of_setRow hV h2 H.b.size), fun h => H.f0 h, fun h => H.f1 h, fun h => H.f2 h, fun h => H.f3 h, fun h => rfl, fun h => ⟨g, _, rfl, h2, heap_of_setRow hV h3, rfl, fun _ => rfl⟩, fun _ => hd ⟨5, .data⟩ (by simp) rfl⟩⟩
  · rintro L a' W hL ⟨v6, v9, v10, v11, v12, v13, rfl, H⟩
    obtain ⟨g, Y, rfl, hg0, hgY, hY2, hYR⟩ := H.f5 (hL 5)
    obtain rfl := hYR (hL 6)
    have N0 : Hid (W.heap[q]? = some (.cells (a.map bv).toArray 23 (0, 0))) := (H.b.block _ (lt_of_heap G.out.1)).trans G.out.1
    have N2 : Hid (W.heap[q + 2]? = some (.cells Z.toArray 23 (0, 0))) := (H.b.block _ (lt_of_heap G.out.2.2.1)).trans G.out.2.2.1
    have N3 : Hid (W.heap[q + 3]? = some (.cells ((rowL 0).map uv).toArray 110 (0, 0))) := by show _ = _; rw [HZ0.out]; exact (H.b.block _ (lt_of_heap G.out.2.2.2.1)).trans G.out.2.2.2.1
    have NG := Lib.hid hgY
    have NB : Hid (Below w.heap.size w W) := by show Below _ _ _; rw [HQ.out]; exact G.out.2.2.2.2.trans (H.b.mono (by rw [← HQ.out]; exact G.out.2.2.2.2.size))
    have hgq : Hid (q + 3 < g) := Nat.lt_of_lt_of_le GS.out hg0
    clear H hL hYR hgY hg0 hY2 G GS HG1 HZ0 hz sl0 sl1 hbd HHI HLO
    obtain ⟨A, HAN⟩ : ∃ A, Hid (A = bigN a) := ⟨_, rfl⟩
    simp only [mkM]
    go_wp2_with fail
    go_loopw [14] (fun vi wr => ∃ (i : Nat), i ≤ 128 ∧ vi = .int .i64 (i : Int) ∧ Hid (Below w.heap.size w wr) ∧ Hid (wr.heap[q]? = some (.cells (a.map bv).toArray 23 (0, 0))) ∧ Hid (wr.heap[q + 2]? = some (.cells Z.toArray 23 (0, 0))) ∧
      Hid (wr.heap[q + 3]? = some (.cells ((rowL (actN A B i)).map uv).toArray 110 (0, 0))) ∧ Hid (wr.heap[g]? = some (.cells ((rowL (upN B i)).map uv).toArray 110 (0, 0)))) (fun i _ => 128 - (intOf i).toNat)
    case atStart => exact ⟨0, by omega, rfl, NB, N0, N2, N3, NG⟩
    case round =>
      clear NB N0 N2 N3 NG
      obtain ⟨i, hi, rfl, HB, H0, H2, H3, HG⟩ := hrel
      by_cases hlt : i < 128
      · have e1 : (i : Int) < 128 := by omega
        obtain ⟨x, k, y, b0, m, c, hx, hk, hk7, hy, hb0, hb2, hm, hc, hmask⟩ := mul_cases a HA.out B i hlt hBlt.out
        obtain ⟨j, hj⟩ : ∃ j, j = i / 8 := ⟨_, rfl⟩
        have c0 : wr.cell? ⟨q, j, none⟩ = some (.int .u8 (x.toNat : Int)) := by
          rw [cell_of_heap H0.out, List.getElem?_map, ← hx, hj]
          simp [List.getD, HA.out, show i / 8 < 16 by omega, bv]
        have hj16 : (j : Int) < 16 := by omega
        have d1 : (i : Int) / 8 = (j : Int) := by omega
        have d2 : 7 - (i : Int) % 8 = (k : Int) := by omega
        have d3 : IntKind.u64.wrap (b0 : Int) = (b0 : Int) := by rw [IntKind.wrap_u64]; omega
        clear hx hk hj
        go_upto_region 7 with (fail)
        obtain ⟨sm, hsm⟩ : ∃ z, z = actN A B i := ⟨_, rfl⟩
        obtain ⟨pt, hpt⟩ : ∃ z, z = upN B i := ⟨_, rfl⟩
        have hsl : sm < 2 ^ 128 := by rw [hsm]; exact actN_lt _ _ _ hBlt.out
        have hpl : pt < 2 ^ 128 := by rw [hpt]; exact upN_lt _ _ hBlt.out
        have HS' : Hid (rowL (actN A B (i + 1)) = rowL (sm ^^^ sel c pt)) := by show _ = _; rw [hsm, hpt, ← hc, HAN.out]; rfl
        have HP' : Hid (rowL (upN B (i + 1)) = rowL (upV pt)) := by show _ = _; rw [hpt]; rfl
        rw [← hsm] at H3
        rw [← hpt] at HG
        have x0 := sum_hi sm pt c hsl hpl
        have x1 := sum_lo sm pt c
        have t0 := hmask (hiV pt) (hiV_lt pt hpl)
        have t1 := hmask (loV pt) (loV_lt pt)
        have UP := Lib.hid (fun W => up_any pt W hpl)
        have HR' : Hid (rowL (sm ^^^ sel c pt) = [hiV (sm ^^^ sel c pt), loV (sm ^^^ sel c pt)]) := rfl
        have HRs : Hid (rowL sm = [hiV sm, loV sm]) := rfl
        have HRp : Hid (rowL pt = [hiV pt, loV pt]) := rfl
        have HUL : Hid ((rowL (upV pt)).length = 2) := rfl
        clear hsm hpt hsl hpl hmask hc hy hb0 hm d1 d2 d3
        generalize rowL (sm ^^^ sel c pt) = RS' at HR' HS'
        generalize hiV (sm ^^^ sel c pt) = r0 at x0 HR'
        generalize loV (sm ^^^ sel c pt) = r1 at x1 HR'
        generalize rowL sm = RS at HRs H3
        generalize rowL (upV pt) = RU at UP HUL HP'
        generalize rowL pt = RP at HRp HG UP
        generalize hiV sm = s0 at x0 HRs
        generalize loV sm = s1 at x1 HRs
        generalize hiV pt = p0 at x0 t0 HRp
        generalize loV pt = p1 at x1 t1 HRp
        generalize sel c p0 = y0 at x0 t0
        generalize sel c p1 = y1 at x1 t1
        obtain rfl := HRs.out
        obtain rfl := HRp.out
        obtain rfl := HR'.out
        have k0 : wr.cell? ⟨q + 3, 0, none⟩ = some (.int .u64 (s0 : Int)) := ucell H3.out 0 (by simp)
        have k1 : wr.cell? ⟨g, 0, none⟩ = some (.int .u64 (p0 : Int)) := ucell HG.out 0 (by simp)
        have fz := frozen_of_heap H3.out 0
        have hne : g ≠ q + 3 := by have := hgq.out; omega
        go_upto_region 8 with (fail)
        generalize hV : World.setCell _ _ _ = W1
        obtain ⟨m1, m2, m3⟩ := ust_row (B := w.heap.size) hV (by have := HQ.out; omega) H3.out
        have M1 : Hid (W1.heap[q + 3]? = some (.cells (([r0, s1] : List Nat).map uv).toArray 110 (0, 0))) := m1
        have MG : Hid (W1.heap[g]? = _) := (m3 g hne).trans HG.out
        have M0 : Hid (W1.heap[q]? = _) := (m3 q (by omega)).trans H0.out
        have M2 : Hid (W1.heap[q + 2]? = _) := (m3 (q + 2) (by omega)).trans H2.out
        have MB := Lib.hid (HB.out.trans m2)
        clear m1 m2 m3 hV k0 k1 fz H3 HG H0 H2 HB c0 x0 t0
        have k0 : W1.cell? ⟨q + 3, 1, none⟩ = some (.int .u64 (s1 : Int)) := ucell M1.out 1 (by simp)
        have k1 : W1.cell? ⟨g, 1, none⟩ = some (.int .u64 (p1 : Int)) := ucell MG.out 1 (by simp)
        have fz := frozen_of_heap M1.out 1
        go_upto_region 9 with (fail)
        generalize hV : World.setCell _ _ _ = W2
        obtain ⟨m1, m2, m3⟩ := ust_row (B := w.heap.size) hV (by have := HQ.out; omega) M1.out
        have N1 : Hid (W2.heap[q + 3]? = some (.cells (([r0, r1] : List Nat).map uv).toArray 110 (0, 0))) := m1
        have NG : Hid (W2.heap[g]? = _) := (m3 g hne).trans MG.out
        have N0 : Hid (W2.heap[q]? = _) := (m3 q (by omega)).trans M0.out
        have N2 : Hid (W2.heap[q + 2]? = _) := (m3 (q + 2) (by omega)).trans M2.out
        have NB := Lib.hid (MB.out.trans m2)
        clear m1 m2 m3 hV k0 k1 fz M1 MG M0 M2 MB x1 t1
        obtain ⟨RP, HRP⟩ : ∃ R, Hid ([p0, p1] = R) := ⟨_, rfl⟩
        have HRL : Hid (RP.length = 2) := by show _ = _; rw [← HRP.out]; rfl
        rw [HRP.out] at NG UP
        go_wp2_with (first
          | (refine wpList_ld rfl 110 (.tmp 6) rfl (load_arr arr2 rfl (i2l RP HRL.out) NG.out) ?_)
          | (refine (UP.out _).mono ?_
             rintro e W3 ⟨rfl, hb3⟩
             have KG : Hid (W3.heap[g]? = _) := (hb3.block _ (lt_of_heap NG.out)).trans NG.out
             have K1 : Hid (W3.heap[q + 3]? = _) := (hb3.block _ (lt_of_heap N1.out)).trans N1.out
             have K0 : Hid (W3.heap[q]? = _) := (hb3.block _ (lt_of_heap N0.out)).trans N0.out
             have K2 : Hid (W3.heap[q + 2]? = _) := (hb3.block _ (lt_of_heap N2.out)).trans N2.out
             have KB := Lib.hid (NB.out.step hb3)
             clear hb3)
          | (refine wpList_st rfl 110 (.tmp 6) (.tmp 46) rfl (store_arr (cs := RU.map uv) (i2l RU HUL.out) (uv_one _) KG.out (by rw [List.length_map, List.length_map, HRL.out, HUL.out])) ?_
             generalize hV : World.setRow _ _ _ = W4
             have J0 := Lib.hid (heap_of_setRow hV KG.out)
             have J1 := Lib.hid (heap_of_other hV (show q + 3 ≠ g from fun e => hne e.symm) K1.out)
             have J2 := Lib.hid (heap_of_other hV (show q ≠ g by have := hgq.out; omega) K0.out)
             have J3 := Lib.hid (heap_of_other hV (show q + 2 ≠ g by have := hgq.out; omega) K2.out)
             have JB := Lib.hid (KB.out.trans (below_of_setRow hV (by have := hgq.out; have := HQ.out; omega) KB.out.size))
             clear hV))
        go_roundw
        case rel => exact ⟨i + 1, by omega, by go_num, JB, J2, J3, by rw [HS'.out]; exact J1, by rw [HP'.out]; exact J0⟩
        case measure => simp [intOf]; omega
      · have H3' : Hid (wr.heap[q + 3]? = some (.cells ((rowL (mulV A B)).map uv).toArray 110 (0, 0))) := by have := H3.out; rw [show i = 128 by omega] at this; exact this
        have hml := Lib.hid (mulV_lt A B hBlt.out)
        have HML : Hid (gmulL a b = blkL (mulV A B)) := by show _ = _; rw [gmulL, HAN.out, HBN.out]
        generalize mulV A B = M at H3' hml HML
        have FL := Lib.hid (fun W => gflat_any M W hml.out)
        have HLB := Lib.hid (blkL_len M)
        generalize blkL M = ML at FL HLB HML
        have HRL := Lib.hid (rowL_len M)
        generalize rowL M = RM at H3' FL HRL
        have e1 : ¬ ((i : Int) < 128) := by omega
        clear H3 HG
        go_wp2_with (first
          | (refine wpList_ld rfl 110 (.tmp 5) rfl (load_arr arr2 rfl (i2l RM HRL.out) H3'.out) ?_)
          | (refine (FL.out _).mono ?_
             rintro e W3 ⟨rfl, hb3⟩
             have K2 : Hid (W3.heap[q + 2]? = _) := (hb3.block _ (lt_of_heap H2.out)).trans H2.out
             have KB := Lib.hid (HB.out.step hb3)
             clear hb3)
          | (refine wpList_st rfl 23 (.tmp 4) (.tmp 49) rfl (store_arr (cs := ML.map bv) (by rw [List.length_map, HLB.out]; exact i16B) (bv_one _) K2.out (by rw [List.length_map, HLB.out]; exact hlz.out)) ?_
             generalize hV : World.setRow _ _ _ = W4
             have hres := heap_of_setRow hV K2.out
             have JB := Lib.hid (KB.out.trans (below_of_setRow hV (by have := HQ.out; omega) KB.out.size))
             clear hV))
        exact bodyPost_ret (results_cell_row (P := Try.prog) rfl _ _ (q + 2) 23 (ML.map bv).toArray (0, 0) _ rfl hres arr16B rfl (by rw [List.size_toArray, List.length_map, HLB.out]; exact i16B)) rfl ⟨by rw [HML.out], JB.out⟩
end Go.Proofs.Ytjmpbcfbfbjenaa

/- Layer 6: Pad, the law's example, exclusive or of blocks, powers of x. -/
namespace Go.Proofs.Ytjmpbcfbfbjenaa
open Go.RowKit
set_option maxRecDepth 100000
set_option linter.unusedVariables false
set_option linter.unusedSimpArgs false
/-- how many noughts make n bytes whole blocks -/
def padN (n : Nat) : Nat := (16 - n % 16) % 16
theorem gpad_any (n : Nat) (w : World) (hn : n ≤ 9223372036854775807) : Calls Try.prog 84 #[.int .i64 (n : Int)] w fun e w' => e = .returned (.int .i64 (padN n : Int)) ∧ w = w' := by
  by_cases h : n < 1
  · have h0 : n = 0 := by omega
    subst h0
    go_enter Try.func84, Try.ntmps84
    go_wp2
    go_ret
    exact ⟨rfl, rfl⟩
  · have q1 : ¬ ((n : Int) < 1) := by omega
    have hp : (16 - (n : Int) % 16) % 16 = ((padN n : Nat) : Int) := by unfold padN; omega
    have HP := Lib.hid hp
    clear hp
    go_enter Try.func84, Try.ntmps84
    go_wp2
    go_ret
    exact ⟨ret_int (by have := HP.out; omega), rfl⟩
theorem gpad_neg (n : Int) (w : World) (hn : n ≤ 0) : Calls Try.prog 84 #[.int .i64 n] w fun e w' => e = .returned (.int .i64 0) ∧ w = w' := by
  have q1 : n < 1 := by omega
  go_enter Try.func84, Try.ntmps84
  go_wp2
  go_ret
  exact ⟨rfl, rfl⟩
def oneB : List UInt8 := [128, 0, 0, 0, 0, 0, 0, 0, 0, 0, 0, 0, 0, 0, 0, 0]
def exB : List UInt8 := [1, 2, 3, 0, 0, 0, 0, 0, 0, 0, 0, 0, 0, 0, 0, 0]
def zerB : List UInt8 := [0, 0, 0, 0, 0, 0, 0, 0, 0, 0, 0, 0, 0, 0, 0, 0]
theorem big_one : bigN oneB = oneV := by decide
theorem big_zer : bigN zerB = 0 := by decide
theorem gmul_one (a : List UInt8) (h : a.length = 16) : gmulL a oneB = a := by
  rw [gmulL, big_one, mulV_one _ (big16_lt a h), blk_big a h]
theorem gmul_zero (a : List UInt8) : gmulL a zerB = zerB := by
  rw [gmulL, big_zer, mulV_zero]; decide
theorem gmul_comm (a b : List UInt8) (ha : a.length = 16) (hb : b.length = 16) : gmulL a b = gmulL b a := by
  rw [gmulL, gmulL, mulV_comm _ _ (big16_lt a ha) (big16_lt b hb)]
theorem big_gmul (a b : List UInt8) (hb : b.length = 16) : bigN (gmulL a b) = mulV (bigN a) (bigN b) := bigN_blk _ (mulV_lt _ _ (big16_lt b hb))
theorem gmul_assoc (a b c : List UInt8) (ha : a.length = 16) (hb : b.length = 16) (hc : c.length = 16) : gmulL (gmulL a b) c = gmulL a (gmulL b c) := by
  rw [gmulL, big_gmul a b hb, gmulL, big_gmul b c hc, mulV_assoc _ _ _ (big16_lt a ha) (big16_lt b hb) (big16_lt c hc)]
theorem blkL_inj (n m : Nat) (hn : n < 2 ^ 128) (hm : m < 2 ^ 128) (h : blkL n = blkL m) : n = m := by
  rw [← bigN_blk n hn, h, bigN_blk m hm]
theorem big_xor (a b : List UInt8) (ha : a.length = 16) (hb : b.length = 16) : bigN (xorL a b) = bigN a ^^^ bigN b := by
  have hx : (xorL a b).length = 16 := by rw [xorL_len, ha, hb]; rfl
  refine eq_of_bits _ _ (big16_lt _ hx) (Nat.xor_lt_two_pow (big16_lt a ha) (big16_lt b hb)) fun i hi => ?_
  have hk : i / 8 < 16 := by omega
  rw [bitV_xor, bit_byte _ hx i hi, bit_byte a ha i hi, bit_byte b hb i hi]
  have e : (xorL a b).getD (i / 8) 0 = a.getD (i / 8) 0 ^^^ b.getD (i / 8) 0 := by
    simp [xorL, List.getD, List.getElem?_zipWith, show i / 8 < a.length by omega, show i / 8 < b.length by omega]
  rw [e, UInt8.toNat_xor, Nat.testBit_xor]
theorem gmul_xor (a b c : List UInt8) (hb : b.length = 16) (hc : c.length = 16) : gmulL a (xorL b c) = xorL (gmulL a b) (gmulL a c) := by
  have hl : (xorL (gmulL a b) (gmulL a c)).length = 16 := by rw [xorL_len, gmulL_len, gmulL_len]; rfl
  rw [← blk_big _ hl, big_xor _ _ (gmulL_len _ _) (gmulL_len _ _), big_gmul a b hb, big_gmul a c hc, gmulL, big_xor b c hb hc, mulV_xor]
theorem gmul_inj (a b c : List UInt8) (ha : a.length = 16) (hb : b.length = 16) (hc : c.length = 16) (h0 : c ≠ zerB) (h : gmulL a c = gmulL b c) : a = b := by
  have hc0 : bigN c ≠ 0 := fun e => h0 (by rw [← blk_big c hc, e]; decide)
  have := mulV_inj _ _ _ (big16_lt a ha) (big16_lt b hb) (big16_lt c hc) hc0 (blkL_inj _ _ (mulV_lt _ _ (big16_lt c hc)) (mulV_lt _ _ (big16_lt c hc)) h)
  rw [← blk_big a ha, this, blk_big b hb]
theorem i16l (l : List UInt8) (h : l.length = 16) : (Try.prog.info? 23).map (·.size) = some (l.map bv).length := by rw [List.length_map, h]; exact i16B
def bothN (a b : List UInt8) (i : Nat) : List UInt8 := (xorL a b).take i ++ a.drop i
theorem bothN_len (a b : List UInt8) (i : Nat) (ha : a.length = 16) (hb : b.length = 16) (hi : i ≤ 16) : (bothN a b i).length = 16 := by simp [bothN, xorL_len, ha, hb]; omega
theorem bothN_get (a b : List UInt8) (i : Nat) (ha : a.length = 16) (hb : b.length = 16) (hi : i < 16) : (bothN a b i).getD i 0 = a.getD i 0 := by
  have hl : ((xorL a b).take i).length = i := by simp [xorL_len, ha, hb]; omega
  simp only [bothN, List.getD]
  rw [List.getElem?_append_right (by omega), hl]; simp
theorem bothN_step (a b : List UInt8) (i : Nat) (ha : a.length = 16) (hb : b.length = 16) (hi : i < 16) : (bothN a b i).set i (a.getD i 0 ^^^ b.getD i 0) = bothN a b (i + 1) := by
  have hx : i < (xorL a b).length := by rw [xorL_len, ha, hb]; exact hi
  have hl : ((xorL a b).take i).length = i := by rw [List.length_take]; omega
  unfold bothN
  rw [List.set_append_right _ _ (by omega), hl, Nat.sub_self, List.drop_eq_getElem_cons (show i < a.length by omega), List.set_cons_zero, List.take_succ_eq_append_getElem hx, List.append_assoc]
  congr 1
  simp [xorL, List.getD, ha, hb, hi]
end Go.Proofs.Ytjmpbcfbfbjenaa

/- Package ghash: Sum, Lengths. -/
namespace Go.Proofs.Ytjmpbcfbfbjenaa
open Go.RowKit
set_option maxRecDepth 100000
set_option linter.unusedVariables false
set_option linter.unusedSimpArgs false
/-- bytes as a row without end, noughts behind -/
def byteF (b : List UInt8) (i : Nat) : UInt8 := b.getD i 0
/-- a block, and 16 bytes put to it -/
def mixF (y : List UInt8) (f : Nat → UInt8) : List UInt8 := (List.range 16).map fun k => y.getD k 0 ^^^ f k
theorem mixF_len (y : List UInt8) (f : Nat → UInt8) : (mixF y f).length = 16 := by simp [mixF]
/-- the sum y, gone on by j blocks -/
def gsF (h y : List UInt8) (f : Nat → UInt8) : Nat → List UInt8
  | 0 => y
  | j + 1 => gmulL (mixF (gsF h y f j) fun k => f (16 * j + k)) h
theorem gsF_len (h y : List UInt8) (f : Nat → UInt8) (j : Nat) (hy : y.length = 16) : (gsF h y f j).length = 16 := by
  cases j with
  | zero => exact hy
  | succ j => exact gmulL_len _ _
def gsumL (h b : List UInt8) : List UInt8 := gsF h zerB (byteF b) ((b.length + 15) / 16)
theorem gsumL_len (h b : List UInt8) : (gsumL h b).length = 16 := gsF_len _ _ _ _ rfl
theorem xorL_take (a b : List UInt8) : xorL a b = List.zipWith (· ^^^ ·) a b := rfl
theorem mix_splice (S X bs : List UInt8) (j : Nat) (hS : S.length = 16) (hX : X = bs.drop (16 * j)) : splice (S.map bv) 0 ((xorL S X).map bv) = (mixF S fun k => byteF bs (16 * j + k)).map bv := by
  unfold splice
  rw [List.take_zero, List.nil_append, Nat.zero_add, ← List.map_drop, ← List.map_append]
  congr 1
  have hl : (xorL S X).length = min 16 X.length := by rw [xorL_len, hS]
  apply List.ext_getElem
  · rw [mixF_len, List.length_append, List.length_drop, List.length_map, hS, hl]; omega
  · intro i h1 h2
    rw [mixF_len] at h2
    have hf : byteF bs (16 * j + i) = X.getD i 0 := by rw [hX, byteF]; simp [List.getD, List.getElem?_drop]
    have hr : (mixF S fun k => byteF bs (16 * j + k))[i]'(by rw [mixF_len]; exact h2) = S.getD i 0 ^^^ X.getD i 0 := by
      rw [← hf]; simp [mixF]
    rw [hr]
    by_cases hi : i < (xorL S X).length
    · rw [List.getElem_append_left hi]
      rw [hl] at hi
      simp [xorL, List.getD, hS, h2, show i < X.length by omega]
    · rw [List.getElem_append_right (by omega), List.getElem_drop]
      have hx : X.getD i 0 = 0 := by
        rw [hl] at hi
        simp [List.getD, List.getElem?_eq_none (show X.length ≤ i by omega)]
      rw [hx, UInt8.xor_zero]
      simp only [List.length_map]
      rw [List.getD, List.getElem?_eq_getElem (by omega), Option.getD_some]
      congr 1; omega
theorem step_left {n j m t : Nat} (h : m = n - 16 * j ∧ j ≤ (n + 15) / 16) (ht : t = min 16 m) (h2 : t ≤ m ∧ t ≤ 16 ∧ 0 < t ∧ 0 < m) : Hid (m - t = n - 16 * (j + 1) ∧ j + 1 ≤ (n + 15) / 16) := by
  show _ ∧ _; omega
theorem step_drop {w : World} {A : Option Addr} {c n j m t : Nat} {bs : List UInt8} (h : Sl w A c (bs.drop (16 * j + t))) (ht : t = min 16 m) (hl : bs.length = n) (hj : m = n - 16 * j ∧ j ≤ (n + 15) / 16) : Hid (Sl w A c (bs.drop (16 * (j + 1)))) := by
  show Sl _ _ _ _
  by_cases h16 : 16 ≤ m
  · rw [show 16 * (j + 1) = 16 * j + t by omega]; exact h
  · rw [List.drop_eq_nil_of_le (by omega)] at h ⊢; exact h
theorem hid_mp {J J' : Act → World → Prop} (h : Hid (J = J')) {a : Act} {w : World} (hh : J' a w) : J a w := by rw [h.out]; exact hh
/-- a label in a scope, behind code of which none jumps, to which its own code jumps back -/
theorem wp_scope_label1 {P : Program} {a : Act} {w : World} {Q : Exit → Act → World → Prop} {ahead rest : Code} (l : Nat) (J : Act → World → Prop) (μ : Act → World → Nat) (hf : findLabel (ahead.seq ((Code.label l).seq rest)) l = some (Code.skip.seq rest)) (h0 : ahead.wp P (fun e a w => e = .normal ∧ J a w) a w)
    (pass : ∀ a w, J a w → rest.wp P (Exit.jump l (fun a' w' => J a' w' ∧ μ a' w' < μ a w) Q) a w) : (Code.scope (ahead.seq ((Code.label l).seq rest))).wp P Q a w := by
  refine wp_scope_jumps l J μ hf (wp_seq (Code.wp_mono ?_ h0)) (fun a w h => wp_seq (wp_skip (pass a w h)))
  rintro e a w ⟨rfl, hJ⟩
  refine wp_seq (wp_label ?_)
  refine Code.wp_mono ?_ (pass a w hJ)
  intro e a w h
  cases e <;> first | exact h | exact ⟨h.1, h.2.1⟩
set_option maxHeartbeats 4000000 in
theorem gsum_any (h : List UInt8) (A : Option Addr) (n c : Nat) (bs : List UInt8) (w : World) (hh : h.length = 16) (hl : bs.length = n) (hn : n ≤ 2147483647) (hS : Sl w A c bs) :
    Calls Try.prog 85 #[.agg (h.map bv).toArray, .slice A n c] w fun e w' => e = .returned (.agg ((gsumL h bs).map bv).toArray) ∧ Below w.heap.size w w' := by
  have hz16 : ∀ W, (zeroValue 23).run Try.prog W = .ok (.agg (zerB.map bv).toArray) W := fun W => by kernel_rfl
  have HH := Lib.hid hh; have HL := Lib.hid hl; have HS := Lib.hid hS
  have HZL : Hid (zerB.length = 16) := rfl
  have GSL : Hid (∀ j, (gsF h zerB (byteF bs) j).length = 16) := fun j => gsF_len _ _ _ _ rfl
  have GS0 : Hid (gsF h zerB (byteF bs) 0 = zerB) := rfl
  have GSS : Hid (∀ j, gmulL (mixF (gsF h zerB (byteF bs) j) fun k => byteF bs (16 * j + k)) h = gsF h zerB (byteF bs) (j + 1)) := fun j => rfl
  have GSE : Hid (gsumL h bs = gsF h zerB (byteF bs) ((n + 15) / 16)) := by show _ = _; rw [gsumL, hl]
  clear hh hl hS
  obtain ⟨q, HQ⟩ : ∃ q, Hid (w.heap.size = q) := ⟨_, rfl⟩
  generalize gsF h zerB (byteF bs) = GS at GSL GS0 GSS GSE
  generalize zerB = Z at hz16 HZL GS0
  go_enter Try.func85, Try.ntmps85
  go_wp2
  have G := heap3 w (.cells (h.map bv).toArray 23) (.cells (Z.map bv).toArray 23) (.cells (Z.map bv).toArray 23)
  obtain ⟨J, HJ0⟩ : ∃ J : Act → World → Prop, Hid (J = fun a' w' => ∃ (j : Nat) (A' : Option Addr) (m c' : Nat) (u6 u7 u8 u9 u10 u11 u12 u13 u14 u15 u16 u17 u18 u19 u20 u21 : Value),
      a' = { tmps := #[.agg (h.map bv).toArray, .slice A' m c', .pointer (some ⟨w.heap.size, 0, none⟩), undef, .pointer (some ⟨w.heap.size + 1, 0, none⟩), .pointer (some ⟨w.heap.size + 2, 0, none⟩), u6, u7, u8, u9, u10, u11, u12, u13, u14, u15, u16, u17, u18, u19, u20, u21], defers := [] } ∧
      Hid (m = n - 16 * j ∧ j ≤ (n + 15) / 16) ∧ Hid (Sl w A' c' (bs.drop (16 * j))) ∧ Hid (Below w.heap.size w w') ∧ Hid (w'.heap[w.heap.size]? = some (.cells (h.map bv).toArray 23 (0, 0))) ∧
      Hid (w'.heap[w.heap.size + 1]? = some (.cells (Z.map bv).toArray 23 (0, 0))) ∧ Hid (w'.heap[w.heap.size + 2]? = some (.cells ((GS j).map bv).toArray 23 (0, 0)))) := ⟨_, rfl⟩
  refine wp_scope_label1 0 J (fun a' _ => (sliceLen (a'.tmps.getD 1 undef))) rfl ?first ?pass
  case first =>
    go_wp2
    rw [HJ0.out]
    refine ⟨0, A, n, c, _, _, _, _, _, _, _, _, _, _, _, _, _, _, _, _, rfl, ?_, HS, ?_, ?_, ?_, ?_⟩
    · show _ ∧ _; omega
    · exact G.2.2.2
    · exact G.1
    · exact G.2.1
    · show _ = _; rw [GS0.out]; exact G.2.2.1
  case pass =>
    clear G
    intro a' w' hJ'
    rw [HJ0.out] at hJ'
    obtain ⟨j, A', m, c', u6, u7, u8, u9, u10, u11, u12, u13, u14, u15, u16, u17, u18, u19, u20, u21, rfl, HJ, HA, HB, H0, H1, H2⟩ := hJ'
    rw [HQ.out] at H0 H1 H2 ⊢
    have hdl : (bs.drop (16 * j)).length = m := by have h1 := HL.out; have h2 := HJ.out; rw [List.length_drop]; omega
    have HM31 : Hid (m ≤ 2147483647) := by have h2 := HJ.out; show _ ≤ _; omega
    by_cases hm : 0 < m
    · have e1 : (0 : Int) < (m : Int) := by omega
      obtain ⟨t, ht⟩ : ∃ t, t = min 16 m := ⟨_, rfl⟩
      have sl := arr_all arr16B s8 ⟨q + 2, 0, none⟩
      have HT := Lib.hid ht
      have ht16 : Hid (t ≤ m ∧ t ≤ 16 ∧ 0 < t ∧ 0 < m) := by show _ ∧ _ ∧ _ ∧ _; omega
      have hcut := cut_from uT s8 A' m c' .i64 (t : Int) (by omega) (by omega)
      rw [Int.toNat_natCast] at hcut
      obtain ⟨X, hX⟩ : ∃ X, X = bs.drop (16 * j) := ⟨_, rfl⟩
      have HSP := Lib.hid (mix_splice (GS j) X bs j (GSL.out j) hX)
      have HXL : Hid (X.length = m) := by show _ = _; rw [hX]; exact hdl
      have HXS : Hid (Sl w A' c' X) := by show Sl _ _ _ _; rw [hX]; exact HA.out
      have HMX := Lib.hid (mixF_len (GS j) fun k => byteF bs (16 * j + k))
      have HGS := Lib.hid (GSS.out j)
      obtain ⟨M, HM⟩ : ∃ M, Hid ((mixF (GS j) fun k => byteF bs (16 * j + k)) = M) := ⟨_, rfl⟩
      rw [HM.out] at HSP HMX HGS
      have HSL := Lib.hid (GSL.out j)
      have HSL' := Lib.hid (GSL.out (j + 1))
      clear HM hX hdl ht
      have HX : Hid (AnyR w'.drew w'.drew) := trivial
      go_wp2_with fail
      have N0 : Hid (w'.drew.heap[q]? = _) := H0.out
      have N1 : Hid (w'.drew.heap[q + 1]? = _) := H1.out
      have N2 : Hid (w'.drew.heap[q + 2]? = _) := H2.out
      have NB : Hid (Below w.heap.size w w'.drew) := HB.out.drew
      refine regS_start (AnyR) (by kernel_rfl) ?_
      try simp only [Act.put, List.setIfInBounds_toArray, List.set_cons_zero, List.set_cons_succ]
      generalize w'.drew = W3 at N0 N1 N2 NB HX ⊢
      refine regS_take (v := ?_) 0 (some 10) rfl rfl (by kernel_rfl) (by kernel_rfl) (by kernel_rfl) (fun _ _ _ h => h) (by rfl) (fun W hW => ?_) ?_
      rotate_left
      · (go_simp; try rfl)
      simp only [Act.put, List.setIfInBounds_toArray, List.set_cons_zero, List.set_cons_succ]
      refine regS_take (v := ?_) 1 (some 11) rfl rfl (by kernel_rfl) (by kernel_rfl) (by kernel_rfl) (fun _ _ _ h => h) (by rfl) (fun W hW => ?_) ?_
      rotate_left
      · (go_simp; try rfl)
      simp only [Act.put, List.setIfInBounds_toArray, List.set_cons_zero, List.set_cons_succ]
      refine regS_take (v := ?_) 2 (some 12) rfl rfl (by kernel_rfl) (by kernel_rfl) (by kernel_rfl) (fun _ _ _ h => h) (by rfl) (fun W hW => ?_) ?_
      rotate_left
      · (go_simp; try rfl)
      simp only [Act.put, List.setIfInBounds_toArray, List.set_cons_zero, List.set_cons_succ]
      refine regS_eff 3 rfl (by kernel_rfl) (fun K hK => ?_)
      go_simp
      refine (xor_n (some ⟨q + 2, 0, none⟩) A' 16 m t 16 c' (GS j) X W3 HSL.out HXL.out HT.out.symm (sl_row HSL.out (by omega) N2.out) (HXS.out.below NB.out) (by omega) HM31.out).mono ?_
      rintro e w4 ⟨g3, hg3, rfl, hk3, hE0⟩
      have L0 := Lib.hid ((hE0.block _ (lt_of_heap N0.out)).trans N0.out)
      have L1 := Lib.hid ((hE0.block _ (lt_of_heap N1.out)).trans N1.out)
      have L2 := Lib.hid ((hE0.block _ (lt_of_heap N2.out)).trans N2.out)
      have LB := Lib.hid (NB.out.step hE0)
      have R3 := Lib.hid (row_of_heap hk3 (Nat.lt_succ_self g3))
      have hE : AnyR W3 w4 := trivial
      clear hE0 hk3 hg3
      refine hK.out _ _ hE ?_
      have HX := Lib.hid (Pre.trans HX.out hE)
      clear hE hK K
      try simp only [Act.put, List.setIfInBounds_toArray, List.set_cons_zero, List.set_cons_succ]
      refine regS_eff 4 rfl (by kernel_rfl) (fun K hK => ?_)
      obtain ⟨w5, hrun, hblk, _, hgr⟩ := copy_run uT s8 (sT := 26) 3 w4 (q + 2) 0 ((GS j).map bv) 23 L2.out (some ⟨q + 2, 0, none⟩) (some ⟨g3, 0, none⟩) 16 16 t t (g3 + 1) ((xorL (GS j) X).map bv) (by have h1 := HT.out; have h2 := ht16.out; simp only [List.length_map, xorL_len, HSL.out, HXL.out]; omega) (fun _ => rfl) R3.out (by have h1 := HT.out; simp only [List.length_map, xorL_len, HSL.out, HXL.out]; omega) (bv_one _)
      rw [HSP.out] at hblk
      rw [show (((xorL (GS j) X).map bv).length : Int) = (t : Int) from by have h1 := HT.out; simp only [List.length_map, xorL_len, HSL.out, HXL.out]; omega] at hrun
      have K2 := Lib.hid hblk
      have K0 : Hid (w5.heap[q]? = _) := (hgr.block _ (lt_of_heap L0.out) (by simp)).trans L0.out
      have K1 : Hid (w5.heap[q + 1]? = _) := (hgr.block _ (lt_of_heap L1.out) (by simp)).trans L1.out
      have KB := Lib.hid (LB.out.trans (grown_below hgr (by have := HQ.out; omega) LB.out.size))
      refine step_cpy rfl (.tmp 10) (.tmp 13) 26 26 rfl hrun ?_
      have hE : AnyR w4 w5 := trivial
      clear hrun hblk hgr
      refine hK.out _ _ hE ?_
      have HX := Lib.hid (Pre.trans HX.out hE)
      clear hE hK K
      try simp only [Act.put, List.setIfInBounds_toArray, List.set_cons_zero, List.set_cons_succ]
      refine regS_take (v := ?_) 5 (some 6) rfl rfl (by kernel_rfl) (by kernel_rfl) (by kernel_rfl) (fun _ _ _ h => h) (by rfl) (fun W hW => ?_) ?_
      rotate_left
      · (go_simp; try rfl)
      simp only [Act.put, List.setIfInBounds_toArray, List.set_cons_zero, List.set_cons_succ]
      refine regS_done (by kernel_rfl) ?_
      simp only [List.getElem_toArray, List.getElem_cons_succ, List.getElem_cons_zero, List.set_cons_zero, List.set_cons_succ]
      clear N0 N1 N2 NB
      have GM := Lib.hid (fun W => gmul_any M h W HMX.out HH.out)
      rw [HGS.out] at GM
      have N0 : Hid (w5.drew.heap[q]? = _) := K0.out
      have N1 : Hid (w5.drew.heap[q + 1]? = _) := K1.out
      have N2 : Hid (w5.drew.heap[q + 2]? = _) := K2.out
      have NB : Hid (Below w.heap.size w w5.drew) := KB.out.drew
      obtain ⟨Y, HYJ⟩ : ∃ Y, Hid (GS (j + 1) = Y) := ⟨_, rfl⟩
      rw [HYJ.out] at GM HSL'
      go_upto_region 4 with (fail)
      refine regS_start (AnyR) (by kernel_rfl) ?_
      try simp only [Act.put, List.setIfInBounds_toArray, List.set_cons_zero, List.set_cons_succ]
      generalize w5.drew = W6 at N0 N1 N2 NB ⊢
      have HX : Hid (AnyR W6 W6) := trivial
      refine regS_take (v := ?_) 3 (some 18) rfl rfl (by kernel_rfl) (by kernel_rfl) (by kernel_rfl) (fun _ _ _ h => h) (by rfl) (fun W hW => ?_) ?_
      rotate_left
      · (go_simp; try rfl)
      simp only [Act.put, List.setIfInBounds_toArray, List.set_cons_zero, List.set_cons_succ]
      refine regS_take (v := ?_) 4 (some 19) rfl rfl (by kernel_rfl) (by kernel_rfl) (by kernel_rfl) (fun _ _ _ h => h) (by rfl) (fun W hW => ?_) ?_
      rotate_left
      · (go_simp; try rfl)
      simp only [Act.put, List.setIfInBounds_toArray, List.set_cons_zero, List.set_cons_succ]
      refine regS_take (v := ?_) 5 (some 20) rfl rfl (by kernel_rfl) (by kernel_rfl) (by kernel_rfl) (fun _ _ _ h => h) (by rfl) (fun W hW => ?_) ?_
      rotate_left
      · (go_simp; try rfl)
      simp only [Act.put, List.setIfInBounds_toArray, List.set_cons_zero, List.set_cons_succ]
      refine regS_eff2 0 1 rfl rfl (by kernel_rfl) (fun K hK => ?_) (fun K hK => ?_)
      · skip
        refine step_ld rfl 23 (.tmp 5) rfl (load_arr arr16B rfl (i16l M HMX.out) N2.out) ?_
        have hE : AnyR W6 W6 := trivial
        refine hK.out _ _ hE ?_
        have HX := Lib.hid (Pre.trans HX.out hE)
        clear hE hK K
        try simp only [Act.put, List.setIfInBounds_toArray, List.set_cons_zero, List.set_cons_succ]
        refine regS_eff 1 rfl (by kernel_rfl) (fun K hK => ?_)
        refine step_ld rfl 23 (.tmp 2) rfl (load_arr arr16B rfl (i16l h HH.out) N0.out) ?_
        have hE : AnyR W6 W6 := trivial
        refine hK.out _ _ hE ?_
        have HX := Lib.hid (Pre.trans HX.out hE)
        clear hE hK K
        try simp only [Act.put, List.setIfInBounds_toArray, List.set_cons_zero, List.set_cons_succ]
        refine regS_eff 2 rfl (by kernel_rfl) (fun K hK => ?_)
        go_simp
        refine (GM.out _).mono ?_
        rintro e w7 ⟨rfl, hE0⟩
        have P0 := Lib.hid ((hE0.block _ (lt_of_heap N0.out)).trans N0.out)
        have P1 := Lib.hid ((hE0.block _ (lt_of_heap N1.out)).trans N1.out)
        have P2 := Lib.hid ((hE0.block _ (lt_of_heap N2.out)).trans N2.out)
        have PB := Lib.hid (NB.out.step hE0)
        have hE : AnyR W6 w7 := trivial
        clear hE0
        refine hK.out _ _ hE ?_
        have HX := Lib.hid (Pre.trans HX.out hE)
        clear hE hK K
        try simp only [Act.put, List.setIfInBounds_toArray, List.set_cons_zero, List.set_cons_succ]
        refine regS_eff 6 rfl (by kernel_rfl) (fun K hK => ?_)
        refine step_st1 rfl 23 (.tmp 5) (.tmp 17) rfl (store_arr (cs := Y.map bv) (i16l Y HSL'.out) (bv_one _) P2.out (by rw [List.length_map, List.length_map, HSL'.out, HMX.out])) ?_
        generalize hV : World.setRow _ _ _ = W8
        have Q2 := Lib.hid (heap_of_setRow hV P2.out)
        have Q1 := Lib.hid (heap_of_other hV (show q + 1 ≠ q + 2 by omega) P1.out)
        have Q0 := Lib.hid (heap_of_other hV (show q ≠ q + 2 by omega) P0.out)
        have QB := Lib.hid (PB.out.trans (below_of_setRow hV (by have := HQ.out; omega) PB.out.size))
        have hE : AnyR w7 W8 := trivial
        clear hV
        refine hK.out _ _ hE ?_
        have HX := Lib.hid (Pre.trans HX.out hE)
        clear hE hK K
        try simp only [Act.put, List.setIfInBounds_toArray, List.set_cons_zero, List.set_cons_succ]
        refine regS_take (v := ?_) 7 (some 1) rfl rfl (by kernel_rfl) (by kernel_rfl) (by kernel_rfl) (fun _ _ _ h => h) (by rfl) (fun W hW => ?_) ?_
        rotate_left
        · (go_simp; try rfl)
        simp only [Act.put, List.setIfInBounds_toArray, List.set_cons_zero, List.set_cons_succ]
        refine regS_done (by kernel_rfl) ?_
        go_wp2
        go_step3
        have hA := sl_cut HA.out (k := t) (by have h1 := HL.out; have h2 := HJ.out; have h3 := ht16.out; rw [List.length_drop]; omega)
        rw [List.drop_drop] at hA
        refine ⟨rfl, hid_mp HJ0 ⟨j + 1, cutS A' c' t, m - t, c' - t, _, _, _, _, _, _, _, _, _, _, _, _, _, _, _, _, by rw [HQ.out], ?_, ?_, QB, ?_, ?_, ?_⟩, ?_⟩
        · exact step_left HJ.out HT.out ht16.out
        · exact step_drop hA HT.out HL.out HJ.out
        · show _ = _; rw [HQ.out]; exact Q0.out
        · show _ = _; rw [HQ.out]; exact Q1.out
        · show _ = _; rw [HQ.out, HYJ.out]; exact Q2.out
        · exact Nat.sub_lt ht16.out.2.2.2 ht16.out.2.2.1
      · skip
        refine step_ld rfl 23 (.tmp 2) rfl (load_arr arr16B rfl (i16l h HH.out) N0.out) ?_
        have hE : AnyR W6 W6 := trivial
        refine hK.out _ _ hE ?_
        have HX := Lib.hid (Pre.trans HX.out hE)
        clear hE hK K
        try simp only [Act.put, List.setIfInBounds_toArray, List.set_cons_zero, List.set_cons_succ]
        refine regS_eff 0 rfl (by kernel_rfl) (fun K hK => ?_)
        refine step_ld rfl 23 (.tmp 5) rfl (load_arr arr16B rfl (i16l M HMX.out) N2.out) ?_
        have hE : AnyR W6 W6 := trivial
        refine hK.out _ _ hE ?_
        have HX := Lib.hid (Pre.trans HX.out hE)
        clear hE hK K
        try simp only [Act.put, List.setIfInBounds_toArray, List.set_cons_zero, List.set_cons_succ]
        refine regS_eff 2 rfl (by kernel_rfl) (fun K hK => ?_)
        go_simp
        refine (GM.out _).mono ?_
        rintro e w7 ⟨rfl, hE0⟩
        have P0 := Lib.hid ((hE0.block _ (lt_of_heap N0.out)).trans N0.out)
        have P1 := Lib.hid ((hE0.block _ (lt_of_heap N1.out)).trans N1.out)
        have P2 := Lib.hid ((hE0.block _ (lt_of_heap N2.out)).trans N2.out)
        have PB := Lib.hid (NB.out.step hE0)
        have hE : AnyR W6 w7 := trivial
        clear hE0
        refine hK.out _ _ hE ?_
        have HX := Lib.hid (Pre.trans HX.out hE)
        clear hE hK K
        try simp only [Act.put, List.setIfInBounds_toArray, List.set_cons_zero, List.set_cons_succ]
        refine regS_eff 6 rfl (by kernel_rfl) (fun K hK => ?_)
        refine step_st1 rfl 23 (.tmp 5) (.tmp 17) rfl (store_arr (cs := Y.map bv) (i16l Y HSL'.out) (bv_one _) P2.out (by rw [List.length_map, List.length_map, HSL'.out, HMX.out])) ?_
        generalize hV : World.setRow _ _ _ = W8
        have Q2 := Lib.hid (heap_of_setRow hV P2.out)
        have Q1 := Lib.hid (heap_of_other hV (show q + 1 ≠ q + 2 by omega) P1.out)
        have Q0 := Lib.hid (heap_of_other hV (show q ≠ q + 2 by omega) P0.out)
        have QB := Lib.hid (PB.out.trans (below_of_setRow hV (by have := HQ.out; omega) PB.out.size))
        have hE : AnyR w7 W8 := trivial
        clear hV
        refine hK.out _ _ hE ?_
        have HX := Lib.hid (Pre.trans HX.out hE)
        clear hE hK K
        try simp only [Act.put, List.setIfInBounds_toArray, List.set_cons_zero, List.set_cons_succ]
        refine regS_take (v := ?_) 7 (some 1) rfl rfl (by kernel_rfl) (by kernel_rfl) (by kernel_rfl) (fun _ _ _ h => h) (by rfl) (fun W hW => ?_) ?_
        rotate_left
        · (go_simp; try rfl)
        simp only [Act.put, List.setIfInBounds_toArray, List.set_cons_zero, List.set_cons_succ]
        refine regS_done (by kernel_rfl) ?_
        go_wp2
        go_step3
        have hA := sl_cut HA.out (k := t) (by have h1 := HL.out; have h2 := HJ.out; have h3 := ht16.out; rw [List.length_drop]; omega)
        rw [List.drop_drop] at hA
        refine ⟨rfl, hid_mp HJ0 ⟨j + 1, cutS A' c' t, m - t, c' - t, _, _, _, _, _, _, _, _, _, _, _, _, _, _, _, _, by rw [HQ.out], ?_, ?_, QB, ?_, ?_, ?_⟩, ?_⟩
        · exact step_left HJ.out HT.out ht16.out
        · exact step_drop hA HT.out HL.out HJ.out
        · show _ = _; rw [HQ.out]; exact Q0.out
        · show _ = _; rw [HQ.out]; exact Q1.out
        · show _ = _; rw [HQ.out, HYJ.out]; exact Q2.out
        · exact Nat.sub_lt ht16.out.2.2.2 ht16.out.2.2.1
    · have hj : (n + 15) / 16 = j := by have h2 := HJ.out; omega
      rw [hj] at GSE
      have hm0 : m = 0 := by omega
      have HY := Lib.hid (GSL.out j)
      generalize GS j = Y at GSE H2 HY
      have e1 : ¬ ((0 : Int) < (m : Int)) := by omega
      clear hj hdl
      go_wp2_with (first
        | (refine wpList_ld rfl 23 (.tmp 5) rfl (load_arr arr16B rfl (i16l Y HY.out) H2.out) ?_)
        | (refine wpList_st rfl 23 (.tmp 4) (.tmp 21) rfl (store_arr (cs := Y.map bv) (i16l Y HY.out) (bv_one _) H1.out (by rw [List.length_map, List.length_map, HY.out, HZL.out])) ?_
           generalize hV : World.setRow _ _ _ = W4
           have hres := heap_of_setRow hV H1.out
           have JB := Lib.hid (HB.out.trans (below_of_setRow hV (by have := HQ.out; omega) HB.out.size))
           clear hV))
      simp only [Exit.jump]
      exact bodyPost_ret (results_cell_row (P := Try.prog) rfl _ _ (q + 1) 23 (Y.map bv).toArray (0, 0) _ rfl hres arr16B rfl (by rw [List.size_toArray]; exact i16l Y HY.out)) rfl ⟨by rw [GSE.out], JB.out⟩
end Go.Proofs.Ytjmpbcfbfbjenaa

/- The walk of the law GhashPowers. -/
namespace Go.Proofs.Ytjmpbcfbfbjenaa
open Go.RowKit
set_option maxRecDepth 100000
set_option linter.unusedVariables false
set_option linter.unusedSimpArgs false
def powB (n : Nat) : List UInt8 := (List.replicate 16 (0 : UInt8)).set (n / 8) (UInt8.ofNat (128 / 2 ^ (n % 8)))
theorem powB_eq (n : Nat) (h : n < 128) : powB n = blkL (pw n) := by
  have : ∀ n : Fin 128, powB n.1 = blkL (pw n.1) := by decide +kernel
  exact this ⟨n, h⟩
theorem shr128 (k : Nat) (hk : k < 8) : (128 : Int) / 2 ^ k = ((UInt8.ofNat (128 / 2 ^ k)).toNat : Int) := by
  have : ∀ k : Fin 8, (128 : Int) / 2 ^ k.1 = ((UInt8.ofNat (128 / 2 ^ k.1)).toNat : Int) := by decide +kernel
  exact this ⟨k, hk⟩
theorem gmul_pow (n m : Nat) : gmulL (blkL (pw n)) (blkL (pw m)) = blkL (pw (n + m)) := by
  rw [gmulL, bigN_blk _ (pw_lt n), bigN_blk _ (pw_lt m), pw_mul]
end Go.Proofs.Ytjmpbcfbfbjenaa

/- The document's product of blocks (palfreyref06): the mathematics, and its at. -/
namespace Go.Proofs.Ytjmpbcfbfbjenaa
open Go.RowKit
set_option maxRecDepth 100000
set_option linter.unusedVariables false
set_option linter.unusedSimpArgs false
def ivG (n : Nat) : Value := .int .i64 (n : Int)
theorem icellG {w : World} {g : Nat} {l : List Nat} {t : TypeId} {fr : Nat × Nat} (h : w.heap[g]? = some (.cells (l.map ivG).toArray t fr)) (i : Nat) (hi : i < l.length) : w.cell? ⟨g, i, none⟩ = some (.int .i64 ((l.getD i 0 : Nat) : Int)) := by
  rw [cell_of_heap h, List.getElem?_map]
  simp [List.getD, hi, ivG]
theorem isetG {W : World} {g : Nat} {l : List Nat} {t : TypeId} (H : W.heap[g]? = some (.cells (l.map ivG).toArray t (0, 0))) (i v : Nat) : (W.setCell ⟨g, i, none⟩ (.int .i64 (v : Int))).heap[g]? = some (.cells ((l.set i v).map ivG).toArray t (0, 0)) := by
  have := heap_set H i (ivG v)
  rw [← List.map_set] at this
  exact this
/-- whether a number is odd -/
def oddB (x : Nat) : Bool := x % 2 == 1
theorem oddB_add (x t : Nat) (ht : t < 2) : oddB (x + t) = (oddB x ^^ oddB t) := by
  have h1 : x % 2 = 0 ∨ x % 2 = 1 := by omega
  have h2 : t = 0 ∨ t = 1 := by omega
  unfold oddB
  rcases h1 with h1 | h1 <;> rcases h2 with rfl | rfl <;> simp [h1, Nat.add_mod]
theorem oddB_yes {x : Nat} (h : x % 2 = 1) : oddB x = true := by unfold oddB; rw [h]; rfl
theorem oddB_no {x : Nat} (h : ¬ x % 2 = 1) : oddB x = false := by unfold oddB; rw [show x % 2 = 0 by omega]; rfl
/-- the sum of the powers of x below n at which p is odd -/
def evF (p : List Nat) : Nat → Nat
  | 0 => 0
  | n + 1 => evF p n ^^^ sel (oddB (p.getD n 0)) (pw n)
theorem getD_setG (p : List Nat) (k v n : Nat) (hk : k < p.length) : (p.set k v).getD n 0 = if k = n then v else p.getD n 0 := by
  rw [List.getD, List.getElem?_set]
  split
  · simp [hk]
  · rfl
theorem evF_above (p : List Nat) (k v n : Nat) (hk : k < p.length) (h : n ≤ k) : evF (p.set k v) n = evF p n := by
  induction n with
  | zero => rfl
  | succ n ih => rw [evF, evF, ih (by omega), getD_setG p k v n hk, if_neg (by omega)]
theorem evF_add (p : List Nat) (k t n : Nat) (hk : k < p.length) (ht : t < 2) (h : k < n) : evF (p.set k (p.getD k 0 + t)) n = evF p n ^^^ sel (oddB t) (pw k) := by
  induction n with
  | zero => omega
  | succ n ih =>
    rw [evF, evF, getD_setG p k _ n hk]
    by_cases e : k = n
    · subst e
      rw [if_pos rfl, evF_above p k _ k hk (Nat.le_refl _), oddB_add _ _ ht, sel_xor_left, Nat.xor_assoc]
    · rw [if_neg e, ih (by omega), Nat.xor_assoc, Nat.xor_assoc, Nat.xor_comm (sel (oddB t) (pw k))]
theorem evF_zero (n m : Nat) : evF (List.replicate m 0) n = 0 := by
  induction n with
  | zero => rfl
  | succ n ih =>
    have : (List.replicate m 0).getD n 0 = 0 := by rw [List.getD, List.getElem?_replicate]; split <;> rfl
    rw [evF, ih, this, show oddB 0 = false from rfl, sel_false]; rfl
/-- 256 numbers, none above b, that stand for v up to the n-th -/
structure PG (p : List Nat) (n v b : Nat) : Prop where
  len : p.length = 256
  bd : ∀ j, p.getD j 0 ≤ b
  ev : evF p n = v
theorem PG.mono {p : List Nat} {n v b b' : Nat} (h : PG p n v b) (hb : b ≤ b') : PG p n v b' := ⟨h.len, fun j => Nat.le_trans (h.bd j) hb, h.ev⟩
theorem PG.add {p : List Nat} {n v b : Nat} (h : PG p n v b) (k t : Nat) (hk : k < n) (hn : n ≤ 256) (ht : t < 2) : PG (p.set k (p.getD k 0 + t)) n (v ^^^ sel (oddB t) (pw k)) (b + 1) := by
  have hkl : k < p.length := by rw [h.len]; omega
  refine ⟨by rw [List.length_set]; exact h.len, fun j => ?_, by rw [evF_add p k t n hkl ht hk, h.ev]⟩
  rw [getD_setG p k _ j hkl]
  have h1 := h.bd j; have h2 := h.bd k
  split <;> omega
theorem PG.inc {p : List Nat} {n v b : Nat} (h : PG p n v b) (k : Nat) (hk : k < n) (hn : n ≤ 256) : PG (p.set k (p.getD k 0 + 1)) n (v ^^^ pw k) (b + 1) := h.add k 1 hk hn (by decide)
theorem PG.init : PG (List.replicate 256 0) 255 0 0 := ⟨List.length_replicate, fun j => by rw [List.getD, List.getElem?_replicate]; split <;> exact Nat.le_refl _, evF_zero _ _⟩
/-- the i-th bit of a block, as a number -/
def bitI (b : List UInt8) (i : Nat) : Nat := if bitV (bigN b) i then 1 else 0
theorem bitI_lt (b : List UInt8) (i : Nat) : bitI b i < 2 := by unfold bitI; split <;> decide
theorem bitI_odd (b : List UInt8) (i : Nat) : oddB (bitI b i) = bitV (bigN b) i := by unfold bitI; cases bitV (bigN b) i <;> rfl
theorem bitI_zero (b : List UInt8) (i : Nat) : bitI b i = 0 ↔ bitV (bigN b) i = false := by unfold bitI; cases bitV (bigN b) i <;> simp
/-- a row's step: the k-th power put to what there is -/
theorem PG.row {p : List Nat} {i k e c B : Nat} (b : List UInt8) (h : PG p 255 (e ^^^ actN (bigN b) (pw i) k) c) (hi : i < 128) (hk : k < 128) : PG (p.set (i + k) (p.getD (i + k) 0 + bitI b k)) 255 (e ^^^ actN (bigN b) (pw i) (k + 1)) (c + 1) := by
  have := h.add (i + k) (bitI b k) (by omega) (by decide) (bitI_lt _ _)
  rw [bitI_odd, pw_add, Nat.xor_assoc] at this
  exact this
theorem row_end (a b : List UInt8) (i : Nat) (hb : b.length = 16) (h : bitI a i ≠ 0) : actN (bigN a) (bigN b) i ^^^ actN (bigN b) (pw i) 128 = actN (bigN a) (bigN b) (i + 1) := by
  have h1 : bitV (bigN a) i = true := by
    cases h2 : bitV (bigN a) i
    · exact absurd ((bitI_zero a i).2 h2) h
    · rfl
  rw [show actN (bigN a) (bigN b) (i + 1) = actN (bigN a) (bigN b) i ^^^ sel (bitV (bigN a) i) (upN (bigN b) i) from rfl, h1, sel_true]
  congr 1
  exact mulV_pw _ _ (big16_lt b hb)
theorem row_none (a b : List UInt8) (i : Nat) (h : bitI a i = 0) : actN (bigN a) (bigN b) i = actN (bigN a) (bigN b) (i + 1) := by
  rw [actN, (bitI_zero a i).1 h, sel_false, Nat.xor_zero]
/-- what is above, taken in -/
theorem PG.fold {p : List Nat} {i v b : Nat} (h : PG p (i + 1) v b) (h1 : 128 ≤ i) (h2 : i < 255) (ho : p.getD i 0 % 2 = 1) (p1 p2 p3 p4 : List Nat)
    (e1 : p1 = p.set (i - 128) (p.getD (i - 128) 0 + 1)) (e2 : p2 = p1.set (i - 127) (p1.getD (i - 127) 0 + 1)) (e3 : p3 = p2.set (i - 126) (p2.getD (i - 126) 0 + 1)) (e4 : p4 = p3.set (i - 121) (p3.getD (i - 121) 0 + 1)) : PG p4 i v (b + 4) := by
  have h0 : PG p i (evF p i) b := ⟨h.len, h.bd, rfl⟩
  have k4 := (((h0.inc (i - 128) (by omega) (by omega)).inc (i - 127) (by omega) (by omega)).inc (i - 126) (by omega) (by omega)).inc (i - 121) (by omega) (by omega)
  rw [← e1, ← e2, ← e3, ← e4] at k4
  refine ⟨k4.len, k4.bd, k4.ev.trans ?_⟩
  have hv := h.ev
  rw [evF, oddB_yes ho, sel_true, pw_over i h1] at hv
  rw [← hv]
  simp only [Nat.xor_assoc]
theorem PG.skip {p : List Nat} {i v b : Nat} (h : PG p (i + 1) v b) (ho : ¬ p.getD i 0 % 2 = 1) : PG p i v b := by
  refine ⟨h.len, h.bd, ?_⟩
  have hv := h.ev
  rw [evF, oddB_no ho, sel_false, Nat.xor_zero] at hv
  exact hv
theorem evF_lt (p : List Nat) (n : Nat) : evF p n < 2 ^ 128 := by
  induction n with
  | zero => rw [evF]; decide
  | succ n ih => exact Nat.xor_lt_two_pow ih (sel_lt _ (pw_lt _))
theorem evF_bit (p : List Nat) (n j : Nat) (hn : n ≤ 128) (hj : j < 128) (h : n ≤ j) : bitV (evF p n) j = false := by
  induction n with
  | zero => simp [evF, bitV]
  | succ n ih => rw [evF, bitV_xor, ih (by omega) (by omega), bitV_sel, bitV_pw n j (by omega) hj]; simp; omega
theorem or_bitG (x : UInt8) (k : Nat) (hk : k ≤ 7) (j : Nat) (hj : j ≤ 7) : (x ||| UInt8.ofNat (2 ^ k)).toNat.testBit j = (x.toNat.testBit j || decide (k = j)) := by
  have h2 : (UInt8.ofNat (2 ^ k)).toNat = 2 ^ k := by
    rw [UInt8.toNat_ofNat']; exact Nat.mod_eq_of_lt (Nat.pow_lt_pow_right (by decide) (by omega))
  rw [UInt8.toNat_or, Nat.testBit_or, h2, Nat.testBit_two_pow]
theorem blk_or (p : List Nat) (i : Nat) (hi : i < 128) (ho : p.getD i 0 % 2 = 1) : (blkL (evF p i)).set (i / 8) ((blkL (evF p i)).getD (i / 8) 0 ||| UInt8.ofNat (2 ^ (7 - i % 8))) = blkL (evF p (i + 1)) := by
  have hl : ((blkL (evF p i)).set (i / 8) ((blkL (evF p i)).getD (i / 8) 0 ||| UInt8.ofNat (2 ^ (7 - i % 8)))).length = 16 := by rw [List.length_set, blkL_len]
  rw [← blk_big _ hl]
  congr 1
  refine eq_of_bits _ _ (big16_lt _ hl) (evF_lt _ _) fun j hj => ?_
  rw [bit_byte _ hl j hj, evF, oddB_yes ho, sel_true, bitV_xor, bitV_pw i j hi hj]
  have hb := bit_byte (blkL (evF p i)) (blkL_len _) j hj
  rw [bigN_blk _ (evF_lt _ _)] at hb
  have hi8 : i / 8 < (blkL (evF p i)).length := by rw [blkL_len]; omega
  have hg : ((blkL (evF p i)).set (i / 8) ((blkL (evF p i)).getD (i / 8) 0 ||| UInt8.ofNat (2 ^ (7 - i % 8)))).getD (j / 8) 0 = if i / 8 = j / 8 then (blkL (evF p i)).getD (i / 8) 0 ||| UInt8.ofNat (2 ^ (7 - i % 8)) else (blkL (evF p i)).getD (j / 8) 0 := by
    rw [List.getD, List.getElem?_set]
    split
    · simp [hi8]
    · rfl
  rw [hg, hb]
  by_cases e : i / 8 = j / 8
  · rw [if_pos e, or_bitG _ _ (by omega) _ (by omega), e]
    by_cases e2 : i = j
    · subst e2
      have h0 := evF_bit p i i (by omega) hi (Nat.le_refl _)
      rw [hb] at h0
      rw [h0]; simp
    · rw [decide_eq_false e2, decide_eq_false (by omega)]; simp
  · rw [if_neg e, decide_eq_false (by intro h; exact e (by rw [h]))]; simp
theorem blk_skip (p : List Nat) (i : Nat) (ho : ¬ p.getD i 0 % 2 = 1) : blkL (evF p i) = blkL (evF p (i + 1)) := by
  rw [evF, oddB_no ho, sel_false, Nat.xor_zero]
set_option maxHeartbeats 2000000 in
theorem refAt_any (b : List UInt8) (i : Nat) (w : World) (hb : b.length = 16) (hi : i < 128) :
    Calls Try.prog 100 #[.agg (b.map bv).toArray, .int .i64 (i : Int)] w fun e w' => e = .returned (.int .i64 (bitI b i : Int)) ∧ Below w.heap.size w w' := by
  obtain ⟨x, hx⟩ : ∃ x, b.getD (i / 8) 0 = x := ⟨_, rfl⟩
  obtain ⟨j, hj⟩ : ∃ j, j = i / 8 := ⟨_, rfl⟩
  obtain ⟨k, hk⟩ : ∃ k, k = 7 - i % 8 := ⟨_, rfl⟩
  obtain ⟨y, hy⟩ : ∃ y, y = x.toNat / 2 ^ k := ⟨_, rfl⟩
  have hy2 : y % 2 = bitI b i := by
    have h := bit_byte b hb i hi
    rw [hx, ← hk, Nat.testBit_eq_decide_div_mod_eq, ← hy] at h
    unfold bitI
    rw [h]
    by_cases h1 : y % 2 = 1
    · simp [h1]
    · simp [h1]; omega
  have hyl : y < 256 := by rw [hy]; exact Nat.lt_of_le_of_lt (Nat.div_le_self _ _) x.toNat_lt
  have hj16 : (j : Int) < 16 := by omega
  have hk7 : k ≤ 7 := by omega
  have d1 : (i : Int) / 8 = (j : Int) := by omega
  have d2 : 7 - (i : Int) % 8 = (k : Int) := by omega
  have d3 : (x.toNat : Int) / 2 ^ k = (y : Int) := by rw [hy]; simp
  have d4 : (y : Int) % 2 = (bitI b i : Int) := by rw [← hy2]; omega
  have hbl := bitI_lt b i
  have c0 : (w.alloc (.cells (b.map bv).toArray 23)).cell? ⟨w.heap.size, j, none⟩ = some (.int .u8 (x.toNat : Int)) := by
    rw [cell_of_heap (heap_alloc_new' w _), List.getElem?_map, ← hx, hj]
    simp [List.getD, hb, show i / 8 < 16 by omega, bv]
  generalize bitI b i = t at d4 hbl
  clear hx hk hj hy hy2 hi
  go_enter Try.func100, Try.ntmps100
  go_wp2
  go_ret
  exact ⟨by rw [← d4]; rfl, (Below.refl _ _).alloc (Nat.le_refl _) _⟩
end Go.Proofs.Ytjmpbcfbfbjenaa

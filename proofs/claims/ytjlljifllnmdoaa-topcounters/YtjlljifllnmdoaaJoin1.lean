/- Joined: Bits3 CtrM Count Awake1 LiftA Reg Laws3 Sha1 Sha2 Reg2 Sha3 Sha4 Sha5 Sha6 Sha7 RefS1. -/
import Derived.Test.YtjlljifllnmdoaaJoin2
import Derived.Test.YtjlljifllnmdoaaLift
import Derived.Deep.QuietTactic
import Derived.BigQuiet
import Derived.Deep.RegionLaw
import Derived.OpenShut
import Derived.Deep.RegionHeld
import Derived.Below
import Derived.WalkKit
import Derived.Deep.MidRow
import Derived.StillTailTactics
import Derived.Deep.CutRange
import Derived.WalkMore
import Derived.ScopeJumps
/- Contracts of bits.Xor, bits.Equal, of the document's own Xor; bytes as a string. -/
namespace Go.Proofs.Ytjlljifllnmdoaa
open Go.RowKit
set_option linter.unusedVariables false
set_option maxRecDepth 100000

theorem xor8 (x y : UInt8) : bits .xor .u8 (x.toNat : Int) (y.toNat : Int) = ((x ^^^ y).toNat : Int) := by
  rw [u8_xor_nat _ _ x.toNat_lt y.toNat_lt, UInt8.toNat_xor]
theorem or8 (x y : UInt8) : bits .or .u8 (x.toNat : Int) (y.toNat : Int) = ((x ||| y).toNat : Int) := by
  rw [u8_or_nat _ _ x.toNat_lt y.toNat_lt, UInt8.toNat_or]
theorem and8 (x y : UInt8) : bits .and .u8 (x.toNat : Int) (y.toNat : Int) = ((x &&& y).toNat : Int) := by
  rw [u8_and_nat _ _ x.toNat_lt y.toNat_lt, UInt8.toNat_and]

theorem callXor : ∀ args W, (callFunc 48 args).run Try.prog W = .ok (.enter 48 args) W := fun _ _ => by kernel_rfl

theorem xor1_any (i n c n' c' : Nat) (b1 b2 p q p' q' : Nat) (x y : UInt8) (w : World) (hi : i < n) (hi' : i < n') (hn : n ≤ 2147483647) (hn' : n' ≤ 2147483647)
    (h1 : w.cell? ⟨b1, 0, none⟩ = some (.slice (some ⟨p, q, none⟩) n c)) (h2 : w.cell? ⟨b2, 0, none⟩ = some (.slice (some ⟨p', q', none⟩) n' c'))
    (c1 : w.cell? ⟨p, q + i, none⟩ = some (.int .u8 (x.toNat : Int))) (c2 : w.cell? ⟨p', q' + i, none⟩ = some (.int .u8 (y.toNat : Int))) :
    Calls Try.prog 48 #[.int .i64 (i : Int), .pointer (some ⟨b1, 0, none⟩), .pointer (some ⟨b2, 0, none⟩)] w fun e w' => e = .returned (.int .u8 ((x ^^^ y).toNat : Int)) ∧ Below w.heap.size w w' := by
  have hx := Lib.hid (xor8 x y)
  have e1 : (i : Int) < (n : Int) := by omega
  have e2 : (i : Int) < (n' : Int) := by omega
  go_enter Try.func48, Try.ntmps48
  go_wp2_with fail
  go_quiet (fail)
  go_wp2
  go_ret
  exact ⟨ret_int hx.out, ⟨rfl, rfl, rfl, Nat.le_refl _, fun _ _ => rfl⟩⟩

/-- the exclusive or of two rows, as long as the shorter one -/
def xorL (a b : List UInt8) : List UInt8 := List.zipWith (· ^^^ ·) a b

theorem xor_any (A A' : Option Addr) (c c' : Nat) (a b : List UInt8) (w : World) (h : Sl w A c a) (h' : Sl w A' c' b) (ha : a.length ≤ 2147483647) (hb : b.length ≤ 2147483647) :
    Calls Try.prog 17 #[.slice A a.length c, .slice A' b.length c'] w (NewRow w (min a.length b.length) (xorL a b)) := by
  have hput := put_any 48 #[.pointer (some ⟨w.heap.size, 0, none⟩), .pointer (some ⟨w.heap.size + 1, 0, none⟩)] (fun i => (xorL a b).getD i 0) (min a.length b.length)
    ((w.alloc (.cells #[.slice A a.length c] 26)).alloc (.cells #[.slice A' b.length c'] 26)) (by omega) callXor (fun i W hi hb' => by
      have hi1 : i < a.length := by omega
      have hi2 : i < b.length := by omega
      have hW : Below w.heap.size w W := (two_below w _ _).trans (hb'.mono (by simp; omega))
      obtain ⟨p, q, rfl, _, r1⟩ := (h.2.2.below hW).at_ (by simp; omega)
      obtain ⟨p', q', rfl, _, r2⟩ := (h'.2.2.below hW).at_ (by simp; omega)
      have e : (xorL a b).getD i 0 = a[i] ^^^ b[i] := by simp [xorL, List.getD, List.getElem?_zipWith, hi1, hi2]
      rw [e]
      refine xor1_any i a.length c b.length c' w.heap.size (w.heap.size + 1) p q p' q' a[i] b[i] W hi1 hi2 (by omega) (by omega) ?_ ?_ (r1 i _ (by simp [hi1, bv])) (r2 i _ (by simp [hi2, bv]))
      · rw [hb'.cell (by simp; omega)]; simp
      · rw [hb'.cell (by simp)]; simp)
  have HP := Lib.hid hput
  clear hput h h'
  have hmin : (if b.length < a.length then (b.length : Int) else (a.length : Int)) = ((min a.length b.length : Nat) : Int) := by split <;> omega
  go_enter Try.func17, Try.ntmps17
  go_wp2_with fail
  refine HP.out.mono ?_
  rintro e w' ⟨rfl, hK, hB⟩
  have HK := Lib.hid hK
  have HB := Lib.hid hB
  clear hK hB
  go_wp2
  go_ret
  have e : (List.range (min a.length b.length)).map (fun i => (xorL a b).getD i 0) = xorL a b := by
    apply List.ext_getElem
    · simp [xorL]
    · intro i h1 h2
      simp [List.getD, h2]
  refine ⟨_, by omega, rfl, ?_, (two_below w _ _).trans (HB.out.mono (by simp; omega))⟩
  have := HK.out
  rw [e] at this
  simpa using this

/-- bytes as a string -/
def strOf (bs : List UInt8) : ByteArray := ⟨bs.toArray⟩
theorem strOf_inj {a b : List UInt8} (h : strOf a = strOf b) : a = b := by
  unfold strOf at h; injection h with h; simpa using h

theorem conv_string (W : World) (A : Option Addr) (n c : Nat) (bs : List UInt8) (hl : bs.length = n) (h : Sl W A c bs) :
    (convert 26 9 (.slice A n c)).run Try.prog W = .ok (.string (strOf bs)) W := by
  by_cases h0 : n = 0
  · subst h0
    obtain rfl : bs = [] := List.eq_nil_of_length_eq_zero hl
    rw [run_convert_bytes_string W 26 9 5 A 0 c uT Try.underlying5 Try.underlying9]
    cases A <;> simp [Conv.bytesToString, loadCells, loadCellsFrom, strOf] <;> rfl
  · obtain ⟨b, o, rfl, _, hc⟩ := h.2.2.at_ (by simp; omega)
    have := run_convert_bytes_arg (P := Try.prog) W 26 5 uT Try.underlying5 b o n c (bs.map fun b => (b.toNat : Int)) (by simpa using hl)
      (fun i hi => by
        have := hc i (bv bs[i]) (by simp [show i < bs.length by omega])
        rw [this]; simp [bv, List.getD, show i < bs.length by omega]) 9 Try.underlying9
    rw [this]
    have e : strOfNums (bs.map fun b => (b.toNat : Int)) = strOf bs := by
      unfold strOfNums strOf
      congr 1
      simp [Function.comp_def]
    rw [e]

theorem or_zero8 (x y : UInt8) : x ||| y = 0 ↔ x = 0 ∧ y = 0 := by
  rw [← UInt8.toBitVec_inj, ← UInt8.toBitVec_inj (a := x), ← UInt8.toBitVec_inj (a := y)]
  simp
theorem xor_zero8 (x y : UInt8) : x ^^^ y = 0 ↔ x = y := by
  rw [← UInt8.toBitVec_inj, ← UInt8.toBitVec_inj (a := x)]
  simp
theorem eq_step (a b : List UInt8) (k : Nat) (d : UInt8) (ka : k < a.length) (kb : k < b.length) (h : d = 0 ↔ a.take k = b.take k) : d ||| (a[k] ^^^ b[k]) = 0 ↔ a.take (k + 1) = b.take (k + 1) := by
  rw [List.take_succ_eq_append_getElem ka, List.take_succ_eq_append_getElem kb, or_zero8, xor_zero8, h]
  constructor
  · rintro ⟨h1, h2⟩; rw [h1, h2]
  · intro h
    have := List.append_inj h (by simp; omega)
    exact ⟨this.1, by simpa using this.2⟩
theorem xor_n (A A' : Option Addr) (n n' m c c' : Nat) (a b : List UInt8) (W : World) (hl : a.length = n) (hl' : b.length = n') (hm : min n n' = m) (h : Sl W A c a) (h' : Sl W A' c' b) (hn : n ≤ 2147483647) (hn' : n' ≤ 2147483647) :
    Calls Try.prog 17 #[.slice A n c, .slice A' n' c'] W (NewRow W m (xorL a b)) := by
  subst hl; subst hl'; subst hm
  exact xor_any A A' c c' a b W h h' hn hn'
theorem sl_row {W : World} {g n : Nat} {bs : List UInt8} {t : TypeId} {fr : Nat × Nat} (hl : bs.length = n) (hn : n ≤ 2147483647) (hk : W.heap[g]? = some (.cells (bs.map bv).toArray t fr)) : Sl W (some ⟨g, 0, none⟩) n bs :=
  ⟨by omega, by simp [maxLen]; omega, row_of_heap hk (lt_of_heap hk)⟩
theorem xorL_len (a b : List UInt8) : (xorL a b).length = min a.length b.length := by simp [xorL]
theorem xorL_self (a : List UInt8) : xorL a a = List.replicate a.length 0 := by
  unfold xorL
  apply List.ext_getElem
  · simp
  · intro i h1 h2; simp
theorem xorL_back (a b : List UInt8) : xorL a (xorL a b) = b.take (min a.length b.length) := by
  unfold xorL
  apply List.ext_getElem
  · simp
  · intro i h1 h2
    simp only [List.getElem_zipWith, List.getElem_take]
    rw [← UInt8.xor_assoc, UInt8.xor_self, UInt8.zero_xor]
end Go.Proofs.Ytjlljifllnmdoaa
/- The mathematics of a stream put to bytes. -/
namespace Go.Proofs.Ytjlljifllnmdoaa
open Go.RowKit
set_option linter.unusedVariables false
set_option maxRecDepth 100000
/-- bytes, and the stream f from its place p on -/
def ctrL (f : Nat → UInt8) (p : Nat) : List UInt8 → List UInt8
  | [] => []
  | x :: r => (x ^^^ f p) :: ctrL f (p + 1) r
theorem ctrL_len (f : Nat → UInt8) : ∀ (b : List UInt8) (p : Nat), (ctrL f p b).length = b.length
  | [], _ => rfl
  | x :: r, p => by simp [ctrL, ctrL_len f r]
theorem ctrL_append (f : Nat → UInt8) : ∀ (a : List UInt8) (p : Nat) (b : List UInt8), ctrL f p (a ++ b) = ctrL f p a ++ ctrL f (p + a.length) b
  | [], _, _ => by simp [ctrL]
  | x :: r, p, b => by
    simp only [List.cons_append, ctrL, ctrL_append f r, List.length_cons]
    rw [show p + 1 + r.length = p + (r.length + 1) by omega]
theorem ctrL_back (f : Nat → UInt8) : ∀ (b : List UInt8) (p : Nat), ctrL f p (ctrL f p b) = b
  | [], _ => rfl
  | x :: r, p => by simp [ctrL, ctrL_back f r, UInt8.xor_assoc]
theorem ctrL_get (f : Nat → UInt8) : ∀ (b : List UInt8) (p i : Nat) (h : i < b.length) (h' : i < (ctrL f p b).length), (ctrL f p b)[i] = b[i] ^^^ f (p + i)
  | x :: r, p, 0, _, _ => by simp [ctrL]
  | x :: r, p, i + 1, h, h' => by
    have := ctrL_get f r (p + 1) i (by simpa using h) (by rw [ctrL_len]; simpa using h)
    simp only [ctrL, List.getElem_cons_succ]
    rw [this, show p + 1 + i = p + (i + 1) by omega]
theorem ctrL_congr (f g : Nat → UInt8) : ∀ (b : List UInt8) (p q : Nat), (∀ i, i < b.length → f (p + i) = g (q + i)) → ctrL f p b = ctrL g q b
  | [], _, _, _ => rfl
  | x :: r, p, q, h => by
    have h0 := h 0 (by simp)
    simp only [Nat.add_zero] at h0
    simp only [ctrL, h0]
    rw [ctrL_congr f g r (p + 1) (q + 1) (fun i hi => by have := h (i + 1) (by simp; omega); rwa [show p + (i + 1) = p + 1 + i by omega, show q + (i + 1) = q + 1 + i by omega] at this)]
theorem ctrL_zero (b : List UInt8) (p : Nat) : ctrL (fun _ => 0) p b = b := by
  induction b generalizing p with
  | nil => rfl
  | cons x r ih => simp [ctrL, ih]
theorem ctrL_set (f : Nat → UInt8) : ∀ (b : List UInt8) (p n : Nat) (y : UInt8), ctrL f p (b.set n (b.getD n 0 ^^^ y)) = (ctrL f p b).set n ((ctrL f p b).getD n 0 ^^^ y)
  | [], _, _, _ => by simp [ctrL]
  | x :: r, p, 0, y => by
    simp only [ctrL, List.set_cons_zero, List.getD_cons_zero]
    rw [UInt8.xor_assoc, UInt8.xor_comm y, ← UInt8.xor_assoc]
  | x :: r, p, n + 1, y => by
    simp only [ctrL, List.set_cons_succ, List.getD_cons_succ]
    rw [ctrL_set f r]
/-- the bytes of a row of blocks -/
def blkF (E : Nat → List UInt8) (i : Nat) : UInt8 := (E (i / 16)).getD (i % 16) 0
/-- what is left of a block, put to bytes -/
theorem ctrL_block (E : Nat → List UInt8) (p : Nat) (b : List UInt8) (h : (E (p / 16)).length = 16) : xorL b ((E (p / 16)).drop (p % 16)) = ctrL (blkF E) p (b.take (min b.length (16 - p % 16))) := by
  have hl : (xorL b ((E (p / 16)).drop (p % 16))).length = min b.length (16 - p % 16) := by rw [xorL_len, List.length_drop, h]
  have hl2 : (ctrL (blkF E) p (b.take (min b.length (16 - p % 16)))).length = min b.length (16 - p % 16) := by rw [ctrL_len, List.length_take]; omega
  apply List.ext_getElem
  · rw [hl, hl2]
  · intro i h1 h2
    rw [ctrL_get _ _ _ _ (by rw [← ctrL_len (blkF E) _ p]; exact h2)]
    rw [hl] at h1
    have hq : (p + i) / 16 = p / 16 := by omega
    have hr : (p + i) % 16 = p % 16 + i := by omega
    have hi : p % 16 + i < (E (p / 16)).length := by omega
    rw [blkF, hq, hr, List.getD_eq_getElem?_getD, List.getElem?_eq_getElem hi]
    simp [xorL]
theorem ctrL_take (f : Nat → UInt8) (p n : Nat) (b : List UInt8) : (ctrL f p b).take n = ctrL f p (b.take n) := by
  by_cases h : n ≤ b.length
  · have := ctrL_append f (b.take n) p (b.drop n)
    rw [List.take_append_drop] at this
    rw [this, List.take_append_of_le_length (by rw [ctrL_len, List.length_take]; omega), List.take_of_length_le (by rw [ctrL_len, List.length_take]; omega)]
  · rw [List.take_of_length_le (by rw [ctrL_len]; omega), List.take_of_length_le (by omega)]
/-- one more step of the loop over blocks -/
theorem ctr_step (E : Nat → List UInt8) (p j m : Nat) (b : List UInt8) (h : (E ((p + j) / 16)).length = 16) (hj : j ≤ b.length) (hm : m = min (b.length - j) (16 - (p + j) % 16)) :
    ctrL (blkF E) p (b.take j) ++ xorL (b.drop j) ((E ((p + j) / 16)).drop ((p + j) % 16)) = ctrL (blkF E) p (b.take (j + m)) := by
  rw [ctrL_block E (p + j) (b.drop j) h, List.length_drop, ← hm, List.take_add, ctrL_append, List.length_take, Nat.min_eq_left hj]
end Go.Proofs.Ytjlljifllnmdoaa

/- Contract of bits.Count. -/
namespace Go.Proofs.Ytjlljifllnmdoaa
open Go.RowKit
set_option linter.unusedVariables false
set_option maxRecDepth 100000

/-- an array of bytes as a value -/
def aggB (bs : List UInt8) : Value := .agg (bs.map bv).toArray
theorem arr16T : Try.prog.underlying 23 = some (.array 16 5) := Try.underlying23
theorem i16 : (Try.prog.info? 23).map (·.size) = some 16 := by kernel_rfl

theorem count_any (c : List UInt8) (n : Nat) (w : World) (hc : c.length = 16) (hn : n < 18446744073709551616) :
    Calls Try.prog 12 #[.agg (c.map bv).toArray, .int .u64 (n : Int)] w fun e w' => e = .returned (.agg ((countL c n).map bv).toArray) ∧ Below w.heap.size w w' := by
  have harr1 := arr_to arr16T s8 ⟨w.heap.size, 0, none⟩ .i64 8 (by omega) (by omega)
  have harr2 := arr_from arr16T s8 ⟨w.heap.size, 0, none⟩ .i64 8 (by omega) (by omega)
  simp only [show (8 : Int).toNat = 8 from rfl, show cutA ⟨w.heap.size, 0, none⟩ 16 8 = ⟨w.heap.size, 8, none⟩ from rfl, Nat.reduceSub] at harr1 harr2
  obtain ⟨hi, lo, low, e1, e2, hhi, hlow, hwl, high, hlt, hm, hcase⟩ := count_cases c n hc hn
  have HLT := Lib.hid hlt; have HM := Lib.hid hm
  have HE1 := Lib.hid e1; have HE2 := Lib.hid e2; have HHI := Lib.hid hhi; have HLOW := Lib.hid hlow
  have HCASE := Lib.hid hcase
  have HC := Lib.hid hc
  clear hn hc e1 e2 hhi hlow hcase hlt hm
  go_enter Try.func12, Try.ntmps12
  go_wp2_with fail
  generalize hW : (w.alloc _).alloc _ = W0
  have F0 : W0.heap[w.heap.size]? = some (.cells (c.map bv).toArray 23 (0, 0)) := by rw [← hW]; exact heap_alloc2_old w _ _
  have F1 : W0.heap[w.heap.size + 1]? = some (.cells (List.replicate 16 (Value.int .u8 0)).toArray 23 (0, 0)) := by rw [← hW]; exact heap_alloc2_new w _ _
  have FB : Below w.heap.size w W0 := by rw [← hW]; exact two_below w _ _
  have G0 := Lib.hid F0
  have G1 := Lib.hid F1
  have GB := Lib.hid FB
  clear F0 F1 FB hW
  go_region_law (first
    | (go_simp; go_at_call 34; first
        | ((with_reducible refine (big_n (some ⟨w.heap.size, 0, none⟩) 8 16 (c.take 8) W0.drew ?_ ?_ ?_ ?_).mono ?_)
           · rw [List.length_take, HC.out]; rfl
           · omega
           · simp [maxLen]
           · exact row_sub (w := W0.drew) G0.out 0 8 (lt_of_heap G0.out)
           rintro e w1 ⟨rfl, hb1⟩
           rw [HE1.out]
           have HB1 := Lib.hid hb1; clear hb1)
        | ((with_reducible refine (big_n (some ⟨w.heap.size, 8, none⟩) 8 8 (c.drop 8) w1 ?_ ?_ ?_ ?_).mono ?_)
           · rw [List.length_drop, HC.out]
           · omega
           · simp [maxLen]
           · have := row_sub ((HB1.out.block _ (lt_of_heap (w := W0.drew) G0.out)).trans G0.out) 8 8 (Nat.lt_of_lt_of_le (lt_of_heap G0.out) HB1.out.size)
             rwa [List.take_of_length_le (by rw [List.length_drop, HC.out]; omega)] at this
           rintro e w2 ⟨rfl, hb2⟩
           rw [HE2.out]
           have HB2 := Lib.hid hb2; clear hb2)))
  have G1' := Lib.hid ((HB2.out.block _ (Nat.lt_of_lt_of_le (lt_of_heap G1.out) HB1.out.size)).trans ((HB1.out.block _ (lt_of_heap (w := W0.drew) G1.out)).trans G1.out))
  have GB' := Lib.hid ((Below.step (w1 := W0.drew) GB.out.drew HB1.out).step HB2.out)
  clear G0 G1 GB HB1 HB2 HE1 HE2
  rcases HCASE.out with ⟨hcar, hw⟩ | ⟨hcar, rfl⟩
  all_goals
    clear HCASE HHI
    go_wp2_with fail
    generalize hW3 : w2.alloc _ = W3
    have T2 : W3.heap[w2.heap.size]? = some (.cells (List.replicate 16 (Value.int .u8 0)).toArray 23 (0, 0)) := by rw [← hW3]; exact heap_alloc_new' w2 _
    have T1 : W3.heap[w.heap.size + 1]? = some (.cells (List.replicate 16 (Value.int .u8 0)).toArray 23 (0, 0)) := by rw [← hW3]; exact (Below.heap_alloc w2 _ _ (lt_of_heap G1'.out)).trans G1'.out
    have TB : Below w.heap.size w W3 := by rw [← hW3]; exact GB'.out.alloc GB'.out.size _
    have hle : w.heap.size ≤ w2.heap.size := GB'.out.size
    have hne : w.heap.size + 1 ≠ w2.heap.size := by have := lt_of_heap G1'.out; omega
    have HNE := Lib.hid hne; have HLE := Lib.hid hle
    have D1 := Lib.hid T1; have D2 := Lib.hid T2; have DB := Lib.hid TB
    clear T1 T2 TB hW3 G1' GB' hle hne
    have harr3 := arr_to arr16T s8 ⟨w2.heap.size, 0, none⟩ .i64 8 (by omega) (by omega)
    have harr4 := arr_from arr16T s8 ⟨w2.heap.size, 0, none⟩ .i64 8 (by omega) (by omega)
    simp only [show (8 : Int).toNat = 8 from rfl, show cutA ⟨w2.heap.size, 0, none⟩ 16 8 = ⟨w2.heap.size, 8, none⟩ from rfl, Nat.reduceSub] at harr3 harr4
    go_region_law (first
      | (go_simp; go_at_call 35; refine (putBig_any high 8 _ HLT.out (by omega)).mono ?_; rintro e w4 ⟨g4, hg4, rfl, hk4, hb4⟩; have HK4 := Lib.hid hk4; have HB4 := Lib.hid hb4; clear hk4 hb4 hg4)
      | (have D2' := (HB4.out.block _ (lt_of_heap (w := W3.drew) D2.out)).trans D2.out
         have D1' := (HB4.out.block _ (lt_of_heap (w := W3.drew) D1.out)).trans D1.out
         have DB' := Below.step (w1 := W3.drew) DB.out.drew HB4.out
         obtain ⟨w5, hrun, hblk, _, hgr⟩ := copy_run uT s8 (sT := 26) 3 w4 w2.heap.size 0 (List.replicate 16 (Value.int .u8 0)) 23 D2' (some ⟨w2.heap.size, 0, none⟩) (some ⟨g4, 0, none⟩) 8 16 8 8 (g4 + 1) ((putBig high 8).map bv)
           (by simp [putBig_len]) (fun _ => rfl) (row_of_heap HK4.out (Nat.lt_succ_self _)) (by simp [putBig_len]) (bv_one _)
         have E2 := Lib.hid hblk
         have E1 := Lib.hid ((hgr.block _ (lt_of_heap D1') (by have := HNE.out; simp; omega)).trans D1')
         have EB := Lib.hid (DB'.trans (grown_below hgr HLE.out DB'.size))
         refine step_cpy rfl (.tmp 19) (.tmp 21) 26 26 rfl hrun ?_
         clear hrun hblk hgr D1 D2 DB D1' D2' DB' HB4 HK4))
    have sp1 := splice_first (Value.int .u8 0) 8 8 ((putBig high 8).map bv) (by simp [putBig_len])
    have E2' := E2.out
    rw [show (16 : Nat) = 8 + 8 from rfl, sp1] at E2'
    have F2 := Lib.hid E2'
    clear E2 E2' sp1
    go_wp2_with fail
    go_region_law (first
      | (go_simp; go_at_call 35; refine (putBig_any low 8 _ HLOW.out (by omega)).mono ?_; rintro e w6 ⟨g6, hg6, rfl, hk6, hb6⟩; have HK6 := Lib.hid hk6; have HB6 := Lib.hid hb6; clear hk6 hb6 hg6)
      | (have D2' := (HB6.out.block _ (lt_of_heap (w := w5.drew) F2.out)).trans F2.out
         have D1' := (HB6.out.block _ (lt_of_heap (w := w5.drew) E1.out)).trans E1.out
         have DB' := Below.step (w1 := w5.drew) EB.out.drew HB6.out
         obtain ⟨w7, hrun, hblk, _, hgr⟩ := copy_run uT s8 (sT := 26) 3 w6 w2.heap.size 8 ((putBig high 8).map bv ++ List.replicate 8 (Value.int .u8 0)) 23 D2' (some ⟨w2.heap.size, 8, none⟩) (some ⟨g6, 0, none⟩) 8 8 8 8 (g6 + 1) ((putBig low 8).map bv)
           (by simp [putBig_len]) (fun _ => rfl) (row_of_heap HK6.out (Nat.lt_succ_self _)) (by simp [putBig_len]) (bv_one _)
         rw [splice_last (Value.int .u8 0) 8 8 ((putBig high 8).map bv) ((putBig low 8).map bv) (by simp [putBig_len]) (by simp [putBig_len]), ← List.map_append, HM.out] at hblk
         have E3 := Lib.hid hblk
         have E4 := Lib.hid ((hgr.block _ (lt_of_heap D1') (by have := HNE.out; simp; omega)).trans D1')
         have EB2 := Lib.hid (DB'.trans (grown_below hgr HLE.out DB'.size))
         refine step_cpy rfl (.tmp 23) (.tmp 25) 26 26 rfl hrun ?_
         clear hrun hblk hgr F2 E1 EB D1' D2' DB' HB6 HK6))
    have hl16 : (countL c n).length = 16 := by simp [countL, putBig_len]
    have HL := Lib.hid hl16
    clear hl16
    go_wp2_with (first
      | (refine wpList_ld rfl 23 (.tmp 7) rfl (load_arr arr16T rfl (by rw [List.length_map, HL.out]; exact i16) E3.out) ?_)
      | (refine wpList_st rfl 23 (.tmp 4) (.tmp 27) rfl (store_arr (by rw [List.length_map, HL.out]; exact i16) (bv_one _) E4.out (by simp [HL.out])) ?_))
    have hres := setRow_heap w7 (w.heap.size + 1) _ ((countL c n).map bv).toArray 23 _ E4.out
    exact bodyPost_ret (results_cell_row (P := Try.prog) rfl _ _ (w.heap.size + 1) 23 ((countL c n).map bv).toArray (0, 0) _ rfl hres arr16T rfl (by simp [HL.out, i16])) rfl ⟨rfl, EB2.out.trans (grown_below (grown_setRow _ _ _) (by omega) EB2.out.size)⟩
end Go.Proofs.Ytjlljifllnmdoaa

/- Contract of the law file's own 'awake' (the chapter's examples), and the law BitsTurns' walk. -/
namespace Go.Proofs.Ytjlljifllnmdoaa
open Go.RowKit
set_option maxRecDepth 100000
set_option linter.unusedVariables false

theorem row_two (w : World) (b1 b2 : UInt8) : RowAt (w.alloc (.cells #[.int .u8 (b1.toNat : Int), .int .u8 (b2.toNat : Int)] 5)) (w.heap.size + 1) (some ⟨w.heap.size, 0, none⟩) ([b1, b2].map bv) := by
  refine .inr ⟨w.heap.size, 0, rfl, by omega, fun j u hu => ?_⟩
  have := cell_of_heap (w := w.alloc (.cells ([b1, b2].map bv).toArray 5)) (heap_alloc_new' w _) (0 + j)
  exact this.trans (by simpa using hu)

theorem int_i16 {a : Int} (h : (Lit.int .i16 a).wf = true) : -32768 ≤ a ∧ a ≤ 32767 := by
  have := bounds_i16 h; omega
end Go.Proofs.Ytjlljifllnmdoaa
/- Arrays of 16 bytes that come in. -/
namespace Go.Proofs.Ytjlljifllnmdoaa
open Go.RowKit Go.ChangeShapes Go.WideShapes Go.ChangeAt
set_option maxRecDepth 100000
set_option linter.unusedVariables false
theorem open__16_uint8 {H : Type} {enc : TypeId × Value → H} {W : World} {base b0 : Nat} {sp : Nat → Bool} {held : Bool} {v : Value} {d : DataW H} {p : List MemPlace}
    (hv : Value.okWide Try.prog W .any base 23 v) (h : DataW.Trod enc Try.prog W b0 sp held 23 v d p) : ∃ bs : List UInt8, v = .agg (bs.map bv).toArray ∧ bs.length = 16 := by
  obtain ⟨zs, rfl, hl, hw⟩ := open_arr Try.underlying23 Try.underlying5 (by kernel_rfl) (by kernel_rfl) hv h
  obtain ⟨bs, rfl⟩ := bytes_of hw
  exact ⟨bs, by simp [Function.comp_def, bv], by simpa using hl⟩
end Go.Proofs.Ytjlljifllnmdoaa

/- A region that draws its order, in which no operation turns what was there: what reads is taken as soon as it may come up, and what makes memory (calls, new blocks) in the one order that the region's edges leave. Over any program. -/
namespace Go.Proofs.Ytjlljifllnmdoaa
open Go.RowKit
set_option maxRecDepth 100000

/-- W has all that w has, as it was. -/
def Ext (w W : World) : Prop := Below w.heap.size w W
theorem Ext.refl (w : World) : Ext w w := Below.refl _ _
theorem Ext.trans {a b c : World} (h : Ext a b) (k : Ext b c) : Ext a c := RowKit.Below.trans h (RowKit.Below.mono k h.size)

section
variable {P : Program} {ops : Array Oper} {Q : Exit → Act → World → Prop} {md : Region.Mode}

theorem wpOp_mono' {i : Nat} {a : Act} {w : World} {K K' : Act → World → Prop} (h : ∀ a w, K a w → K' a w) (hh : wpOp P ops Q i K a w) : wpOp P ops Q i K' a w := wpOp_mono h hh

theorem wpAnyH_mono {S S' : World → Prop} (hS : ∀ w, S w → S' w) : ∀ (fuel : Nat) (listed : Array Bool) (a : Act) (w : World), wpAnyH P md ops Q S fuel listed a w → wpAnyH P md ops Q S' fuel listed a w
  | 0, _, _, _, h => h
  | fuel + 1, _, _, _, h => ⟨h.1, fun i hi => wpOp_mono (fun a' w' h' => ⟨hS _ h'.1, wpAnyH_mono hS fuel _ a' w' h'.2⟩) (h.2 i hi)⟩

/-- what is left of a region, in the state a, in the world w -/
def Reg (P : Program) (ops : Array Oper) (Q : Exit → Act → World → Prop) (fuel : Nat) (listed : Array Bool) (a : Act) (w : World) : Prop := wpAnyH P .any ops Q (Ext w) fuel listed a w

theorem reg_start {id : Nat} {a : Act} {w : World} (hm : P.follows .mixedOrders = true) (h : Reg P ops Q ops.size (Array.replicate ops.size false) a w.drew) : (Code.region id ops true).wp P Q a w :=
  wp_region_held_drew (S := Ext w.drew) hm (Ext.refl _) fun _ => h

theorem reg_take (i : Nat) {o : Oper} {v : Value} {fuel : Nat} {listed : Array Bool} {a : Act} {w : World} (d : Option Tmp) (hi : ops[i]? = some o) (hd : o.dst = d)
    (hs : Region.noSelect ops = true) (hf : Region.free .any ops listed i = true) (hr : (Region.ready .any ops listed).contains i = true)
    (hQ : ∀ c a w, Q (.panic c) (a.put o.dst v) w → Q (.panic c) a w) (hw : Region.wanted o (yielded ops a.tmps) = true)
    (hy : ∀ W, Ext w W → (execOp a.eval o).run P W = .ok (.value v) W)
    (h : Reg P ops Q fuel (listed.setIfInBounds i true) (a.put d v) w) : Reg P ops Q (fuel + 1) listed a w := by
  subst hd
  exact wpAnyH_take hi hs hf hr hQ (.inl ⟨hw, hy⟩) (Ext.refl w) h

theorem reg_skip (i : Nat) {o : Oper} {fuel : Nat} {listed : Array Bool} {a : Act} {w : World} (d : Option Tmp) (hi : ops[i]? = some o) (hd : o.dst = d)
    (hs : Region.noSelect ops = true) (hf : Region.free .any ops listed i = true) (hr : (Region.ready .any ops listed).contains i = true)
    (hQ : ∀ c a w, Q (.panic c) (a.put o.dst undef) w → Q (.panic c) a w) (hw : Region.wanted o (yielded ops a.tmps) = false)
    (h : Reg P ops Q fuel (listed.setIfInBounds i true) (a.put d undef) w) : Reg P ops Q (fuel + 1) listed a w := by
  subst hd
  exact wpAnyH_take hi hs hf hr hQ (.inr ⟨hw, rfl⟩) (Ext.refl w) h

theorem reg_eff (i : Nat) {o : Oper} {fuel : Nat} {listed : Array Bool} {a : Act} {w : World} (hi : ops[i]? = some o) (hr : Region.ready .any ops listed = [i])
    (h : ∀ K : Act → World → Prop, Hid (∀ a' w', Ext w w' → Reg P ops Q fuel (listed.setIfInBounds i true) a' w' → K a' w') → if Region.wanted o (yielded ops a.tmps) = true then Oper.wp P o a w K Q else K (a.put o.dst undef) w) :
    Reg P ops Q (fuel + 1) listed a w := by
  refine wpAnyH_ready hr (by simp) ?_
  refine AllReadyH.cons hi (fun K' hK => h K' fun a' w' hE hR => ?_) AllReadyH.nil
  exact hK.out a' w' hE fun _ => wpAnyH_mono (fun W hW => hE.trans hW) _ _ _ _ hR

theorem reg_done {fuel : Nat} {listed : Array Bool} {a : Act} {w : World} (hr : Region.ready .any ops listed = []) (h : Q .normal a w) : Reg P ops Q fuel listed a w :=
  wpAnyH_done hr h fuel

theorem exec_load {o : Oper} {a : Act} {W : World} {ty : TypeId} {x : Operand} {p v : Value} (ho : o.op = .load ty x) (hx : a.eval x = p) (hrun : (Instr.loadAt ty p).run P W = .ok v W) : (execOp a.eval o).run P W = .ok (.value v) W := by
  unfold execOp
  simp only [ho, hx, Sem.run_bind, hrun, Result.andThen_ok, Sem.run_pure]
theorem exec_conv {o : Oper} {a : Act} {W : World} {s d : TypeId} {x : Operand} {p v : Value} (ho : o.op = .convert s d x) (hx : a.eval x = p) (hrun : (convert s d p).run P W = .ok v W) : (execOp a.eval o).run P W = .ok (.value v) W := by
  unfold execOp
  simp only [ho, hx, Sem.run_bind, hrun, Result.andThen_ok, Sem.run_pure]

/-- a load, and a conversion, by what is known of it -/
theorem reg_load (i : Nat) {o : Oper} {ty : TypeId} {x : Operand} {p v : Value} {fuel : Nat} {listed : Array Bool} {a : Act} {w : World} (d : Option Tmp)
    (hrun : ∀ W, Ext w W → (Instr.loadAt ty p).run P W = .ok v W) (hi : ops[i]? = some o) (hd : o.dst = d) (ho : o.op = .load ty x) (hx : a.eval x = p)
    (hs : Region.noSelect ops = true) (hf : Region.free .any ops listed i = true) (hr : (Region.ready .any ops listed).contains i = true)
    (hQ : ∀ c a w, Q (.panic c) (a.put o.dst v) w → Q (.panic c) a w) (hw : Region.wanted o (yielded ops a.tmps) = true)
    (h : Reg P ops Q fuel (listed.setIfInBounds i true) (a.put d v) w) : Reg P ops Q (fuel + 1) listed a w :=
  reg_take i d hi hd hs hf hr hQ hw (fun W hW => exec_load ho hx (hrun W hW)) h
theorem reg_conv (i : Nat) {o : Oper} {s t : TypeId} {x : Operand} {p v : Value} {fuel : Nat} {listed : Array Bool} {a : Act} {w : World} (d : Option Tmp)
    (hrun : ∀ W, Ext w W → (convert s t p).run P W = .ok v W) (hi : ops[i]? = some o) (hd : o.dst = d) (ho : o.op = .convert s t x) (hx : a.eval x = p)
    (hs : Region.noSelect ops = true) (hf : Region.free .any ops listed i = true) (hr : (Region.ready .any ops listed).contains i = true)
    (hQ : ∀ c a w, Q (.panic c) (a.put o.dst v) w → Q (.panic c) a w) (hw : Region.wanted o (yielded ops a.tmps) = true)
    (h : Reg P ops Q fuel (listed.setIfInBounds i true) (a.put d v) w) : Reg P ops Q (fuel + 1) listed a w :=
  reg_take i d hi hd hs hf hr hQ hw (fun W hW => exec_conv ho hx (hrun W hW)) h

/-! ### the same, where blocks from B on may be turned (rows of the call's own): what is read lies below B -/
def RegB (P : Program) (ops : Array Oper) (Q : Exit → Act → World → Prop) (B : Nat) (fuel : Nat) (listed : Array Bool) (a : Act) (w : World) : Prop := wpAnyH P .any ops Q (Below B w) fuel listed a w
theorem regB_start {id : Nat} {a : Act} {w : World} (B : Nat) (hm : P.follows .mixedOrders = true) (h : RegB P ops Q B ops.size (Array.replicate ops.size false) a w.drew) : (Code.region id ops true).wp P Q a w :=
  wp_region_held_drew (S := Below B w.drew) hm (Below.refl _ _) fun _ => h
theorem regB_take (i : Nat) {o : Oper} {v : Value} {B fuel : Nat} {listed : Array Bool} {a : Act} {w : World} (d : Option Tmp) (hi : ops[i]? = some o) (hd : o.dst = d)
    (hs : Region.noSelect ops = true) (hf : Region.free .any ops listed i = true) (hr : (Region.ready .any ops listed).contains i = true)
    (hQ : ∀ c a w, Q (.panic c) (a.put o.dst v) w → Q (.panic c) a w) (hw : Region.wanted o (yielded ops a.tmps) = true)
    (hy : ∀ W, Below B w W → (execOp a.eval o).run P W = .ok (.value v) W)
    (h : RegB P ops Q B fuel (listed.setIfInBounds i true) (a.put d v) w) : RegB P ops Q B (fuel + 1) listed a w := by
  subst hd
  exact wpAnyH_take hi hs hf hr hQ (.inl ⟨hw, hy⟩) (Below.refl _ w) h
theorem regB_load (i : Nat) {o : Oper} {ty : TypeId} {x : Operand} {p v : Value} {B fuel : Nat} {listed : Array Bool} {a : Act} {w : World} (d : Option Tmp)
    (hrun : ∀ W, Below B w W → (Instr.loadAt ty p).run P W = .ok v W) (hi : ops[i]? = some o) (hd : o.dst = d) (ho : o.op = .load ty x) (hx : a.eval x = p)
    (hs : Region.noSelect ops = true) (hf : Region.free .any ops listed i = true) (hr : (Region.ready .any ops listed).contains i = true)
    (hQ : ∀ c a w, Q (.panic c) (a.put o.dst v) w → Q (.panic c) a w) (hw : Region.wanted o (yielded ops a.tmps) = true)
    (h : RegB P ops Q B fuel (listed.setIfInBounds i true) (a.put d v) w) : RegB P ops Q B (fuel + 1) listed a w :=
  regB_take i d hi hd hs hf hr hQ hw (fun W hW => exec_load ho hx (hrun W hW)) h
theorem regB_conv (i : Nat) {o : Oper} {s t : TypeId} {x : Operand} {p v : Value} {B fuel : Nat} {listed : Array Bool} {a : Act} {w : World} (d : Option Tmp)
    (hrun : ∀ W, Below B w W → (convert s t p).run P W = .ok v W) (hi : ops[i]? = some o) (hd : o.dst = d) (ho : o.op = .convert s t x) (hx : a.eval x = p)
    (hs : Region.noSelect ops = true) (hf : Region.free .any ops listed i = true) (hr : (Region.ready .any ops listed).contains i = true)
    (hQ : ∀ c a w, Q (.panic c) (a.put o.dst v) w → Q (.panic c) a w) (hw : Region.wanted o (yielded ops a.tmps) = true)
    (h : RegB P ops Q B fuel (listed.setIfInBounds i true) (a.put d v) w) : RegB P ops Q B (fuel + 1) listed a w :=
  regB_take i d hi hd hs hf hr hQ hw (fun W hW => exec_conv ho hx (hrun W hW)) h
theorem regB_eff (i : Nat) {o : Oper} {B fuel : Nat} {listed : Array Bool} {a : Act} {w : World} (hi : ops[i]? = some o) (hr : Region.ready .any ops listed = [i])
    (h : ∀ K : Act → World → Prop, Hid (∀ a' w', Below B w w' → RegB P ops Q B fuel (listed.setIfInBounds i true) a' w' → K a' w') → if Region.wanted o (yielded ops a.tmps) = true then Oper.wp P o a w K Q else K (a.put o.dst undef) w) :
    RegB P ops Q B (fuel + 1) listed a w := by
  refine wpAnyH_ready hr (by simp) ?_
  refine AllReadyH.cons hi (fun K' hK => h K' fun a' w' hE hR => ?_) AllReadyH.nil
  exact hK.out a' w' hE fun _ => wpAnyH_mono (fun W hW => hE.trans hW) _ _ _ _ hR
theorem regB_done {B fuel : Nat} {listed : Array Bool} {a : Act} {w : World} (hr : Region.ready .any ops listed = []) (h : Q .normal a w) : RegB P ops Q B fuel listed a w :=
  wpAnyH_done hr h fuel
end
end Go.Proofs.Ytjlljifllnmdoaa

/- The walk of the law BitsSteps. -/
namespace Go.Proofs.Ytjlljifllnmdoaa
open Go.RowKit
set_option maxRecDepth 100000
set_option linter.unusedVariables false
set_option linter.unusedSimpArgs false

theorem countL_len (c : List UInt8) (n : Nat) : (countL c n).length = 16 := by simp [countL, putBig_len]
theorem bigN_count (c : List UInt8) (n : Nat) : bigN (countL c n) = (bigN c + n) % 340282366920938463463374607431768211456 := by
  rw [countL, bigN_put]
  have : (256 : Nat) ^ 16 = 340282366920938463463374607431768211456 := by decide
  rw [this, Nat.mod_mod]
theorem count_count (c : List UInt8) (n m : Nat) : countL (countL c n) m = countL c (n + m) := by
  rw [countL, bigN_count, countL]
  congr 1
  omega
theorem putBig_big (c : List UInt8) : putBig (bigN c) c.length = c := by
  suffices h : ∀ l : List UInt8, putBig (bigN l.reverse) l.length = l.reverse by
    have := h c.reverse; simpa using this
  intro l
  induction l with
  | nil => simp [putBig]
  | cons b l ih =>
    rw [List.reverse_cons, bigN_snoc, List.length_cons, putBig_split]
    have hb : b.toNat < 256 := b.toNat_lt
    have e : (bigN l.reverse * 256 + b.toNat) / 256 ^ 1 = bigN l.reverse := by omega
    rw [e, ih]
    congr 1
    simp only [putBig, List.range_succ, List.range_zero, List.nil_append, List.map_cons, List.map_nil, byteAt, Nat.pow_zero, Nat.div_one]
    congr 1
    rw [← UInt8.toNat_inj, UInt8.toNat_ofNat']; omega
theorem count_zero (c : List UInt8) (hc : c.length = 16) : countL c 0 = c := by
  have h := bigN_lt c
  rw [hc, show (256 : Nat) ^ 16 = 340282366920938463463374607431768211456 by decide] at h
  rw [countL, Nat.add_zero, Nat.mod_eq_of_lt h, ← hc]
  exact putBig_big c
theorem count_inj (c : List UInt8) (n m : Nat) (hn : n < 4294967296) (hm : m < 4294967296) : countL c n = countL c m ↔ n = m := by
  constructor
  · intro h
    have h2 := congrArg bigN h
    rw [bigN_count, bigN_count] at h2
    omega
  · rintro rfl; rfl

theorem i16' (bs : List UInt8) (h : bs.length = 16) : (Try.prog.info? 23).map (·.size) = some (bs.map bv).length := by rw [List.length_map, h]; exact i16
end Go.Proofs.Ytjlljifllnmdoaa

/- SHA-256 in Lean, and the contracts of the small functions of package sha. -/
namespace Go.Proofs.Ytjlljifllnmdoaa
open Go.RowKit
set_option maxRecDepth 100000
set_option linter.unusedVariables false
set_option linter.unusedSimpArgs false

abbrev W32 := BitVec 32
def wv (x : W32) : Value := .int .u32 (x.toNat : Int)
def turnL (x : W32) (i j k : Int) : W32 := rotl x (-i) ^^^ rotl x (-j) ^^^ rotl x (-k)
def shiftL (x : W32) (i j : Int) (k : Nat) : W32 := rotl x (-i) ^^^ rotl x (-j) ^^^ (x >>> k)
def chL (x y z : W32) : W32 := (x &&& y) ^^^ (~~~x &&& z)
def majL (x y z : W32) : W32 := (x &&& y) ^^^ (x &&& z) ^^^ (y &&& z)

theorem xor32 (x y : W32) : bits .xor .u32 (x.toNat : Int) (y.toNat : Int) = ((x ^^^ y).toNat : Int) := by
  rw [u32_xor_nat _ _ x.isLt y.isLt, BitVec.toNat_xor]
theorem and32 (x y : W32) : bits .and .u32 (x.toNat : Int) (y.toNat : Int) = ((x &&& y).toNat : Int) := by
  rw [u32_and_nat _ _ x.isLt y.isLt, BitVec.toNat_and]
theorem or32 (x y : W32) : bits .or .u32 (x.toNat : Int) (y.toNat : Int) = ((x ||| y).toNat : Int) := by
  rw [u32_or_nat _ _ x.isLt y.isLt, BitVec.toNat_or]

theorem shr32 (x : W32) (k : Nat) : ((x >>> k).toNat : Int) = (x.toNat : Int) / 2 ^ k := by
  rw [BitVec.toNat_ushiftRight, Nat.shiftRight_eq_div_pow]; simp
theorem not32 (x : W32) : bits .xor .u32 IntKind.u32.max (x.toNat : Int) = ((~~~x).toNat : Int) := by
  have : IntKind.u32.max = (((BitVec.allOnes 32).toNat : Nat) : Int) := by decide
  rw [this, xor32, BitVec.allOnes_xor]
theorem ch32 (x y z : W32) : bits .xor .u32 (bits .and .u32 (x.toNat : Int) (y.toNat : Int)) (bits .and .u32 (bits .xor .u32 IntKind.u32.max (x.toNat : Int)) (z.toNat : Int)) = ((chL x y z).toNat : Int) := by
  rw [and32, not32, and32, xor32]; rfl
theorem maj32 (x y z : W32) : bits .xor .u32 (bits .xor .u32 (bits .and .u32 (x.toNat : Int) (y.toNat : Int)) (bits .and .u32 (x.toNat : Int) (z.toNat : Int))) (bits .and .u32 (y.toNat : Int) (z.toNat : Int)) = ((majL x y z).toNat : Int) := by
  rw [and32, and32, and32, xor32, xor32]; rfl
end Go.Proofs.Ytjlljifllnmdoaa

/- The rounds of SHA-256: the contract of sha.mix. -/
namespace Go.Proofs.Ytjlljifllnmdoaa
open Go.RowKit
set_option maxRecDepth 100000
set_option linter.unusedVariables false
set_option linter.unusedSimpArgs false

def roundsL : List Nat := [1116352408, 1899447441, 3049323471, 3921009573, 961987163, 1508970993, 2453635748, 2870763221, 3624381080, 310598401, 607225278, 1426881987, 1925078388, 2162078206, 2614888103, 3248222580, 3835390401, 4022224774, 264347078, 604807628, 770255983, 1249150122, 1555081692, 1996064986, 2554220882, 2821834349, 2952996808, 3210313671, 3336571891, 3584528711, 113926993, 338241895, 666307205, 773529912, 1294757372, 1396182291, 1695183700, 1986661051, 2177026350, 2456956037, 2730485921, 2820302411, 3259730800, 3345764771, 3516065817, 3600352804, 4094571909, 275423344, 430227734, 506948616, 659060556, 883997877, 958139571, 1322822218, 1537002063, 1747873779, 1955562222, 2024104815, 2227730452, 2361852424, 2428436474, 2756734187, 3204031479, 3329325298]
def kL (i : Nat) : W32 := BitVec.ofNat 32 (roundsL.getD i 0)
/-- the rounds' numbers lie where the program has them -/
def Rnd (w : World) : Prop := 0 < w.heap.size ∧ ∀ i, i < 64 → w.cell? ⟨0, i, none⟩ = some (wv (kL i))
theorem Rnd.below {w w' : World} {B : Nat} (h : Rnd w) (hb : Below B w w') (hB : 0 < B) : Rnd w' :=
  ⟨Nat.lt_of_lt_of_le h.1 hb.size, fun i hi => (hb.cell hB).trans (h.2 i hi)⟩
theorem Rnd.ext {w w' : World} (h : Rnd w) (hb : Below w.heap.size w w') : Rnd w' := h.below hb h.1

structure St where
  a : W32
  b : W32
  c : W32
  d : W32
  e : W32
  f : W32
  g : W32
  h : W32
def St.list (s : St) : List W32 := [s.a, s.b, s.c, s.d, s.e, s.f, s.g, s.h]
def stOf (l : List W32) : St := ⟨l.getD 0 0, l.getD 1 0, l.getD 2 0, l.getD 3 0, l.getD 4 0, l.getD 5 0, l.getD 6 0, l.getD 7 0⟩
def one (s : St) (k w : W32) : W32 := s.h + turnL s.e 6 11 25 + chL s.e s.f s.g + k + w
def two (s : St) : W32 := turnL s.a 2 13 22 + majL s.a s.b s.c
def stepL (s : St) (k w : W32) : St := ⟨one s k w + two s, s.a, s.b, s.c, s.d + one s k w, s.e, s.f, s.g⟩
def mixN (s : St) (ws : List W32) : Nat → St
  | 0 => s
  | n + 1 => stepL (mixN s ws n) (kL n) (ws.getD n 0)

theorem add32 (x y : W32) : ((x.toNat : Int) + (y.toNat : Int)) % 4294967296 = ((x + y).toNat : Int) := by
  rw [BitVec.toNat_add]; omega
theorem addw32 (x y : W32) : IntKind.u32.wrap ((x.toNat : Int) + (y.toNat : Int)) = ((x + y).toNat : Int) := by
  rw [IntKind.wrap_u32, ← add32]
theorem s32 : (Try.prog.info? 49).map (·.size) = some 1 := by kernel_rfl
theorem wv_one (l : List W32) : ∀ v ∈ l.map wv, v.oneCell' = true := by
  intro v hv
  obtain ⟨x, _, rfl⟩ := List.mem_map.1 hv
  rfl
theorem wcell {w : World} {g : Nat} {l : List W32} {t : TypeId} {fr : Nat × Nat} (h : w.heap[g]? = some (.cells (l.map wv).toArray t fr)) (i : Nat) (hi : i < l.length) : w.cell? ⟨g, i, none⟩ = some (.int .u32 ((l.getD i 0).toNat : Int)) := by
  rw [cell_of_heap h, List.getElem?_map, List.getElem?_eq_getElem hi]
  simp [List.getD, hi, wv]

theorem heap3 (w : World) (o1 o2 o3 : Obj) : (((w.alloc o1).alloc o2).alloc o3).heap[w.heap.size]? = some o1 ∧ (((w.alloc o1).alloc o2).alloc o3).heap[w.heap.size + 1]? = some o2 ∧ (((w.alloc o1).alloc o2).alloc o3).heap[w.heap.size + 2]? = some o3 ∧
    Below w.heap.size w (((w.alloc o1).alloc o2).alloc o3) := by
  have e1 : (w.alloc o1).heap.size = w.heap.size + 1 := by simp
  have e2 : ((w.alloc o1).alloc o2).heap.size = w.heap.size + 2 := by simp
  refine ⟨?_, ?_, ?_, ?_⟩
  · rw [Below.heap_alloc _ _ _ (by omega), Below.heap_alloc _ _ _ (by omega)]; exact heap_alloc_new' w o1
  · rw [Below.heap_alloc _ _ _ (by omega)]; have := heap_alloc_new' (w.alloc o1) o2; rwa [e1] at this
  · have := heap_alloc_new' ((w.alloc o1).alloc o2) o3; rwa [e2] at this
  · exact (((Below.refl _ w).alloc (Nat.le_refl _) _).alloc (by omega) _).alloc (by omega) _

theorem list8 {α : Type} {l : List α} (h : l.length = 8) : ∃ a b c d e f g i, l = [a, b, c, d, e, f, g, i] := by
  match l, h with
  | [a, b, c, d, e, f, g, i], _ => exact ⟨a, b, c, d, e, f, g, i, rfl⟩
theorem st_cells {w : World} {n : Nat} {a b c d e f g h : W32} {t : TypeId} {fr : Nat × Nat} (H : w.heap[n]? = some (.cells ([a, b, c, d, e, f, g, h].map wv).toArray t fr)) :
    w.cell? ⟨n, 0, none⟩ = some (.int .u32 (a.toNat : Int)) ∧ w.cell? ⟨n, 1, none⟩ = some (.int .u32 (b.toNat : Int)) ∧ w.cell? ⟨n, 2, none⟩ = some (.int .u32 (c.toNat : Int)) ∧ w.cell? ⟨n, 3, none⟩ = some (.int .u32 (d.toNat : Int)) ∧
    w.cell? ⟨n, 4, none⟩ = some (.int .u32 (e.toNat : Int)) ∧ w.cell? ⟨n, 5, none⟩ = some (.int .u32 (f.toNat : Int)) ∧ w.cell? ⟨n, 6, none⟩ = some (.int .u32 (g.toNat : Int)) ∧ w.cell? ⟨n, 7, none⟩ = some (.int .u32 (h.toNat : Int)) :=
  ⟨wcell H 0 (by simp), wcell H 1 (by simp), wcell H 2 (by simp), wcell H 3 (by simp), wcell H 4 (by simp), wcell H 5 (by simp), wcell H 6 (by simp), wcell H 7 (by simp)⟩

end Go.Proofs.Ytjlljifllnmdoaa

/- Regions that draw their order, over any relation between worlds that one may go on by. -/
namespace Go.Proofs.Ytjlljifllnmdoaa
open Go.RowKit
set_option maxRecDepth 100000
set_option linter.unusedVariables false
set_option linter.unusedSectionVars false
class Pre (R : World → World → Prop) : Prop where
  refl : ∀ w, R w w
  trans : ∀ {a b c}, R a b → R b c → R a c
section
variable {P : Program} {ops : Array Oper} {Q : Exit → Act → World → Prop} {R : World → World → Prop} [Pre R]
def RegS (P : Program) (ops : Array Oper) (Q : Exit → Act → World → Prop) (R : World → World → Prop) (fuel : Nat) (listed : Array Bool) (a : Act) (w : World) : Prop := wpAnyH P .any ops Q (R w) fuel listed a w
theorem regS_start {id : Nat} {a : Act} {w : World} (R : World → World → Prop) [Pre R] (hm : P.follows .mixedOrders = true) (h : RegS P ops Q R ops.size (Array.replicate ops.size false) a w.drew) : (Code.region id ops true).wp P Q a w :=
  wp_region_held_drew (S := R w.drew) hm (Pre.refl _) fun _ => h
theorem regS_take (i : Nat) {o : Oper} {v : Value} {fuel : Nat} {listed : Array Bool} {a : Act} {w : World} (d : Option Tmp) (hi : ops[i]? = some o) (hd : o.dst = d)
    (hs : Region.noSelect ops = true) (hf : Region.free .any ops listed i = true) (hr : (Region.ready .any ops listed).contains i = true)
    (hQ : ∀ c a w, Q (.panic c) (a.put o.dst v) w → Q (.panic c) a w) (hw : Region.wanted o (yielded ops a.tmps) = true)
    (hy : ∀ W, R w W → (execOp a.eval o).run P W = .ok (.value v) W)
    (h : RegS P ops Q R fuel (listed.setIfInBounds i true) (a.put d v) w) : RegS P ops Q R (fuel + 1) listed a w := by
  subst hd
  exact wpAnyH_take hi hs hf hr hQ (.inl ⟨hw, hy⟩) (Pre.refl w) h
theorem regS_load (i : Nat) {o : Oper} {ty : TypeId} {x : Operand} {p v : Value} {fuel : Nat} {listed : Array Bool} {a : Act} {w : World} (d : Option Tmp)
    (hrun : ∀ W, R w W → (Instr.loadAt ty p).run P W = .ok v W) (hi : ops[i]? = some o) (hd : o.dst = d) (ho : o.op = .load ty x) (hx : a.eval x = p)
    (hs : Region.noSelect ops = true) (hf : Region.free .any ops listed i = true) (hr : (Region.ready .any ops listed).contains i = true)
    (hQ : ∀ c a w, Q (.panic c) (a.put o.dst v) w → Q (.panic c) a w) (hw : Region.wanted o (yielded ops a.tmps) = true)
    (h : RegS P ops Q R fuel (listed.setIfInBounds i true) (a.put d v) w) : RegS P ops Q R (fuel + 1) listed a w :=
  regS_take i d hi hd hs hf hr hQ hw (fun W hW => exec_load ho hx (hrun W hW)) h
theorem regS_eff (i : Nat) {o : Oper} {fuel : Nat} {listed : Array Bool} {a : Act} {w : World} (hi : ops[i]? = some o) (hr : Region.ready .any ops listed = [i])
    (h : ∀ K : Act → World → Prop, Hid (∀ a' w', R w w' → RegS P ops Q R fuel (listed.setIfInBounds i true) a' w' → K a' w') → if Region.wanted o (yielded ops a.tmps) = true then Oper.wp P o a w K Q else K (a.put o.dst undef) w) :
    RegS P ops Q R (fuel + 1) listed a w := by
  refine wpAnyH_ready hr (by simp) ?_
  refine AllReadyH.cons hi (fun K' hK => h K' fun a' w' hE hR => ?_) AllReadyH.nil
  exact hK.out a' w' hE fun _ => wpAnyH_mono (fun W hW => Pre.trans hE hW) _ _ _ _ hR
theorem regS_done {fuel : Nat} {listed : Array Bool} {a : Act} {w : World} (hr : Region.ready .any ops listed = []) (h : Q .normal a w) : RegS P ops Q R fuel listed a w :=
  wpAnyH_done hr h fuel
end
/-- all that w has is as it was, but for the one cell -/
def But (g j : Nat) (w W : World) : Prop := w.heap.size ≤ W.heap.size ∧ ∀ b o, b < w.heap.size → ¬ (b = g ∧ o = j) → W.cell? ⟨b, o, none⟩ = w.cell? ⟨b, o, none⟩
instance (g j : Nat) : Pre (But g j) where
  refl _ := ⟨Nat.le_refl _, fun _ _ _ _ => rfl⟩
  trans h k := ⟨Nat.le_trans h.1 k.1, fun b o hb hn => (k.2 b o (Nat.lt_of_lt_of_le hb h.1) hn).trans (h.2 b o hb hn)⟩
theorem But.of_ext {g j : Nat} {w W : World} (h : Ext w W) : But g j w W := ⟨h.size, fun b o hb _ => h.cell hb⟩
theorem But.set {g j : Nat} {w : World} (v : Value) : But g j w (w.setCell ⟨g, j, none⟩ v) := by
  refine ⟨by simp, fun b o hb hn => ?_⟩
  refine World.cell?_setCell_other w _ _ v fun h => hn ?_
  injection h with h1 h2
  exact ⟨h1.symm, h2.symm⟩
theorem regB_eff2 {P : Program} {ops : Array Oper} {Q : Exit → Act → World → Prop} (i j : Nat) {o o' : Oper} {B fuel : Nat} {listed : Array Bool} {a : Act} {w : World} (hi : ops[i]? = some o) (hj : ops[j]? = some o') (hr : Region.ready .any ops listed = [i, j])
    (h : ∀ K : Act → World → Prop, Hid (∀ a' w', Below B w w' → RegB P ops Q B fuel (listed.setIfInBounds i true) a' w' → K a' w') → if Region.wanted o (yielded ops a.tmps) = true then Oper.wp P o a w K Q else K (a.put o.dst undef) w)
    (h' : ∀ K : Act → World → Prop, Hid (∀ a' w', Below B w w' → RegB P ops Q B fuel (listed.setIfInBounds j true) a' w' → K a' w') → if Region.wanted o' (yielded ops a.tmps) = true then Oper.wp P o' a w K Q else K (a.put o'.dst undef) w) :
    RegB P ops Q B (fuel + 1) listed a w := by
  refine wpAnyH_ready hr (by simp) ?_
  refine AllReadyH.cons hi (fun K' hK => h K' fun a' w' hE hR => ?_) (AllReadyH.cons hj (fun K' hK => h' K' fun a' w' hE hR => ?_) AllReadyH.nil)
  · exact hK.out a' w' hE fun _ => wpAnyH_mono (fun W hW => hE.trans hW) _ _ _ _ hR
  · exact hK.out a' w' hE fun _ => wpAnyH_mono (fun W hW => hE.trans hW) _ _ _ _ hR
theorem below_of_alloc {B : Nat} {w W : World} {o : Obj} (h : w.alloc o = W) (hB : B ≤ w.heap.size) : Below B w W := by
  rw [← h]; exact (Below.refl _ _).alloc hB _
theorem heap_of_alloc {w W : World} {o : Obj} (h : w.alloc o = W) : W.heap[w.heap.size]? = some o := by rw [← h]; exact heap_alloc_new' w o
end Go.Proofs.Ytjlljifllnmdoaa

/- The contract of sha.spread. -/
namespace Go.Proofs.Ytjlljifllnmdoaa
open Go.RowKit
set_option maxRecDepth 100000
set_option linter.unusedVariables false
set_option linter.unusedSimpArgs false

/-- the i-th number of a block -/
def wordAt (b : List UInt8) (i : Nat) : W32 := BitVec.ofNat 32 (bigN ((b.drop (4 * i)).take 4))
def next (l : List W32) (i : Nat) : W32 := l.getD i 0 + shiftL (l.getD (i + 1) 0) 7 18 3 + l.getD (i + 9) 0 + shiftL (l.getD (i + 14) 0) 17 19 10
def spreadN (b : List UInt8) : Nat → List W32
  | 0 => (List.range 16).map (wordAt b)
  | n + 1 => spreadN b n ++ [next (spreadN b n) n]
theorem spreadN_len (b : List UInt8) (n : Nat) : (spreadN b n).length = 16 + n := by
  induction n with
  | zero => simp [spreadN]
  | succ n ih => simp [spreadN, ih]; omega
/-- the row as it lies in memory behind i numbers of the first 16, behind n of the other 48 -/
def rowA (b : List UInt8) (i : Nat) : List W32 := (List.range i).map (wordAt b) ++ List.replicate (64 - i) 0
def rowB (b : List UInt8) (n : Nat) : List W32 := spreadN b n ++ List.replicate (48 - n) 0
theorem rowA_step (b : List UInt8) (i : Nat) (hi : i < 64) : (rowA b i).set i (wordAt b i) = rowA b (i + 1) := by
  unfold rowA
  rw [List.range_succ, List.map_append, List.append_assoc, show 64 - i = (64 - (i + 1)) + 1 by omega, List.replicate_succ]
  rw [List.set_append_right _ _ (by simp)]
  simp
theorem rowB_step (b : List UInt8) (n : Nat) (hn : n < 48) : (rowB b n).set (n + 16) (next (rowB b n) n) = rowB b (n + 1) := by
  have hg : ∀ j, j < 16 + n → (rowB b n).getD j 0 = (spreadN b n).getD j 0 := by
    intro j hj
    unfold rowB
    rw [List.getD_eq_getElem?_getD, List.getD_eq_getElem?_getD, List.getElem?_append_left (by rw [spreadN_len]; exact hj)]
  have hx : next (rowB b n) n = next (spreadN b n) n := by
    unfold next
    rw [hg n (by omega), hg (n + 1) (by omega), hg (n + 9) (by omega), hg (n + 14) (by omega)]
  rw [hx]
  unfold rowB
  rw [spreadN, List.append_assoc, show 48 - n = (48 - (n + 1)) + 1 by omega, List.replicate_succ, List.set_append_right _ _ (by rw [spreadN_len]; omega), spreadN_len]
  simp [show n + 16 - (16 + n) = 0 by omega]
theorem rowA_end (b : List UInt8) : rowA b 16 = rowB b 0 := rfl
theorem rowB_end (b : List UInt8) : rowB b 48 = spreadN b 48 := by simp [rowB]
theorem rowA_len (b : List UInt8) (i : Nat) (hi : i ≤ 64) : (rowA b i).length = 64 := by simp [rowA]; omega
theorem rowB_len (b : List UInt8) (i : Nat) (hi : i ≤ 48) : (rowB b i).length = 64 := by simp [rowB, spreadN_len]; omega
theorem rowA_zero (b : List UInt8) : ((rowA b 0).map wv) = List.replicate 64 (Value.int .u32 0) := by simp [rowA, wv]
theorem word_big (b : List UInt8) (i : Nat) : big ((b.drop (4 * i)).take 4) = (wordAt b i).toNat := by
  have hl : ((b.drop (4 * i)).take 4).length ≤ 4 := by simp; omega
  have h := bigN_lt ((b.drop (4 * i)).take 4)
  have h4 : 256 ^ ((b.drop (4 * i)).take 4).length ≤ 256 ^ 4 := Nat.pow_le_pow_right (by decide) hl
  unfold wordAt
  rw [big, show ((b.drop (4 * i)).take 4).length - 8 = 0 by omega, List.drop_zero, BitVec.toNat_ofNat, Nat.mod_eq_of_lt]
  calc _ < _ := h
    _ ≤ 256 ^ 4 := h4
    _ = 2 ^ 32 := by decide
theorem arr64B : Try.prog.underlying 47 = some (.array 64 5) := Try.underlying47
theorem i64B : (Try.prog.info? 47).map (·.size) = some 64 := by kernel_rfl

theorem store_cell {P : Program} {ty : TypeId} {k : IntKind} (hu : P.underlying ty = some (.int k)) (hs : (P.info? ty).map (·.size) = some 1) {w : World} {b o : Nat} {v : Value} {z : Int} (h : w.cell? ⟨b, o, none⟩ = some v) (hf : w.frozen? ⟨b, o, none⟩ = false) :
    (Instr.storeAt ty (.pointer (some ⟨b, o, none⟩)) (.int k z)).run P w = .ok () (w.setCell ⟨b, o, none⟩ (.int k z)) := by
  simp [go_sem, Instr.storeAt, Instr.sureAddr, storeVar, isAgg, run_underlying hu, sizeOf_one hs, Value.cells, storeCells, Result.andThen, Addr.add_mid, h, hf]
theorem step_st1 {P : Program} {w w' : World} {ops : Array Oper} {o : Oper} {a : Act} {K : Act → World → Prop} {Q : Exit → Act → World → Prop} {E : Prop} (hg : o.guard = none) (ty : TypeId) (x y : Operand)
    (ho : o.op = .store ty x y) (hrun : (Instr.storeAt ty (a.eval x) (a.eval y)).run P w = .ok () w') (h : K (a.put o.dst undef) w') : if Region.wanted o (yielded ops a.tmps) = true then Oper.wp P o a w K Q else E := by
  have hw : Region.wanted o (yielded ops a.tmps) = true := by simp [Region.wanted, hg]
  rw [if_pos hw]
  unfold Oper.wp execOp
  simp only [ho, Sem.run_bind, hrun, Result.andThen_ok]
  exact h

end Go.Proofs.Ytjlljifllnmdoaa

/- The contract of sha.Block. -/
namespace Go.Proofs.Ytjlljifllnmdoaa
open Go.RowKit
set_option maxRecDepth 100000
set_option linter.unusedVariables false
set_option linter.unusedSimpArgs false

def addL (h m : List W32) : List W32 := List.zipWith (· + ·) h m
def blockL (h : List W32) (b : List UInt8) : List W32 := addL h (mixN (stOf h) (spreadN b 48) 64).list
def addN (h m : List W32) (i : Nat) : List W32 := (addL h m).take i ++ h.drop i
theorem St.list_len (s : St) : s.list.length = 8 := rfl
theorem addL_len (h m : List W32) (hh : h.length = 8) (hm : m.length = 8) : (addL h m).length = 8 := by simp [addL, hh, hm]
theorem blockL_len (h : List W32) (b : List UInt8) (hh : h.length = 8) : (blockL h b).length = 8 := addL_len _ _ hh rfl
theorem addN_len (h m : List W32) (i : Nat) (hh : h.length = 8) (hm : m.length = 8) (hi : i ≤ 8) : (addN h m i).length = 8 := by
  simp [addN, addL_len h m hh hm, hh]; omega
theorem addN_get (h m : List W32) (i : Nat) (hh : h.length = 8) (hm : m.length = 8) (hi : i < 8) : (addN h m i).getD i 0 = h.getD i 0 := by
  have hl : ((addL h m).take i).length = i := by rw [List.length_take, addL_len h m hh hm]; omega
  rw [addN, List.getD_eq_getElem?_getD, List.getElem?_append_right (by omega), hl, List.getElem?_drop, List.getD_eq_getElem?_getD]; simp
theorem addN_step (h m : List W32) (i : Nat) (hh : h.length = 8) (hm : m.length = 8) (hi : i < 8) : (addN h m i).set i (h.getD i 0 + m.getD i 0) = addN h m (i + 1) := by
  have hl : ((addL h m).take i).length = i := by rw [List.length_take, addL_len h m hh hm]; omega
  have ha : i < (addL h m).length := by rw [addL_len h m hh hm]; exact hi
  unfold addN
  rw [List.set_append_right _ _ (by omega), hl, Nat.sub_self, List.drop_eq_getElem_cons (by omega), List.set_cons_zero, List.take_succ_eq_append_getElem ha, List.append_assoc]
  congr 1
  simp [addL, List.getD, hh, hm, hi]
theorem addN_end (h m : List W32) (hh : h.length = 8) (hm : m.length = 8) : addN h m 8 = addL h m := by
  rw [addN, List.take_of_length_le (by rw [addL_len h m hh hm]; omega), List.drop_of_length_le (by omega), List.append_nil]

theorem heap_of_setRow {w W : World} {g : Nat} {new old : Array Value} {t : TypeId} {fr : Nat × Nat} (h : w.setRow g new = W) (hg : w.heap[g]? = some (.cells old t fr)) : W.heap[g]? = some (.cells new t fr) := by
  rw [← h]; exact setRow_heap _ _ _ _ _ _ hg
theorem below_of_setRow {B : Nat} {w W : World} {g : Nat} {new : Array Value} (h : w.setRow g new = W) (hB : B ≤ g) (hs : B ≤ w.heap.size) : Below B w W := by
  rw [← h]; exact grown_below (grown_setRow _ _ _) hB hs

end Go.Proofs.Ytjlljifllnmdoaa

/- The contracts of sha.Start, sha.Pad. -/
namespace Go.Proofs.Ytjlljifllnmdoaa
open Go.RowKit
set_option maxRecDepth 100000
set_option linter.unusedVariables false
set_option linter.unusedSimpArgs false

def startL : List W32 := [1779033703, 3144134277, 1013904242, 2773480762, 1359893119, 2600822924, 528734635, 1541459225]
/-- how many bytes stand ahead of the length in what is put behind n bytes -/
def padK (n : Nat) : Nat := 64 - (n % 64 + 8) % 64
def padL (n : Nat) : List UInt8 := 128 :: List.replicate (padK n - 1) 0 ++ putBig (8 * n % 18446744073709551616) 8
theorem padK_pos (n : Nat) : 1 ≤ padK n ∧ padK n ≤ 64 := by unfold padK; omega
theorem padL_len (n : Nat) : (padL n).length = padK n + 8 := by have := padK_pos n; simp [padL, putBig_len]; omega
theorem own_heap {w : World} {base g n : Nat} {bs : List UInt8} (h : w.heap[g]? = some (.cells (bs.map bv).toArray 5 (0, 0))) (hb : base ≤ g) (hl : bs.length = n) (hn : n ≤ maxLen) : w.ownsRow base 5 1 (.slice (some ⟨g, 0, none⟩) n n) n (bs.map bv) := by
  refine ⟨by simp [hl], .inr ⟨g, n, _, rfl, hb, h, Nat.le_refl _, hn, by simp [hl], ?_⟩⟩
  simp [hl, List.take_of_length_le]
theorem pad_first (k : Nat) (hk : 1 ≤ k) : (List.replicate k (Value.int .u8 0)).set 0 (.int .u8 128) = ((128 :: List.replicate (k - 1) 0 : List UInt8)).map bv := by
  obtain ⟨j, rfl⟩ : ∃ j, k = j + 1 := ⟨k - 1, by omega⟩
  simp [List.replicate_succ, bv]

end Go.Proofs.Ytjlljifllnmdoaa

/- The contract of sha.Out. -/
namespace Go.Proofs.Ytjlljifllnmdoaa
open Go.RowKit
set_option maxRecDepth 100000
set_option linter.unusedVariables false
set_option linter.unusedSimpArgs false
def outL (h : List W32) : List UInt8 := h.flatMap fun x => putBig x.toNat 4
def outN (h : List W32) (i : Nat) : List UInt8 := outL (h.take i) ++ List.replicate (32 - 4 * i) 0
theorem outL_len (h : List W32) : (outL h).length = 4 * h.length := by
  induction h with
  | nil => rfl
  | cons x h ih => simp only [outL, List.flatMap_cons, List.length_append, putBig_len, List.length_cons] at ih ⊢; omega
theorem outN_len (h : List W32) (i : Nat) (hh : h.length = 8) (hi : i ≤ 8) : (outN h i).length = 32 := by
  simp [outN, outL_len, hh]; omega
theorem outN_step (h : List W32) (i : Nat) (hh : h.length = 8) (hi : i < 8) : splice ((outN h i).map bv) (4 * i) ((putBig (h.getD i 0).toNat 4).map bv) = (outN h (i + 1)).map bv := by
  have e0 : List.replicate (32 - 4 * i) (0 : UInt8) = List.replicate 4 0 ++ List.replicate (32 - 4 * (i + 1)) 0 := by
    rw [List.replicate_append_replicate]; congr 1; omega
  have e1 : (outN h i).map bv = (outL (h.take i)).map bv ++ (List.replicate 4 (0 : UInt8)).map bv ++ (List.replicate (32 - 4 * (i + 1)) (0 : UInt8)).map bv := by
    rw [outN, e0, List.map_append, List.map_append, List.append_assoc]
  have hl : ((outL (h.take i)).map bv).length = 4 * i := by rw [List.length_map, outL_len, List.length_take, hh]; omega
  have e2 : outL (h.take (i + 1)) = outL (h.take i) ++ putBig (h.getD i 0).toNat 4 := by
    have hi' : i < h.length := by omega
    rw [List.take_succ_eq_append_getElem hi', outL, List.flatMap_append]
    simp [outL, List.getD, hi']
  rw [e1, ← hl, splice_split _ _ _ _ (by simp [putBig_len]), outN, e2, List.map_append, List.map_append]
theorem outN_end (h : List W32) (hh : h.length = 8) : outN h 8 = outL h := by
  simp [outN, List.take_of_length_le, hh]
theorem arr32B : Try.prog.underlying 22 = some (.array 32 5) := Try.underlying22
theorem i32B : (Try.prog.info? 22).map (·.size) = some 32 := by kernel_rfl

end Go.Proofs.Ytjlljifllnmdoaa

/- The contract of sha.whole. -/
namespace Go.Proofs.Ytjlljifllnmdoaa
open Go.RowKit
set_option maxRecDepth 100000
set_option linter.unusedVariables false
set_option linter.unusedSimpArgs false
def sliceLen : Value → Nat
  | .slice _ n _ => n
  | _ => 0
/-- the state behind j whole blocks -/
def wholeN (h : List W32) (bs : List UInt8) : Nat → List W32
  | 0 => h
  | j + 1 => blockL (wholeN h bs j) ((bs.drop (64 * j)).take 64)
theorem wholeN_len (h : List W32) (bs : List UInt8) (j : Nat) (hh : h.length = 8) : (wholeN h bs j).length = 8 := by
  induction j with
  | zero => exact hh
  | succ j ih => exact blockL_len _ _ ih
theorem results_row_tmp {P : Program} {fn : Func} {p u : Tmp} {ty : TypeId} (h : fn.results = #[.cell p ty, .tmp u]) (tmps : Array Value) (w : World) (g : Nat) (t : TypeId) (cs : Array Value) (fr : Nat × Nat) (d : TypeDesc)
    (hp : tmps.getD p undef = .pointer (some ⟨g, 0, none⟩)) (hg : w.heap[g]? = some (.cells cs t fr))
    (hu : P.underlying ty = some d) (hd : (match d with | .struct _ | .array _ _ => true | _ => false) = true) (hi : (P.info? ty).map (·.size) = some cs.size) :
    (results fn tmps).run P w = .ok (.tuple #[.agg cs, tmps.getD u undef]) w := by
  have hp' : tmps[p]?.getD undef = .pointer (some ⟨g, 0, none⟩) := by simpa using hp
  simp [results, h, hp', asAddr, run_loadVar_row w g t ty cs fr d hg hu hd hi]
theorem sl_cut {w : World} {A : Option Addr} {c k : Nat} {l : List UInt8} (h : Sl w A c l) (hk : k ≤ l.length) : Sl w (cutS A c k) (c - k) (l.drop k) := by
  have h1 := h.1
  have h2 := h.2.1
  refine ⟨by rw [List.length_drop]; omega, by omega, ?_⟩
  have := h.2.2.cut (c := c) (l := k) (by simpa using hk) (by simpa using h1)
  rwa [← List.map_drop] at this
theorem wpList_cpy {P : Program} {w : World} {ops : Array Oper} {rest : List Oper} {o : Oper} {a : Act} {Q : Exit → Act → World → Prop} (hg : o.guard = none) (s x : Operand) (t xt : TypeId)
    (ho : o.op = .call { callee := .builtin .copy, args := #[s, x], argTypes := #[t, xt] }) {v' : Value} {w' : World}
    (hrun : (Builtin.copy_ #[t, xt] o.type #[a.eval s, a.eval x]).run P w = .ok v' w') (h : wpList P ops Q rest (a.put o.dst v') w') : wpList P ops Q (o :: rest) a w := by
  unfold wpList
  have := step_cpy (P := P) (w := w) (ops := ops) (o := o) (a := a) (K := fun a w => wpList P ops Q rest a w) (Q := Q) (E := True) hg s x t xt ho hrun h
  have hw : Region.wanted o (yielded ops a.tmps) = true := by simp [Region.wanted, hg]
  rw [if_pos hw] at this ⊢
  exact .inl this
def AnyR (_ _ : World) : Prop := True
instance : Pre AnyR where
  refl _ := trivial
  trans _ _ := trivial
theorem heap_of_other {w W : World} {g k : Nat} {new : Array Value} {o : Obj} (h : w.setRow g new = W) (hk : k ≠ g) (ho : w.heap[k]? = some o) : W.heap[k]? = some o := by
  rw [← h, setRow_other _ _ _ _ hk]; exact ho
theorem regS_eff2 {P : Program} {ops : Array Oper} {Q : Exit → Act → World → Prop} {R : World → World → Prop} [Pre R] (i j : Nat) {o o' : Oper} {fuel : Nat} {listed : Array Bool} {a : Act} {w : World} (hi : ops[i]? = some o) (hj : ops[j]? = some o') (hr : Region.ready .any ops listed = [i, j])
    (h : ∀ K : Act → World → Prop, Hid (∀ a' w', R w w' → RegS P ops Q R fuel (listed.setIfInBounds i true) a' w' → K a' w') → if Region.wanted o (yielded ops a.tmps) = true then Oper.wp P o a w K Q else K (a.put o.dst undef) w)
    (h' : ∀ K : Act → World → Prop, Hid (∀ a' w', R w w' → RegS P ops Q R fuel (listed.setIfInBounds j true) a' w' → K a' w') → if Region.wanted o' (yielded ops a.tmps) = true then Oper.wp P o' a w K Q else K (a.put o'.dst undef) w) :
    RegS P ops Q R (fuel + 1) listed a w := by
  refine wpAnyH_ready hr (by simp) ?_
  refine AllReadyH.cons hi (fun K' hK => h K' fun a' w' hE hR => ?_) (AllReadyH.cons hj (fun K' hK => h' K' fun a' w' hE hR => ?_) AllReadyH.nil)
  · exact hK.out a' w' hE fun _ => wpAnyH_mono (fun W hW => Pre.trans hE hW) _ _ _ _ hR
  · exact hK.out a' w' hE fun _ => wpAnyH_mono (fun W hW => Pre.trans hE hW) _ _ _ _ hR
theorem step_ld {P : Program} {w : World} {ops : Array Oper} {o : Oper} {a : Act} {K : Act → World → Prop} {Q : Exit → Act → World → Prop} {E : Prop} (hg : o.guard = none) (ty : TypeId) (x : Operand)
    (ho : o.op = .load ty x) {v : Value} (hrun : (Instr.loadAt ty (a.eval x)).run P w = .ok v w) (h : K (a.put o.dst v) w) : if Region.wanted o (yielded ops a.tmps) = true then Oper.wp P o a w K Q else E := by
  have hw : Region.wanted o (yielded ops a.tmps) = true := by simp [Region.wanted, hg]
  rw [if_pos hw]
  unfold Oper.wp execOp
  simp only [ho, Sem.run_bind, hrun, Result.andThen_ok]
  exact h
/-- a label at the head of a scope, to which its own code jumps back -/
theorem wp_scope_label {P : Program} {a : Act} {w : World} {Q : Exit → Act → World → Prop} {rest : Code} (l : Nat) (J : Act → World → Prop) (μ : Act → World → Nat) (hf : findLabel ((Code.label l).seq rest) l = some (Code.skip.seq rest)) (h0 : J a w)
    (pass : ∀ a w, J a w → rest.wp P (Exit.jump l (fun a' w' => J a' w' ∧ μ a' w' < μ a w) Q) a w) : (Code.scope ((Code.label l).seq rest)).wp P Q a w := by
  refine wp_scope_jumps l J μ hf (wp_seq (wp_label ?_)) (fun a w h => wp_seq (wp_skip (pass a w h)))
  refine Code.wp_mono ?_ (pass a w h0)
  intro e a w h
  cases e <;> first | exact h | exact ⟨h.1, h.2.1⟩
theorem heap2 (w : World) (o1 o2 : Obj) : ((w.alloc o1).alloc o2).heap[w.heap.size]? = some o1 ∧ ((w.alloc o1).alloc o2).heap[w.heap.size + 1]? = some o2 ∧ Below w.heap.size w ((w.alloc o1).alloc o2) := by
  have e1 : (w.alloc o1).heap.size = w.heap.size + 1 := by simp
  refine ⟨?_, ?_, ?_⟩
  · rw [Below.heap_alloc _ _ _ (by omega)]; exact heap_alloc_new' w o1
  · have := heap_alloc_new' (w.alloc o1) o2; rwa [e1] at this
  · exact ((Below.refl _ w).alloc (Nat.le_refl _) _).alloc (by omega) _

end Go.Proofs.Ytjlljifllnmdoaa

/- The reference's small functions of layer 2: right, Round, Start. -/
namespace Go.Proofs.Ytjlljifllnmdoaa
open Go.RowKit
set_option linter.unusedVariables false
set_option maxRecDepth 100000
set_option linter.unusedSimpArgs false
theorem right_math (x : W32) (n : Nat) (h1 : 1 ≤ n) (h2 : n ≤ 31) :
    (((x.toNat : Int) / ((2 ^ n : Nat) : Int) % 4294967296 + (x.toNat : Int) * (2 ^ min (32 - n) 32 % 4294967296) % 4294967296) % 4294967296) = ((rotl x (-(n : Int))).toNat : Int) := by
  have e0 : (-(n : Int) % 32).toNat = 32 - n := by omega
  have hlt : (2 : Nat) ^ (32 - n) < 4294967296 := Nat.lt_of_lt_of_le (Nat.pow_lt_pow_right (by omega) (show 32 - n < 32 by omega)) (by decide)
  have e1 : ((2 : Int) ^ min (32 - n) 32 % 4294967296) = ((2 ^ (32 - n) : Nat) : Int) := by
    rw [Nat.min_eq_left (by omega), show ((2 : Int) ^ (32 - n)) = ((2 ^ (32 - n) : Nat) : Int) by simp]; generalize 2 ^ (32 - n) = q at hlt ⊢; omega
  have hx := x.isLt
  have hq : x.toNat / 2 ^ n < 2 ^ (32 - n) := by
    rw [Nat.div_lt_iff_lt_mul (Nat.pow_pos (by omega)), ← Nat.pow_add, show 32 - n + n = 32 by omega]; exact hx
  have hm : x.toNat * 2 ^ (32 - n) % 4294967296 % 2 ^ (32 - n) = 0 := by
    have : (4294967296 : Nat) = 2 ^ (32 - n) * 2 ^ n := by rw [← Nat.pow_add, show 32 - n + n = 32 by omega]
    rw [this, Nat.mod_mul_right_mod]; exact Nat.mul_mod_left _ _
  have hs : x.toNat * 2 ^ (32 - n) % 4294967296 + x.toNat / 2 ^ n < 4294967296 := by
    rw [← nat_join (32 - n) _ _ hm hq]
    exact Nat.or_lt_two_pow (n := 32) (Nat.mod_lt _ (by decide)) (Nat.lt_trans hq hlt)
  rw [rotl, e0, BitVec.rotateLeft_def, Nat.mod_eq_of_lt (show 32 - n < 32 by omega), show 32 - (32 - n) = n by omega, BitVec.toNat_or, BitVec.toNat_shiftLeft, BitVec.toNat_ushiftRight, Nat.shiftLeft_eq, Nat.shiftRight_eq_div_pow, nat_join (32 - n) _ _ hm hq, e1]
  generalize 2 ^ (32 - n) = Q at *
  generalize 2 ^ n = P at *
  have : ((x.toNat : Int) / (P : Int)) = ((x.toNat / P : Nat) : Int) := by simp
  rw [this, ← Int.natCast_mul]
  generalize x.toNat / P = A at *
  generalize x.toNat * Q = B at *
  clear this e1 hm
  simp only [Nat.reducePow] at *
  omega
theorem wpList_run {P : Program} {w w' : World} {ops : Array Oper} {rest : List Oper} {o : Oper} {a : Act} {Q : Exit → Act → World → Prop} (hw : Region.wanted o (yielded ops a.tmps) = true) {v : Value}
    (hrun : (execOp a.eval o).run P w = .ok (.value v) w') (h : wpList P ops Q rest (a.put o.dst v) w') : wpList P ops Q (o :: rest) a w := by
  unfold wpList
  rw [if_pos hw]
  refine .inl ?_
  unfold Oper.wp
  simp only [hrun]
  exact h
theorem roundCells : ∀ i, i < 64 → (roundsL.map fun (n : Nat) => Value.int .u32 (n : Int))[i]? = some (wv (kL i)) := by
  intro i hi
  have h3 : i < roundsL.length := hi
  have h5 : roundsL.getD i 0 < 4294967296 := by revert i; decide
  simp only [List.getD, List.getElem?_eq_getElem h3, Option.getD_some] at h5
  simp only [wv, kL, List.getElem?_map, List.getD, List.getElem?_eq_getElem h3, Option.getD_some, Option.map_some, BitVec.toNat_ofNat, Nat.mod_eq_of_lt h5]
def roundsV : List Value := roundsL.map fun (n : Nat) => Value.int .u32 (n : Int)
theorem roundsV_one : ∀ v ∈ roundsV, v.oneCell' = true := by
  intro v hv
  obtain ⟨x, _, rfl⟩ := List.mem_map.1 hv
  rfl
end Go.Proofs.Ytjlljifllnmdoaa

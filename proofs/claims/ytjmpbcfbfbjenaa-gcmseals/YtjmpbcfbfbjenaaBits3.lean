/- Contracts of bits.Xor, bits.Equal, of the document's own Xor; bytes as a string. -/
import Derived.Test.YtjmpbcfbfbjenaaBits2
import Derived.Test.YtjmpbcfbfbjenaaLift
import Derived.Deep.QuietTactic
import Derived.BigQuiet
import Derived.Deep.RegionLaw
namespace Go.Proofs.Ytjmpbcfbfbjenaa
open Go.RowKit
set_option linter.unusedVariables false
set_option maxRecDepth 100000

theorem xor8 (x y : UInt8) : bits .xor .u8 (x.toNat : Int) (y.toNat : Int) = ((x ^^^ y).toNat : Int) := by
  rw [u8_xor_nat _ _ x.toNat_lt y.toNat_lt, UInt8.toNat_xor]
theorem or8 (x y : UInt8) : bits .or .u8 (x.toNat : Int) (y.toNat : Int) = ((x ||| y).toNat : Int) := by
  rw [u8_or_nat _ _ x.toNat_lt y.toNat_lt, UInt8.toNat_or]
theorem and8 (x y : UInt8) : bits .and .u8 (x.toNat : Int) (y.toNat : Int) = ((x &&& y).toNat : Int) := by
  rw [u8_and_nat _ _ x.toNat_lt y.toNat_lt, UInt8.toNat_and]

theorem callXor : ∀ args W, (callFunc 95 args).run Try.prog W = .ok (.enter 95 args) W := fun _ _ => by kernel_rfl

theorem xor1_any (i n c n' c' : Nat) (b1 b2 p q p' q' : Nat) (x y : UInt8) (w : World) (hi : i < n) (hi' : i < n') (hn : n ≤ 2147483647) (hn' : n' ≤ 2147483647)
    (h1 : w.cell? ⟨b1, 0, none⟩ = some (.slice (some ⟨p, q, none⟩) n c)) (h2 : w.cell? ⟨b2, 0, none⟩ = some (.slice (some ⟨p', q', none⟩) n' c'))
    (c1 : w.cell? ⟨p, q + i, none⟩ = some (.int .u8 (x.toNat : Int))) (c2 : w.cell? ⟨p', q' + i, none⟩ = some (.int .u8 (y.toNat : Int))) :
    Calls Try.prog 95 #[.int .i64 (i : Int), .pointer (some ⟨b1, 0, none⟩), .pointer (some ⟨b2, 0, none⟩)] w fun e w' => e = .returned (.int .u8 ((x ^^^ y).toNat : Int)) ∧ Below w.heap.size w w' := by
  have hx := Lib.hid (xor8 x y)
  have e1 : (i : Int) < (n : Int) := by omega
  have e2 : (i : Int) < (n' : Int) := by omega
  go_enter Try.func95, Try.ntmps95
  go_wp2_with fail
  go_quiet (fail)
  go_wp2
  go_ret
  exact ⟨ret_int hx.out, ⟨rfl, rfl, rfl, Nat.le_refl _, fun _ _ => rfl⟩⟩

/-- the exclusive or of two rows, as long as the shorter one -/
def xorL (a b : List UInt8) : List UInt8 := List.zipWith (· ^^^ ·) a b

theorem xor_any (A A' : Option Addr) (c c' : Nat) (a b : List UInt8) (w : World) (h : Sl w A c a) (h' : Sl w A' c' b) (ha : a.length ≤ 2147483647) (hb : b.length ≤ 2147483647) :
    Calls Try.prog 65 #[.slice A a.length c, .slice A' b.length c'] w (NewRow w (min a.length b.length) (xorL a b)) := by
  have hput := put_any 95 #[.pointer (some ⟨w.heap.size, 0, none⟩), .pointer (some ⟨w.heap.size + 1, 0, none⟩)] (fun i => (xorL a b).getD i 0) (min a.length b.length)
    ((w.alloc (.cells #[.slice A a.length c] 26)).alloc (.cells #[.slice A' b.length c'] 26)) (by omega) callXor (fun i W hi hb' => by
      have hi1 : i < a.length := by omega
      have hi2 : i < b.length := by omega
      have hW : Below w.heap.size w W := (two_below w _ _).trans (hb'.mono (by simp; omega))
      obtain ⟨p, q, rfl, _, r1⟩ := (h.2.2.below hW).at_ (by simp; omega)
      obtain ⟨p', q', rfl, _, r2⟩ := (h'.2.2.below hW).at_ (by simp; omega)
      have e : (xorL a b).getD i 0 = a[i] ^^^ b[i] := by simp [xorL, List.getD, List.getElem?_zipWith, hi1, hi2]
      rw [e]
      refine xor1_any i a.length c b.length c' w.heap.size (w.heap.size + 1) p q p' q' a[i] b[i] W hi1 hi2 (by omega) (by omega) ?_ ?_ (r1 i _ (by simp [hi1, bv])) (r2 i _ (by simp [hi2, bv]))
      · rw [hb'.cell (by simp; omega)]; simp
      · rw [hb'.cell (by simp)]; simp)
  have HP := Lib.hid hput
  clear hput h h'
  have hmin : (if b.length < a.length then (b.length : Int) else (a.length : Int)) = ((min a.length b.length : Nat) : Int) := by split <;> omega
  go_enter Try.func65, Try.ntmps65
  go_wp2_with fail
  refine HP.out.mono ?_
  rintro e w' ⟨rfl, hK, hB⟩
  have HK := Lib.hid hK
  have HB := Lib.hid hB
  clear hK hB
  go_wp2
  go_ret
  have e : (List.range (min a.length b.length)).map (fun i => (xorL a b).getD i 0) = xorL a b := by
    apply List.ext_getElem
    · simp [xorL]
    · intro i h1 h2
      simp [List.getD, h2]
  refine ⟨_, by omega, rfl, ?_, (two_below w _ _).trans (HB.out.mono (by simp; omega))⟩
  have := HK.out
  rw [e] at this
  simpa using this

/-- bytes as a string -/
def strOf (bs : List UInt8) : ByteArray := ⟨bs.toArray⟩
theorem strOf_inj {a b : List UInt8} (h : strOf a = strOf b) : a = b := by
  unfold strOf at h; injection h with h; simpa using h

theorem conv_string (W : World) (A : Option Addr) (n c : Nat) (bs : List UInt8) (hl : bs.length = n) (h : Sl W A c bs) :
    (convert 26 9 (.slice A n c)).run Try.prog W = .ok (.string (strOf bs)) W := by
  by_cases h0 : n = 0
  · subst h0
    obtain rfl : bs = [] := List.eq_nil_of_length_eq_zero hl
    rw [run_convert_bytes_string W 26 9 5 A 0 c uT Try.underlying5 Try.underlying9]
    cases A <;> simp [Conv.bytesToString, loadCells, loadCellsFrom, strOf] <;> rfl
  · obtain ⟨b, o, rfl, _, hc⟩ := h.2.2.at_ (by simp; omega)
    have := run_convert_bytes_arg (P := Try.prog) W 26 5 uT Try.underlying5 b o n c (bs.map fun b => (b.toNat : Int)) (by simpa using hl)
      (fun i hi => by
        have := hc i (bv bs[i]) (by simp [show i < bs.length by omega])
        rw [this]; simp [bv, List.getD, show i < bs.length by omega]) 9 Try.underlying9
    rw [this]
    have e : strOfNums (bs.map fun b => (b.toNat : Int)) = strOf bs := by
      unfold strOfNums strOf
      congr 1
      simp [Function.comp_def]
    rw [e]

theorem or_zero8 (x y : UInt8) : x ||| y = 0 ↔ x = 0 ∧ y = 0 := by
  rw [← UInt8.toBitVec_inj, ← UInt8.toBitVec_inj (a := x), ← UInt8.toBitVec_inj (a := y)]
  simp
theorem xor_zero8 (x y : UInt8) : x ^^^ y = 0 ↔ x = y := by
  rw [← UInt8.toBitVec_inj, ← UInt8.toBitVec_inj (a := x)]
  simp
theorem eq_step (a b : List UInt8) (k : Nat) (d : UInt8) (ka : k < a.length) (kb : k < b.length) (h : d = 0 ↔ a.take k = b.take k) : d ||| (a[k] ^^^ b[k]) = 0 ↔ a.take (k + 1) = b.take (k + 1) := by
  rw [List.take_succ_eq_append_getElem ka, List.take_succ_eq_append_getElem kb, or_zero8, xor_zero8, h]
  constructor
  · rintro ⟨h1, h2⟩; rw [h1, h2]
  · intro h
    have := List.append_inj h (by simp; omega)
    exact ⟨this.1, by simpa using this.2⟩
theorem equal_any (A A' : Option Addr) (c c' : Nat) (a b : List UInt8) (w : World) (h : Sl w A c a) (h' : Sl w A' c' b) (ha : a.length ≤ 2147483647) (hb : b.length ≤ 2147483647) :
    Calls Try.prog 62 #[.slice A a.length c, .slice A' b.length c'] w fun e w' => e = .returned (.bool (decide (a = b))) ∧ Below w.heap.size w w' := by
  by_cases hl : a.length = b.length
  · obtain ⟨n, hn⟩ : ∃ n, n = a.length := ⟨_, rfl⟩
    have hq : ((a.length : Int) != (b.length : Int)) = false := by simp [hl]
    rw [← hn] at hl
    rw [← hn, ← hl] at hq
    rw [← hn, ← hl]
    have hn31 : n ≤ 2147483647 := by omega
    have HA := Lib.hid hn
    have HBl := Lib.hid hl
    have H1 := Lib.hid h
    have H2 := Lib.hid h'
    clear hn hl h h' ha hb
    go_enter Try.func62, Try.ntmps62
    go_wp2_with fail
    go_loopw [5, 14] (fun dv iv wr => ∃ (k m : Nat) (d : UInt8), k ≤ n ∧ iv = .int .i64 k ∧ dv = .int .u8 (d.toNat : Int) ∧ wr = w.drewN m ∧ Hid (d = 0 ↔ a.take k = b.take k)) (fun _ i _ => n - (intOf i).toNat)
    case atStart => exact ⟨0, 0, 0, by omega, rfl, rfl, rfl, by simp [Hid]⟩
    case round =>
      obtain ⟨k, m, d, hk, rfl, rfl, rfl, HD⟩ := hrel
      by_cases hlt : k < n
      · obtain ⟨p, q, rfl, _, r1⟩ := H1.out.2.2.at_ (by have := HA.out; simp; omega)
        obtain ⟨p', q', rfl, _, r2⟩ := H2.out.2.2.at_ (by have := HBl.out; simp; omega)
        have ka : k < a.length := by have := HA.out; omega
        have kb : k < b.length := by have := HBl.out; omega
        have c1 : w.cell? ⟨p, q + k, none⟩ = some (.int .u8 (a[k].toNat : Int)) := r1 k _ (by simp [ka, bv])
        have c2 : w.cell? ⟨p', q' + k, none⟩ = some (.int .u8 (b[k].toNat : Int)) := r2 k _ (by simp [kb, bv])
        have hst := Lib.hid (eq_step a b k d ka kb HD.out)
        generalize a[k] = x at c1 hst
        generalize b[k] = y at c2 hst
        have hx := Lib.hid (xor8 x y)
        have ho := Lib.hid (or8 d (x ^^^ y))
        have e1 : (k : Int) < (n : Int) := by omega
        clear r1 r2
        go_wp2_with fail
        go_quiet (fail)
        go_wp2
        go_roundw
        case rel => exact ⟨k + 1, _, d ||| (x ^^^ y), by omega, by go_num, congrArg _ (by rw [hx.out, ho.out]), rfl, hst.out⟩
        case measure => simp [intOf]; omega
      · have hkn : k = n := by omega
        have hD := HD.out
        rw [hkn, List.take_of_length_le (by have := HA.out; omega), List.take_of_length_le (by have := HBl.out; omega)] at hD
        have hz : ((d.toNat : Int) == 0) = decide (a = b) := by
          rw [Bool.eq_iff_iff]
          simp only [beq_iff_eq, decide_eq_true_eq, ← hD]
          constructor
          · intro h; apply UInt8.toNat_inj.1; simpa using h
          · rintro rfl; rfl
        have HZ := Lib.hid hz
        clear hz hD HD hkn
        go_wp2
        go_ret
        exact ⟨ret_bool HZ.out, ⟨rfl, rfl, rfl, Nat.le_refl _, fun _ _ => rfl⟩⟩
  · have hq : ((a.length : Int) != (b.length : Int)) = true := by simp; omega
    have hd : decide (a = b) = false := by simp; intro e; exact hl (by rw [e])
    rw [hd]
    go_enter Try.func62, Try.ntmps62
    go_wp2
    go_ret
    exact ⟨rfl, Below.refl _ _⟩

theorem xor_n (A A' : Option Addr) (n n' m c c' : Nat) (a b : List UInt8) (W : World) (hl : a.length = n) (hl' : b.length = n') (hm : min n n' = m) (h : Sl W A c a) (h' : Sl W A' c' b) (hn : n ≤ 2147483647) (hn' : n' ≤ 2147483647) :
    Calls Try.prog 65 #[.slice A n c, .slice A' n' c'] W (NewRow W m (xorL a b)) := by
  subst hl; subst hl'; subst hm
  exact xor_any A A' c c' a b W h h' hn hn'
theorem equal_n (A A' : Option Addr) (n n' c c' : Nat) (a b : List UInt8) (W : World) (hl : a.length = n) (hl' : b.length = n') (h : Sl W A c a) (h' : Sl W A' c' b) (hn : n ≤ 2147483647) (hn' : n' ≤ 2147483647) :
    Calls Try.prog 62 #[.slice A n c, .slice A' n' c'] W fun e w' => e = .returned (.bool (decide (a = b))) ∧ Below W.heap.size W w' := by
  subst hl; subst hl'
  exact equal_any A A' c c' a b W h h' hn hn'
theorem sl_row {W : World} {g n : Nat} {bs : List UInt8} {t : TypeId} {fr : Nat × Nat} (hl : bs.length = n) (hn : n ≤ 2147483647) (hk : W.heap[g]? = some (.cells (bs.map bv).toArray t fr)) : Sl W (some ⟨g, 0, none⟩) n bs :=
  ⟨by omega, by simp [maxLen]; omega, row_of_heap hk (lt_of_heap hk)⟩
theorem xorL_len (a b : List UInt8) : (xorL a b).length = min a.length b.length := by simp [xorL]
theorem xorL_self (a : List UInt8) : xorL a a = List.replicate a.length 0 := by
  unfold xorL
  apply List.ext_getElem
  · simp
  · intro i h1 h2; simp
theorem xorL_back (a b : List UInt8) : xorL a (xorL a b) = b.take (min a.length b.length) := by
  unfold xorL
  apply List.ext_getElem
  · simp
  · intro i h1 h2
    simp only [List.getElem_zipWith, List.getElem_take]
    rw [← UInt8.xor_assoc, UInt8.xor_self, UInt8.zero_xor]
end Go.Proofs.Ytjmpbcfbfbjenaa
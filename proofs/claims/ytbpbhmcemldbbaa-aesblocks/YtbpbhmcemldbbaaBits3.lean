/- Contracts of bits.Xor, bits.Equal, of the document's own Xor; bytes as a string. -/
import Derived.Test.YtbpbhmcemldbbaaBits2
import Derived.Test.YtbpbhmcemldbbaaLift
import Derived.Deep.QuietTactic
import Derived.BigQuiet
import Derived.Deep.RegionLaw
namespace Go.Proofs.Ytbpbhmcemldbbaa
open Go.RowKit
set_option linter.unusedVariables false
set_option maxRecDepth 100000

theorem xor8 (x y : UInt8) : bits .xor .u8 (x.toNat : Int) (y.toNat : Int) = ((x ^^^ y).toNat : Int) := by
  rw [u8_xor_nat _ _ x.toNat_lt y.toNat_lt, UInt8.toNat_xor]
theorem or8 (x y : UInt8) : bits .or .u8 (x.toNat : Int) (y.toNat : Int) = ((x ||| y).toNat : Int) := by
  rw [u8_or_nat _ _ x.toNat_lt y.toNat_lt, UInt8.toNat_or]
theorem and8 (x y : UInt8) : bits .and .u8 (x.toNat : Int) (y.toNat : Int) = ((x &&& y).toNat : Int) := by
  rw [u8_and_nat _ _ x.toNat_lt y.toNat_lt, UInt8.toNat_and]

/-- the exclusive or of two rows, as long as the shorter one -/
def xorL (a b : List UInt8) : List UInt8 := List.zipWith (· ^^^ ·) a b

/-- bytes as a string -/
def strOf (bs : List UInt8) : ByteArray := ⟨bs.toArray⟩
theorem strOf_inj {a b : List UInt8} (h : strOf a = strOf b) : a = b := by
  unfold strOf at h; injection h with h; simpa using h

theorem conv_string (W : World) (A : Option Addr) (n c : Nat) (bs : List UInt8) (hl : bs.length = n) (h : Sl W A c bs) :
    (convert 22 9 (.slice A n c)).run Try.prog W = .ok (.string (strOf bs)) W := by
  by_cases h0 : n = 0
  · subst h0
    obtain rfl : bs = [] := List.eq_nil_of_length_eq_zero hl
    rw [run_convert_bytes_string W 22 9 5 A 0 c uT Try.underlying5 Try.underlying9]
    cases A <;> simp [Conv.bytesToString, loadCells, loadCellsFrom, strOf] <;> rfl
  · obtain ⟨b, o, rfl, _, hc⟩ := h.2.2.at_ (by simp; omega)
    have := run_convert_bytes_arg (P := Try.prog) W 22 5 uT Try.underlying5 b o n c (bs.map fun b => (b.toNat : Int)) (by simpa using hl)
      (fun i hi => by
        have := hc i (bv bs[i]) (by simp [show i < bs.length by omega])
        rw [this]; simp [bv, List.getD, show i < bs.length by omega]) 9 Try.underlying9
    rw [this]
    have e : strOfNums (bs.map fun b => (b.toNat : Int)) = strOf bs := by
      unfold strOfNums strOf
      congr 1
      simp [Function.comp_def]
    rw [e]

theorem or_zero8 (x y : UInt8) : x ||| y = 0 ↔ x = 0 ∧ y = 0 := by
  rw [← UInt8.toBitVec_inj, ← UInt8.toBitVec_inj (a := x), ← UInt8.toBitVec_inj (a := y)]
  simp
theorem xor_zero8 (x y : UInt8) : x ^^^ y = 0 ↔ x = y := by
  rw [← UInt8.toBitVec_inj, ← UInt8.toBitVec_inj (a := x)]
  simp
theorem eq_step (a b : List UInt8) (k : Nat) (d : UInt8) (ka : k < a.length) (kb : k < b.length) (h : d = 0 ↔ a.take k = b.take k) : d ||| (a[k] ^^^ b[k]) = 0 ↔ a.take (k + 1) = b.take (k + 1) := by
  rw [List.take_succ_eq_append_getElem ka, List.take_succ_eq_append_getElem kb, or_zero8, xor_zero8, h]
  constructor
  · rintro ⟨h1, h2⟩; rw [h1, h2]
  · intro h
    have := List.append_inj h (by simp; omega)
    exact ⟨this.1, by simpa using this.2⟩
theorem sl_row {W : World} {g n : Nat} {bs : List UInt8} {t : TypeId} {fr : Nat × Nat} (hl : bs.length = n) (hn : n ≤ 2147483647) (hk : W.heap[g]? = some (.cells (bs.map bv).toArray t fr)) : Sl W (some ⟨g, 0, none⟩) n bs :=
  ⟨by omega, by simp [maxLen]; omega, row_of_heap hk (lt_of_heap hk)⟩
theorem xorL_len (a b : List UInt8) : (xorL a b).length = min a.length b.length := by simp [xorL]
theorem xorL_self (a : List UInt8) : xorL a a = List.replicate a.length 0 := by
  unfold xorL
  apply List.ext_getElem
  · simp
  · intro i h1 h2; simp
theorem xorL_back (a b : List UInt8) : xorL a (xorL a b) = b.take (min a.length b.length) := by
  unfold xorL
  apply List.ext_getElem
  · simp
  · intro i h1 h2
    simp only [List.getElem_zipWith, List.getElem_take]
    rw [← UInt8.xor_assoc, UInt8.xor_self, UInt8.zero_xor]
end Go.Proofs.Ytbpbhmcemldbbaa
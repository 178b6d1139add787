/- The contract of the law file's own 'awake' (the chapter's example). -/
import Derived.Test.YtjmpbcfbfbjenaaAes12
import Derived.Test.YtjmpbcfbfbjenaaLiftA
import Derived.Test.YtjmpbcfbfbjenaaBits3
namespace Go.Proofs.Ytjmpbcfbfbjenaa
open Go.RowKit
set_option linter.unusedVariables false
set_option maxRecDepth 100000
set_option linter.unusedSimpArgs false
theorem ex_key (i : Nat) (h : i < 16) : exKey.take (i + 1) = exKey.take i ++ [UInt8.ofNat i] := by
  have : ∀ i : Fin 16, exKey.take (i.1 + 1) = exKey.take i.1 ++ [UInt8.ofNat i.1] := by decide
  exact this ⟨i, h⟩
def exN (i : Nat) : List UInt8 := exText.take i ++ List.replicate (16 - i) 0
theorem ex_text (i : Nat) (h : i < 16) : (exN i).set i (UInt8.ofNat (17 * i)) = exN (i + 1) := by
  have : ∀ i : Fin 16, (exN i.1).set i.1 (UInt8.ofNat (17 * i.1)) = exN (i.1 + 1) := by decide
  exact this ⟨i, h⟩
theorem exN_len (i : Nat) (h : i ≤ 16) : (exN i).length = 16 := by
  have : ∀ i : Fin 17, (exN i.1).length = 16 := by decide
  exact this ⟨i, by omega⟩
theorem sl_mk' {w : World} {A : Option Addr} {n c : Nat} {bs : List UInt8} (hl : bs.length = n) (h1 : n ≤ c) (h2 : c ≤ maxLen) (hr : RowAt w w.heap.size A (bs.map bv)) : Sl w A c bs := ⟨by omega, h2, hr⟩
theorem own_below {w w' : World} {base : Nat} {e : TypeId} {s : Nat} {v : Value} {n : Nat} {xs : List Value} (h : w.ownsRow base e s v n xs) (hb : Below w.heap.size w w') : w'.ownsRow base e s v n xs := by
  obtain ⟨h0, h | ⟨g, cap, cur, hv, hg, hh, r⟩⟩ := h
  · exact ⟨h0, .inl h⟩
  · exact ⟨h0, .inr ⟨g, cap, cur, hv, hg, (hb.block _ (lt_of_heap hh)).trans hh, r⟩⟩
theorem own_ge' {w : World} {base : Nat} {e : TypeId} {s : Nat} {v : Value} {n : Nat} {xs : List Value} (h : w.ownsRow base e s v n xs) {B : Nat} (hB : B ≤ base) : ∀ g, v.ownBlock = some g → B ≤ g := fun g hq => Nat.le_trans hB (h.lt g hq).1
theorem own_ne' {w : World} {base : Nat} {e : TypeId} {s : Nat} {v : Value} {n : Nat} {xs : List Value} (h : w.ownsRow base e s v n xs) {g : Nat} (hB : g < base) : some g ≠ v.ownBlock := fun hq => by have := (h.lt g hq.symm).1; omega
theorem own_keep {w w' : World} {base : Nat} {e : TypeId} {s : Nat} {v : Value} {n : Nat} {xs : List Value} (h : w.ownsRow base e s v n xs) (hb : ∀ g, base ≤ g → g < w.heap.size → w'.heap[g]? = w.heap[g]?) : w'.ownsRow base e s v n xs := by
  obtain ⟨h0, h | ⟨g, cap, cur, hv, hg, hh, r⟩⟩ := h
  · exact ⟨h0, .inl h⟩
  · exact ⟨h0, .inr ⟨g, cap, cur, hv, hg, (hb g hg (lt_of_heap hh)).trans hh, r⟩⟩
theorem one_row' (w : World) (b : UInt8) : RowAt (w.alloc (.cells #[.int .u8 (b.toNat : Int)] 5)) (w.heap.size + 1) (some ⟨w.heap.size, 0, none⟩) ([b].map bv) :=
  row_of_heap (t := 5) (fr := (0, 0)) (heap_alloc_new' w _) (Nat.lt_succ_self _)
end Go.Proofs.Ytjmpbcfbfbjenaa

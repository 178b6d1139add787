/- The contracts of sha.finish, sha.Sum. -/
import Derived.Test.YtjmpbcfbfbjenaaSha7
namespace Go.Proofs.Ytjmpbcfbfbjenaa
open Go.RowKit
set_option maxRecDepth 100000
set_option linter.unusedVariables false
set_option linter.unusedSimpArgs false
/-- the sum of a message of n bytes, of which h has all whole blocks and r the others -/
def finishL (h : List W32) (r : List UInt8) (n : Nat) : List UInt8 := outL (wholeN h (r ++ padL n) ((r.length + (padK n + 8)) / 64))
theorem ne_own (a k : Nat) {n c : Nat} : some a ≠ (Value.slice (some ⟨a + k + 1, 0, none⟩) n c).ownBlock := by
  simp [Value.ownBlock]; omega
theorem ge_own (a k : Nat) {n c : Nat} : ∀ g, (Value.slice (some ⟨a + k, 0, none⟩) n c).ownBlock = some g → a ≤ g := by
  intro g hg; simp [Value.ownBlock] at hg; omega
theorem sl_mk {w : World} {A : Option Addr} {n c : Nat} {bs : List UInt8} (hl : bs.length = n) (h1 : n ≤ c) (h2 : c ≤ maxLen) (hr : RowAt w w.heap.size A (bs.map bv)) : Sl w A c bs := ⟨by omega, h2, hr⟩
theorem own_below {w w' : World} {base : Nat} {e : TypeId} {s : Nat} {v : Value} {n : Nat} {xs : List Value} (h : w.ownsRow base e s v n xs) (hb : Below w.heap.size w w') : w'.ownsRow base e s v n xs := by
  obtain ⟨h0, h | ⟨g, cap, cur, hv, hg, hh, r⟩⟩ := h
  · exact ⟨h0, .inl h⟩
  · exact ⟨h0, .inr ⟨g, cap, cur, hv, hg, (hb.block _ (lt_of_heap hh)).trans hh, r⟩⟩
end Go.Proofs.Ytjmpbcfbfbjenaa

/- palfreyref09.Padded. -/
import Derived.Test.YtfcnahbbieldfaaCbc1
import Derived.Test.YtfcnahbbieldfaaApp
namespace Go.Proofs.Ytfcnahbbieldfaa
open Go.RowKit
set_option linter.unusedVariables false
set_option linter.unusedSimpArgs false
set_option maxRecDepth 100000
theorem k_own_below {w w' : World} {base : Nat} {e : TypeId} {s : Nat} {v : Value} {n : Nat} {xs : List Value} (h : w.ownsRow base e s v n xs) (hb : Below w.heap.size w w') : w'.ownsRow base e s v n xs := by
  obtain ⟨h0, h | ⟨g, cap, cur, hv, hg, hh, r⟩⟩ := h
  · exact ⟨h0, .inl h⟩
  · exact ⟨h0, .inr ⟨g, cap, cur, hv, hg, (hb.block _ (lt_of_heap hh)).trans hh, r⟩⟩
theorem k_own_ge {w : World} {base : Nat} {e : TypeId} {s : Nat} {v : Value} {n : Nat} {xs : List Value} (h : w.ownsRow base e s v n xs) {B : Nat} (hB : B ≤ base) : ∀ g, v.ownBlock = some g → B ≤ g := fun g hq => Nat.le_trans hB (h.lt g hq).1
theorem k_own_alloc {w : World} {base : Nat} {e : TypeId} {s : Nat} {v : Value} {n : Nat} {xs : List Value} (h : w.ownsRow base e s v n xs) (o : Obj) : (w.alloc o).ownsRow base e s v n xs := k_own_below h ((Below.refl _ _).alloc (Nat.le_refl _) o)
theorem rep_snoc (bs : List UInt8) (x : UInt8) (j : Nat) : (bs ++ List.replicate j x) ++ [x] = bs ++ List.replicate (j + 1) x := by rw [List.append_assoc, List.replicate_succ']
theorem row_byte (W : World) (x : UInt8) (d : Int) (hx : ((x.toNat : Int)) = d) : RowAt (W.alloc (.cells #[.int .u8 d] 5)) (W.heap.size + 1) (some ⟨W.heap.size, 0, none⟩) (([x] : List UInt8).map bv) := by
  subst hx
  exact row_of_heap (bs := [x]) (heap_alloc_new' W (.cells (([x] : List UInt8).map bv).toArray 5)) (Nat.lt_succ_self _)
end Go.Proofs.Ytfcnahbbieldfaa

/- The contract of sha.whole once more: what it hands back lies in what it was handed. -/
import Derived.Test.YtfcnahbbieldfaaSha7
namespace Go.Proofs.Ytfcnahbbieldfaa
open Go.RowKit
set_option maxRecDepth 100000
set_option linter.unusedVariables false
set_option linter.unusedSimpArgs false
/-- nothing at A lies in block g -/
def ApartG (A : Option Addr) (g : Nat) : Prop := ∀ a, A = some a → a.block ≠ g
theorem apart_cut {A : Option Addr} {g c k : Nat} (h : ApartG A g) : ApartG (cutS A c k) g := by
  intro a ha
  unfold cutS at ha
  split at ha
  · exact h a ha
  · cases A with
    | none => simp at ha
    | some x =>
      simp only [Option.map_some, Option.some.injEq] at ha
      rw [← ha]
      have : (x.add k).block = x.block := by unfold Addr.add; split <;> rfl
      rw [this]; exact h x rfl
end Go.Proofs.Ytfcnahbbieldfaa

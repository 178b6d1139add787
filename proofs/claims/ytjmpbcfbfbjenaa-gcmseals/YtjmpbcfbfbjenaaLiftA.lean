/- Arrays of 16 bytes that come in. -/
import Derived.Test.YtjmpbcfbfbjenaaLift
namespace Go.Proofs.Ytjmpbcfbfbjenaa
open Go.RowKit Go.ChangeShapes Go.WideShapes Go.ChangeAt
set_option maxRecDepth 100000
set_option linter.unusedVariables false
theorem open__16_uint8 {H : Type} {enc : TypeId × Value → H} {W : World} {base b0 : Nat} {sp : Nat → Bool} {held : Bool} {v : Value} {d : DataW H} {p : List MemPlace}
    (hv : Value.okWide Try.prog W .any base 23 v) (h : DataW.Trod enc Try.prog W b0 sp held 23 v d p) : ∃ bs : List UInt8, v = .agg (bs.map bv).toArray ∧ bs.length = 16 := by
  obtain ⟨zs, rfl, hl, hw⟩ := open_arr Try.underlying23 Try.underlying5 (by kernel_rfl) (by kernel_rfl) hv h
  obtain ⟨bs, rfl⟩ := bytes_of hw
  exact ⟨bs, by simp [Function.comp_def, bv], by simpa using hl⟩
end Go.Proofs.Ytjmpbcfbfbjenaa

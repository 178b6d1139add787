/- From what a row's reading of an argument says to what the walks take: arrays of layer 2. -/
import Derived.Test.YtfcnahbbieldfaaDoorLift
import Derived.Test.YtfcnahbbieldfaaDoorSha1
namespace Go.Proofs.YtfcnahbbieldfaaDoor
open Go.RowKit Go.ChangeShapes Go.WideShapes Go.ChangeAt
set_option maxRecDepth 100000
set_option linter.unusedVariables false
theorem words_of {zs : List Int} (h : ∀ n ∈ zs, (Lit.int .u32 n).wf = true) : ∃ xs : List W32, zs = xs.map (fun b => (b.toNat : Int)) := by
  induction zs with
  | nil => exact ⟨[], rfl⟩
  | cons z zs ih =>
    obtain ⟨bs, rfl⟩ := ih (fun n hn => h n (List.mem_cons_of_mem _ hn))
    obtain ⟨x, rfl⟩ := u32_of (h z List.mem_cons_self)
    exact ⟨x :: bs, rfl⟩
theorem open__8_uint32 {H : Type} {enc : TypeId × Value → H} {W : World} {base b0 : Nat} {sp : Nat → Bool} {held : Bool} {v : Value} {d : DataW H} {p : List MemPlace}
    (hv : Value.okWide Tryd.prog W .any base 33 v) (h : DataW.Trod enc Tryd.prog W b0 sp held 33 v d p) : ∃ y : List W32, v = .agg (y.map wv).toArray ∧ y.length = 8 := by
  obtain ⟨zs, rfl, hl, hw⟩ := open_arr Tryd.underlying33 Tryd.underlying32 (by kernel_rfl) (by kernel_rfl) hv h
  obtain ⟨bs, rfl⟩ := words_of hw
  exact ⟨bs, by simp [Function.comp_def, wv], by simpa using hl⟩
theorem open__64_uint8 {H : Type} {enc : TypeId × Value → H} {W : World} {base b0 : Nat} {sp : Nat → Bool} {held : Bool} {v : Value} {d : DataW H} {p : List MemPlace}
    (hv : Value.okWide Tryd.prog W .any base 22 v) (h : DataW.Trod enc Tryd.prog W b0 sp held 22 v d p) : ∃ y : List UInt8, v = .agg (y.map bv).toArray ∧ y.length = 64 := by
  obtain ⟨zs, rfl, hl, hw⟩ := open_arr Tryd.underlying22 Tryd.underlying5 (by kernel_rfl) (by kernel_rfl) hv h
  obtain ⟨bs, rfl⟩ := bytes_of hw
  exact ⟨bs, by simp [Function.comp_def, bv], by simpa using hl⟩
end Go.Proofs.YtfcnahbbieldfaaDoor

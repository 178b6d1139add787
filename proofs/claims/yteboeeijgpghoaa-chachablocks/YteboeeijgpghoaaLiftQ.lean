/- Arrays of four words that come in. -/
import Derived.Test.YteboeeijgpghoaaLift
import Derived.Test.YteboeeijgpghoaaSha1
namespace Go.Proofs.Yteboeeijgpghoaa
open Go.RowKit Go.ChangeShapes Go.WideShapes Go.ChangeAt
set_option linter.unusedVariables false
theorem words_of' {zs : List Int} (h : ∀ n ∈ zs, (Lit.int .u32 n).wf = true) : ∃ ws : List (BitVec 32), zs = ws.map (fun x => (x.toNat : Int)) := by
  induction zs with
  | nil => exact ⟨[], rfl⟩
  | cons z zs ih =>
    obtain ⟨ws, rfl⟩ := ih (fun n hn => h n (List.mem_cons_of_mem _ hn))
    obtain ⟨x, rfl⟩ := u32_of (h z List.mem_cons_self)
    exact ⟨x :: ws, rfl⟩
theorem open__4_uint32 {H : Type} {enc : TypeId × Value → H} {W : World} {base b0 : Nat} {sp : Nat → Bool} {held : Bool} {v : Value} {d : DataW H} {p : List MemPlace}
    (hv : Value.okWide Try.prog W .any base 27 v) (h : DataW.Trod enc Try.prog W b0 sp held 27 v d p) : ∃ ws : List (BitVec 32), v = .agg (ws.map wv).toArray ∧ ws.length = 4 := by
  obtain ⟨zs, rfl, hl, hw⟩ := open_arr Try.underlying27 Try.underlying24 (by kernel_rfl) (by kernel_rfl) hv h
  obtain ⟨ws, rfl⟩ := words_of' hw
  exact ⟨ws, by simp [Function.comp_def, wv], by simpa using hl⟩
end Go.Proofs.Yteboeeijgpghoaa

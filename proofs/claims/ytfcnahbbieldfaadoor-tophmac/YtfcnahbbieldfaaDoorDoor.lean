/- What the row's condition on the rounds' numbers gives the walks. -/
import Derived.Test.YtfcnahbbieldfaaDoorRows
import Derived.Test.YtfcnahbbieldfaaDoorSha2
import Derived.LaidMore
import Derived.OpenShut
import Derived.ProofKit
namespace Go.Proofs.YtfcnahbbieldfaaDoor
open Go.ChangeShapes Go.WideShapes Go.ChangeAt Go.RowKit
set_option linter.unusedVariables false
set_option linter.unusedSimpArgs false
theorem gRounds : Tryd.prog.globalNamed "palfrey/sha.rounds" = some 0 := by kernel_rfl
theorem tRounds : (Tryd.prog.globals[0]?).map (·.type) = some 48 := by kernel_rfl
theorem laidL : (Rows.laid_palfrey_sha_rounds : DataW Unit) = .agg (roundsL.map fun (n : Nat) => .lit (.int .u32 (n : Int))) := rfl
theorem roundsL_lt : ∀ i, i < 64 → roundsL.getD i 0 < 4294967296 := by decide
theorem rnd_of_laid {W : World} (h : laidMetH Tryd.prog [("palfrey/sha.rounds", Rows.laid_palfrey_sha_rounds)] W) : Rnd W := by
  rw [MakeChecks.laidMetH_plain _ _ _ (by kernel_rfl)] at h
  obtain ⟨ps, ⟨g0, t0, cs0, f0, p0, q0, hg0, ht0, hv0, hd0, _, _⟩, _, _⟩ := h
  obtain rfl := Option.some.inj (gRounds.symm.trans hg0)
  obtain rfl := Option.some.inj (tRounds.symm.trans ht0)
  obtain ⟨xs, m1, rfl, hx1, hlen, hn, hel⟩ := DataW.trod_array Tryd.underlying48 hd0
  have c1 : Tryd.prog.cellsOf 32 = 1 := by kernel_rfl
  have c64 : Tryd.prog.cellsOf 48 = 64 := by kernel_rfl
  rw [laidL] at hx1
  simp only [Prod.mk.injEq, DataW.agg.injEq] at hx1
  have hc : ∀ i, i < 64 → W.cell? ⟨0, i, none⟩ = some (wv (kL i)) := by
    intro i hi
    have h1 := hel i hi
    have hix : i < xs.length := by omega
    rw [List.getElem?_eq_getElem hix] at h1
    obtain ⟨k, e1, e2, _⟩ := DataW.trod_int Tryd.underlying32 h1
    have h2 := congrArg (fun l => l[i]?) hx1.1
    simp only [List.getElem?_map, List.getElem?_eq_getElem hix] at h2
    have h3 : i < roundsL.length := hi
    rw [List.getElem?_eq_getElem h3] at h2
    simp only [Option.map_some, Option.some.injEq, e2, DataW.lit.injEq, Lit.int.injEq, true_and] at h2
    rw [World.var?_cell hg0 hv0 i]
    rw [c1, Nat.mul_one] at e1
    have h4 := congrArg (fun l => l[0]?) e1
    simp [List.getElem?_take] at h4
    rw [h4, ← h2]
    have h5 := roundsL_lt i hi
    simp only [List.getD, List.getElem?_eq_getElem h3, Option.getD_some] at h5
    simp only [wv, kL, List.getD, List.getElem?_eq_getElem h3, Option.getD_some, BitVec.toNat_ofNat, Nat.mod_eq_of_lt h5]
  refine ⟨?_, hc⟩
  have := hc 0 (by omega)
  rcases Nat.eq_zero_or_pos W.heap.size with h0 | h0
  · simp [World.cell?, Array.getElem?_eq_none (show W.heap.size ≤ 0 by omega)] at this
  · exact h0
end Go.Proofs.YtfcnahbbieldfaaDoor

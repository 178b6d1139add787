/- The struct of a number, a count, 16 bytes and a number of 64 bits that comes in (law BitsCounts). -/
import Derived.Test.YtobadceiokncnaaLift
import Derived.Lib.SmallJoins
namespace Go.Proofs.Ytobadceiokncnaa
open Go.RowKit Go.ChangeShapes Go.WideShapes Go.ChangeAt
set_option linter.unusedVariables false
set_option linter.unusedSimpArgs false
/-- cells that read as a row of integers -/
theorem cells_ints {H : Type} {enc : TypeId × Value → H} {P : Program} {W : World} {b0 : Nat} {sp : Nat → Bool} {held : Bool} {t e : TypeId} {n : Nat} {k : IntKind} {cs : List Value} {fuel : Nat} {x : DataW H × List MemPlace}
    (ht : P.underlying t = some (.array n e)) (he : P.underlying e = some (.int k)) (hce : P.cellsOf e = 1) (hct : P.cellsOf t = n)
    (hf : DataW.trod enc P W b0 sp held fuel t cs = some x) :
    ∃ zs : List Int, cs = zs.map (Value.int k) ∧ zs.length = n ∧ ∀ z ∈ zs, (Lit.int k z).wf = true := by
  obtain ⟨xs, m, _, _, hl, hxl, hget⟩ := DataW.trod_array ht hf
  rw [hce] at hget
  have hcl : cs.length = n := by rw [hl, hct]
  have key : ∀ i, i < n → ∃ z, cs[i]? = some (.int k z) ∧ (Lit.int k z).wf = true := by
    intro i hi
    have h1 := hget i hi
    have hx : ∃ y, xs[i]? = some y := ⟨xs[i], List.getElem?_eq_getElem (by omega)⟩
    obtain ⟨y, hy⟩ := hx
    rw [hy] at h1
    obtain ⟨z, hz, _, hw⟩ := DataW.trod_int he h1
    refine ⟨z, ?_, hw⟩
    rw [Nat.mul_one] at hz
    have := congrArg (fun l => l[0]?) hz
    simpa [List.getElem?_take] using this
  refine ⟨cs.map (fun v => match v with | .int _ z => z | _ => 0), ?_, by rw [List.length_map, hcl], ?_⟩
  · rw [List.map_map]
    apply List.ext_getElem?
    intro i
    by_cases hi : i < n
    · obtain ⟨z, hz, _⟩ := key i hi
      simp [hz]
    · rw [List.getElem?_eq_none (by omega), List.getElem?_eq_none (by simp; omega)]
  · intro z hz
    obtain ⟨v, hv, rfl⟩ := List.mem_map.1 hz
    obtain ⟨i, hi, rfl⟩ := List.mem_iff_getElem.1 hv
    obtain ⟨z, hz, hw⟩ := key i (by omega)
    rw [List.getElem?_eq_getElem hi, Option.some.injEq] at hz
    rw [hz]; exact hw

def turnCells (x : BitVec 32) (n : Int) (c : List UInt8) (m : Nat) : List Value := .int .u32 (x.toNat : Int) :: .int .i64 n :: (c.map bv ++ [.int .u64 (m : Int)])
theorem split19 (L : List Value) (h : L.length = 19) : L = L.take 1 ++ ((L.drop 1).take 1 ++ ((L.drop 2).take 16 ++ (L.drop 18).take 1)) := by
  have h1 := List.take_append_drop 1 L
  have h2 := List.take_append_drop 1 (L.drop 1)
  have h3 := List.take_append_drop 16 (L.drop 2)
  rw [List.drop_drop] at h2 h3
  have h4 : (L.drop 18).take 1 = L.drop 18 := List.take_of_length_le (by simp; omega)
  rw [h4, show L.drop 18 = L.drop (2 + 16) from rfl, h3, show L.drop 2 = L.drop (1 + 1) from rfl, h2, h1]

theorem open_palfreylaw01_Turn {H : Type} {enc : TypeId × Value → H} {W : World} {base b0 : Nat} {sp : Nat → Bool} {held : Bool} {v : Value} {d : DataW H} {p : List MemPlace}
    (hv : Value.okWide Try.prog W .any base 34 v) (h : DataW.Trod enc Try.prog W b0 sp held 34 v d p) :
    ∃ y : BitVec 32 × Int × List UInt8 × Nat, v = .agg (turnCells y.1 y.2.1 y.2.2.1 y.2.2.2).toArray ∧ y.2.2.1.length = 16 ∧ y.2.2.2 < 18446744073709551616 := by
  obtain ⟨cs, rfl, hsz⟩ := okWide_struct Try.underlying34 hv
  obtain ⟨fuel, hf⟩ := h
  obtain ⟨y0, y1, y2, y3, m, _, hl, h0, h1, h2, h3⟩ := Go.Joins.trod_struct4 Try.underlying34 hf
  simp only [Value.cells] at hl h0 h1 h2 h3
  have hc : Try.prog.cellsOf 34 = 19 := by kernel_rfl
  have c0 : Try.prog.cellsOf 31 = 1 := by kernel_rfl
  have c1 : Try.prog.cellsOf 3 = 1 := by kernel_rfl
  have c2 : Try.prog.cellsOf 32 = 16 := by kernel_rfl
  have c3 : Try.prog.cellsOf 23 = 1 := by kernel_rfl
  rw [hc] at hl
  rw [c0] at h0
  rw [c1] at h1
  rw [c2] at h2
  rw [c3] at h3
  obtain ⟨a0, e0, _, w0⟩ := DataW.trod_int Try.underlying31 h0
  obtain ⟨a1, e1, _, w1⟩ := DataW.trod_int Try.underlying3 h1
  obtain ⟨zs, e2, hzl, w2⟩ := cells_ints Try.underlying32 Try.underlying5 (by kernel_rfl) c2 h2
  obtain ⟨a3, e3, _, w3⟩ := DataW.trod_int Try.underlying23 h3
  obtain ⟨x, rfl⟩ := u32_of w0
  obtain ⟨bs, rfl⟩ := bytes_of w2
  obtain ⟨k, rfl, hk⟩ := u64_of w3
  refine ⟨(x, a1, bs, k), ?_, by simpa using hzl, hk⟩
  congr 1
  apply Array.ext'
  have hs := split19 cs.toList hl
  simp only [List.drop_zero] at e0
  rw [e0, e1, e2, e3] at hs
  rw [hs]
  simp [turnCells, Function.comp_def, bv]
end Go.Proofs.Ytobadceiokncnaa

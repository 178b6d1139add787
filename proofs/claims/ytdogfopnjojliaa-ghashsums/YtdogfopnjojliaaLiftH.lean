/- A key, bytes, and two lengths that come in (law GhashSums). -/
import Derived.Test.YtdogfopnjojliaaLift
import Derived.Test.YtdogfopnjojliaaLiftC
import Derived.Test.YtdogfopnjojliaaLiftP
import Derived.Lib.SmallJoins
namespace Go.Proofs.Ytdogfopnjojliaa
open Go.RowKit Go.ChangeShapes Go.WideShapes Go.ChangeAt
set_option linter.unusedVariables false
set_option linter.unusedSimpArgs false
structure HashT where
  (h : List UInt8) (A : Option Addr) (cap : Nat) (b : List UInt8) (n m : Int)
def HashT.cells (y : HashT) : List Value := y.h.map bv ++ [.slice y.A y.b.length y.cap, .int .i64 y.n, .int .i64 y.m]
def HashT.ok (y : HashT) (w : World) : Prop := y.h.length = 16 ∧ Sl w y.A y.cap y.b
theorem split19 (L : List Value) (h : L.length = 19) : L = L.take 16 ++ ((L.drop 16).take 1 ++ ((L.drop 17).take 1 ++ (L.drop 18).take 1)) := by
  have h1 := List.take_append_drop 16 L
  have h2 := List.take_append_drop 1 (L.drop 16)
  have h3 := List.take_append_drop 1 (L.drop 17)
  rw [List.drop_drop] at h2 h3
  have h4 : (L.drop 18).take 1 = L.drop 18 := List.take_of_length_le (by simp; omega)
  rw [h4, show L.drop 18 = L.drop (17 + 1) from rfl, h3, show L.drop 17 = L.drop (16 + 1) from rfl, h2, h1]
theorem open_palfreylaw06_Hash {H : Type} {enc : TypeId × Value → H} {W : World} {base : Nat} {v : Value} {d : DataW H} {p : List MemPlace}
    (hv : Value.okWide Try.prog W .any base 28 v) (h : DataW.Trod enc Try.prog W 0 (fun _ => true) true 28 v d p) :
    ∃ y : HashT, v = .agg y.cells.toArray ∧ y.ok W := by
  obtain ⟨cs, rfl, hsz⟩ := okWide_struct Try.underlying28 hv
  obtain ⟨fuel, hf⟩ := h
  obtain ⟨y0, y1, y2, y3, m, _, hl, h0, h1, h2, h3⟩ := Go.Joins.trod_struct4 Try.underlying28 hf
  simp only [Value.cells] at hl h0 h1 h2 h3
  have hc : Try.prog.cellsOf 28 = 19 := by kernel_rfl
  have c0 : Try.prog.cellsOf 22 = 16 := by kernel_rfl
  have c1 : Try.prog.cellsOf 26 = 1 := by kernel_rfl
  have c2 : Try.prog.cellsOf 3 = 1 := by kernel_rfl
  rw [hc] at hl
  rw [c0] at h0
  rw [c1] at h1
  rw [c2] at h2 h3
  obtain ⟨z0, e0, hz0, w0⟩ := cells_ints Try.underlying22 Try.underlying5 (by kernel_rfl) c0 h0
  obtain ⟨k, rfl⟩ := bytes_of w0
  obtain ⟨A, cap, b, e1, hs⟩ := open_bytes_cs h1
  obtain ⟨a2, e2, _, w2⟩ := DataW.trod_int Try.underlying3 h2
  obtain ⟨a3, e3, _, w3⟩ := DataW.trod_int Try.underlying3 h3
  refine ⟨⟨k, A, cap, b, a2, a3⟩, ?_, by simpa using hz0, hs⟩
  congr 1
  apply Array.ext'
  have hs := split19 cs.toList hl
  simp only [List.drop_zero] at e0
  rw [e0, e1, e2, e3] at hs
  rw [hs]
  simp [HashT.cells, Function.comp_def, bv]
end Go.Proofs.Ytdogfopnjojliaa

/- A key, whether it is long, an IV and an aad that come in (layer 10). -/
import Derived.Test.YtkgbhlppadpdfaaJoin3
import Derived.Test.YtkgbhlppadpdfaaLiftC
import Derived.Lib.SmallJoins
namespace Go.Proofs.Ytkgbhlppadpdfaa
open Go.RowKit Go.ChangeShapes Go.WideShapes Go.ChangeAt
set_option maxRecDepth 100000
set_option linter.unusedVariables false
set_option linter.unusedSimpArgs false
structure KeyX where
  (k : List UInt8) (lg : Bool) (A2 : Option Addr) (c2 : Nat) (iv : List UInt8) (A3 : Option Addr) (c3 : Nat) (a : List UInt8)
def KeyX.cells (y : KeyX) : List Value := y.k.map bv ++ [.bool y.lg, .slice y.A2 y.iv.length y.c2, .slice y.A3 y.a.length y.c3]
def KeyX.ok (y : KeyX) (w : World) : Prop := y.k.length = 32 ∧ Sl w y.A2 y.c2 y.iv ∧ Sl w y.A3 y.c3 y.a
theorem split35 (L : List Value) (h : L.length = 35) : L = L.take 32 ++ ((L.drop 32).take 1 ++ ((L.drop 33).take 1 ++ (L.drop 34).take 1)) := by
  have h1 := List.take_append_drop 32 L
  have h2 := List.take_append_drop 1 (L.drop 32)
  have h3 := List.take_append_drop 1 (L.drop 33)
  rw [List.drop_drop] at h2 h3
  have h4 : (L.drop 34).take 1 = L.drop 34 := List.take_of_length_le (by simp; omega)
  rw [h4, show L.drop 34 = L.drop (33 + 1) from rfl, h3, show L.drop 33 = L.drop (32 + 1) from rfl, h2, h1]
theorem open_palfreylaw10_Key {H : Type} {enc : TypeId × Value → H} {W : World} {base : Nat} {v : Value} {d : DataW H} {p : List MemPlace}
    (hv : Value.okWide Try.prog W .any base 25 v) (h : DataW.Trod enc Try.prog W 0 (fun _ => true) true 25 v d p) :
    ∃ y : KeyX, v = .agg y.cells.toArray ∧ y.ok W := by
  obtain ⟨cs, rfl, hsz⟩ := okWide_struct Try.underlying25 hv
  obtain ⟨fuel, hf⟩ := h
  obtain ⟨y0, y1, y2, y3, m, _, hl, h0, h1, h2, h3⟩ := Go.Joins.trod_struct4 Try.underlying25 hf
  simp only [Value.cells] at hl h0 h1 h2 h3
  have hc : Try.prog.cellsOf 25 = 35 := by kernel_rfl
  have c0 : Try.prog.cellsOf 22 = 32 := by kernel_rfl
  have c1 : Try.prog.cellsOf 4 = 1 := by kernel_rfl
  have c2 : Try.prog.cellsOf 23 = 1 := by kernel_rfl
  rw [hc] at hl
  rw [c0] at h0
  rw [c1] at h1
  rw [c2] at h2 h3
  obtain ⟨z0, e0, hz0, w0⟩ := cells_ints Try.underlying22 Try.underlying5 (by kernel_rfl) c0 h0
  obtain ⟨b, e1, _⟩ := DataW.trod_bool Try.underlying4 h1
  obtain ⟨k, rfl⟩ := bytes_of w0
  obtain ⟨A2, c2', iv, e2, s2⟩ := open_bytes_cs h2
  obtain ⟨A3, c3, a, e3, s3⟩ := open_bytes_cs h3
  refine ⟨⟨k, b, A2, c2', iv, A3, c3, a⟩, ?_, by simpa using hz0, s2, s3⟩
  congr 1
  apply Array.ext'
  have hs := split35 cs.toList hl
  simp only [List.drop_zero] at e0
  rw [e0, e1, e2, e3] at hs
  rw [hs]
  simp [KeyX.cells, Function.comp_def]
  exact fun _ _ => rfl
end Go.Proofs.Ytkgbhlppadpdfaa

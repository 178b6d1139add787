/- A key, a nonce and an aad that come in (layer 11). -/
import Derived.Test.YtcpmfekekidhfaaLiftP
import Derived.Test.YtcpmfekekidhfaaLiftC
import Derived.Deep.Strs
namespace Go.Proofs.Ytcpmfekekidhfaa
open Go.RowKit Go.ChangeShapes Go.WideShapes Go.ChangeAt
set_option maxRecDepth 100000
set_option linter.unusedVariables false
set_option linter.unusedSimpArgs false
structure KeyE where
  (A1 : Option Addr) (c1 : Nat) (k : List UInt8) (A2 : Option Addr) (c2 : Nat) (n : List UInt8) (A3 : Option Addr) (c3 : Nat) (a : List UInt8)
def KeyE.cells (y : KeyE) : List Value := [.slice y.A1 y.k.length y.c1, .slice y.A2 y.n.length y.c2, .slice y.A3 y.a.length y.c3]
def KeyE.ok (y : KeyE) (w : World) : Prop := Sl w y.A1 y.c1 y.k ∧ Sl w y.A2 y.c2 y.n ∧ Sl w y.A3 y.c3 y.a
theorem split111 (L : List Value) (h : L.length = 3) : L = L.take 1 ++ ((L.drop 1).take 1 ++ (L.drop 2).take 1) := by
  match L, h with
  | [a, b, c], _ => rfl
theorem open_palfreylaw11_Key {H : Type} {enc : TypeId × Value → H} {W : World} {base : Nat} {v : Value} {d : DataW H} {p : List MemPlace}
    (hv : Value.okWide Try.prog W .any base 24 v) (h : DataW.Trod enc Try.prog W 0 (fun _ => true) true 24 v d p) :
    ∃ y : KeyE, v = .agg y.cells.toArray ∧ y.ok W := by
  obtain ⟨cs, rfl, hsz⟩ := okWide_struct Try.underlying24 hv
  obtain ⟨fuel, hf⟩ := h
  obtain ⟨y0, y1, y2, m, _, hl, h0, h1, h2⟩ := Go.Deep.trod_struct3 Try.underlying24 hf
  simp only [Value.cells] at hl h0 h1 h2
  have hc : Try.prog.cellsOf 24 = 3 := by kernel_rfl
  have c0 : Try.prog.cellsOf 22 = 1 := by kernel_rfl
  rw [hc] at hl
  rw [c0] at h0 h1 h2
  obtain ⟨A1, c1, k, e1, s1⟩ := open_bytes_cs h0
  obtain ⟨A2, c2, n, e2, s2⟩ := open_bytes_cs h1
  obtain ⟨A3, c3, a, e3, s3⟩ := open_bytes_cs h2
  refine ⟨⟨A1, c1, k, A2, c2, n, A3, c3, a⟩, ?_, s1, s2, s3⟩
  congr 1
  apply Array.ext'
  have hs := split111 cs.toList hl
  simp only [List.drop_zero] at e1
  rw [e1, e2, e3] at hs
  rw [hs]
  simp [KeyE.cells]
end Go.Proofs.Ytcpmfekekidhfaa

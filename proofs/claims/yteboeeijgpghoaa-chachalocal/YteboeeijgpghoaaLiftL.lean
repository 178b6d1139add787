/- A key, bytes, which one is turned, and how, that come in (law ChachaLocal). -/
import Derived.Test.YteboeeijgpghoaaLiftK
import Derived.Test.YteboeeijgpghoaaLiftP
import Derived.Lib.SmallJoins
namespace Go.Proofs.Yteboeeijgpghoaa
open Go.RowKit Go.ChangeShapes Go.WideShapes Go.ChangeAt
set_option linter.unusedVariables false
set_option linter.unusedSimpArgs false
structure LocalT where
  (k n : List UInt8) (c : BitVec 32) (A : Option Addr) (cap : Nat) (b : List UInt8) (at_ : Nat) (by_ : UInt8)
def LocalT.cells (y : LocalT) : List Value := zCells y.k y.n y.c ++ [.slice y.A y.b.length y.cap, .int .u16 (y.at_ : Int), .int .u8 (y.by_.toNat : Int)]
def LocalT.ok (y : LocalT) (w : World) : Prop := y.k.length = 32 ∧ y.n.length = 12 ∧ y.at_ < 65536 ∧ Sl w y.A y.cap y.b
theorem split48 (L : List Value) (h : L.length = 48) : L = L.take 45 ++ ((L.drop 45).take 1 ++ ((L.drop 46).take 1 ++ (L.drop 47).take 1)) := by
  have h1 := List.take_append_drop 45 L
  have h2 := List.take_append_drop 1 (L.drop 45)
  have h3 := List.take_append_drop 1 (L.drop 46)
  rw [List.drop_drop] at h2 h3
  have h4 : (L.drop 47).take 1 = L.drop 47 := List.take_of_length_le (by simp; omega)
  rw [h4, show L.drop 47 = L.drop (46 + 1) from rfl, h3, show L.drop 46 = L.drop (45 + 1) from rfl, h2, h1]
theorem open_palfreylaw04_Local {H : Type} {enc : TypeId × Value → H} {W : World} {base : Nat} {v : Value} {d : DataW H} {p : List MemPlace}
    (hv : Value.okWide Try.prog W .any base 46 v) (h : DataW.Trod enc Try.prog W 0 (fun _ => true) true 46 v d p) :
    ∃ y : LocalT, v = .agg y.cells.toArray ∧ y.ok W := by
  obtain ⟨cs, rfl, hsz⟩ := okWide_struct Try.underlying46 hv
  obtain ⟨fuel, hf⟩ := h
  obtain ⟨y0, y1, y2, y3, m, _, hl, h0, h1, h2, h3⟩ := Go.Joins.trod_struct4 Try.underlying46 hf
  simp only [Value.cells] at hl h0 h1 h2 h3
  have hc : Try.prog.cellsOf 46 = 48 := by kernel_rfl
  have c0 : Try.prog.cellsOf 26 = 45 := by kernel_rfl
  have c1 : Try.prog.cellsOf 32 = 1 := by kernel_rfl
  have c2 : Try.prog.cellsOf 44 = 1 := by kernel_rfl
  have c3 : Try.prog.cellsOf 5 = 1 := by kernel_rfl
  rw [hc] at hl
  rw [c0] at h0
  rw [c1] at h1
  rw [c2] at h2
  rw [c3] at h3
  obtain ⟨k, n, c, e0, hk, hn⟩ := z_of_cells h0
  obtain ⟨A, cap, b, e1, hs⟩ := open_bytes_cs h1
  obtain ⟨a2, e2, _, w2⟩ := DataW.trod_int Try.underlying44 h2
  obtain ⟨a3, e3, _, w3⟩ := DataW.trod_int Try.underlying5 h3
  obtain ⟨at_, rfl, hat⟩ := u16_of w2
  obtain ⟨by_, rfl⟩ := u8_of w3
  refine ⟨⟨k, n, c, A, cap, b, at_, by_⟩, ?_, hk, hn, hat, hs⟩
  congr 1
  apply Array.ext'
  have hs := split48 cs.toList hl
  simp only [List.drop_zero] at e0
  rw [e0, e1, e2, e3] at hs
  rw [hs]
  simp [LocalT.cells]
end Go.Proofs.Yteboeeijgpghoaa

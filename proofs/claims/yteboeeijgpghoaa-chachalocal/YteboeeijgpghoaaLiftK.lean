/- A key, a nonce and a counter that come in (layer 4). -/
import Derived.Test.YteboeeijgpghoaaLift
import Derived.Test.YteboeeijgpghoaaLiftC
import Derived.Deep.Strs
namespace Go.Proofs.Yteboeeijgpghoaa
open Go.RowKit Go.ChangeShapes Go.WideShapes Go.ChangeAt
set_option linter.unusedVariables false
set_option linter.unusedSimpArgs false
def zCells (k n : List UInt8) (c : BitVec 32) : List Value := k.map bv ++ (n.map bv ++ [.int .u32 (c.toNat : Int)])
theorem split45 (L : List Value) (h : L.length = 45) : L = L.take 32 ++ ((L.drop 32).take 12 ++ (L.drop 44).take 1) := by
  have h1 := List.take_append_drop 32 L
  have h2 := List.take_append_drop 12 (L.drop 32)
  rw [List.drop_drop] at h2
  have h4 : (L.drop 44).take 1 = L.drop 44 := List.take_of_length_le (by simp; omega)
  rw [h4, show L.drop 44 = L.drop (32 + 12) from rfl, h2, h1]
theorem z_of_cells {H : Type} {enc : TypeId × Value → H} {W : World} {b0 : Nat} {sp : Nat → Bool} {held : Bool} {cs : List Value} {fuel : Nat} {x : DataW H × List MemPlace}
    (hf : DataW.trod enc Try.prog W b0 sp held fuel 26 cs = some x) : ∃ k n c, cs = zCells k n c ∧ k.length = 32 ∧ n.length = 12 := by
  obtain ⟨y0, y1, y2, m, _, hl, h0, h1, h2⟩ := Go.Deep.trod_struct3 Try.underlying26 hf
  have hc : Try.prog.cellsOf 26 = 45 := by kernel_rfl
  have c0 : Try.prog.cellsOf 22 = 32 := by kernel_rfl
  have c1 : Try.prog.cellsOf 23 = 12 := by kernel_rfl
  have c2 : Try.prog.cellsOf 24 = 1 := by kernel_rfl
  rw [hc] at hl
  rw [c0] at h0
  rw [c1] at h1
  rw [c2] at h2
  obtain ⟨z0, e0, hz0, w0⟩ := cells_ints Try.underlying22 Try.underlying5 (by kernel_rfl) c0 h0
  obtain ⟨z1, e1, hz1, w1⟩ := cells_ints Try.underlying23 Try.underlying5 (by kernel_rfl) c1 h1
  obtain ⟨a2, e2, _, w2⟩ := DataW.trod_int Try.underlying24 h2
  obtain ⟨k, rfl⟩ := bytes_of w0
  obtain ⟨n, rfl⟩ := bytes_of w1
  obtain ⟨c, rfl⟩ := u32_of w2
  refine ⟨k, n, c, ?_, by simpa using hz0, by simpa using hz1⟩
  have hs := split45 cs hl
  simp only [List.drop_zero] at e0
  rw [e0, e1, e2] at hs
  rw [hs]
  simp [zCells, Function.comp_def]
  rfl
theorem open_palfreylaw04_Key {H : Type} {enc : TypeId × Value → H} {W : World} {base b0 : Nat} {sp : Nat → Bool} {held : Bool} {v : Value} {d : DataW H} {p : List MemPlace}
    (hv : Value.okWide Try.prog W .any base 26 v) (h : DataW.Trod enc Try.prog W b0 sp held 26 v d p) :
    ∃ y : List UInt8 × List UInt8 × BitVec 32, v = .agg (zCells y.1 y.2.1 y.2.2).toArray ∧ y.1.length = 32 ∧ y.2.1.length = 12 := by
  obtain ⟨cs, rfl, hsz⟩ := okWide_struct Try.underlying26 hv
  obtain ⟨fuel, hf⟩ := h
  simp only [Value.cells] at hf
  obtain ⟨k, n, c, e, hk, hn⟩ := z_of_cells hf
  refine ⟨(k, n, c), ?_, hk, hn⟩
  congr 1
  apply Array.ext'
  rw [e]
end Go.Proofs.Yteboeeijgpghoaa

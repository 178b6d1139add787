/- A key, bytes, which one is turned, and how, that come in (law CtrBack). -/
import Derived.Test.YtbmhmjgomgkamaaLiftN
import Derived.Test.YtbmhmjgomgkamaaLiftP
import Derived.Lib.SmallJoins
namespace Go.Proofs.Ytbmhmjgomgkamaa
open Go.RowKit Go.ChangeShapes Go.WideShapes Go.ChangeAt
set_option linter.unusedVariables false
set_option linter.unusedSimpArgs false
structure TurnT where
  (k : List UInt8) (lg : Bool) (n : List UInt8) (A : Option Addr) (cap : Nat) (b : List UInt8) (at_ : Nat) (by_ : UInt8)
def TurnT.cells (y : TurnT) : List Value := kCells y.k y.lg y.n ++ [.slice y.A y.b.length y.cap, .int .u16 (y.at_ : Int), .int .u8 (y.by_.toNat : Int)]
def TurnT.ok (y : TurnT) (w : World) : Prop := y.k.length = 32 ∧ y.n.length = 16 ∧ y.at_ < 65536 ∧ Sl w y.A y.cap y.b
theorem split52 (L : List Value) (h : L.length = 52) : L = L.take 49 ++ ((L.drop 49).take 1 ++ ((L.drop 50).take 1 ++ (L.drop 51).take 1)) := by
  have h1 := List.take_append_drop 49 L
  have h2 := List.take_append_drop 1 (L.drop 49)
  have h3 := List.take_append_drop 1 (L.drop 50)
  rw [List.drop_drop] at h2 h3
  have h4 : (L.drop 51).take 1 = L.drop 51 := List.take_of_length_le (by simp; omega)
  rw [h4, show L.drop 51 = L.drop (50 + 1) from rfl, h3, show L.drop 50 = L.drop (49 + 1) from rfl, h2, h1]
theorem open_palfreylaw08_Turned {H : Type} {enc : TypeId × Value → H} {W : World} {base : Nat} {v : Value} {d : DataW H} {p : List MemPlace}
    (hv : Value.okWide Try.prog W .any base 43 v) (h : DataW.Trod enc Try.prog W 0 (fun _ => true) true 43 v d p) :
    ∃ y : TurnT, v = .agg y.cells.toArray ∧ y.ok W := by
  obtain ⟨cs, rfl, hsz⟩ := okWide_struct Try.underlying43 hv
  obtain ⟨fuel, hf⟩ := h
  obtain ⟨y0, y1, y2, y3, m, _, hl, h0, h1, h2, h3⟩ := Go.Joins.trod_struct4 Try.underlying43 hf
  simp only [Value.cells] at hl h0 h1 h2 h3
  have hc : Try.prog.cellsOf 43 = 52 := by kernel_rfl
  have c0 : Try.prog.cellsOf 25 = 49 := by kernel_rfl
  have c1 : Try.prog.cellsOf 26 = 1 := by kernel_rfl
  have c2 : Try.prog.cellsOf 41 = 1 := by kernel_rfl
  have c3 : Try.prog.cellsOf 5 = 1 := by kernel_rfl
  rw [hc] at hl
  rw [c0] at h0
  rw [c1] at h1
  rw [c2] at h2
  rw [c3] at h3
  obtain ⟨k, lg, n, e0, hk, hn⟩ := k_of_cells h0
  obtain ⟨A, cap, b, e1, hs⟩ := open_bytes_cs h1
  obtain ⟨a2, e2, _, w2⟩ := DataW.trod_int Try.underlying41 h2
  obtain ⟨a3, e3, _, w3⟩ := DataW.trod_int Try.underlying5 h3
  obtain ⟨at_, rfl, hat⟩ := u16_of w2
  obtain ⟨by_, rfl⟩ := u8_of w3
  refine ⟨⟨k, lg, n, A, cap, b, at_, by_⟩, ?_, hk, hn, hat, hs⟩
  congr 1
  apply Array.ext'
  have hs := split52 cs.toList hl
  simp only [List.drop_zero] at e0
  rw [e0, e1, e2, e3] at hs
  rw [hs]
  simp [TurnT.cells]
end Go.Proofs.Ytbmhmjgomgkamaa

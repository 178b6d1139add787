/- The contract of (*State).Write. -/
import Derived.Test.YtfcnahbbieldfaaSha14
import Derived.Test.YtfcnahbbieldfaaSha7b
import Derived.Deep.CutRange
namespace Go.Proofs.Ytfcnahbbieldfaa
open Go.RowKit
set_option maxRecDepth 100000
set_option linter.unusedVariables false
set_option linter.unusedSimpArgs false
variable {RR : List Value} {tyS : TypeId}
theorem gr_trans {a b c : World} {g : Nat} (h : a.grownBy b (some g)) (k : b.grownBy c (some g)) : a.grownBy c (some g) :=
  ⟨k.os.trans h.os, k.tape.trans h.tape, k.output.trans h.output, Nat.le_trans h.size k.size, fun i hi hne => (k.block i (Nat.lt_of_lt_of_le hi h.size) hne).trans (h.block i hi hne)⟩
theorem gr_of {a b : World} {g : Nat} (h : Below a.heap.size a b) : a.grownBy b (some g) := ⟨h.os, h.tape, h.output, h.size, fun k hk _ => h.block k hk⟩
theorem Rnd.gr {w w' : World} {g : Nat} (h : Rnd w) (k : w.grownBy w' (some g)) (hg : g ≠ 0) : Rnd w' := by
  have hb := k.block 0 h.1 (by simpa using hg.symm)
  refine ⟨Nat.lt_of_lt_of_le h.1 k.size, fun i hi => ?_⟩
  have := h.2 i hi
  simpa [World.cell?, hb] using this
theorem Sl.gr {w w' : World} {A : Option Addr} {c g : Nat} {bs : List UInt8} (h : Sl w A c bs) (k : w.grownBy w' (some g)) (hg : ApartG A g) : Sl w' A c bs := by
  refine ⟨h.1, h.2.1, ?_⟩
  rcases h.2.2 with h0 | ⟨b, o, rfl, hb, hc⟩
  · exact .inl h0
  · refine .inr ⟨b, o, rfl, Nat.lt_of_lt_of_le hb k.size, fun j u hu => ?_⟩
    have hq := k.block b hb (by simpa using hg _ rfl)
    have := hc j u hu
    simpa [World.cell?, hq] using this
theorem gr_setRow (w : World) (g : Nat) (cs : Array Value) : w.grownBy (w.setRow g cs) (some g) := grown_setRow w g cs
theorem gr_setCell (w : World) (g o : Nat) (v : Value) : w.grownBy (w.setCell ⟨g, o, none⟩ v) (some g) :=
  ⟨rfl, rfl, rfl, by simp, fun k _ hk => Below.heap_setCell w _ v k (fun h => hk (by rw [h]))⟩
theorem gr_drew (w : World) (g : Nat) : w.grownBy w.drew (some g) := ⟨rfl, rfl, rfl, Nat.le_refl _, fun _ _ _ => rfl⟩
theorem whole_app (m b : List UInt8) (q : Nat) (hq : 64 * q ≤ m.length) : wholeN startL (m ++ b) q = wholeN startL m q := wholeN_app _ _ _ _ hq
/-- a part that does not fill the block -/
theorem write_short (m b : List UInt8) (h : m.length % 64 + b.length < 64) : splice (tailL m) (m.length % 64) b = tailL (m ++ b) ∧ (m ++ b).length / 64 = m.length / 64 := by
  have e0 : (m ++ b).length / 64 = m.length / 64 := by rw [List.length_append]; omega
  have e1 : (m ++ b).length % 64 = m.length % 64 + b.length := by rw [List.length_append]; omega
  refine ⟨?_, e0⟩
  have hd : (m.drop (64 * (m.length / 64))).length = m.length % 64 := by rw [List.length_drop]; omega
  have e2 : tailL m = m.drop (64 * (m.length / 64)) ++ List.replicate b.length 0 ++ List.replicate (64 - (m.length % 64 + b.length)) 0 := by
    rw [tailL, List.append_assoc, List.replicate_append_replicate]; congr 2; omega
  rw [e2, ← hd, splice_split _ _ _ _ (by simp), tailL, e0, e1, List.drop_append_of_le_length (by omega), hd]
/-- a part that fills the block: what it is filled with, and what comes behind -/
theorem write_long (m b : List UInt8) (t : Nat) (ht : m.length % 64 + t = 64) (hb : t ≤ b.length) :
    splice (tailL m) (m.length % 64) (b.take t) = (((m ++ b).drop (64 * (m.length / 64))).take 64) ∧
    wholeN (blockL (wholeN startL m (m.length / 64)) (((m ++ b).drop (64 * (m.length / 64))).take 64)) (b.drop t) ((b.length - t) / 64) = wholeN startL (m ++ b) ((m ++ b).length / 64) ∧
    splice (List.replicate 64 0) 0 ((b.drop t).drop (64 * ((b.length - t) / 64))) = tailL (m ++ b) := by
  have hd : (m.drop (64 * (m.length / 64))).length = m.length % 64 := by rw [List.length_drop]; omega
  have eX : ((m ++ b).drop (64 * (m.length / 64))).take 64 = m.drop (64 * (m.length / 64)) ++ b.take t := by
    rw [List.drop_append_of_le_length (by omega), List.take_append, hd, List.take_of_length_le (by omega)]
    congr 2; omega
  have eq1 : (m ++ b).length / 64 = m.length / 64 + (1 + (b.length - t) / 64) := by rw [List.length_append]; omega
  have ed : (m ++ b).drop (64 * (m.length / 64) + 64) = b.drop t := by
    rw [List.drop_append, List.drop_of_length_le (by omega), List.nil_append]; congr 1; omega
  refine ⟨?_, ?_, ?_⟩
  · rw [eX]
    have e2 : tailL m = m.drop (64 * (m.length / 64)) ++ List.replicate (64 - m.length % 64) 0 ++ [] := by rw [tailL, List.append_nil]
    rw [e2]
    have := splice_split (m.drop (64 * (m.length / 64))) (List.replicate (64 - m.length % 64) (0 : UInt8)) [] (b.take t) (by simp; omega)
    rw [hd] at this
    rw [this, List.append_nil]
  · rw [eq1, wholeN_add, wholeN_add, whole_app _ _ _ (by omega), List.drop_drop, show 64 * (m.length / 64) + 64 * 1 = 64 * (m.length / 64) + 64 by omega, ed]
    rfl
  · have e3 : 64 * ((m ++ b).length / 64) = 64 * (m.length / 64) + 64 + 64 * ((b.length - t) / 64) := by rw [eq1]; omega
    have e4 : (m ++ b).length % 64 = (b.length - t) % 64 := by rw [List.length_append]; omega
    rw [tailL, e3, ← List.drop_drop, ed, e4]
    have hr : ((b.drop t).drop (64 * ((b.length - t) / 64))).length = (b.length - t) % 64 := by simp; omega
    generalize (b.drop t).drop (64 * ((b.length - t) / 64)) = r at hr ⊢
    have := splice_first (0 : UInt8) ((b.length - t) % 64) (64 - (b.length - t) % 64) r hr
    rw [show (b.length - t) % 64 + (64 - (b.length - t) % 64) = 64 by omega] at this
    exact this
end Go.Proofs.Ytfcnahbbieldfaa

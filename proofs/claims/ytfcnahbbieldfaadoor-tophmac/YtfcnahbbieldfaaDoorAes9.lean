/- The contracts of Expand, Rounds, Wipe. -/
import Derived.Test.YtfcnahbbieldfaaDoorAes5
import Derived.Test.YtfcnahbbieldfaaDoorAes8
namespace Go.Proofs.YtfcnahbbieldfaaDoor
open Go.RowKit
set_option linter.unusedVariables false
set_option maxRecDepth 100000
set_option linter.unusedSimpArgs false
theorem fill_fold (off : Nat) : ∀ (L : List Value) (k : Nat) (cs : Array Value), off + k + L.length ≤ cs.size →
    ((L.zipIdx k).foldl (fun (cs : Array Value) (p : Value × Nat) => cs.setIfInBounds (off + p.2) p.1) cs).toList = cs.toList.take (off + k) ++ L ++ cs.toList.drop (off + k + L.length)
  | [], k, cs, _ => by simp
  | v :: rest, k, cs, h => by
    rw [List.zipIdx_cons, List.foldl_cons, fill_fold off rest (k + 1) _ (by simp at h ⊢; omega)]
    have hk : off + k < cs.toList.length := by simp at h ⊢; omega
    simp only [Array.toList_setIfInBounds]
    rw [show off + (k + 1) = (off + k) + 1 by omega, List.take_succ_eq_append_getElem (by simpa using hk)]
    simp only [List.getElem_set_self, List.length_cons]
    rw [List.take_set_of_le (by omega), List.drop_set_of_lt (by omega), show off + k + 1 + rest.length = off + k + (rest.length + 1) by omega]
    simp
def zeros61 : List Value := zeros60 ++ [.int .i64 0]
theorem fill_cons {place : Nat → Option (Nat × Nat)} {cells : Array Value} {i : Nat} {v : Value} {rest : List (Nat × Value)} {off size : Nat} (h : place i = some (off, size)) (hs : v.cells.size = size) (ho : off + size ≤ cells.size) :
    Instr.fill place cells ((i, v) :: rest) = Instr.fill place (v.cells.zipIdx.foldl (fun (cs : Array Value) (p : Value × Nat) => cs.setIfInBounds (off + p.2) p.1) cells) rest := by
  rw [Instr.fill]
  simp only [h]
  rw [if_neg (by rw [hs]; simp; omega)]
theorem fold_arr (off : Nat) (L : List Value) (cs : List Value) (h : off + L.length ≤ cs.length) :
    L.toArray.zipIdx.foldl (fun (cs : Array Value) (p : Value × Nat) => cs.setIfInBounds (off + p.2) p.1) cs.toArray = (splice cs off L).toArray := by
  have h1 := fill_fold off L 0 cs.toArray (by simpa using h)
  simp only [Nat.add_zero] at h1
  apply Array.ext'
  rw [← Array.foldl_toList]
  simp only [Array.toList_zipIdx]
  rw [h1]; simp [splice]
theorem exec_build {P : Program} {o : Oper} {a : Act} {W : World} {t : TypeId} {parts : Array (Nat × Operand)} {v : Value} (ho : o.op = .build t parts) (hrun : (Instr.build t (parts.map fun (i, x) => (i, a.eval x))).run P W = .ok v W) : (execOp a.eval o).run P W = .ok (.value v) W := by
  unfold execOp
  simp only [ho, Sem.run_bind, hrun, Result.andThen_ok, Sem.run_pure]
def KeyIn (w : World) (g : Nat) (ws : List W32) (n : Nat) : Prop := ws.length = 60 ∧ KIn w g ws n
theorem KeyIn.ext {w w' : World} {g : Nat} {ws : List W32} {n : Nat} (h : KeyIn w g ws n) (hb : Below w.heap.size w w') : KeyIn w' g ws n := ⟨h.1, h.2.ext hb⟩
theorem expandL_len (key : List UInt8) (h : key.length ≤ 32) : (expandL key).length = 60 := expN_len _ _ _ _ (by omega)
end Go.Proofs.YtfcnahbbieldfaaDoor

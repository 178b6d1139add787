/- The contracts of Expand, Rounds, Wipe. -/
import Derived.Test.YtjmpbcfbfbjenaaAes5
import Derived.Test.YtjmpbcfbfbjenaaAes8
namespace Go.Proofs.Ytjmpbcfbfbjenaa
open Go.RowKit
set_option linter.unusedVariables false
set_option maxRecDepth 100000
set_option linter.unusedSimpArgs false
theorem fill_fold (off : Nat) : ∀ (L : List Value) (k : Nat) (cs : Array Value), off + k + L.length ≤ cs.size →
    ((L.zipIdx k).foldl (fun (cs : Array Value) (p : Value × Nat) => cs.setIfInBounds (off + p.2) p.1) cs).toList = cs.toList.take (off + k) ++ L ++ cs.toList.drop (off + k + L.length)
  | [], k, cs, _ => by simp
  | v :: rest, k, cs, h => by
    rw [List.zipIdx_cons, List.foldl_cons, fill_fold off rest (k + 1) _ (by simp at h ⊢; omega)]
    have hk : off + k < cs.toList.length := by simp at h ⊢; omega
    simp only [Array.toList_setIfInBounds]
    rw [show off + (k + 1) = (off + k) + 1 by omega, List.take_succ_eq_append_getElem (by simpa using hk)]
    simp only [List.getElem_set_self, List.length_cons]
    rw [List.take_set_of_le (by omega), List.drop_set_of_lt (by omega), show off + k + 1 + rest.length = off + k + (rest.length + 1) by omega]
    simp
def zeros61 : List Value := zeros60 ++ [.int .i64 0]
theorem built_fill (parts : List (Nat × Value)) : Try.prog.built 92 parts = Instr.fill (fun i => #[(0, 60), (60, 1)][i]?) zeros61.toArray parts := by kernel_rfl
theorem fill_cons {place : Nat → Option (Nat × Nat)} {cells : Array Value} {i : Nat} {v : Value} {rest : List (Nat × Value)} {off size : Nat} (h : place i = some (off, size)) (hs : v.cells.size = size) (ho : off + size ≤ cells.size) :
    Instr.fill place cells ((i, v) :: rest) = Instr.fill place (v.cells.zipIdx.foldl (fun (cs : Array Value) (p : Value × Nat) => cs.setIfInBounds (off + p.2) p.1) cells) rest := by
  rw [Instr.fill]
  simp only [h]
  rw [if_neg (by rw [hs]; simp; omega)]
theorem fold_arr (off : Nat) (L : List Value) (cs : List Value) (h : off + L.length ≤ cs.length) :
    L.toArray.zipIdx.foldl (fun (cs : Array Value) (p : Value × Nat) => cs.setIfInBounds (off + p.2) p.1) cs.toArray = (splice cs off L).toArray := by
  have h1 := fill_fold off L 0 cs.toArray (by simpa using h)
  simp only [Nat.add_zero] at h1
  apply Array.ext'
  rw [← Array.foldl_toList]
  simp only [Array.toList_zipIdx]
  rw [h1]; simp [splice]
theorem exec_build {P : Program} {o : Oper} {a : Act} {W : World} {t : TypeId} {parts : Array (Nat × Operand)} {v : Value} (ho : o.op = .build t parts) (hrun : (Instr.build t (parts.map fun (i, x) => (i, a.eval x))).run P W = .ok v W) : (execOp a.eval o).run P W = .ok (.value v) W := by
  unfold execOp
  simp only [ho, Sem.run_bind, hrun, Result.andThen_ok, Sem.run_pure]
theorem built_keys (L : List Value) (n : Int) (hl : L.length = 60) : Try.prog.built 92 [(0, .agg L.toArray), (1, .int .i64 n)] = some (L ++ [Value.int .i64 n]).toArray := by
  have hz : zeros61.length = 61 := by simp [zeros61, zeros60_len]
  rw [built_fill]
  generalize zeros61 = Z at hz
  rw [fill_cons (off := 0) (size := 60) rfl (by simpa [Value.cells] using hl) (by simp [hz])]
  have e1 : (Value.agg L.toArray).cells = L.toArray := rfl
  rw [e1, fold_arr 0 L Z (by rw [hl, hz]; omega)]
  have hs1 : (splice Z 0 L).length = 61 := by simp [splice, hl, hz]
  rw [fill_cons (off := 60) (size := 1) rfl rfl (by simp [hs1])]
  have e2 : (Value.int .i64 n).cells = [Value.int .i64 n].toArray := rfl
  rw [e2, fold_arr 60 [Value.int .i64 n] (splice Z 0 L) (by rw [hs1]; simp)]
  rw [Instr.fill]
  congr 2
  obtain ⟨z, hzz⟩ : ∃ z, Z.drop 60 = [z] := by
    have : (Z.drop 60).length = 1 := by simp [hz]
    match Z.drop 60, this with
    | [z], _ => exact ⟨z, rfl⟩
  have e3 : splice Z 0 L = L ++ [z] := by simp [splice, hl, hzz]
  rw [e3]
  simp [splice, hl]
/-- round keys lie at block g -/
def KeyAt (w : World) (g : Nat) (ws : List W32) (n : Nat) : Prop := ws.length = 60 ∧ w.heap[g]? = some (.cells (keyCells ws n).toArray 92 (0, 0))
theorem KeyAt.ext {w w' : World} {g : Nat} {ws : List W32} {n : Nat} (h : KeyAt w g ws n) (hb : Below w.heap.size w w') : KeyAt w' g ws n := ⟨h.1, (hb.block _ (lt_of_heap h.2)).trans h.2⟩
def KeyIn (w : World) (g : Nat) (ws : List W32) (n : Nat) : Prop := ws.length = 60 ∧ KIn w g ws n
theorem KeyIn.ext {w w' : World} {g : Nat} {ws : List W32} {n : Nat} (h : KeyIn w g ws n) (hb : Below w.heap.size w w') : KeyIn w' g ws n := ⟨h.1, h.2.ext hb⟩
theorem KeyAt.toIn {w : World} {g : Nat} {ws : List W32} {n : Nat} (h : KeyAt w g ws n) : KeyIn w g ws n := ⟨h.1, kin_of h.2⟩
theorem expandL_len (key : List UInt8) (h : key.length ≤ 32) : (expandL key).length = 60 := expN_len _ _ _ _ (by omega)
set_option maxHeartbeats 1000000 in
theorem expand_any (A : Option Addr) (n c nk : Nat) (key : List UInt8) (w : World) (hl : key.length = n) (hn : n = 4 * nk) (hk : nk = 4 ∨ nk = 8) (hS : Sl w A c key) :
    Calls Try.prog 32 #[.slice A n c] w fun e w' => ∃ g, e = .returned (.tuple #[.pointer (some ⟨g, 0, none⟩), .int .i64 0]) ∧ w.heap.size ≤ g ∧ KeyAt w' g (expandL key) (nk + 6) ∧ Below w.heap.size w w' := by
  have HX := Lib.hid (expanded_any A n c nk key w hl hn hk hS)
  have hwl : (expandL key).length = 60 := expandL_len key (by omega)
  generalize expandL key = ws at HX hwl ⊢
  have HB := Lib.hid (built_keys (ws.map wv) ((nk + 6 : Nat) : Int) (by rw [List.length_map]; exact hwl))
  have HWL := Lib.hid hwl
  have u1 : (n : Int) / 4 = (nk : Int) := by omega
  have u2 : (nk : Int) + 6 = ((nk + 6 : Nat) : Int) := by omega
  generalize nk + 6 = r at HB u2 ⊢
  have hb : Hid (∀ W, (Instr.build 92 #[(0, .agg (ws.map wv).toArray), (1, .int .i64 (r : Int))]).run Try.prog W = .ok (.agg (keyCells ws r).toArray) W) := fun W => run_build W _ _ _ HB.out
  have hn8 : nk ≤ 8 := by omega
  have hn32 : n ≤ 32 := by omega
  have hc : ((n : Int) != 16) = false ∨ ((n : Int) != 16) = true ∧ ((n : Int) != 32) = false := by
    rcases hk with h | h
    · left; simp; omega
    · right; simp; omega
  clear hl hn hk hS hwl HB
  rcases hc with t1 | ⟨t1, t2⟩
  all_goals
    go_enter Try.func32, Try.ntmps32
    go_wp2_with fail
    refine HX.out.mono ?_
    rintro e w1 ⟨rfl, hB1⟩
    have HB1 := Lib.hid hB1
    clear hB1
    obtain ⟨KC, HKC⟩ : ∃ KC, Hid ((keyCells ws r).toArray = KC) := ⟨_, rfl⟩
    go_wp2_with (first
      | (refine wpList_run (o := ⟨some 18, _, _, _, _, _⟩) rfl (v := .agg (keyCells ws r).toArray) (w' := w1) (exec_build rfl (by simp only [List.map_toArray, List.map_cons, List.map_nil]; exact hb.out w1)) ?_
         rw [HKC.out])
      | fail)
    go_ret2
    exact ⟨_, rfl, HB1.out.size, ⟨HWL.out, by rw [HKC.out]; exact heap_alloc_new' w1 _⟩, HB1.out.alloc HB1.out.size _⟩
set_option maxHeartbeats 1000000 in
theorem expand_no (A : Option Addr) (n c : Nat) (w : World) (h1 : n ≠ 16) (h2 : n ≠ 32) : Calls Try.prog 32 #[.slice A n c] w fun e w' => e = .returned (.tuple #[.pointer none, .int .i64 5]) ∧ w = w' := by
  have t1 : ((n : Int) != 16) = true := by simp; omega
  have t2 : ((n : Int) != 32) = true := by simp; omega
  clear h1 h2
  go_enter Try.func32, Try.ntmps32
  go_wp2
  go_ret2
  exact ⟨rfl, rfl⟩
theorem rounds_nil (w : World) : Calls Try.prog 69 #[.pointer none] w fun e w' => e = .returned (.int .i64 0) ∧ w = w' := by
  go_enter Try.func69, Try.ntmps69
  go_wp2
  go_ret
  exact ⟨rfl, rfl⟩
theorem roundsIn_any (g : Nat) (ws : List W32) (n : Nat) (w : World) (H : KeyIn w g ws n) : Calls Try.prog 69 #[.pointer (some ⟨g, 0, none⟩)] w fun e w' => e = .returned (.int .i64 (n : Int)) ∧ w = w' := by
  have c := kinN H.2 H.1
  clear H
  go_enter Try.func69, Try.ntmps69
  go_wp2
  go_ret
  exact ⟨rfl, rfl⟩
theorem rounds_any (g : Nat) (ws : List W32) (n : Nat) (w : World) (H : KeyAt w g ws n) : Calls Try.prog 69 #[.pointer (some ⟨g, 0, none⟩)] w fun e w' => e = .returned (.int .i64 (n : Int)) ∧ w = w' := roundsIn_any g ws n w H.toIn
end Go.Proofs.Ytjmpbcfbfbjenaa

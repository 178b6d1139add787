/- The state of a message so far: its cells; the contracts of sha.New, (*State).Len, (*State).Sum. -/
import Derived.Test.YtimgggpojbpfkaaGreatDoorSha12
import Derived.Deep.MidRow
namespace Go.Proofs.YtimgggpojbpfkaaGreatDoor
open Go.RowKit
set_option maxRecDepth 100000
set_option linter.unusedVariables false
set_option linter.unusedSimpArgs false
def stCells (RR : List Value) (h : List W32) (t : List UInt8) (n : Nat) : List Value := h.map wv ++ (t.map bv ++ (.int .i64 (n : Int) :: RR))
variable {RR : List Value} {tyS : TypeId}
theorem stCells_len (h : List W32) (t : List UInt8) (n : Nat) (hh : h.length = 8) (ht : t.length = 64) : (stCells RR h t n).length = 73 + RR.length := by simp [stCells, hh, ht]; omega
theorem store_mid {P : Program} {ty : TypeId} {cs : List Value} (hi : (P.info? ty).map (·.size) = some cs.length) (h1 : ∀ v ∈ cs, v.oneCell' = true)
    {W : World} {g off : Nat} {t : TypeId} {cur : List Value} (hg : W.heap[g]? = some (.cells cur.toArray t (0, 0))) (ho : off + cs.length ≤ cur.length) :
    (Instr.storeAt ty (.pointer (some ⟨g, off, none⟩)) (.agg cs.toArray)).run P W = .ok () (W.setRow g (splice cur off cs).toArray) := by
  have h := run_storeCells_at P g off t cs 0 cur.toArray W hg (by simpa using ho) h1
  simp only [Nat.add_zero] at h
  have h2 : (storeVar ty ⟨g, off, none⟩ (.agg cs.toArray)).run P W = .ok () (W.setRow g (splice cur off cs).toArray) := by
    cases hq : P.info? ty with
    | none => simp [hq] at hi
    | some i =>
      have hs : cs.length = i.size := by simp [hq] at hi; omega
      simp [storeVar, sizeOf, typeInfo, hq, Value.cells, hs, h, splice]
  simp only [Instr.storeAt, Instr.sureAddr, Sem.run_bind, Sem.run_pure, Result.andThen_ok, h2]
theorem splice_h (h h' : List W32) (t : List UInt8) (n : Nat) (hl : h'.length = h.length) : splice (stCells RR h t n) 0 (h'.map wv) = stCells RR h' t n := by
  have := splice_split [] (h.map wv) (t.map bv ++ (Value.int .i64 (n : Int) :: RR)) (h'.map wv) (by simpa using hl)
  simpa [stCells] using this
theorem splice_map (t cs : List UInt8) (k : Nat) : splice (t.map bv) k (cs.map bv) = (splice t k cs).map bv := by
  simp [splice, List.map_take, List.map_drop]
theorem splice_t (h : List W32) (t cs : List UInt8) (n k : Nat) (hh : h.length = 8) (hk : k + cs.length ≤ t.length) : splice (stCells RR h t n) (8 + k) (cs.map bv) = stCells RR h (splice t k cs) n := by
  have e : t = t.take k ++ (t.drop k).take cs.length ++ t.drop (k + cs.length) := by
    rw [List.append_assoc, ← List.drop_drop, List.take_append_drop, List.take_append_drop]
  have e1 : stCells RR h t n = (h.map wv ++ (t.take k).map bv) ++ ((t.drop k).take cs.length).map bv ++ ((t.drop (k + cs.length)).map bv ++ (Value.int .i64 (n : Int) :: RR)) := by
    unfold stCells
    conv => lhs; rw [e]
    simp
  have hl : (h.map wv ++ (t.take k).map bv).length = 8 + k := by simp [hh]; omega
  rw [e1, ← hl, splice_split _ _ _ _ (by simp; omega)]
  simp [stCells, splice]
theorem set_n (h : List W32) (t : List UInt8) (n n' : Nat) (hh : h.length = 8) (ht : t.length = 64) : (stCells RR h t n).set 72 (.int .i64 (n' : Int)) = stCells RR h t n' := by
  unfold stCells
  rw [List.set_append_right _ _ (by simp [hh]), List.set_append_right _ _ (by simp [hh, ht])]
  simp [hh, ht]
theorem cell_n {w : World} {g : Nat} {h : List W32} {t : List UInt8} {n : Nat} {ty : TypeId} {fr : Nat × Nat} (H : w.heap[g]? = some (.cells (stCells RR h t n).toArray ty fr)) (hh : h.length = 8) (ht : t.length = 64) : w.cell? ⟨g, 72, none⟩ = some (.int .i64 (n : Int)) := by
  rw [cell_of_heap H, stCells, List.getElem?_append_right (by simp [hh]), List.getElem?_append_right (by simp [hh, ht])]
  simp [hh, ht]
theorem range_h {w : World} {g : Nat} {h : List W32} {t : List UInt8} {n : Nat} {ty : TypeId} {fr : Nat × Nat} (H : w.heap[g]? = some (.cells (stCells RR h t n).toArray ty fr)) : w.rangeAt g 0 (h.map wv) := fun j v hv => by
  rw [Nat.zero_add, cell_of_heap H, stCells, List.getElem?_append_left (List.getElem?_eq_some_iff.1 hv).1, hv]
theorem range_t {w : World} {g : Nat} {h : List W32} {t : List UInt8} {n : Nat} {ty : TypeId} {fr : Nat × Nat} (H : w.heap[g]? = some (.cells (stCells RR h t n).toArray ty fr)) (hh : h.length = 8) : w.rangeAt g 8 (t.map bv) := fun j v hv => by
  rw [cell_of_heap H, stCells, List.getElem?_append_right (by simp [hh]), List.getElem?_append_left (by have := (List.getElem?_eq_some_iff.1 hv).1; simp [hh]; simpa using this)]
  simpa [hh] using hv
/-- the bytes behind the whole blocks, with noughts up to a block -/
def tailL (m : List UInt8) : List UInt8 := m.drop (64 * (m.length / 64)) ++ List.replicate (64 - m.length % 64) 0
theorem tailL_len (m : List UInt8) : (tailL m).length = 64 := by simp [tailL]; omega
/-- the state at block g is that of the message m -/
def StR (tyS : TypeId) (RR : List Value) (w : World) (g : Nat) (m : List UInt8) : Prop :=
  ∃ h : List W32, h.length = 8 ∧ (m ≠ [] → h = wholeN startL m (m.length / 64)) ∧ w.heap[g]? = some (.cells (stCells RR h (tailL m) m.length).toArray tyS (0, 0))
abbrev StAt (w : World) (g : Nat) (m : List UInt8) : Prop := StR 128 [] w g m
theorem StR.ext {w w' : World} {g : Nat} {m : List UInt8} (H : StR tyS RR w g m) (hb : Below w.heap.size w w') : StR tyS RR w' g m := by
  obtain ⟨h, h1, h2, h3⟩ := H
  exact ⟨h, h1, h2, (hb.block _ (lt_of_heap h3)).trans h3⟩
theorem StR.lt {w : World} {g : Nat} {m : List UInt8} (H : StR tyS RR w g m) : g < w.heap.size := by
  obtain ⟨h, h1, h2, h3⟩ := H
  exact lt_of_heap h3
theorem len_nil (w : World) : Calls Tryz.prog 129 #[.pointer none] w fun e w' => e = .returned (.int .i64 0) ∧ w = w' := by
  go_enter Tryz.func129, Tryz.ntmps129
  go_wp2
  go_ret
  exact ⟨rfl, rfl⟩
theorem len_any (g : Nat) (m : List UInt8) (n : Nat) (w : World) (hn : m.length = n) (H : StR tyS RR w g m) : Calls Tryz.prog 129 #[.pointer (some ⟨g, 0, none⟩)] w fun e w' => e = .returned (.int .i64 (n : Int)) ∧ w = w' := by
  subst hn
  obtain ⟨h, h1, _, h3⟩ := H
  have c := cell_n h3 h1 (tailL_len m)
  generalize m.length = n at c ⊢
  clear h3 h1
  go_enter Tryz.func129, Tryz.ntmps129
  go_wp2
  go_ret
  exact ⟨rfl, rfl⟩
theorem sumL_state (m : List UInt8) : finishL (wholeN startL m (m.length / 64)) ((tailL m).take (m.length % 64)) m.length = sumL m := by
  have : (tailL m).take (m.length % 64) = m.drop (64 * (m.length / 64)) := by
    rw [tailL, List.take_left' (by simp; omega)]
  rw [this]; rfl
end Go.Proofs.YtimgggpojbpfkaaGreatDoor

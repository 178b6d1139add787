/- Joined: Sha9 Sha10 Sha11 Sha12 Sha13 Sha14 Sha15 Poly8 Poly9 Poly10 Aed2 Aed3 Aed4 Aed5 LiftP LiftE Aed6 Alg13 LiftZ Door LawsB1. -/
import Derived.Test.YtnhhgiebnhlfcaaGreatDoorSha8
import Derived.Test.YtnhhgiebnhlfcaaGreatDoorBits3
import Derived.Lib.SlBytesConst
import Derived.Deep.MidRow
import Derived.Test.YtnhhgiebnhlfcaaGreatDoorJoin1
import Derived.Deep.CutRange
import Derived.Test.YtnhhgiebnhlfcaaGreatDoorReg4
import Derived.Test.YtnhhgiebnhlfcaaGreatDoorOwn
import Derived.Test.YtnhhgiebnhlfcaaGreatDoorReg5
import Derived.Test.YtnhhgiebnhlfcaaGreatDoorLift
import Derived.Deep.Strs
import Derived.Test.YtnhhgiebnhlfcaaGreatDoorAlg12
import Derived.Lib.UnsafeStr
import Derived.Test.YtnhhgiebnhlfcaaGreatDoorAlg7
import Derived.Lib.SmallJoins
import Derived.Test.YtnhhgiebnhlfcaaGreatDoorRows
import Derived.Test.YtnhhgiebnhlfcaaGreatDoorSha2
import Derived.LaidMore
import Derived.OpenShut
import Derived.ProofKit
import Derived.Test.YtnhhgiebnhlfcaaGreatDoorAlg11
import Derived.Test.YtnhhgiebnhlfcaaGreatDoorAlg10
/- The contract of sha.Sum. -/
namespace Go.Proofs.YtnhhgiebnhlfcaaGreatDoor
open Go.RowKit
set_option maxRecDepth 100000
set_option linter.unusedVariables false
set_option linter.unusedSimpArgs false
def sumL (bs : List UInt8) : List UInt8 := finishL (wholeN startL bs (bs.length / 64)) (bs.drop (64 * (bs.length / 64))) bs.length
theorem sumL_len (bs : List UInt8) : (sumL bs).length = 32 := by
  rw [sumL, finishL, outL_len, wholeN_len _ _ _ (wholeN_len _ _ _ rfl)]
set_option maxHeartbeats 2000000 in
theorem sum_any (A : Option Addr) (n c : Nat) (bs : List UInt8) (w : World) (hl : bs.length = n) (hS : Sl w A c bs) (hR : Rnd w) :
    Calls Tryz.prog 89 #[.slice A n c] w fun e w' => e = .returned (.agg ((sumL bs).map bv).toArray) ∧ Below w.heap.size w w' := by
  have HL := Lib.hid hl; have HS := Lib.hid hS; have HR := Lib.hid hR
  have hn : n ≤ 9223372036854775807 := by have h1 := hS.1; have h2 := hS.2.1; unfold maxLen at h2; omega
  have HN := Lib.hid hn
  have F0 : Hid ((w.alloc (.cells (List.replicate 32 (Value.int .u8 0)).toArray 107)).heap[w.heap.size]? = some (.cells (List.replicate 32 (Value.int .u8 0)).toArray 107 (0, 0))) := heap_alloc_new' w _
  have FB : Hid (Below w.heap.size w (w.alloc (.cells (List.replicate 32 (Value.int .u8 0)).toArray 107))) := (Below.refl _ _).alloc (Nat.le_refl _) _
  have hSL : Hid (sumL bs = finishL (wholeN startL bs (n / 64)) (bs.drop (64 * (n / 64))) n) := by show _ = _; rw [← hl]; rfl
  have hZl : Hid (((sumL bs).map bv).length = 32) := by show _ = _; rw [List.length_map, sumL_len]
  have hdl : Hid ((bs.drop (64 * (n / 64))).length = n % 64) := by show _ = _; rw [List.length_drop, hl]; omega
  clear hl hS hR hn
  go_enter Tryz.func89, Tryz.ntmps89
  go_wp2_with fail
  generalize hV : w.alloc _ = W0
  have F0 : Hid (W0.heap[w.heap.size]? = some (.cells (List.replicate 32 (Value.int .u8 0)).toArray 107 (0, 0))) := by rw [← hV]; exact F0.out
  have FB : Hid (Below w.heap.size w W0) := by rw [← hV]; exact FB.out
  clear hV
  refine (start_any W0).mono ?_
  rintro e w1 ⟨rfl, hB1⟩
  have F1 := Lib.hid ((hB1.block _ (lt_of_heap F0.out)).trans F0.out)
  have FB1 := Lib.hid (FB.out.step hB1)
  have HR1 : Hid (Rnd w1) := HR.out.ext FB1.out
  have HS1 : Hid (Sl w1 A c bs) := ⟨HS.out.1, HS.out.2.1, HS.out.2.2.after FB1.out⟩
  clear hB1
  go_wp2_with fail
  refine (whole_any startL A n c bs w1 rfl HL.out HS1.out HR1.out).mono ?_
  have hYl := Lib.hid (wholeN_len startL bs (n / 64) rfl)
  generalize wholeN startL bs (n / 64) = Y at hSL hYl ⊢
  generalize bs.drop (64 * (n / 64)) = R at hSL hdl ⊢
  rintro e w2 ⟨A2, c2, rfl, hA2, hB2⟩
  have F2 := Lib.hid ((hB2.block _ (lt_of_heap F1.out)).trans F1.out)
  have FB2 := Lib.hid (FB1.out.step hB2)
  have HA2 : Hid (Sl w2 A2 c2 R) := ⟨hA2.1, hA2.2.1, hA2.2.2.after hB2⟩
  have hi8 : Hid ((Tryz.prog.info? 69).map (·.size) = some (Y.map wv).length) := by show _ = _; rw [List.length_map, hYl.out]; exact i8W
  have hle : Hid ((List.replicate 8 (Value.int .u32 0)).length = (Y.map wv).length) := by show _ = _; rw [List.length_map, hYl.out]; rfl
  clear hA2 hB2 F0 F1 FB FB1 HR1 HS1
  go_wp2_with (first
    | (refine wpList_st rfl 69 (.tmp 3) (.tmp 9) rfl (store_arr (cs := Y.map wv) (old := List.replicate 8 (Value.int .u32 0)) hi8.out (wv_one _) (heap_alloc_new' w2 _) hle.out) ?_
       generalize hV : World.setRow _ _ _ = W5
       have M0 := Lib.hid (heap_of_setRow hV (heap_alloc_new' w2 _))
       have MB := Lib.hid (below_of_setRow hV (Nat.le_refl w2.heap.size) (Nat.le_of_lt (lt_of_heap (heap_alloc_new' w2 _))))
       clear hV)
    | (refine wpList_ld rfl 69 (.tmp 3) rfl (load_arr arr8W rfl hi8.out M0.out) ?_))
  have B5 := Lib.hid ((((Below.refl w2.heap.size w2).alloc (Nat.le_refl _) _).trans MB.out))
  have F5 := Lib.hid ((B5.out.block _ (lt_of_heap F2.out)).trans F2.out)
  have FB5 := Lib.hid (FB2.out.step B5.out)
  have HR5 : Hid (Rnd W5) := HR.out.ext FB5.out
  have HS5 : Hid (Sl W5 A2 c2 R) := ⟨HA2.out.1, HA2.out.2.1, HA2.out.2.2.after B5.out⟩
  have hm : Hid (n % 64 ≤ 2147000000) := by show _ ≤ _; omega
  clear MB M0 B5 F2 FB2 HA2
  refine (finish_any Y A2 (n % 64) c2 n R W5 hYl.out hdl.out hm.out HN.out HS5.out HR5.out).mono ?_
  rw [← hSL.out]
  obtain ⟨Z, HZ⟩ : ∃ Z, Hid (sumL bs = Z) := ⟨_, rfl⟩
  rw [HZ.out]
  rw [HZ.out] at hZl
  rintro e w6 ⟨rfl, hB6⟩
  have P1 := Lib.hid ((hB6.block _ (lt_of_heap F5.out)).trans F5.out)
  have PB := Lib.hid (FB5.out.step hB6)
  have hi32 : Hid ((Tryz.prog.info? 107).map (·.size) = some (Z.map bv).length) := by show _ = _; rw [hZl.out]; exact i32B
  clear hB6 F5 FB5 HR5 HS5
  go_wp2_with (first
    | (refine wpList_st rfl 107 (.tmp 2) (.tmp 15) rfl (store_arr (cs := Z.map bv) (old := List.replicate 32 (Value.int .u8 0)) hi32.out (bv_one _) P1.out (by rw [hZl.out]; simp)) ?_)
    | fail)
  have hres := setRow_heap w6 w.heap.size _ (Z.map bv).toArray 107 _ P1.out
  rw [HZ.out]
  exact bodyPost_ret (results_cell_row (P := Tryz.prog) rfl _ _ w.heap.size 107 (Z.map bv).toArray (0, 0) _ rfl hres arr32B rfl (by rw [List.size_toArray, hZl.out]; exact i32B)) rfl ⟨rfl, PB.out.trans (grown_below (grown_setRow _ _ _) (Nat.le_refl _) PB.out.size)⟩
end Go.Proofs.YtnhhgiebnhlfcaaGreatDoor

/- The sum of "abc", by evaluation. -/
namespace Go.Proofs.YtnhhgiebnhlfcaaGreatDoor
set_option maxRecDepth 100000 in
theorem sum_abc : (sumL [97, 98, 99]).take 4 = [186, 120, 22, 191] := by decide +kernel
end Go.Proofs.YtnhhgiebnhlfcaaGreatDoor

/- The contract of the law file's own 'awake' (the chapter's example). -/
namespace Go.Proofs.YtnhhgiebnhlfcaaGreatDoor
open Go.RowKit
set_option maxRecDepth 100000
set_option linter.unusedVariables false
set_option linter.unusedSimpArgs false
theorem abc4 : ∃ r : List UInt8, sumL [97, 98, 99] = 186 :: 120 :: 22 :: 191 :: r ∧ r.length = 28 := by
  have h := sum_abc
  have hl := sumL_len [97, 98, 99]
  generalize sumL [97, 98, 99] = Z at h hl
  match Z, h, hl with
  | a :: b :: c :: d :: r, h, hl =>
    simp at h hl
    obtain ⟨rfl, rfl, rfl, rfl⟩ := h
    exact ⟨r, rfl, hl⟩
theorem abc_row (w : World) : Sl (w.alloc (.cells #[.int .u8 97, .int .u8 98, .int .u8 99] 5 (3, 4))) (some ⟨w.heap.size, 0, none⟩) 3 [97, 98, 99] :=
  sl_row (g := w.heap.size) (fr := (3, 4)) (t := 5) rfl (by omega) (heap_alloc_new' w _)
end Go.Proofs.YtnhhgiebnhlfcaaGreatDoor

/- The walk of the law ShaWhole. -/
namespace Go.Proofs.YtnhhgiebnhlfcaaGreatDoor
open Go.RowKit
set_option maxRecDepth 100000
set_option linter.unusedVariables false
set_option linter.unusedSimpArgs false
theorem wholeN_add (h : List W32) (bs : List UInt8) (q m : Nat) : wholeN h bs (q + m) = wholeN (wholeN h bs q) (bs.drop (64 * q)) m := by
  induction m with
  | zero => rfl
  | succ m ih =>
    show blockL (wholeN h bs (q + m)) _ = blockL _ _
    rw [ih, List.drop_drop, show 64 * (q.add m) = 64 * q + 64 * m from by show 64 * (q + m) = _; omega]
theorem wholeN_app (h : List W32) (a b : List UInt8) (q : Nat) (hq : 64 * q ≤ a.length) : wholeN h (a ++ b) q = wholeN h a q := by
  induction q with
  | zero => rfl
  | succ q ih =>
    show blockL (wholeN h (a ++ b) q) _ = blockL _ _
    rw [ih (by omega), List.drop_append_of_le_length (by omega), List.take_append_of_le_length (by rw [List.length_drop]; omega)]
theorem padN_mod (n : Nat) : (n + (padK n + 8)) % 64 = 0 := by unfold padK; omega
theorem sumL_whole (bs : List UInt8) (n : Nat) (hl : bs.length = n) : outL (wholeN startL (bs ++ padL n) ((n + (padK n + 8)) / 64)) = sumL bs := by
  subst hl
  have e : (bs.length + (padK bs.length + 8)) / 64 = bs.length / 64 + ((bs.drop (64 * (bs.length / 64))).length + (padK bs.length + 8)) / 64 := by
    rw [List.length_drop]; omega
  rw [e, wholeN_add, wholeN_app _ _ _ _ (by omega), List.drop_append_of_le_length (by omega)]
  rfl
theorem bcell8 {w : World} {g : Nat} {bs : List UInt8} {t : TypeId} {fr : Nat × Nat} (h : w.heap[g]? = some (.cells (bs.map bv).toArray t fr)) (i : Nat) (hi : i < bs.length) : w.cell? ⟨g, i, none⟩ = some (.int .u8 ((bs.getD i 0).toNat : Int)) := by
  rw [cell_of_heap h, List.getElem?_map]; simp [hi, List.getD, bv]
theorem fillB_len (X : List UInt8) (k : Nat) (hX : X.length = 64) (hk : k ≤ 64) : (X.take k ++ List.replicate (64 - k) (0 : UInt8)).length = 64 := by simp [hX]; omega
def fillB (X : List UInt8) (k : Nat) : List UInt8 := X.take k ++ List.replicate (64 - k) 0
theorem fillB_step (X : List UInt8) (k : Nat) (hX : X.length = 64) (hk : k < 64) : ((fillB X k).map bv).set k (bv (X.getD k 0)) = (fillB X (k + 1)).map bv := by
  have hl : (X.take k).length = k := by rw [List.length_take]; omega
  rw [← List.map_set, fillB, show 64 - k = (64 - (k + 1)) + 1 by omega, set_mid _ _ _ _ _ hl, fillB, take_snoc8 X k (by omega)]
theorem fillB_end (X : List UInt8) (hX : X.length = 64) : fillB X 64 = X := by simp [fillB, List.take_of_length_le, hX]
end Go.Proofs.YtnhhgiebnhlfcaaGreatDoor

/- The state of a message so far: its cells; the contracts of sha.New, (*State).Len, (*State).Sum. -/
namespace Go.Proofs.YtnhhgiebnhlfcaaGreatDoor
open Go.RowKit
set_option maxRecDepth 100000
set_option linter.unusedVariables false
set_option linter.unusedSimpArgs false
def stCells (RR : List Value) (h : List W32) (t : List UInt8) (n : Nat) : List Value := h.map wv ++ (t.map bv ++ (.int .i64 (n : Int) :: RR))
variable {RR : List Value} {tyS : TypeId}
theorem stCells_len (h : List W32) (t : List UInt8) (n : Nat) (hh : h.length = 8) (ht : t.length = 64) : (stCells RR h t n).length = 73 + RR.length := by simp [stCells, hh, ht]; omega
theorem store_mid {P : Program} {ty : TypeId} {cs : List Value} (hi : (P.info? ty).map (·.size) = some cs.length) (h1 : ∀ v ∈ cs, v.oneCell' = true)
    {W : World} {g off : Nat} {t : TypeId} {cur : List Value} (hg : W.heap[g]? = some (.cells cur.toArray t (0, 0))) (ho : off + cs.length ≤ cur.length) :
    (Instr.storeAt ty (.pointer (some ⟨g, off, none⟩)) (.agg cs.toArray)).run P W = .ok () (W.setRow g (splice cur off cs).toArray) := by
  have h := run_storeCells_at P g off t cs 0 cur.toArray W hg (by simpa using ho) h1
  simp only [Nat.add_zero] at h
  have h2 : (storeVar ty ⟨g, off, none⟩ (.agg cs.toArray)).run P W = .ok () (W.setRow g (splice cur off cs).toArray) := by
    cases hq : P.info? ty with
    | none => simp [hq] at hi
    | some i =>
      have hs : cs.length = i.size := by simp [hq] at hi; omega
      simp [storeVar, sizeOf, typeInfo, hq, Value.cells, hs, h, splice]
  simp only [Instr.storeAt, Instr.sureAddr, Sem.run_bind, Sem.run_pure, Result.andThen_ok, h2]
theorem splice_h (h h' : List W32) (t : List UInt8) (n : Nat) (hl : h'.length = h.length) : splice (stCells RR h t n) 0 (h'.map wv) = stCells RR h' t n := by
  have := splice_split [] (h.map wv) (t.map bv ++ (Value.int .i64 (n : Int) :: RR)) (h'.map wv) (by simpa using hl)
  simpa [stCells] using this
theorem splice_map (t cs : List UInt8) (k : Nat) : splice (t.map bv) k (cs.map bv) = (splice t k cs).map bv := by
  simp [splice, List.map_take, List.map_drop]
theorem splice_t (h : List W32) (t cs : List UInt8) (n k : Nat) (hh : h.length = 8) (hk : k + cs.length ≤ t.length) : splice (stCells RR h t n) (8 + k) (cs.map bv) = stCells RR h (splice t k cs) n := by
  have e : t = t.take k ++ (t.drop k).take cs.length ++ t.drop (k + cs.length) := by
    rw [List.append_assoc, ← List.drop_drop, List.take_append_drop, List.take_append_drop]
  have e1 : stCells RR h t n = (h.map wv ++ (t.take k).map bv) ++ ((t.drop k).take cs.length).map bv ++ ((t.drop (k + cs.length)).map bv ++ (Value.int .i64 (n : Int) :: RR)) := by
    unfold stCells
    conv => lhs; rw [e]
    simp
  have hl : (h.map wv ++ (t.take k).map bv).length = 8 + k := by simp [hh]; omega
  rw [e1, ← hl, splice_split _ _ _ _ (by simp; omega)]
  simp [stCells, splice]
theorem set_n (h : List W32) (t : List UInt8) (n n' : Nat) (hh : h.length = 8) (ht : t.length = 64) : (stCells RR h t n).set 72 (.int .i64 (n' : Int)) = stCells RR h t n' := by
  unfold stCells
  rw [List.set_append_right _ _ (by simp [hh]), List.set_append_right _ _ (by simp [hh, ht])]
  simp [hh, ht]
theorem cell_n {w : World} {g : Nat} {h : List W32} {t : List UInt8} {n : Nat} {ty : TypeId} {fr : Nat × Nat} (H : w.heap[g]? = some (.cells (stCells RR h t n).toArray ty fr)) (hh : h.length = 8) (ht : t.length = 64) : w.cell? ⟨g, 72, none⟩ = some (.int .i64 (n : Int)) := by
  rw [cell_of_heap H, stCells, List.getElem?_append_right (by simp [hh]), List.getElem?_append_right (by simp [hh, ht])]
  simp [hh, ht]
theorem range_h {w : World} {g : Nat} {h : List W32} {t : List UInt8} {n : Nat} {ty : TypeId} {fr : Nat × Nat} (H : w.heap[g]? = some (.cells (stCells RR h t n).toArray ty fr)) : w.rangeAt g 0 (h.map wv) := fun j v hv => by
  rw [Nat.zero_add, cell_of_heap H, stCells, List.getElem?_append_left (List.getElem?_eq_some_iff.1 hv).1, hv]
theorem range_t {w : World} {g : Nat} {h : List W32} {t : List UInt8} {n : Nat} {ty : TypeId} {fr : Nat × Nat} (H : w.heap[g]? = some (.cells (stCells RR h t n).toArray ty fr)) (hh : h.length = 8) : w.rangeAt g 8 (t.map bv) := fun j v hv => by
  rw [cell_of_heap H, stCells, List.getElem?_append_right (by simp [hh]), List.getElem?_append_left (by have := (List.getElem?_eq_some_iff.1 hv).1; simp [hh]; simpa using this)]
  simpa [hh] using hv
/-- the bytes behind the whole blocks, with noughts up to a block -/
def tailL (m : List UInt8) : List UInt8 := m.drop (64 * (m.length / 64)) ++ List.replicate (64 - m.length % 64) 0
theorem tailL_len (m : List UInt8) : (tailL m).length = 64 := by simp [tailL]; omega
/-- the state at block g is that of the message m -/
def StR (tyS : TypeId) (RR : List Value) (w : World) (g : Nat) (m : List UInt8) : Prop :=
  ∃ h : List W32, h.length = 8 ∧ (m ≠ [] → h = wholeN startL m (m.length / 64)) ∧ w.heap[g]? = some (.cells (stCells RR h (tailL m) m.length).toArray tyS (0, 0))
abbrev StAt (w : World) (g : Nat) (m : List UInt8) : Prop := StR 172 [] w g m
theorem StR.ext {w w' : World} {g : Nat} {m : List UInt8} (H : StR tyS RR w g m) (hb : Below w.heap.size w w') : StR tyS RR w' g m := by
  obtain ⟨h, h1, h2, h3⟩ := H
  exact ⟨h, h1, h2, (hb.block _ (lt_of_heap h3)).trans h3⟩
theorem StR.lt {w : World} {g : Nat} {m : List UInt8} (H : StR tyS RR w g m) : g < w.heap.size := by
  obtain ⟨h, h1, h2, h3⟩ := H
  exact lt_of_heap h3
theorem len_nil (w : World) : Calls Tryz.prog 191 #[.pointer none] w fun e w' => e = .returned (.int .i64 0) ∧ w = w' := by
  go_enter Tryz.func191, Tryz.ntmps191
  go_wp2
  go_ret
  exact ⟨rfl, rfl⟩
theorem len_any (g : Nat) (m : List UInt8) (n : Nat) (w : World) (hn : m.length = n) (H : StR tyS RR w g m) : Calls Tryz.prog 191 #[.pointer (some ⟨g, 0, none⟩)] w fun e w' => e = .returned (.int .i64 (n : Int)) ∧ w = w' := by
  subst hn
  obtain ⟨h, h1, _, h3⟩ := H
  have c := cell_n h3 h1 (tailL_len m)
  generalize m.length = n at c ⊢
  clear h3 h1
  go_enter Tryz.func191, Tryz.ntmps191
  go_wp2
  go_ret
  exact ⟨rfl, rfl⟩
theorem sumL_state (m : List UInt8) : finishL (wholeN startL m (m.length / 64)) ((tailL m).take (m.length % 64)) m.length = sumL m := by
  have : (tailL m).take (m.length % 64) = m.drop (64 * (m.length / 64)) := by
    rw [tailL, List.take_left' (by simp; omega)]
  rw [this]; rfl
end Go.Proofs.YtnhhgiebnhlfcaaGreatDoor

/- The contract of (*State).Sum. -/
namespace Go.Proofs.YtnhhgiebnhlfcaaGreatDoor
open Go.RowKit
set_option maxRecDepth 100000
set_option linter.unusedVariables false
set_option linter.unusedSimpArgs false
variable {RR : List Value} {tyS : TypeId}
theorem nil_row (w : World) : Sl w none 0 [] := ⟨by simp, by simp [maxLen], .inl rfl⟩
set_option maxHeartbeats 1000000 in
theorem stSum_none (p : Value) (w : World) (hR : Rnd w) (hlen : ∀ W, Below w.heap.size w W → Calls Tryz.prog 191 #[p] W fun e w' => e = .returned (.int .i64 0) ∧ W = w') :
    Calls Tryz.prog 158 #[p] w fun e w' => e = .returned (.agg ((sumL []).map bv).toArray) ∧ Below w.heap.size w w' := by
  have HR := Lib.hid hR
  have HLN := Lib.hid hlen
  have hZl : Hid (((sumL []).map bv).length = 32) := by show _ = _; rw [List.length_map, sumL_len]
  have HSA := Lib.hid (fun W hW => sum_any none 0 0 [] W rfl (nil_row W) hW)
  generalize sumL [] = Z at hZl HSA ⊢
  clear hR hlen
  go_enter Tryz.func158, Tryz.ntmps158
  go_wp2_with fail
  generalize hV : w.alloc _ = W0
  have F0 : Hid (W0.heap[w.heap.size]? = some (.cells (List.replicate 32 (Value.int .u8 0)).toArray 107 (0, 0))) := heap_of_alloc hV
  have FB := Lib.hid (below_of_alloc hV (Nat.le_refl w.heap.size))
  clear hV
  refine (HLN.out W0 FB.out).mono ?_
  rintro e w1 ⟨rfl, rfl⟩
  go_wp2_with fail
  refine (HSA.out W0 (HR.out.ext FB.out)).mono ?_
  rintro e w6 ⟨rfl, hB6⟩
  have P1 := Lib.hid ((hB6.block _ (lt_of_heap F0.out)).trans F0.out)
  have PB := Lib.hid (FB.out.step hB6)
  have hi32 : Hid ((Tryz.prog.info? 107).map (·.size) = some (Z.map bv).length) := by show _ = _; rw [hZl.out]; exact i32B
  clear hB6
  go_wp2_with (first
    | (refine wpList_st rfl 107 (.tmp 2) (.tmp 6) rfl (store_arr (cs := Z.map bv) (old := List.replicate 32 (Value.int .u8 0)) hi32.out (bv_one _) P1.out (by rw [hZl.out]; simp)) ?_)
    | fail)
  have hres := setRow_heap w6 w.heap.size _ (Z.map bv).toArray 107 _ P1.out
  exact bodyPost_ret (results_cell_row (P := Tryz.prog) rfl _ _ w.heap.size 107 (Z.map bv).toArray (0, 0) _ rfl hres arr32B rfl (by rw [List.size_toArray, hZl.out]; exact i32B)) rfl ⟨rfl, PB.out.trans (grown_below (grown_setRow _ _ _) (Nat.le_refl _) PB.out.size)⟩
theorem stSum_nil (w : World) (hR : Rnd w) : Calls Tryz.prog 158 #[.pointer none] w fun e w' => e = .returned (.agg ((sumL []).map bv).toArray) ∧ Below w.heap.size w w' :=
  stSum_none _ w hR (fun W _ => len_nil W)
set_option maxHeartbeats 2000000 in
theorem stSum_any (g : Nat) (m : List UInt8) (w : World) (hm : m.length ≤ 2147000000) (H : StR tyS RR w g m) (hR : Rnd w) :
    Calls Tryz.prog 158 #[.pointer (some ⟨g, 0, none⟩)] w fun e w' => e = .returned (.agg ((sumL m).map bv).toArray) ∧ Below w.heap.size w w' := by
  by_cases h0 : m = []
  · subst h0
    exact stSum_none _ w hR (fun W hW => len_any g [] 0 W rfl (H.ext hW))
  have HLN := Lib.hid (fun W hW => len_any g m m.length W rfl (H.ext hW))
  obtain ⟨h, h1, h2, h3⟩ := H
  have h2' := h2 h0
  have hpos : 0 < m.length := List.length_pos_iff.2 h0
  have hsum := sumL_state m
  rw [← h2'] at hsum
  obtain ⟨n, hn⟩ : ∃ n, n = m.length := ⟨_, rfl⟩
  rw [← hn] at hsum HLN h3 hm hpos
  obtain ⟨r, hr⟩ : ∃ r, r = n % 64 := ⟨_, rfl⟩
  rw [← hr] at hsum
  have htl := tailL_len m
  generalize tailL m = T at hsum h3 htl
  have hrl : (T.take r).length = r := by rw [List.length_take]; omega
  have hZl : Hid (((sumL m).map bv).length = 32) := by show _ = _; rw [List.length_map, sumL_len]
  have HSL : Hid (∀ W, Below w.heap.size w W → Sl W (some ⟨g, 8, none⟩) 64 (T.take r)) := fun W hW => by
    refine ⟨by omega, by simp [maxLen], .inr ⟨g, 8, rfl, Nat.lt_of_lt_of_le (lt_of_heap h3) hW.size, fun j u hu => ?_⟩⟩
    have := range_t ((hW.block _ (lt_of_heap h3)).trans h3) h1 j u
    apply this
    rw [List.map_take, List.getElem?_take] at hu
    split at hu
    · exact hu
    · cases hu
  have HFA := Lib.hid (fun W hS hRW => finish_any h (some ⟨g, 8, none⟩) r 64 n (T.take r) W h1 hrl (by omega) (by omega) hS hRW)
  rw [hsum] at HFA
  generalize sumL m = Z at HFA hZl ⊢
  have G0 : Hid (∀ W, Below w.heap.size w W → (Instr.loadAt 69 (.pointer (some ⟨g, 0, none⟩))).run Tryz.prog W = .ok (.agg (h.map wv).toArray) W) := fun W hW =>
    run_loadAt_mid W g 0 69 (h.map wv) _ (range_h ((hW.block _ (lt_of_heap h3)).trans h3)) arr8W rfl (by rw [List.length_map, h1]; exact i8W)
  have G2 : Hid (∀ W, Below w.heap.size w W → (Instr.loadAt 3 (.pointer (some ⟨g, 72, none⟩))).run Tryz.prog W = .ok (.int .i64 (n : Int)) W) := fun W hW =>
    load_cell Tryz.underlying3 (cell_n ((hW.block _ (lt_of_heap h3)).trans h3) h1 htl)
  have sl := arr_to arr64B s8 ⟨g, 8, none⟩ .i64 (r : Int) (by omega) (by omega)
  rw [Int.toNat_natCast] at sl
  have e1 : (n : Int) % 64 = (r : Int) := by omega
  have e2 : (n : Int).tmod 64 = (r : Int) := by rw [Int.tmod_eq_emod_of_nonneg (by omega)]; omega
  have e3 : IntKind.i64.wrap (r : Int) = (r : Int) := by rw [IntKind.wrap_i64]; omega
  have e4 : ((n : Int) == 0) = false := by simp; omega
  have HR := Lib.hid hR
  have HN := Lib.hid hn; have HRR := Lib.hid hr
  have hi32 : Hid ((Tryz.prog.info? 107).map (·.size) = some (Z.map bv).length) := by show _ = _; rw [hZl.out]; exact i32B
  clear h1 h2 h3 h2' hsum htl hrl hn hr hR h0
  go_enter Tryz.func158, Tryz.ntmps158
  go_wp2_with fail
  generalize hV : w.alloc _ = W0
  have F0 : Hid (W0.heap[w.heap.size]? = some (.cells (List.replicate 32 (Value.int .u8 0)).toArray 107 (0, 0))) := heap_of_alloc hV
  have FB := Lib.hid (below_of_alloc hV (Nat.le_refl w.heap.size))
  clear hV
  refine (HLN.out W0 FB.out).mono ?_
  rintro e w1 ⟨rfl, rfl⟩
  have F1 : Hid (W0.drew.heap[w.heap.size]? = _) := F0.out
  have HX : Hid (Below w.heap.size w W0.drew) := FB.out.drew
  clear FB F0
  go_wp2_with fail
  refine regB_start (w.heap.size) (by kernel_rfl) ?_
  try simp only [Act.put, List.setIfInBounds_toArray, List.set_cons_zero, List.set_cons_succ]
  generalize W0.drew = W1 at F1 HX ⊢
  refine regB_take (v := ?_) 0 (some 7) rfl rfl (by kernel_rfl) (by kernel_rfl) (by kernel_rfl) (fun _ _ _ h => h) (by rfl) (fun W hW => ?_) ?_
  rotate_left
  · (go_simp; try rfl)
  simp only [Act.put, List.setIfInBounds_toArray, List.set_cons_zero, List.set_cons_succ]
  refine regB_take (v := ?_) 1 (some 8) rfl rfl (by kernel_rfl) (by kernel_rfl) (by kernel_rfl) (fun _ _ _ h => h) (by rfl) (fun W hW => ?_) ?_
  rotate_left
  · (go_simp; try rfl)
  simp only [Act.put, List.setIfInBounds_toArray, List.set_cons_zero, List.set_cons_succ]
  refine regB_take (v := ?_) 2 (some 9) rfl rfl (by kernel_rfl) (by kernel_rfl) (by kernel_rfl) (fun _ _ _ h => h) (by rfl) (fun W hW => ?_) ?_
  rotate_left
  · (go_simp; try rfl)
  simp only [Act.put, List.setIfInBounds_toArray, List.set_cons_zero, List.set_cons_succ]
  refine regB_load 3 (some 10) (fun W hW => G0.out W (Below.trans HX.out hW)) rfl rfl rfl rfl (by kernel_rfl) (by kernel_rfl) (by kernel_rfl) (fun _ _ _ h => h) (by rfl) ?_
  simp only [Act.put, List.setIfInBounds_toArray, List.set_cons_zero, List.set_cons_succ]
  refine regB_take (v := ?_) 4 (some 11) rfl rfl (by kernel_rfl) (by kernel_rfl) (by kernel_rfl) (fun _ _ _ h => h) (by rfl) (fun W hW => ?_) ?_
  rotate_left
  · (go_simp; try rfl)
  simp only [Act.put, List.setIfInBounds_toArray, List.set_cons_zero, List.set_cons_succ]
  refine regB_take (v := ?_) 5 (some 12) rfl rfl (by kernel_rfl) (by kernel_rfl) (by kernel_rfl) (fun _ _ _ h => h) (by rfl) (fun W hW => ?_) ?_
  rotate_left
  · (go_simp; try rfl)
  simp only [Act.put, List.setIfInBounds_toArray, List.set_cons_zero, List.set_cons_succ]
  refine regB_take (v := ?_) 6 (some 13) rfl rfl (by kernel_rfl) (by kernel_rfl) (by kernel_rfl) (fun _ _ _ h => h) (by rfl) (fun W hW => ?_) ?_
  rotate_left
  · (go_simp; try rfl)
  simp only [Act.put, List.setIfInBounds_toArray, List.set_cons_zero, List.set_cons_succ]
  refine regB_take (v := ?_) 7 (some 14) rfl rfl (by kernel_rfl) (by kernel_rfl) (by kernel_rfl) (fun _ _ _ h => h) (by rfl) (fun W hW => ?_) ?_
  rotate_left
  · (go_simp; try rfl)
  simp only [Act.put, List.setIfInBounds_toArray, List.set_cons_zero, List.set_cons_succ]
  refine regB_take (v := ?_) 8 (some 15) rfl rfl (by kernel_rfl) (by kernel_rfl) (by kernel_rfl) (fun _ _ _ h => h) (by rfl) (fun W hW => ?_) ?_
  rotate_left
  · (go_simp; try rfl)
  simp only [Act.put, List.setIfInBounds_toArray, List.set_cons_zero, List.set_cons_succ]
  refine regB_take (v := ?_) 9 (some 16) rfl rfl (by kernel_rfl) (by kernel_rfl) (by kernel_rfl) (fun _ _ _ h => h) (by rfl) (fun W hW => ?_) ?_
  rotate_left
  · (go_simp; try rfl)
  simp only [Act.put, List.setIfInBounds_toArray, List.set_cons_zero, List.set_cons_succ]
  refine regB_load 10 (some 17) (fun W hW => G2.out W (Below.trans HX.out hW)) rfl rfl rfl rfl (by kernel_rfl) (by kernel_rfl) (by kernel_rfl) (fun _ _ _ h => h) (by rfl) ?_
  simp only [Act.put, List.setIfInBounds_toArray, List.set_cons_zero, List.set_cons_succ]
  refine regB_take (v := ?_) 11 (some 18) rfl rfl (by kernel_rfl) (by kernel_rfl) (by kernel_rfl) (fun _ _ _ h => h) (by rfl) (fun W hW => ?_) ?_
  rotate_left
  · (go_simp; try rfl)
  simp only [Act.put, List.setIfInBounds_toArray, List.set_cons_zero, List.set_cons_succ]
  refine regB_take (v := ?_) 12 (some 19) rfl rfl (by kernel_rfl) (by kernel_rfl) (by kernel_rfl) (fun _ _ _ h => h) (by rfl) (fun W hW => ?_) ?_
  rotate_left
  · (go_simp; try rfl)
  simp only [Act.put, List.setIfInBounds_toArray, List.set_cons_zero, List.set_cons_succ]
  refine regB_take (v := ?_) 13 (some 20) rfl rfl (by kernel_rfl) (by kernel_rfl) (by kernel_rfl) (fun _ _ _ h => h) (by rfl) (fun W hW => ?_) ?_
  rotate_left
  · (go_simp; try rfl)
  simp only [Act.put, List.setIfInBounds_toArray, List.set_cons_zero, List.set_cons_succ]
  refine regB_take (v := ?_) 14 (some 21) rfl rfl (by kernel_rfl) (by kernel_rfl) (by kernel_rfl) (fun _ _ _ h => h) (by rfl) (fun W hW => ?_) ?_
  rotate_left
  · (go_simp; try rfl)
  simp only [Act.put, List.setIfInBounds_toArray, List.set_cons_zero, List.set_cons_succ]
  refine regB_take (v := ?_) 15 (some 22) rfl rfl (by kernel_rfl) (by kernel_rfl) (by kernel_rfl) (fun _ _ _ h => h) (by rfl) (fun W hW => ?_) ?_
  rotate_left
  · (go_simp; try rfl)
  simp only [Act.put, List.setIfInBounds_toArray, List.set_cons_zero, List.set_cons_succ]
  refine regB_load 16 (some 23) (fun W hW => G2.out W (Below.trans HX.out hW)) rfl rfl rfl rfl (by kernel_rfl) (by kernel_rfl) (by kernel_rfl) (fun _ _ _ h => h) (by rfl) ?_
  simp only [Act.put, List.setIfInBounds_toArray, List.set_cons_zero, List.set_cons_succ]
  refine regB_eff 17 rfl (by kernel_rfl) (fun K hK => ?_)
  go_simp
  refine (HFA.out W1 (HSL.out _ HX.out) (HR.out.ext HX.out)).mono ?_
  rintro e w2 ⟨rfl, hE0⟩
  have P1 := Lib.hid ((hE0.block _ (lt_of_heap F1.out)).trans F1.out)
  have hE := RowKit.Below.mono hE0 HX.out.size
  clear hE0
  refine hK.out _ _ hE ?_
  have HX := Lib.hid (Below.trans HX.out hE)
  clear hE hK K
  try simp only [Act.put, List.setIfInBounds_toArray, List.set_cons_zero, List.set_cons_succ]
  refine regB_eff 18 rfl (by kernel_rfl) (fun K hK => ?_)
  refine step_st1 rfl 107 (.tmp 2) (.tmp 24) rfl (store_arr (cs := Z.map bv) (old := List.replicate 32 (Value.int .u8 0)) hi32.out (bv_one _) P1.out (by rw [hZl.out]; simp)) ?_
  generalize hV : World.setRow _ _ _ = W6
  have hres := Lib.hid (heap_of_setRow hV P1.out)
  have hE := below_of_setRow hV (Nat.le_refl w.heap.size) HX.out.size
  clear hV
  refine hK.out _ _ hE ?_
  have HX := Lib.hid (Below.trans HX.out hE)
  clear hE hK K
  try simp only [Act.put, List.setIfInBounds_toArray, List.set_cons_zero, List.set_cons_succ]
  refine regB_done (by kernel_rfl) ?_
  go_wp2
  exact bodyPost_ret (results_cell_row (P := Tryz.prog) rfl _ _ w.heap.size 107 (Z.map bv).toArray (0, 0) _ rfl hres.out arr32B rfl (by rw [List.size_toArray, hZl.out]; exact i32B)) rfl ⟨rfl, HX.out⟩
end Go.Proofs.YtnhhgiebnhlfcaaGreatDoor

/- The contract of (*State).Write. -/
namespace Go.Proofs.YtnhhgiebnhlfcaaGreatDoor
open Go.RowKit
set_option maxRecDepth 100000
set_option linter.unusedVariables false
set_option linter.unusedSimpArgs false
variable {RR : List Value} {tyS : TypeId}
theorem gr_trans {a b c : World} {g : Nat} (h : a.grownBy b (some g)) (k : b.grownBy c (some g)) : a.grownBy c (some g) :=
  ⟨k.os.trans h.os, k.tape.trans h.tape, k.output.trans h.output, Nat.le_trans h.size k.size, fun i hi hne => (k.block i (Nat.lt_of_lt_of_le hi h.size) hne).trans (h.block i hi hne)⟩
theorem gr_of {a b : World} {g : Nat} (h : Below a.heap.size a b) : a.grownBy b (some g) := ⟨h.os, h.tape, h.output, h.size, fun k hk _ => h.block k hk⟩
theorem Rnd.gr {w w' : World} {g : Nat} (h : Rnd w) (k : w.grownBy w' (some g)) (hg : g ≠ 0) : Rnd w' := by
  have hb := k.block 0 h.1 (by simpa using hg.symm)
  refine ⟨Nat.lt_of_lt_of_le h.1 k.size, fun i hi => ?_⟩
  have := h.2 i hi
  simpa [World.cell?, hb] using this
theorem Sl.gr {w w' : World} {A : Option Addr} {c g : Nat} {bs : List UInt8} (h : Sl w A c bs) (k : w.grownBy w' (some g)) (hg : ApartG A g) : Sl w' A c bs := by
  refine ⟨h.1, h.2.1, ?_⟩
  rcases h.2.2 with h0 | ⟨b, o, rfl, hb, hc⟩
  · exact .inl h0
  · refine .inr ⟨b, o, rfl, Nat.lt_of_lt_of_le hb k.size, fun j u hu => ?_⟩
    have hq := k.block b hb (by simpa using hg _ rfl)
    have := hc j u hu
    simpa [World.cell?, hq] using this
theorem gr_setRow (w : World) (g : Nat) (cs : Array Value) : w.grownBy (w.setRow g cs) (some g) := grown_setRow w g cs
theorem gr_setCell (w : World) (g o : Nat) (v : Value) : w.grownBy (w.setCell ⟨g, o, none⟩ v) (some g) :=
  ⟨rfl, rfl, rfl, by simp, fun k _ hk => Below.heap_setCell w _ v k (fun h => hk (by rw [h]))⟩
theorem gr_drew (w : World) (g : Nat) : w.grownBy w.drew (some g) := ⟨rfl, rfl, rfl, Nat.le_refl _, fun _ _ _ => rfl⟩
theorem whole_app (m b : List UInt8) (q : Nat) (hq : 64 * q ≤ m.length) : wholeN startL (m ++ b) q = wholeN startL m q := wholeN_app _ _ _ _ hq
/-- a part that does not fill the block -/
theorem write_short (m b : List UInt8) (h : m.length % 64 + b.length < 64) : splice (tailL m) (m.length % 64) b = tailL (m ++ b) ∧ (m ++ b).length / 64 = m.length / 64 := by
  have e0 : (m ++ b).length / 64 = m.length / 64 := by rw [List.length_append]; omega
  have e1 : (m ++ b).length % 64 = m.length % 64 + b.length := by rw [List.length_append]; omega
  refine ⟨?_, e0⟩
  have hd : (m.drop (64 * (m.length / 64))).length = m.length % 64 := by rw [List.length_drop]; omega
  have e2 : tailL m = m.drop (64 * (m.length / 64)) ++ List.replicate b.length 0 ++ List.replicate (64 - (m.length % 64 + b.length)) 0 := by
    rw [tailL, List.append_assoc, List.replicate_append_replicate]; congr 2; omega
  rw [e2, ← hd, splice_split _ _ _ _ (by simp), tailL, e0, e1, List.drop_append_of_le_length (by omega), hd]
/-- a part that fills the block: what it is filled with, and what comes behind -/
theorem write_long (m b : List UInt8) (t : Nat) (ht : m.length % 64 + t = 64) (hb : t ≤ b.length) :
    splice (tailL m) (m.length % 64) (b.take t) = (((m ++ b).drop (64 * (m.length / 64))).take 64) ∧
    wholeN (blockL (wholeN startL m (m.length / 64)) (((m ++ b).drop (64 * (m.length / 64))).take 64)) (b.drop t) ((b.length - t) / 64) = wholeN startL (m ++ b) ((m ++ b).length / 64) ∧
    splice (List.replicate 64 0) 0 ((b.drop t).drop (64 * ((b.length - t) / 64))) = tailL (m ++ b) := by
  have hd : (m.drop (64 * (m.length / 64))).length = m.length % 64 := by rw [List.length_drop]; omega
  have eX : ((m ++ b).drop (64 * (m.length / 64))).take 64 = m.drop (64 * (m.length / 64)) ++ b.take t := by
    rw [List.drop_append_of_le_length (by omega), List.take_append, hd, List.take_of_length_le (by omega)]
    congr 2; omega
  have eq1 : (m ++ b).length / 64 = m.length / 64 + (1 + (b.length - t) / 64) := by rw [List.length_append]; omega
  have ed : (m ++ b).drop (64 * (m.length / 64) + 64) = b.drop t := by
    rw [List.drop_append, List.drop_of_length_le (by omega), List.nil_append]; congr 1; omega
  refine ⟨?_, ?_, ?_⟩
  · rw [eX]
    have e2 : tailL m = m.drop (64 * (m.length / 64)) ++ List.replicate (64 - m.length % 64) 0 ++ [] := by rw [tailL, List.append_nil]
    rw [e2]
    have := splice_split (m.drop (64 * (m.length / 64))) (List.replicate (64 - m.length % 64) (0 : UInt8)) [] (b.take t) (by simp; omega)
    rw [hd] at this
    rw [this, List.append_nil]
  · rw [eq1, wholeN_add, wholeN_add, whole_app _ _ _ (by omega), List.drop_drop, show 64 * (m.length / 64) + 64 * 1 = 64 * (m.length / 64) + 64 by omega, ed]
    rfl
  · have e3 : 64 * ((m ++ b).length / 64) = 64 * (m.length / 64) + 64 + 64 * ((b.length - t) / 64) := by rw [eq1]; omega
    have e4 : (m ++ b).length % 64 = (b.length - t) % 64 := by rw [List.length_append]; omega
    rw [tailL, e3, ← List.drop_drop, ed, e4]
    have hr : ((b.drop t).drop (64 * ((b.length - t) / 64))).length = (b.length - t) % 64 := by simp; omega
    generalize (b.drop t).drop (64 * ((b.length - t) / 64)) = r at hr ⊢
    have := splice_first (0 : UInt8) ((b.length - t) % 64) (64 - (b.length - t) % 64) r hr
    rw [show (b.length - t) % 64 + (64 - (b.length - t) % 64) = 64 by omega] at this
    exact this
theorem write_nil (A : Option Addr) (n c : Nat) (w : World) : Calls Tryz.prog 157 #[.pointer none, .slice A n c] w fun e w' => (∃ v, e = .returned v) ∧ w = w' := by
  go_enter Tryz.func157, Tryz.ntmps157
  go_wp2
  exact bodyPost_ret (v := .tuple #[]) (by simp [results, Tryz.results157, go_sem]) rfl ⟨⟨_, rfl⟩, rfl⟩
set_option maxHeartbeats 4000000 in
theorem write_any (g : Nat) (m : List UInt8) (A : Option Addr) (k c : Nat) (b : List UInt8) (w : World) (hb : b.length = k) (hmk : m.length + k ≤ 2147000000) (hg0 : g ≠ 0) (hA : 0 < k → ApartG A g) (hS : Sl w A c b) (H : StR tyS RR w g m) (hR : Rnd w) :
    Calls Tryz.prog 157 #[.pointer (some ⟨g, 0, none⟩), .slice A k c] w fun e w' => (∃ v, e = .returned v) ∧ StR tyS RR w' g (m ++ b) ∧ w.grownBy w' (some g) := by
  obtain ⟨h, h1, h2, h3⟩ := H
  obtain ⟨n, hn⟩ : ∃ n, m.length = n := ⟨_, rfl⟩
  rw [hn] at h3 hmk
  have htl := Lib.hid (tailL_len m)
  have HN := Lib.hid hn; have HH := Lib.hid h1; have H2 := Lib.hid h2; have H3 := Lib.hid h3; have HBL := Lib.hid hb; have HG0 := Lib.hid hg0; have HAP := Lib.hid hA; have HR := Lib.hid hR
  have HSG : Hid (∀ W, w.grownBy W (some g) → Sl W A c b) := by
    intro W hW
    by_cases h0 : 0 < k
    · exact hS.gr hW (hA h0)
    · exact ⟨hS.1, hS.2.1, .inl (by rw [List.eq_nil_of_length_eq_zero (l := b) (by omega)]; rfl)⟩
  obtain ⟨T, hT⟩ : ∃ T, tailL m = T := ⟨_, rfl⟩
  rw [hT] at htl H3 h3
  have HT := Lib.hid hT
  have c72 := cell_n h3 h1 htl.out
  clear hn h1 h2 hb hg0 hA hS hR hT h3
  obtain ⟨H0, hH0⟩ : ∃ H0, wholeN startL m (n / 64) = H0 := ⟨_, rfl⟩
  have HH0 := Lib.hid hH0
  have HL0 : Hid (H0.length = 8) := by show _ = _; rw [← hH0]; exact wholeN_len _ _ _ rfl
  clear hH0
  go_enter Tryz.func157, Tryz.ntmps157
  go_upto_if 14 with (fail)
  go_cut [4, 14] from 15 to 18 (fun v4 v14 wx => v4 = undef ∧ Hid (w.grownBy wx (some g)) ∧ Hid (wx.heap[g]? = some (.cells (stCells RR H0 T n).toArray tyS (0, 0))))
  case first =>
    by_cases hz : n = 0
    · have e0 : ((n : Int) == 0) = true := by simp [hz]
      have hs0 : Hid (startL = H0) := by show _ = _; rw [← HH0.out, hz]; rfl
      have hH : Hid (splice (stCells RR h T n) 0 (startL.map wv) = stCells RR H0 T n) := by show _ = _; rw [← hs0.out]; exact splice_h _ _ _ _ (by rw [HH.out]; rfl)
      have hln : Hid (0 + (startL.map wv).length ≤ (stCells RR h T n).length) := by show _ ≤ _; rw [stCells_len _ _ _ HH.out htl.out]; simp [startL]; omega
      clear hz
      go_wp2_with fail
      refine (start_any w).mono ?_
      rintro e w1 ⟨rfl, hB1⟩
      have K3 := Lib.hid ((hB1.block _ (lt_of_heap H3.out)).trans H3.out)
      have KG := Lib.hid (gr_of (g := g) hB1)
      clear hB1
      go_wp2_with (first
        | (refine wpList_st rfl 69 (.tmp 18) (.tmp 16) rfl (store_mid (cs := startL.map wv) i8W (wv_one _) K3.out hln.out) ?_
           rw [hH.out]
           generalize hV : World.setRow _ _ _ = W5
           have M0 := Lib.hid (heap_of_setRow hV K3.out)
           have MG : Hid (w.grownBy W5 (some g)) := by show w.grownBy _ _; rw [← hV]; exact gr_trans KG.out (gr_setRow _ _ _)
           clear hV)
        | fail)
      go_meet
      exact ⟨rfl, MG, M0⟩
    · have e0 : ((n : Int) == 0) = false := by simp; omega
      have hh : h = H0 := by
        rw [← HH0.out]
        have := H2.out (by intro h0; have := HN.out; rw [h0] at this; simp at this; omega)
        rw [HN.out] at this; exact this
      go_wp2_with fail
      go_meet
      refine ⟨rfl, World.grownBy.refl w _, ?_⟩
      rw [← hh]; exact H3
  case rest =>
    obtain ⟨rfl, MG, M0⟩ := hcut
    have c72 := cell_n M0.out HL0.out htl.out
    have fz := frozen_of_heap M0.out 72
    obtain ⟨r, hr⟩ : ∃ r, r = n % 64 := ⟨_, rfl⟩
    have e1 : (n : Int) % 64 = (r : Int) := by omega
    obtain ⟨p, hp⟩ : ∃ p, p = n + k := ⟨_, rfl⟩
    have e2 : (n : Int) + (k : Int) = (p : Int) := by omega
    have HP := Lib.hid hp; have HRR := Lib.hid hr
    have hr64 : r < 64 := by omega
    have hsn := Lib.hid (set_n (RR := RR) H0 T n p HL0.out htl.out)
    clear hp hr
    go_upto_region 5 with (fail)
    generalize hV : World.setCell _ _ _ = W4
    have M4 : Hid (W4.heap[g]? = some (.cells (stCells RR H0 T p).toArray tyS (0, 0))) := by
      show _ = _
      rw [← hV]; have := heap_set M0.out 72 (.int .i64 (p : Int)); rw [hsn.out] at this; exact this
    have MG4 : Hid (w.grownBy W4 (some g)) := by show w.grownBy _ _; rw [← hV]; exact gr_trans MG.out (gr_setCell _ _ _ _)
    clear hV M0 MG c72 fz hsn
    have HS4 := Lib.hid (HSG.out _ MG4.out)
    have sl := arr_from arr64B s8 ⟨g, 8, none⟩ .i64 (r : Int) (by omega) (by omega)
    rw [Int.toNat_natCast, show cutA ⟨g, 8, none⟩ 64 r = ⟨g, 8 + r, none⟩ from by unfold cutA; rw [if_neg (by omega), Addr.add_mid]] at sl
    by_cases hsh : r + k < 64
    · obtain ⟨W5, hrun, hblk, hsz, hgr⟩ := copy_run uT s8 (sT := 22) 3 W4 g (8 + r) (stCells RR H0 T p) tyS M4.out (some ⟨g, 8 + r, none⟩) A (64 - r) (64 - r) k c W4.heap.size (b.map bv) (by rw [List.length_map, HBL.out]; omega) (fun _ => rfl) HS4.out.2.2 (by rw [List.length_map, HBL.out, stCells_len _ _ _ HL0.out htl.out]; omega) (bv_one _)
      rw [List.length_map, HBL.out] at hrun
      have ws := write_short m b (by rw [HN.out, ← HRR.out, HBL.out]; exact hsh)
      rw [HN.out, ← HRR.out, HT.out] at ws
      rw [splice_t _ _ _ _ _ HL0.out (by rw [HBL.out, htl.out]; omega), ws.1] at hblk
      have HB5 := Lib.hid hblk
      have HG5 := Lib.hid (gr_trans MG4.out hgr)
      have HRUN := Lib.hid hrun
      have hq : Hid ((m ++ b).length / 64 = n / 64) := ws.2
      have hpl : Hid ((m ++ b).length = p) := by show _ = _; rw [List.length_append, HN.out, HBL.out, HP.out]
      have e3 : (r : Int) + (k : Int) < 64 := by omega
      clear hrun hblk hsz hgr ws
      go_wp2_with (first
        | (refine wpList_cpy rfl (.tmp 37) (.tmp 38) 22 22 rfl HRUN.out ?_)
        | fail)
      refine bodyPost_ret (v := .tuple #[]) (by simp [results, Tryz.results157, go_sem]) rfl ⟨⟨_, rfl⟩, ⟨H0, HL0.out, fun _ => ?_, ?_⟩, HG5.out⟩
      · rw [hq.out, ← HH0.out, whole_app _ _ _ (by rw [HN.out]; omega)]
      · rw [hpl.out]; exact HB5.out
    · obtain ⟨t, ht⟩ : ∃ t, t = 64 - r := ⟨_, rfl⟩
      have htk : Hid (t ≤ k) := by show t ≤ k; omega
      have hbt : Hid ((b.take t).length = t) := by show _ = _; rw [List.length_take, HBL.out]; have := htk.out; omega
      obtain ⟨W5, hrun, hblk, hsz, hgr⟩ := copy_run uT s8 (sT := 22) 3 W4 g (8 + r) (stCells RR H0 T p) tyS M4.out (some ⟨g, 8 + r, none⟩) A (64 - r) (64 - r) k c W4.heap.size ((b.take t).map bv) (by rw [List.length_map, hbt.out]; omega) (fun _ => rfl) (by have := HS4.out.2.2.take t; rw [← List.map_take] at this; exact this) (by rw [List.length_map, hbt.out, stCells_len _ _ _ HL0.out htl.out]; omega) (bv_one _)
      rw [List.length_map, hbt.out] at hrun
      have wl := write_long m b t (by rw [HN.out, ← HRR.out]; omega) (by rw [HBL.out]; exact htk.out)
      rw [HN.out, ← HRR.out, HT.out, HH0.out, HBL.out] at wl
      obtain ⟨X, hX⟩ : ∃ X, ((m ++ b).drop (64 * (n / 64))).take 64 = X := ⟨_, rfl⟩
      rw [hX] at wl
      rw [splice_t _ _ _ _ _ HL0.out (by rw [hbt.out, htl.out]; omega), wl.1] at hblk
      have HXL : Hid (X.length = 64) := by show _ = _; rw [← wl.1]; simp [splice, hbt.out, htl.out]; omega
      have HB5 := Lib.hid hblk
      have HG5 := Lib.hid (gr_trans MG4.out hgr)
      have HRUN := Lib.hid hrun
      have W2 := Lib.hid wl.2.1; have W3 := Lib.hid wl.2.2
      have hpl : Hid ((m ++ b).length = p) := by show _ = _; rw [List.length_append, HN.out, HBL.out, HP.out]
      have hmb : Hid (m ++ b ≠ []) := by intro h0; have := hpl.out; rw [h0] at this; have h1 := HP.out; have h2 := htk.out; simp at this; omega
      have e3 : ¬ ((r : Int) + (t : Int) < 64) := by omega
      have ht1 : t ≤ 64 := by omega
      have HTT := Lib.hid ht
      clear hrun hblk hsz hgr wl hX ht M4 MG4 HS4 hsh
      have HS5 := Lib.hid (HSG.out _ HG5.out)
      have HAP' : Hid (ApartG A g) := HAP.out (by have h1 := htk.out; have h2 := HTT.out; omega)
      have HR5 := Lib.hid (HR.out.gr HG5.out HG0.out)
      go_wp2_with (first
        | (refine wpList_cpy rfl (.tmp 37) (.tmp 38) 22 22 rfl HRUN.out ?_)
        | fail)
      have HAB : Hid (∀ g', W5.heap.size ≤ g' → ApartG A g') := by
        intro g' hg'
        obtain ⟨b1, o1, rfl, hb1, _⟩ := HS5.out.2.2.at_ (by rw [List.length_map, HBL.out]; have := htk.out; have := HTT.out; omega)
        intro a ha
        injection ha with ha
        rw [← ha]; show b1 ≠ g'; omega
      have sl2 := cut_from uT s8 A k c .i64 (t : Int) (by omega) (by have := htk.out; omega)
      rw [Int.toNat_natCast] at sl2
      have hdl : Hid ((b.drop t).length = k - t) := by show _ = _; rw [List.length_drop, HBL.out]
      have HSW : Hid (∀ W, Below W5.heap.size W5 W → Sl W (cutS A c t) (c - t) (b.drop t)) := fun W hW => (sl_cut HS5.out (by rw [HBL.out]; exact htk.out)).below hW
      have HRW : Hid (∀ W, Below W5.heap.size W5 W → Rnd W) := fun W hW => HR5.out.ext hW
      have hi8 : Hid ((Tryz.prog.info? 69).map (·.size) = some (H0.map wv).length) := by show _ = _; rw [List.length_map, HL0.out]; exact i8W
      have hi64 : Hid ((Tryz.prog.info? 157).map (·.size) = some (X.map bv).length) := by show _ = _; rw [List.length_map, HXL.out]; exact i64B
      have G0 : Hid (∀ W, Below W5.heap.size W5 W → (Instr.loadAt 69 (.pointer (some ⟨g, 0, none⟩))).run Tryz.prog W = .ok (.agg (H0.map wv).toArray) W) := fun W hW =>
        run_loadAt_mid W g 0 69 (H0.map wv) _ (range_h ((hW.block _ (lt_of_heap HB5.out)).trans HB5.out)) arr8W rfl hi8.out
      have G1 : Hid (∀ W, Below W5.heap.size W5 W → (Instr.loadAt 157 (.pointer (some ⟨g, 8, none⟩))).run Tryz.prog W = .ok (.agg (X.map bv).toArray) W) := fun W hW =>
        run_loadAt_mid W g 8 157 (X.map bv) _ (range_t ((hW.block _ (lt_of_heap HB5.out)).trans HB5.out) HL0.out) arr64B rfl hi64.out
      have HBA := Lib.hid (fun W hW => block_any H0 X W HL0.out HXL.out hW)
      have hY1 := Lib.hid (blockL_len H0 X HL0.out)
      obtain ⟨Y1, HY1⟩ : ∃ Y, Hid (blockL H0 X = Y) := ⟨_, rfl⟩
      rw [HY1.out] at HBA hY1 W2
      have HWA := Lib.hid (fun W hS hW => whole_ap Y1 (cutS A c t) (k - t) (c - t) (b.drop t) W hY1.out hdl.out hS hW)
      have hY2 := Lib.hid (wholeN_len Y1 (b.drop t) ((k - t) / 64) hY1.out)
      generalize wholeN Y1 (b.drop t) ((k - t) / 64) = Y2 at HWA hY2 W2
      have hRl : Hid (((b.drop t).drop (64 * ((k - t) / 64))).length = (k - t) % 64) := by show _ = _; rw [List.length_drop, hdl.out]; omega
      generalize (b.drop t).drop (64 * ((k - t) / 64)) = R at HWA hRl W3
      generalize hq7 : (k - t) % 64 = q7 at HWA hRl
      have hq64 : q7 < 64 := by omega
      clear hq7
      generalize hk7 : k - t = k7 at HWA hdl sl2
      generalize hc7 : c - t = c7 at HWA HSW sl2
      clear hk7 hc7
      have hi8b : Hid ((Tryz.prog.info? 69).map (·.size) = some (Y2.map wv).length) := by show _ = _; rw [List.length_map, hY2.out]; exact i8W
      have hle : Hid ((List.replicate 8 (Value.int .u32 0)).length = (Y2.map wv).length) := by show _ = _; rw [List.length_map, hY2.out]; rfl
      go_cut [6, 7] from 44 to 59 (fun v6 v7 wx => ∃ (g6 : Nat) (A' : Option Addr) (c' : Nat), v6 = .pointer (some ⟨g6, 0, none⟩) ∧ v7 = .slice A' q7 c' ∧ Hid (W5.heap.size ≤ g6) ∧ Hid (Below W5.heap.size W5 wx) ∧ Hid (wx.heap[g6]? = some (.cells (Y2.map wv).toArray 69 (0, 0))) ∧ Hid (Sl wx A' c' R) ∧ Hid (ApartG A' g))
      case first =>
        have HX : Hid (Below W5.heap.size W5 W5.drew) := (Below.refl _ _).drew
        refine regB_start (W5.heap.size) (by kernel_rfl) ?_
        try simp only [Act.put, List.setIfInBounds_toArray, List.set_cons_zero, List.set_cons_succ]
        generalize W5.drew = W6 at HX ⊢
        refine regB_take (v := ?_) 0 (some 45) rfl rfl (by kernel_rfl) (by kernel_rfl) (by kernel_rfl) (fun _ _ _ h => h) (by rfl) (fun W hW => ?_) ?_
        rotate_left
        · (go_simp; try rfl)
        simp only [Act.put, List.setIfInBounds_toArray, List.set_cons_zero, List.set_cons_succ]
        refine regB_take (v := ?_) 1 (some 46) rfl rfl (by kernel_rfl) (by kernel_rfl) (by kernel_rfl) (fun _ _ _ h => h) (by rfl) (fun W hW => ?_) ?_
        rotate_left
        · (go_simp; try rfl)
        simp only [Act.put, List.setIfInBounds_toArray, List.set_cons_zero, List.set_cons_succ]
        refine regB_take (v := ?_) 2 (some 47) rfl rfl (by kernel_rfl) (by kernel_rfl) (by kernel_rfl) (fun _ _ _ h => h) (by rfl) (fun W hW => ?_) ?_
        rotate_left
        · (go_simp; try rfl)
        simp only [Act.put, List.setIfInBounds_toArray, List.set_cons_zero, List.set_cons_succ]
        refine regB_load 3 (some 48) (fun W hW => G0.out W (Below.trans HX.out hW)) rfl rfl rfl rfl (by kernel_rfl) (by kernel_rfl) (by kernel_rfl) (fun _ _ _ h => h) (by rfl) ?_
        simp only [Act.put, List.setIfInBounds_toArray, List.set_cons_zero, List.set_cons_succ]
        refine regB_take (v := ?_) 4 (some 49) rfl rfl (by kernel_rfl) (by kernel_rfl) (by kernel_rfl) (fun _ _ _ h => h) (by rfl) (fun W hW => ?_) ?_
        rotate_left
        · (go_simp; try rfl)
        simp only [Act.put, List.setIfInBounds_toArray, List.set_cons_zero, List.set_cons_succ]
        refine regB_take (v := ?_) 5 (some 50) rfl rfl (by kernel_rfl) (by kernel_rfl) (by kernel_rfl) (fun _ _ _ h => h) (by rfl) (fun W hW => ?_) ?_
        rotate_left
        · (go_simp; try rfl)
        simp only [Act.put, List.setIfInBounds_toArray, List.set_cons_zero, List.set_cons_succ]
        refine regB_take (v := ?_) 6 (some 51) rfl rfl (by kernel_rfl) (by kernel_rfl) (by kernel_rfl) (fun _ _ _ h => h) (by rfl) (fun W hW => ?_) ?_
        rotate_left
        · (go_simp; try rfl)
        simp only [Act.put, List.setIfInBounds_toArray, List.set_cons_zero, List.set_cons_succ]
        refine regB_load 7 (some 52) (fun W hW => G1.out W (Below.trans HX.out hW)) rfl rfl rfl rfl (by kernel_rfl) (by kernel_rfl) (by kernel_rfl) (fun _ _ _ h => h) (by rfl) ?_
        simp only [Act.put, List.setIfInBounds_toArray, List.set_cons_zero, List.set_cons_succ]
        refine regB_take (v := ?_) 9 (some 54) rfl rfl (by kernel_rfl) (by kernel_rfl) (by kernel_rfl) (fun _ _ _ h => h) (by rfl) (fun W hW => ?_) ?_
        rotate_left
        · (go_simp; try rfl)
        simp only [Act.put, List.setIfInBounds_toArray, List.set_cons_zero, List.set_cons_succ]
        refine regB_take (v := ?_) 10 (some 55) rfl rfl (by kernel_rfl) (by kernel_rfl) (by kernel_rfl) (fun _ _ _ h => h) (by rfl) (fun W hW => ?_) ?_
        rotate_left
        · (go_simp; try rfl)
        simp only [Act.put, List.setIfInBounds_toArray, List.set_cons_zero, List.set_cons_succ]
        refine regB_take (v := ?_) 11 (some 56) rfl rfl (by kernel_rfl) (by kernel_rfl) (by kernel_rfl) (fun _ _ _ h => h) (by rfl) (fun W hW => ?_) ?_
        rotate_left
        · (go_simp; try rfl)
        simp only [Act.put, List.setIfInBounds_toArray, List.set_cons_zero, List.set_cons_succ]
        refine regB_eff2 8 16 rfl rfl (by kernel_rfl) (fun K hK => ?_) (fun K hK => ?_)
        · skip
          go_simp
          refine (HBA.out _ (HRW.out _ HX.out)).mono ?_
          rintro e w3 ⟨rfl, hE0⟩
          try have F6 := Lib.hid ((hE0.block _ (lt_of_heap F6.out)).trans F6.out)
          have hE := RowKit.Below.mono hE0 HX.out.size
          clear hE0
          refine hK.out _ _ hE ?_
          have HX := Lib.hid (Below.trans HX.out hE)
          clear hE hK K
          try simp only [Act.put, List.setIfInBounds_toArray, List.set_cons_zero, List.set_cons_succ]
          refine regB_eff2 12 16 rfl rfl (by kernel_rfl) (fun K hK => ?_) (fun K hK => ?_)
          · skip
            go_simp
            refine (HWA.out _ (HSW.out _ HX.out) (HRW.out _ HX.out)).mono ?_
            rintro e w4 ⟨A7, c8, rfl, hA7, hP7, hE0⟩
            try have F6 := Lib.hid ((hE0.block _ (lt_of_heap F6.out)).trans F6.out)
            have HSR := Lib.hid (hA7.below hE0)
            have HP7 := Lib.hid hP7
            have hE := RowKit.Below.mono hE0 HX.out.size
            clear hE0 hA7 hP7
            refine hK.out _ _ hE ?_
            have HX := Lib.hid (Below.trans HX.out hE)
            clear hE hK K
            try simp only [Act.put, List.setIfInBounds_toArray, List.set_cons_zero, List.set_cons_succ]
            refine regB_take (v := ?_) 13 (some 44) rfl rfl (by kernel_rfl) (by kernel_rfl) (by kernel_rfl) (fun _ _ _ h => h) (by rfl) (fun W hW => ?_) ?_
            rotate_left
            · (go_simp; try rfl)
            simp only [Act.put, List.setIfInBounds_toArray, List.set_cons_zero, List.set_cons_succ]
            refine regB_take (v := ?_) 14 (some 58) rfl rfl (by kernel_rfl) (by kernel_rfl) (by kernel_rfl) (fun _ _ _ h => h) (by rfl) (fun W hW => ?_) ?_
            rotate_left
            · (go_simp; try rfl)
            simp only [Act.put, List.setIfInBounds_toArray, List.set_cons_zero, List.set_cons_succ]
            refine regB_take (v := ?_) 15 (some 59) rfl rfl (by kernel_rfl) (by kernel_rfl) (by kernel_rfl) (fun _ _ _ h => h) (by rfl) (fun W hW => ?_) ?_
            rotate_left
            · (go_simp; try rfl)
            simp only [Act.put, List.setIfInBounds_toArray, List.set_cons_zero, List.set_cons_succ]
            refine regB_eff 16 rfl (by kernel_rfl) (fun K hK => ?_)
            go_simp
            generalize hV : World.alloc _ _ = W7
            have F6 := Lib.hid (heap_of_alloc hV)
            try have HSR := Lib.hid (HSR.out.below (below_of_alloc hV (Nat.le_refl _)))
            have hE := below_of_alloc hV HX.out.size
            have HG6 := Lib.hid HX.out.size
            clear hV
            refine hK.out _ _ hE ?_
            have HX := Lib.hid (Below.trans HX.out hE)
            clear hE hK K
            try simp only [Act.put, List.setIfInBounds_toArray, List.set_cons_zero, List.set_cons_succ]
            refine regB_eff 17 rfl (by kernel_rfl) (fun K hK => ?_)
            refine step_st1 rfl 69 (.tmp 6) (.tmp 58) rfl (store_arr (cs := Y2.map wv) hi8b.out (wv_one _) (old := List.replicate 8 (Value.int .u32 0)) F6.out hle.out) ?_
            generalize hV : World.setRow _ _ _ = W8
            have F7 := Lib.hid (heap_of_setRow hV F6.out)
            have hE := below_of_setRow hV HG6.out HX.out.size
            have HSF : Hid (Sl W8 A7 c8 R) := by rw [← hV]; exact HSR.out.gr (gr_setRow _ _ _) (HP7.out _ (apart_cut (HAB.out _ HG6.out)))
            clear hV
            refine hK.out _ _ hE ?_
            have HX := Lib.hid (Below.trans HX.out hE)
            clear hE hK K
            try simp only [Act.put, List.setIfInBounds_toArray, List.set_cons_zero, List.set_cons_succ]
            refine regB_take (v := ?_) 18 (some 7) rfl rfl (by kernel_rfl) (by kernel_rfl) (by kernel_rfl) (fun _ _ _ h => h) (by rfl) (fun W hW => ?_) ?_
            rotate_left
            · (go_simp; try rfl)
            simp only [Act.put, List.setIfInBounds_toArray, List.set_cons_zero, List.set_cons_succ]
            refine regB_done (by kernel_rfl) ?_
            go_wp2
            go_meet
            exact ⟨_, _, _, rfl, rfl, HG6, HX, F7, HSF, HP7.out _ (apart_cut HAP'.out)⟩
          · skip
            go_simp
            generalize hV : World.alloc _ _ = W7
            have F6 := Lib.hid (heap_of_alloc hV)
            try have HSR := Lib.hid (HSR.out.below (below_of_alloc hV (Nat.le_refl _)))
            have hE := below_of_alloc hV HX.out.size
            have HG6 := Lib.hid HX.out.size
            clear hV
            refine hK.out _ _ hE ?_
            have HX := Lib.hid (Below.trans HX.out hE)
            clear hE hK K
            try simp only [Act.put, List.setIfInBounds_toArray, List.set_cons_zero, List.set_cons_succ]
            refine regB_eff 12 rfl (by kernel_rfl) (fun K hK => ?_)
            go_simp
            refine (HWA.out _ (HSW.out _ HX.out) (HRW.out _ HX.out)).mono ?_
            rintro e w4 ⟨A7, c8, rfl, hA7, hP7, hE0⟩
            try have F6 := Lib.hid ((hE0.block _ (lt_of_heap F6.out)).trans F6.out)
            have HSR := Lib.hid (hA7.below hE0)
            have HP7 := Lib.hid hP7
            have hE := RowKit.Below.mono hE0 HX.out.size
            clear hE0 hA7 hP7
            refine hK.out _ _ hE ?_
            have HX := Lib.hid (Below.trans HX.out hE)
            clear hE hK K
            try simp only [Act.put, List.setIfInBounds_toArray, List.set_cons_zero, List.set_cons_succ]
            refine regB_take (v := ?_) 13 (some 44) rfl rfl (by kernel_rfl) (by kernel_rfl) (by kernel_rfl) (fun _ _ _ h => h) (by rfl) (fun W hW => ?_) ?_
            rotate_left
            · (go_simp; try rfl)
            simp only [Act.put, List.setIfInBounds_toArray, List.set_cons_zero, List.set_cons_succ]
            refine regB_take (v := ?_) 14 (some 58) rfl rfl (by kernel_rfl) (by kernel_rfl) (by kernel_rfl) (fun _ _ _ h => h) (by rfl) (fun W hW => ?_) ?_
            rotate_left
            · (go_simp; try rfl)
            simp only [Act.put, List.setIfInBounds_toArray, List.set_cons_zero, List.set_cons_succ]
            refine regB_take (v := ?_) 15 (some 59) rfl rfl (by kernel_rfl) (by kernel_rfl) (by kernel_rfl) (fun _ _ _ h => h) (by rfl) (fun W hW => ?_) ?_
            rotate_left
            · (go_simp; try rfl)
            simp only [Act.put, List.setIfInBounds_toArray, List.set_cons_zero, List.set_cons_succ]
            refine regB_eff 17 rfl (by kernel_rfl) (fun K hK => ?_)
            refine step_st1 rfl 69 (.tmp 6) (.tmp 58) rfl (store_arr (cs := Y2.map wv) hi8b.out (wv_one _) (old := List.replicate 8 (Value.int .u32 0)) F6.out hle.out) ?_
            generalize hV : World.setRow _ _ _ = W8
            have F7 := Lib.hid (heap_of_setRow hV F6.out)
            have hE := below_of_setRow hV HG6.out HX.out.size
            have HSF : Hid (Sl W8 A7 c8 R) := by rw [← hV]; exact HSR.out.gr (gr_setRow _ _ _) (HP7.out _ (apart_cut (HAB.out _ HG6.out)))
            clear hV
            refine hK.out _ _ hE ?_
            have HX := Lib.hid (Below.trans HX.out hE)
            clear hE hK K
            try simp only [Act.put, List.setIfInBounds_toArray, List.set_cons_zero, List.set_cons_succ]
            refine regB_take (v := ?_) 18 (some 7) rfl rfl (by kernel_rfl) (by kernel_rfl) (by kernel_rfl) (fun _ _ _ h => h) (by rfl) (fun W hW => ?_) ?_
            rotate_left
            · (go_simp; try rfl)
            simp only [Act.put, List.setIfInBounds_toArray, List.set_cons_zero, List.set_cons_succ]
            refine regB_done (by kernel_rfl) ?_
            go_wp2
            go_meet
            exact ⟨_, _, _, rfl, rfl, HG6, HX, F7, HSF, HP7.out _ (apart_cut HAP'.out)⟩
        · skip
          go_simp
          generalize hV : World.alloc _ _ = W7
          have F6 := Lib.hid (heap_of_alloc hV)
          try have HSR := Lib.hid (HSR.out.below (below_of_alloc hV (Nat.le_refl _)))
          have hE := below_of_alloc hV HX.out.size
          have HG6 := Lib.hid HX.out.size
          clear hV
          refine hK.out _ _ hE ?_
          have HX := Lib.hid (Below.trans HX.out hE)
          clear hE hK K
          try simp only [Act.put, List.setIfInBounds_toArray, List.set_cons_zero, List.set_cons_succ]
          refine regB_eff 8 rfl (by kernel_rfl) (fun K hK => ?_)
          go_simp
          refine (HBA.out _ (HRW.out _ HX.out)).mono ?_
          rintro e w3 ⟨rfl, hE0⟩
          try have F6 := Lib.hid ((hE0.block _ (lt_of_heap F6.out)).trans F6.out)
          have hE := RowKit.Below.mono hE0 HX.out.size
          clear hE0
          refine hK.out _ _ hE ?_
          have HX := Lib.hid (Below.trans HX.out hE)
          clear hE hK K
          try simp only [Act.put, List.setIfInBounds_toArray, List.set_cons_zero, List.set_cons_succ]
          refine regB_eff 12 rfl (by kernel_rfl) (fun K hK => ?_)
          go_simp
          refine (HWA.out _ (HSW.out _ HX.out) (HRW.out _ HX.out)).mono ?_
          rintro e w4 ⟨A7, c8, rfl, hA7, hP7, hE0⟩
          try have F6 := Lib.hid ((hE0.block _ (lt_of_heap F6.out)).trans F6.out)
          have HSR := Lib.hid (hA7.below hE0)
          have HP7 := Lib.hid hP7
          have hE := RowKit.Below.mono hE0 HX.out.size
          clear hE0 hA7 hP7
          refine hK.out _ _ hE ?_
          have HX := Lib.hid (Below.trans HX.out hE)
          clear hE hK K
          try simp only [Act.put, List.setIfInBounds_toArray, List.set_cons_zero, List.set_cons_succ]
          refine regB_take (v := ?_) 13 (some 44) rfl rfl (by kernel_rfl) (by kernel_rfl) (by kernel_rfl) (fun _ _ _ h => h) (by rfl) (fun W hW => ?_) ?_
          rotate_left
          · (go_simp; try rfl)
          simp only [Act.put, List.setIfInBounds_toArray, List.set_cons_zero, List.set_cons_succ]
          refine regB_take (v := ?_) 14 (some 58) rfl rfl (by kernel_rfl) (by kernel_rfl) (by kernel_rfl) (fun _ _ _ h => h) (by rfl) (fun W hW => ?_) ?_
          rotate_left
          · (go_simp; try rfl)
          simp only [Act.put, List.setIfInBounds_toArray, List.set_cons_zero, List.set_cons_succ]
          refine regB_take (v := ?_) 15 (some 59) rfl rfl (by kernel_rfl) (by kernel_rfl) (by kernel_rfl) (fun _ _ _ h => h) (by rfl) (fun W hW => ?_) ?_
          rotate_left
          · (go_simp; try rfl)
          simp only [Act.put, List.setIfInBounds_toArray, List.set_cons_zero, List.set_cons_succ]
          refine regB_eff 17 rfl (by kernel_rfl) (fun K hK => ?_)
          refine step_st1 rfl 69 (.tmp 6) (.tmp 58) rfl (store_arr (cs := Y2.map wv) hi8b.out (wv_one _) (old := List.replicate 8 (Value.int .u32 0)) F6.out hle.out) ?_
          generalize hV : World.setRow _ _ _ = W8
          have F7 := Lib.hid (heap_of_setRow hV F6.out)
          have hE := below_of_setRow hV HG6.out HX.out.size
          have HSF : Hid (Sl W8 A7 c8 R) := by rw [← hV]; exact HSR.out.gr (gr_setRow _ _ _) (HP7.out _ (apart_cut (HAB.out _ HG6.out)))
          clear hV
          refine hK.out _ _ hE ?_
          have HX := Lib.hid (Below.trans HX.out hE)
          clear hE hK K
          try simp only [Act.put, List.setIfInBounds_toArray, List.set_cons_zero, List.set_cons_succ]
          refine regB_take (v := ?_) 18 (some 7) rfl rfl (by kernel_rfl) (by kernel_rfl) (by kernel_rfl) (fun _ _ _ h => h) (by rfl) (fun W hW => ?_) ?_
          rotate_left
          · (go_simp; try rfl)
          simp only [Act.put, List.setIfInBounds_toArray, List.set_cons_zero, List.set_cons_succ]
          refine regB_done (by kernel_rfl) ?_
          go_wp2
          go_meet
          exact ⟨_, _, _, rfl, rfl, HG6, HX, F7, HSF, HP7.out _ (apart_cut HAP'.out)⟩
      case rest =>
        obtain ⟨g6, A', c', rfl, rfl, HG6, HBX, F6, HSX, HAX⟩ := hcut
        have K5 := Lib.hid ((HBX.out.block _ (lt_of_heap HB5.out)).trans HB5.out)
        have KG := Lib.hid (gr_trans HG5.out (gr_of HBX.out))
        have hne : Hid (g6 ≠ g) := by have h1 := HG6.out; have h2 := lt_of_heap HB5.out; show g6 ≠ g; omega
        have sh := Lib.hid (splice_h (RR := RR) H0 Y2 X p (by rw [hY2.out, HL0.out]))
        have hln : Hid (0 + (Y2.map wv).length ≤ (stCells RR H0 X p).length) := by show _ ≤ _; rw [stCells_len _ _ _ HL0.out HXL.out, List.length_map, hY2.out]; omega
        have hZ : ∀ W, (zeroValue 157).run Tryz.prog W = .ok (.agg ((List.replicate 64 (0 : UInt8)).map bv).toArray) W := fun W => by kernel_rfl
        have st := Lib.hid (splice_t (RR := RR) Y2 X (List.replicate 64 0) p 0 hY2.out (by rw [HXL.out]; simp))
        have hsp : Hid (splice X 0 (List.replicate 64 0) = List.replicate 64 0) := by show _ = _; simp [splice, List.drop_of_length_le, HXL.out]
        rw [hsp.out] at st
        have hln2 : Hid (8 + 0 + ((List.replicate 64 (0 : UInt8)).map bv).length ≤ (stCells RR Y2 X p).length) := by show _ ≤ _; rw [stCells_len _ _ _ hY2.out HXL.out]; simp; omega
        have hi64z : Hid ((Tryz.prog.info? 157).map (·.size) = some ((List.replicate 64 (0 : UInt8)).map bv).length) := i64B
        clear HB5 HG5 HBX G0 G1 HSW HRW HBA HWA HAB sl sl2
        go_upto_region 10 with (first
          | (refine wpList_ld rfl 69 (.tmp 6) rfl (load_arr arr8W rfl hi8b.out F6.out) ?_)
          | (refine wpList_st rfl 69 (.tmp 63) (.tmp 61) rfl (store_mid (cs := Y2.map wv) hi8b.out (wv_one _) K5.out hln.out) ?_
             rw [sh.out]
             generalize hV : World.setRow _ _ _ = W7
             have K7 := Lib.hid (heap_of_setRow hV K5.out)
             have KG7 : Hid (w.grownBy W7 (some g)) := by show w.grownBy _ _; rw [← hV]; exact gr_trans KG.out (gr_setRow _ _ _)
             have HSX7 : Hid (Sl W7 A' c' R) := by rw [← hV]; exact HSX.out.gr (gr_setRow _ _ _) HAX.out
             clear hV)
          | (refine wpList_st rfl 157 (.tmp 67) (.tmp 65) rfl (store_mid (cs := (List.replicate 64 (0 : UInt8)).map bv) (off := 8 + 0) hi64z.out (bv_one _) K7.out hln2.out) ?_
             rw [st.out]
             generalize hV : World.setRow _ _ _ = W8
             have K8 := Lib.hid (heap_of_setRow hV K7.out)
             have KG8 : Hid (w.grownBy W8 (some g)) := by show w.grownBy _ _; rw [← hV]; exact gr_trans KG7.out (gr_setRow _ _ _)
             have HSX8 : Hid (Sl W8 A' c' R) := by rw [← hV]; exact HSX7.out.gr (gr_setRow _ _ _) HAX.out
             clear hV))
        have sl := arr_all arr64B s8 ⟨g, 8, none⟩
        obtain ⟨W9, hrun, hblk, hsz, hgr⟩ := copy_run uT s8 (sT := 22) 3 W8 g (8 + 0) (stCells RR Y2 (List.replicate 64 0) p) tyS K8.out (some ⟨g, 8, none⟩) A' 64 64 q7 c' W8.heap.size (R.map bv) (by rw [List.length_map, hRl.out]; omega) (fun _ => rfl) HSX8.out.2.2 (by rw [List.length_map, hRl.out, stCells_len _ _ _ hY2.out (by simp)]; omega) (bv_one _)
        rw [splice_t _ _ _ _ _ hY2.out (by rw [hRl.out]; simp; omega), W3.out] at hblk
        have HB9 := Lib.hid hblk
        have HG9 := Lib.hid (gr_trans KG8.out hgr)
        have HRUN9 := Lib.hid hrun
        clear hrun hblk hsz hgr K8 KG8 HSX8 K7 KG7 HSX7
        go_wp2_with (first
          | (refine wpList_cpy rfl (.tmp 71) (.tmp 72) 22 22 rfl HRUN9.out ?_)
          | fail)
        refine bodyPost_end (v := .tuple #[]) (by simp [results, Tryz.results157, go_sem]) rfl ⟨⟨_, rfl⟩, ⟨Y2, hY2.out, fun _ => W2.out, ?_⟩, HG9.out⟩
        rw [hpl.out]; exact HB9.out
end Go.Proofs.YtnhhgiebnhlfcaaGreatDoor

/- poly: (*State).Write. -/
namespace Go.Proofs.YtnhhgiebnhlfcaaGreatDoor
open Go.RowKit
set_option maxRecDepth 100000
set_option linter.unusedVariables false
set_option linter.unusedSimpArgs false
theorem pCells_len (R S H : List Nat) (T : List UInt8) (n : Nat) (hR : R.length = 3) (hS : S.length = 3) (hH : H.length = 3) (hT : T.length = 16) : (pCells R S H T n).length = 26 := by
  simp [pCells, hR, hS, hH, hT]
theorem pset_n (R S H : List Nat) (T : List UInt8) (n n' : Nat) (hR : R.length = 3) (hS : S.length = 3) (hH : H.length = 3) (hT : T.length = 16) : (pCells R S H T n).set 25 (.int .i64 (n' : Int)) = pCells R S H T n' := by
  unfold pCells
  rw [List.set_append_right _ _ (by simp [hR]), List.set_append_right _ _ (by simp [hR, hS]), List.set_append_right _ _ (by simp [hR, hS, hH]), List.set_append_right _ _ (by simp [hR, hS, hH, hT])]
  simp [hR, hS, hH, hT]
theorem psplice_H (R S H H' : List Nat) (T : List UInt8) (n : Nat) (hR : R.length = 3) (hS : S.length = 3) (hl : H'.length = H.length) : splice (pCells R S H T n) 6 (H'.map uv) = pCells R S H' T n := by
  have := splice_split (R.map uv ++ S.map uv) (H.map uv) (T.map bv ++ [Value.int .i64 (n : Int)]) (H'.map uv) (by simpa using hl)
  simp only [List.length_append, List.length_map, hR, hS] at this
  simpa [pCells] using this
theorem psplice_T (R S H : List Nat) (t cs : List UInt8) (n k : Nat) (hR : R.length = 3) (hS : S.length = 3) (hH : H.length = 3) (hk : k + cs.length ≤ t.length) : splice (pCells R S H t n) (9 + k) (cs.map bv) = pCells R S H (splice t k cs) n := by
  have e : t = t.take k ++ (t.drop k).take cs.length ++ t.drop (k + cs.length) := by
    rw [List.append_assoc, ← List.drop_drop, List.take_append_drop, List.take_append_drop]
  have e1 : pCells R S H t n = (R.map uv ++ S.map uv ++ H.map uv ++ (t.take k).map bv) ++ ((t.drop k).take cs.length).map bv ++ ((t.drop (k + cs.length)).map bv ++ [Value.int .i64 (n : Int)]) := by
    unfold pCells
    conv => lhs; rw [e]
    simp
  have hl : (R.map uv ++ S.map uv ++ H.map uv ++ (t.take k).map bv).length = 9 + k := by simp [hR, hS, hH]; omega
  rw [e1, ← hl, splice_split _ _ _ _ (by simp; omega)]
  simp [pCells, splice]
section
variable {w : World} {g : Nat} {R S H : List Nat} {T : List UInt8} {n : Nat} {ty : TypeId} {fr : Nat × Nat}
theorem pcell_n (h : w.heap[g]? = some (.cells (pCells R S H T n).toArray ty fr)) (hR : R.length = 3) (hS : S.length = 3) (hH : H.length = 3) (hT : T.length = 16) : w.cell? ⟨g, 25, none⟩ = some (.int .i64 (n : Int)) := by
  rw [cell_of_heap h, pCells, List.getElem?_append_right (by simp [hR]), List.getElem?_append_right (by simp [hR, hS]), List.getElem?_append_right (by simp [hR, hS, hH]), List.getElem?_append_right (by simp [hR, hS, hH, hT])]
  simp [hR, hS, hH, hT]
theorem prange_R (h : w.heap[g]? = some (.cells (pCells R S H T n).toArray ty fr)) : w.rangeAt g 0 (R.map uv) := fun j v hv => by
  rw [Nat.zero_add, cell_of_heap h, pCells, List.getElem?_append_left (List.getElem?_eq_some_iff.1 hv).1, hv]
theorem prange_S (h : w.heap[g]? = some (.cells (pCells R S H T n).toArray ty fr)) (hR : R.length = 3) : w.rangeAt g 3 (S.map uv) := fun j v hv => by
  have hj := (List.getElem?_eq_some_iff.1 hv).1
  rw [cell_of_heap h, pCells, List.getElem?_append_right (by simp [hR]), List.getElem?_append_left (by simp [hR]; simpa using hj)]
  simpa [hR] using hv
theorem prange_H (h : w.heap[g]? = some (.cells (pCells R S H T n).toArray ty fr)) (hR : R.length = 3) (hS : S.length = 3) : w.rangeAt g 6 (H.map uv) := fun j v hv => by
  have hj := (List.getElem?_eq_some_iff.1 hv).1
  rw [cell_of_heap h, pCells, List.getElem?_append_right (by simp [hR]; omega), List.getElem?_append_right (by simp [hR, hS]; omega), List.getElem?_append_left (by simp [hR, hS]; simp at hj; omega)]
  rw [← hv]; congr 1; simp [hR, hS]; omega
theorem prange_T (h : w.heap[g]? = some (.cells (pCells R S H T n).toArray ty fr)) (hR : R.length = 3) (hS : S.length = 3) (hH : H.length = 3) : w.rangeAt g 9 (T.map bv) := fun j v hv => by
  have hj := (List.getElem?_eq_some_iff.1 hv).1
  rw [cell_of_heap h, pCells, List.getElem?_append_right (by simp [hR]; omega), List.getElem?_append_right (by simp [hR, hS]; omega), List.getElem?_append_right (by simp [hR, hS, hH]; omega), List.getElem?_append_left (by simp [hR, hS, hH]; simp at hj; omega)]
  rw [← hv]; congr 1; simp [hR, hS, hH]; omega
end
theorem sl_range {w : World} {g o c : Nat} {bs : List UInt8} (h : w.rangeAt g o (bs.map bv)) (hg : g < w.heap.size) (hc : bs.length ≤ c) (hm : c ≤ maxLen) : Sl w (some ⟨g, o, none⟩) c bs :=
  ⟨hc, hm, .inr ⟨g, o, rfl, hg, fun j u hu => h j u hu⟩⟩
theorem ptail_len (m : List UInt8) : (ptail m).length = 16 := by simp [ptail]; omega
theorem partsN_app (r h : Nat) (m b : List UInt8) (q : Nat) (hq : 16 * q ≤ m.length) : partsN r h (m ++ b) q = partsN r h m q := by
  induction q with
  | zero => rfl
  | succ q ih =>
    rw [partsN, partsN, ih (by omega), List.drop_append_of_le_length (by omega), List.take_append_of_le_length (by rw [List.length_drop]; omega)]
theorem partsN_add (r h : Nat) (bs : List UInt8) (i j : Nat) : partsN r h bs (i + j) = partsN r (partsN r h bs i) (bs.drop (16 * i)) j := by
  induction j with
  | zero => rfl
  | succ j ih => rw [← Nat.add_assoc, partsN, ih, partsN, List.drop_drop, show 16 * i + 16 * j = 16 * (i + j) by omega]
theorem pwrite_short (m b : List UInt8) (h : m.length % 16 + b.length < 16) : splice (ptail m) (m.length % 16) b = ptail (m ++ b) ∧ (m ++ b).length / 16 = m.length / 16 ∧ (m ++ b).length % 16 = m.length % 16 + b.length := by
  have e0 : (m ++ b).length / 16 = m.length / 16 := by rw [List.length_append]; omega
  have e1 : (m ++ b).length % 16 = m.length % 16 + b.length := by rw [List.length_append]; omega
  refine ⟨?_, e0, e1⟩
  have hd : (m.drop (16 * (m.length / 16))).length = m.length % 16 := by rw [List.length_drop]; omega
  have e2 : ptail m = m.drop (16 * (m.length / 16)) ++ List.replicate b.length 0 ++ List.replicate (16 - (m.length % 16 + b.length)) 0 := by
    rw [ptail, List.append_assoc, List.replicate_append_replicate]; congr 2; omega
  rw [e2, ← hd, splice_split _ _ _ _ (by simp), ptail, e0, e1, List.drop_append_of_le_length (by omega), hd]
theorem pwrite_long (r : Nat) (m b : List UInt8) (t : Nat) (ht : m.length % 16 + t = 16) (hb : t ≤ b.length) :
    splice (ptail m) (m.length % 16) (b.take t) = (((m ++ b).drop (16 * (m.length / 16))).take 16) ∧
    partsN r (stepN r (partsN r 0 m (m.length / 16)) (((m ++ b).drop (16 * (m.length / 16))).take 16)) (b.drop t) ((b.length - t) / 16) = partsN r 0 (m ++ b) ((m ++ b).length / 16) ∧
    splice (List.replicate 16 0) 0 ((b.drop t).drop (16 * ((b.length - t) / 16))) = ptail (m ++ b) ∧ (m ++ b).length % 16 = (b.length - t) % 16 := by
  have hd : (m.drop (16 * (m.length / 16))).length = m.length % 16 := by rw [List.length_drop]; omega
  have eX : ((m ++ b).drop (16 * (m.length / 16))).take 16 = m.drop (16 * (m.length / 16)) ++ b.take t := by
    rw [List.drop_append_of_le_length (by omega), List.take_append, hd, List.take_of_length_le (by omega)]
    congr 2; omega
  have eq1 : (m ++ b).length / 16 = m.length / 16 + (1 + (b.length - t) / 16) := by rw [List.length_append]; omega
  have ed : (m ++ b).drop (16 * (m.length / 16) + 16) = b.drop t := by
    rw [List.drop_append, List.drop_of_length_le (by omega), List.nil_append]; congr 1; omega
  have e4 : (m ++ b).length % 16 = (b.length - t) % 16 := by rw [List.length_append]; omega
  refine ⟨?_, ?_, ?_, e4⟩
  · rw [eX]
    have e2 : ptail m = m.drop (16 * (m.length / 16)) ++ List.replicate (16 - m.length % 16) 0 ++ [] := by rw [ptail, List.append_nil]
    rw [e2]
    have := splice_split (m.drop (16 * (m.length / 16))) (List.replicate (16 - m.length % 16) (0 : UInt8)) [] (b.take t) (by simp; omega)
    rw [hd] at this
    rw [this, List.append_nil]
  · rw [eq1, partsN_add, partsN_add, partsN_app _ _ _ _ _ (by omega), List.drop_drop, show 16 * (m.length / 16) + 16 * 1 = 16 * (m.length / 16) + 16 by omega, ed]
    rfl
  · have e3 : 16 * ((m ++ b).length / 16) = 16 * (m.length / 16) + 16 + 16 * ((b.length - t) / 16) := by rw [eq1]; omega
    rw [ptail, e3, ← List.drop_drop, ed, e4]
    have hr : ((b.drop t).drop (16 * ((b.length - t) / 16))).length = (b.length - t) % 16 := by simp; omega
    generalize (b.drop t).drop (16 * ((b.length - t) / 16)) = r at hr ⊢
    have := splice_first (0 : UInt8) ((b.length - t) % 16) (16 - (b.length - t) % 16) r hr
    rw [show (b.length - t) % 16 + (16 - (b.length - t) % 16) = 16 by omega] at this
    exact this
theorem gr_other {w W W' : World} {g g5 : Nat} {cs : Array Value} (h : w.grownBy W (some g)) (hV : W.setRow g5 cs = W') (hge : w.heap.size ≤ g5) : w.grownBy W' (some g) := by
  subst hV
  refine ⟨h.os, h.tape, h.output, by simpa using h.size, fun i hi hn => ?_⟩
  rw [setRow_other _ _ _ _ (by omega)]; exact h.block i hi hn
/-- the one cell is as it was -/
def KeepC (g o : Nat) (w W : World) : Prop := W.cell? ⟨g, o, none⟩ = w.cell? ⟨g, o, none⟩
instance (g o : Nat) : Pre (KeepC g o) where
  refl _ := rfl
  trans h k := Eq.trans k h
theorem pwrite_nil (A : Option Addr) (n c : Nat) (w : World) : Calls Tryz.prog 140 #[.pointer none, .slice A n c] w fun e w' => (∃ v, e = .returned v) ∧ w = w' := by
  go_enter Tryz.func140, Tryz.ntmps140
  go_wp2
  exact bodyPost_ret (v := .tuple #[]) (by simp [results, Tryz.results140, go_sem]) rfl ⟨⟨_, rfl⟩, rfl⟩
set_option maxHeartbeats 4000000 in
theorem pwrite_any (g r s : Nat) (m : List UInt8) (A : Option Addr) (k c : Nat) (b : List UInt8) (w : World) (hr : r < 21267647932558653966460912964485513216) (hb : b.length = k) (hk : k ≤ 2147000000) (hA : 0 < k → ApartG A g) (hS : Sl w A c b) (H : PAt w g r s m) :
    Calls Tryz.prog 140 #[.pointer (some ⟨g, 0, none⟩), .slice A k c] w fun e w' => (∃ v, e = .returned v) ∧ PAt w' g r s (m ++ b) ∧ w.grownBy w' (some g) := by
  unfold PAt at H ⊢
  obtain ⟨p, hp⟩ : ∃ p, m.length % 16 = p := ⟨_, rfl⟩
  have hp16 : p < 16 := by omega
  have HP := Lib.hid hp; have HBL := Lib.hid hb; have HAP := Lib.hid hA; have HR := Lib.hid hr
  have HSG : Hid (∀ W, w.grownBy W (some g) → Sl W A c b) := by
    intro W hW
    by_cases h0 : 0 < k
    · exact hS.gr hW (hA h0)
    · exact ⟨hS.1, hS.2.1, .inl (by rw [List.eq_nil_of_length_eq_zero (l := b) (by omega)]; rfl)⟩
  obtain ⟨T, hT⟩ : ∃ T, ptail m = T := ⟨_, rfl⟩
  have htl : Hid (T.length = 16) := by show _ = _; rw [← hT]; exact ptail_len m
  have HT := Lib.hid hT
  obtain ⟨x, hx⟩ : ∃ x, partsN r 0 m (m.length / 16) = x := ⟨_, rfl⟩
  have HXX := Lib.hid hx
  have hxl : x < 2722258935367507707706996859454145691648 := by rw [← hx]; exact partsN_lt r 0 m _ (by omega) hr
  have HXL0 := Lib.hid hxl
  rw [hp, hT, hx] at H
  have LR : Hid ((numL r).length = 3) := rfl
  have LS : Hid ((numL s).length = 3) := rfl
  have LX : Hid ((numL x).length = 3) := rfl
  have SA := Lib.hid (fun A c part W hm hS => step_any x r A 16 c part W hm (by omega) hxl hr hS)
  have WA := Lib.hid (fun y A n c bs W hl hy hS => pwhole_any y r A n c bs W hl hy hr hS)
  generalize numL r = NR at H LR SA WA ⊢
  generalize numL s = NS at H LS ⊢
  obtain ⟨NX, HNX⟩ : ∃ NX, Hid (numL x = NX) := ⟨_, rfl⟩
  rw [HNX.out] at H LX SA
  have H0 := Lib.hid H
  clear hb hA hS hT hx H hp hxl hr
  go_enter Tryz.func140, Tryz.ntmps140
  go_upto_region 1 with (fail)
  have sl := arr_from arr16P s8 ⟨g, 9, none⟩ .i64 (p : Int) (by omega) (by omega)
  rw [Int.toNat_natCast, show cutA ⟨g, 9, none⟩ 16 p = ⟨g, 9 + p, none⟩ from by unfold cutA; rw [if_neg (by omega), Addr.add_mid]] at sl
  have C0 : Hid (w.cell? ⟨g, 25, none⟩ = some (.int .i64 (p : Int))) := pcell_n H0.out LR.out LS.out LX.out htl.out
  by_cases hsh : p + k < 16
  · obtain ⟨W5, hrun, hblk, hsz, hgr⟩ := copy_run uT s8 (sT := 22) 3 w.drew g (9 + p) (pCells NR NS NX T p) 198 H0.out (some ⟨g, 9 + p, none⟩) A (16 - p) (16 - p) k c w.heap.size (b.map bv) (by rw [List.length_map, HBL.out]; omega) (fun _ => rfl) (HSG.out w (World.grownBy.refl w _)).2.2 (by rw [List.length_map, HBL.out, pCells_len _ _ _ _ _ LR.out LS.out LX.out htl.out]; omega) (bv_one _)
    rw [List.length_map, HBL.out] at hrun
    have ws := pwrite_short m b (by rw [HP.out, HBL.out]; exact hsh)
    rw [HP.out, HT.out, HBL.out] at ws
    rw [psplice_T _ _ _ _ _ _ _ LR.out LS.out LX.out (by rw [HBL.out, htl.out]; omega), ws.1] at hblk
    have HB5 := Lib.hid hblk
    have HG5 := Lib.hid (gr_trans (gr_drew w g) hgr)
    have HRUN := Lib.hid hrun
    have WS := Lib.hid ws
    obtain ⟨q, hq⟩ : ∃ q, q = p + k := ⟨_, rfl⟩
    have HQ := Lib.hid hq
    have e2 : (p : Int) + (k : Int) = (q : Int) := by omega
    have e3 : (q : Int) < 16 := by omega
    have hTB : Hid ((ptail (m ++ b)).length = 16) := ptail_len _
    have HX : Hid (KeepC g 25 w.drew w.drew) := rfl
    clear hrun hblk hsz hgr ws hq
    refine regS_start (KeepC g 25) (by kernel_rfl) ?_
    try simp only [Act.put, List.setIfInBounds_toArray, List.set_cons_zero, List.set_cons_succ]
    refine regS_take (v := ?_) 0 (some 9) rfl rfl (by kernel_rfl) (by kernel_rfl) (by kernel_rfl) (fun _ _ _ h => h) (by rfl) (fun W hW => ?_) ?_
    rotate_left
    · (go_simp; try rfl)
    simp only [Act.put, List.setIfInBounds_toArray, List.set_cons_zero, List.set_cons_succ]
    refine regS_take (v := ?_) 1 (some 10) rfl rfl (by kernel_rfl) (by kernel_rfl) (by kernel_rfl) (fun _ _ _ h => h) (by rfl) (fun W hW => ?_) ?_
    rotate_left
    · (go_simp; try rfl)
    simp only [Act.put, List.setIfInBounds_toArray, List.set_cons_zero, List.set_cons_succ]
    refine regS_take (v := ?_) 2 (some 11) rfl rfl (by kernel_rfl) (by kernel_rfl) (by kernel_rfl) (fun _ _ _ h => h) (by rfl) (fun W hW => ?_) ?_
    rotate_left
    · (go_simp; try rfl)
    simp only [Act.put, List.setIfInBounds_toArray, List.set_cons_zero, List.set_cons_succ]
    refine regS_take (v := ?_) 3 (some 12) rfl rfl (by kernel_rfl) (by kernel_rfl) (by kernel_rfl) (fun _ _ _ h => h) (by rfl) (fun W hW => ?_) ?_
    rotate_left
    · (go_simp; try rfl)
    simp only [Act.put, List.setIfInBounds_toArray, List.set_cons_zero, List.set_cons_succ]
    refine regS_take (v := ?_) 4 (some 13) rfl rfl (by kernel_rfl) (by kernel_rfl) (by kernel_rfl) (fun _ _ _ h => h) (by rfl) (fun W hW => ?_) ?_
    rotate_left
    · (go_simp; try rfl)
    simp only [Act.put, List.setIfInBounds_toArray, List.set_cons_zero, List.set_cons_succ]
    refine regS_take (v := ?_) 5 (some 14) rfl rfl (by kernel_rfl) (by kernel_rfl) (by kernel_rfl) (fun _ _ _ h => h) (by rfl) (fun W hW => ?_) ?_
    rotate_left
    · (go_simp; try rfl)
    simp only [Act.put, List.setIfInBounds_toArray, List.set_cons_zero, List.set_cons_succ]
    refine regS_load 6 (some 15) (fun W hW => load_cell Tryz.underlying3 (Eq.trans hW (Eq.trans HX.out C0.out))) rfl rfl rfl rfl (by kernel_rfl) (by kernel_rfl) (by kernel_rfl) (fun _ _ _ h => h) (by rfl) ?_
    simp only [Act.put, List.setIfInBounds_toArray, List.set_cons_zero, List.set_cons_succ]
    refine regS_take (v := ?_) 7 (some 16) rfl rfl (by kernel_rfl) (by kernel_rfl) (by kernel_rfl) (fun _ _ _ h => h) (by rfl) (fun W hW => ?_) ?_
    rotate_left
    · (go_simp; try rfl)
    simp only [Act.put, List.setIfInBounds_toArray, List.set_cons_zero, List.set_cons_succ]
    refine regS_take (v := ?_) 8 (some 17) rfl rfl (by kernel_rfl) (by kernel_rfl) (by kernel_rfl) (fun _ _ _ h => h) (by rfl) (fun W hW => ?_) ?_
    rotate_left
    · (go_simp; try rfl)
    simp only [Act.put, List.setIfInBounds_toArray, List.set_cons_zero, List.set_cons_succ]
    refine regS_eff 9 rfl (by kernel_rfl) (fun K hK => ?_)
    refine step_cpy rfl (.tmp 16) (.tmp 17) 22 22 rfl HRUN.out ?_
    have hE : KeepC g 25 w.drew W5 := (pcell_n HB5.out LR.out LS.out LX.out hTB.out).trans C0.out.symm
    refine hK.out _ _ hE ?_
    have HX := Lib.hid (Pre.trans HX.out hE)
    clear hE hK K
    try simp only [Act.put, List.setIfInBounds_toArray, List.set_cons_zero, List.set_cons_succ]
    refine regS_take (v := ?_) 10 (some 4) rfl rfl (by kernel_rfl) (by kernel_rfl) (by kernel_rfl) (fun _ _ _ h => h) (by rfl) (fun W hW => ?_) ?_
    rotate_left
    · (go_simp; try rfl)
    simp only [Act.put, List.setIfInBounds_toArray, List.set_cons_zero, List.set_cons_succ]
    refine regS_done (by kernel_rfl) ?_
    clear HX C0 HRUN
    have c25 := pcell_n HB5.out LR.out LS.out LX.out hTB.out
    have fz := frozen_of_heap HB5.out 25
    go_upto_region 3 with (fail)
    generalize hV : World.setCell _ _ _ = W6
    have H6 : Hid (W6.heap[g]? = some (.cells (pCells NR NS NX (ptail (m ++ b)) q).toArray 198 (0, 0))) := by
      have := heap_set HB5.out 25 (.int .i64 (q : Int))
      rw [pset_n _ _ _ _ _ _ LR.out LS.out LX.out hTB.out] at this
      rw [← hV]; exact this
    have HG6 : Hid (w.grownBy W6 (some g)) := by show w.grownBy _ _; rw [← hV]; exact gr_trans HG5.out (gr_setCell _ _ _ _)
    clear hV c25 fz
    have c25 := pcell_n H6.out LR.out LS.out LX.out hTB.out
    go_wp2
    refine bodyPost_ret (v := .tuple #[]) (by simp [results, Tryz.results140, go_sem]) rfl ⟨⟨_, rfl⟩, ?_, HG6.out⟩
    rw [WS.out.2.1, WS.out.2.2, partsN_app _ _ _ _ _ (by omega), HXX.out, ← HQ.out, HNX.out]
    exact H6.out
  · obtain ⟨t, ht⟩ : ∃ t, t = 16 - p := ⟨_, rfl⟩
    have htk : Hid (t ≤ k) := by show t ≤ k; omega
    have hbt : Hid ((b.take t).length = t) := by show _ = _; rw [List.length_take, HBL.out]; have := htk.out; omega
    have HS0 := Lib.hid (HSG.out w (World.grownBy.refl w _))
    obtain ⟨W5, hrun, hblk, hsz, hgr⟩ := copy_run uT s8 (sT := 22) 3 w.drew g (9 + p) (pCells NR NS NX T p) 198 H0.out (some ⟨g, 9 + p, none⟩) A (16 - p) (16 - p) k c w.heap.size ((b.take t).map bv) (by rw [List.length_map, hbt.out]; omega) (fun _ => rfl) (by have := HS0.out.2.2.take t; rw [← List.map_take] at this; exact this) (by rw [List.length_map, hbt.out, pCells_len _ _ _ _ _ LR.out LS.out LX.out htl.out]; omega) (bv_one _)
    rw [List.length_map, hbt.out] at hrun
    have wl := pwrite_long r m b t (by rw [HP.out]; omega) (by rw [HBL.out]; exact htk.out)
    rw [HP.out, HT.out, HXX.out, HBL.out] at wl
    obtain ⟨X, hX⟩ : ∃ X, ((m ++ b).drop (16 * (m.length / 16))).take 16 = X := ⟨_, rfl⟩
    rw [hX] at wl
    rw [psplice_T _ _ _ _ _ _ _ LR.out LS.out LX.out (by rw [hbt.out, htl.out]; omega), wl.1] at hblk
    have HXL : Hid (X.length = 16) := by show _ = _; rw [← wl.1]; simp [splice, hbt.out, htl.out]; omega
    have HB5 := Lib.hid hblk
    have HG5 := Lib.hid (gr_trans (gr_drew w g) hgr)
    have HRUN := Lib.hid hrun
    have W2 := Lib.hid wl.2.1; have W3 := Lib.hid wl.2.2.1; have W4 := Lib.hid wl.2.2.2
    have e2 : (p : Int) + (t : Int) = 16 := by omega
    have ht16 : t ≤ 16 := by omega
    have HX : Hid (KeepC g 25 w.drew w.drew) := rfl
    have HTT := Lib.hid ht
    clear hrun hblk hsz hgr wl hX ht hsh
    refine regS_start (KeepC g 25) (by kernel_rfl) ?_
    try simp only [Act.put, List.setIfInBounds_toArray, List.set_cons_zero, List.set_cons_succ]
    refine regS_take (v := ?_) 0 (some 9) rfl rfl (by kernel_rfl) (by kernel_rfl) (by kernel_rfl) (fun _ _ _ h => h) (by rfl) (fun W hW => ?_) ?_
    rotate_left
    · (go_simp; try rfl)
    simp only [Act.put, List.setIfInBounds_toArray, List.set_cons_zero, List.set_cons_succ]
    refine regS_take (v := ?_) 1 (some 10) rfl rfl (by kernel_rfl) (by kernel_rfl) (by kernel_rfl) (fun _ _ _ h => h) (by rfl) (fun W hW => ?_) ?_
    rotate_left
    · (go_simp; try rfl)
    simp only [Act.put, List.setIfInBounds_toArray, List.set_cons_zero, List.set_cons_succ]
    refine regS_take (v := ?_) 2 (some 11) rfl rfl (by kernel_rfl) (by kernel_rfl) (by kernel_rfl) (fun _ _ _ h => h) (by rfl) (fun W hW => ?_) ?_
    rotate_left
    · (go_simp; try rfl)
    simp only [Act.put, List.setIfInBounds_toArray, List.set_cons_zero, List.set_cons_succ]
    refine regS_take (v := ?_) 3 (some 12) rfl rfl (by kernel_rfl) (by kernel_rfl) (by kernel_rfl) (fun _ _ _ h => h) (by rfl) (fun W hW => ?_) ?_
    rotate_left
    · (go_simp; try rfl)
    simp only [Act.put, List.setIfInBounds_toArray, List.set_cons_zero, List.set_cons_succ]
    refine regS_take (v := ?_) 4 (some 13) rfl rfl (by kernel_rfl) (by kernel_rfl) (by kernel_rfl) (fun _ _ _ h => h) (by rfl) (fun W hW => ?_) ?_
    rotate_left
    · (go_simp; try rfl)
    simp only [Act.put, List.setIfInBounds_toArray, List.set_cons_zero, List.set_cons_succ]
    refine regS_take (v := ?_) 5 (some 14) rfl rfl (by kernel_rfl) (by kernel_rfl) (by kernel_rfl) (fun _ _ _ h => h) (by rfl) (fun W hW => ?_) ?_
    rotate_left
    · (go_simp; try rfl)
    simp only [Act.put, List.setIfInBounds_toArray, List.set_cons_zero, List.set_cons_succ]
    refine regS_load 6 (some 15) (fun W hW => load_cell Tryz.underlying3 (Eq.trans hW (Eq.trans HX.out C0.out))) rfl rfl rfl rfl (by kernel_rfl) (by kernel_rfl) (by kernel_rfl) (fun _ _ _ h => h) (by rfl) ?_
    simp only [Act.put, List.setIfInBounds_toArray, List.set_cons_zero, List.set_cons_succ]
    refine regS_take (v := ?_) 7 (some 16) rfl rfl (by kernel_rfl) (by kernel_rfl) (by kernel_rfl) (fun _ _ _ h => h) (by rfl) (fun W hW => ?_) ?_
    rotate_left
    · (go_simp; try rfl)
    simp only [Act.put, List.setIfInBounds_toArray, List.set_cons_zero, List.set_cons_succ]
    refine regS_take (v := ?_) 8 (some 17) rfl rfl (by kernel_rfl) (by kernel_rfl) (by kernel_rfl) (fun _ _ _ h => h) (by rfl) (fun W hW => ?_) ?_
    rotate_left
    · (go_simp; try rfl)
    simp only [Act.put, List.setIfInBounds_toArray, List.set_cons_zero, List.set_cons_succ]
    refine regS_eff 9 rfl (by kernel_rfl) (fun K hK => ?_)
    refine step_cpy rfl (.tmp 16) (.tmp 17) 22 22 rfl HRUN.out ?_
    have hE : KeepC g 25 w.drew W5 := (pcell_n HB5.out LR.out LS.out LX.out HXL.out).trans C0.out.symm
    refine hK.out _ _ hE ?_
    have HX := Lib.hid (Pre.trans HX.out hE)
    clear hE hK K
    try simp only [Act.put, List.setIfInBounds_toArray, List.set_cons_zero, List.set_cons_succ]
    refine regS_take (v := ?_) 10 (some 4) rfl rfl (by kernel_rfl) (by kernel_rfl) (by kernel_rfl) (fun _ _ _ h => h) (by rfl) (fun W hW => ?_) ?_
    rotate_left
    · (go_simp; try rfl)
    simp only [Act.put, List.setIfInBounds_toArray, List.set_cons_zero, List.set_cons_succ]
    refine regS_done (by kernel_rfl) ?_
    clear HX C0 HRUN
    have c25 := pcell_n HB5.out LR.out LS.out LX.out HXL.out
    have fz := frozen_of_heap HB5.out 25
    go_upto_region 3 with (fail)
    generalize hV : World.setCell _ _ _ = W6
    have H6 : Hid (W6.heap[g]? = some (.cells (pCells NR NS NX X 16).toArray 198 (0, 0))) := by
      have := heap_set HB5.out 25 (.int .i64 ((16 : Nat) : Int))
      rw [pset_n _ _ _ _ _ _ LR.out LS.out LX.out HXL.out] at this
      rw [← hV]; exact this
    have HG6 : Hid (w.grownBy W6 (some g)) := by show w.grownBy _ _; rw [← hV]; exact gr_trans HG5.out (gr_setCell _ _ _ _)
    clear hV c25 fz HB5 HG5
    have c25 : W6.cell? ⟨g, 25, none⟩ = some (.int .i64 16) := pcell_n H6.out LR.out LS.out LX.out HXL.out
    go_upto_region 4 with (fail)
    clear c25
    have HS6 := Lib.hid (HSG.out _ HG6.out)
    have HAP' : Hid (ApartG A g) := HAP.out (by have h1 := htk.out; have h2 := HTT.out; omega)
    have hgl := Lib.hid (lt_of_heap H6.out)
    have LO : Hid (∀ W, Below W6.heap.size W6 W → W.heap[g]? = some (.cells (pCells NR NS NX X 16).toArray 198 (0, 0))) := fun W hW => (hW.block _ hgl.out).trans H6.out
    have ar := arr_all arr16P s8 ⟨g, 9, none⟩
    have SX := Lib.hid (fun W (hW : Below W6.heap.size W6 W) => SA.out (some ⟨g, 9, none⟩) 16 X W HXL.out (sl_range (prange_T (LO.out W hW) LR.out LS.out LX.out) (lt_of_heap (LO.out W hW)) (by rw [HXL.out]; omega) (by simp [maxLen])))
    obtain ⟨y, hy⟩ : ∃ y, stepN r x X = y := ⟨_, rfl⟩
    have hyl : y < 2722258935367507707706996859454145691648 := by rw [← hy]; exact stepN_lt r x X (by rw [HXL.out]; omega) HXL0.out HR.out
    rw [hy] at SX W2
    have LY : Hid ((numL y).length = 3) := rfl
    have hdl : Hid ((b.drop t).length = k - t) := by show _ = _; rw [List.length_drop, HBL.out]
    have WY := Lib.hid (fun W hS => WA.out y (cutS A c t) (k - t) (c - t) (b.drop t) W hdl.out hyl hS)
    rw [W2.out] at WY
    clear hy hyl W2
    obtain ⟨z, HZ⟩ : ∃ z, Hid (partsN r 0 (m ++ b) ((m ++ b).length / 16) = z) := ⟨_, rfl⟩
    rw [HZ.out] at WY
    have LZ : Hid ((numL z).length = 3) := rfl
    generalize numL y = NY at SX WY LY
    obtain ⟨NZ, HNZ⟩ : ∃ NZ, Hid (numL z = NZ) := ⟨_, rfl⟩
    rw [HNZ.out] at WY LZ
    have hz : ∀ W, (zeroValue 195).run Tryz.prog W = .ok (.agg zeros3.toArray) W := fun W => by kernel_rfl
    have hlz : Hid (zeros3.length = 3) := rfl
    generalize zeros3 = Z3 at hz hlz
    go_cut [5] from 32 to 44 (fun v5 wx => ∃ (g5 : Nat), v5 = .pointer (some ⟨g5, 0, none⟩) ∧ Hid (W6.heap.size ≤ g5) ∧ Hid (Below W6.heap.size W6 wx) ∧ Hid (wx.heap[g5]? = some (.cells (NY.map uv).toArray 195 (0, 0))))
    case first =>
      have HX : Hid (Below W6.heap.size W6 W6.drew) := (Below.refl _ _).drew
      refine regB_start (W6.heap.size) (by kernel_rfl) ?_
      try simp only [Act.put, List.setIfInBounds_toArray, List.set_cons_zero, List.set_cons_succ]
      generalize W6.drew = W7 at HX ⊢
      refine regB_take (v := ?_) 0 (some 32) rfl rfl (by kernel_rfl) (by kernel_rfl) (by kernel_rfl) (fun _ _ _ h => h) (by rfl) (fun W hW => ?_) ?_
      rotate_left
      · (go_simp; try rfl)
      simp only [Act.put, List.setIfInBounds_toArray, List.set_cons_zero, List.set_cons_succ]
      refine regB_take (v := ?_) 1 (some 33) rfl rfl (by kernel_rfl) (by kernel_rfl) (by kernel_rfl) (fun _ _ _ h => h) (by rfl) (fun W hW => ?_) ?_
      rotate_left
      · (go_simp; try rfl)
      simp only [Act.put, List.setIfInBounds_toArray, List.set_cons_zero, List.set_cons_succ]
      refine regB_take (v := ?_) 2 (some 34) rfl rfl (by kernel_rfl) (by kernel_rfl) (by kernel_rfl) (fun _ _ _ h => h) (by rfl) (fun W hW => ?_) ?_
      rotate_left
      · (go_simp; try rfl)
      simp only [Act.put, List.setIfInBounds_toArray, List.set_cons_zero, List.set_cons_succ]
      refine regB_load 3 (some 35) (fun W hW => run_loadAt_mid W g 6 195 (NX.map uv) _ (prange_H (LO.out W (Below.trans HX.out hW)) LR.out LS.out) arr3 rfl (i3l NX LX.out)) rfl rfl rfl rfl (by kernel_rfl) (by kernel_rfl) (by kernel_rfl) (fun _ _ _ h => h) (by rfl) ?_
      simp only [Act.put, List.setIfInBounds_toArray, List.set_cons_zero, List.set_cons_succ]
      refine regB_take (v := ?_) 4 (some 36) rfl rfl (by kernel_rfl) (by kernel_rfl) (by kernel_rfl) (fun _ _ _ h => h) (by rfl) (fun W hW => ?_) ?_
      rotate_left
      · (go_simp; try rfl)
      simp only [Act.put, List.setIfInBounds_toArray, List.set_cons_zero, List.set_cons_succ]
      refine regB_take (v := ?_) 5 (some 37) rfl rfl (by kernel_rfl) (by kernel_rfl) (by kernel_rfl) (fun _ _ _ h => h) (by rfl) (fun W hW => ?_) ?_
      rotate_left
      · (go_simp; try rfl)
      simp only [Act.put, List.setIfInBounds_toArray, List.set_cons_zero, List.set_cons_succ]
      refine regB_take (v := ?_) 6 (some 38) rfl rfl (by kernel_rfl) (by kernel_rfl) (by kernel_rfl) (fun _ _ _ h => h) (by rfl) (fun W hW => ?_) ?_
      rotate_left
      · (go_simp; try rfl)
      simp only [Act.put, List.setIfInBounds_toArray, List.set_cons_zero, List.set_cons_succ]
      refine regB_load 7 (some 39) (fun W hW => run_loadAt_mid W g 0 195 (NR.map uv) _ (prange_R (LO.out W (Below.trans HX.out hW))) arr3 rfl (i3l NR LR.out)) rfl rfl rfl rfl (by kernel_rfl) (by kernel_rfl) (by kernel_rfl) (fun _ _ _ h => h) (by rfl) ?_
      simp only [Act.put, List.setIfInBounds_toArray, List.set_cons_zero, List.set_cons_succ]
      refine regB_take (v := ?_) 8 (some 40) rfl rfl (by kernel_rfl) (by kernel_rfl) (by kernel_rfl) (fun _ _ _ h => h) (by rfl) (fun W hW => ?_) ?_
      rotate_left
      · (go_simp; try rfl)
      simp only [Act.put, List.setIfInBounds_toArray, List.set_cons_zero, List.set_cons_succ]
      refine regB_take (v := ?_) 9 (some 41) rfl rfl (by kernel_rfl) (by kernel_rfl) (by kernel_rfl) (fun _ _ _ h => h) (by rfl) (fun W hW => ?_) ?_
      rotate_left
      · (go_simp; try rfl)
      simp only [Act.put, List.setIfInBounds_toArray, List.set_cons_zero, List.set_cons_succ]
      refine regB_take (v := ?_) 10 (some 42) rfl rfl (by kernel_rfl) (by kernel_rfl) (by kernel_rfl) (fun _ _ _ h => h) (by rfl) (fun W hW => ?_) ?_
      rotate_left
      · (go_simp; try rfl)
      simp only [Act.put, List.setIfInBounds_toArray, List.set_cons_zero, List.set_cons_succ]
      refine regB_take (v := ?_) 11 (some 43) rfl rfl (by kernel_rfl) (by kernel_rfl) (by kernel_rfl) (fun _ _ _ h => h) (by rfl) (fun W hW => ?_) ?_
      rotate_left
      · (go_simp; try rfl)
      simp only [Act.put, List.setIfInBounds_toArray, List.set_cons_zero, List.set_cons_succ]
      refine regB_eff2 12 13 rfl rfl (by kernel_rfl) (fun K hK => ?_) (fun K hK => ?_)
      · skip
        go_simp
        refine (SX.out _ HX.out).mono ?_
        rintro e w3 ⟨rfl, hE0⟩
        try have F6 := Lib.hid ((hE0.block _ (lt_of_heap F6.out)).trans F6.out)
        have hE := RowKit.Below.mono hE0 HX.out.size
        clear hE0
        refine hK.out _ _ hE ?_
        have HX := Lib.hid (Below.trans HX.out hE)
        clear hE hK K
        try simp only [Act.put, List.setIfInBounds_toArray, List.set_cons_zero, List.set_cons_succ]
        refine regB_eff 13 rfl (by kernel_rfl) (fun K hK => ?_)
        go_simp
        generalize hV : World.alloc _ _ = W8
        have F6 := Lib.hid (heap_of_alloc hV)
        have hE := below_of_alloc hV HX.out.size
        have HG7 := Lib.hid HX.out.size
        clear hV
        refine hK.out _ _ hE ?_
        have HX := Lib.hid (Below.trans HX.out hE)
        clear hE hK K
        try simp only [Act.put, List.setIfInBounds_toArray, List.set_cons_zero, List.set_cons_succ]
        refine regB_eff 14 rfl (by kernel_rfl) (fun K hK => ?_)
        refine step_st1 rfl 195 (.tmp 5) (.tmp 44) rfl (store_arr (cs := NY.map uv) (i3l NY LY.out) (uv_one _) (old := Z3) F6.out (by rw [List.length_map, LY.out]; exact hlz.out)) ?_
        generalize hV : World.setRow _ _ _ = W9
        have F7 := Lib.hid (heap_of_setRow hV F6.out)
        have hE := below_of_setRow hV HG7.out HX.out.size
        clear hV
        refine hK.out _ _ hE ?_
        have HX := Lib.hid (Below.trans HX.out hE)
        clear hE hK K
        try simp only [Act.put, List.setIfInBounds_toArray, List.set_cons_zero, List.set_cons_succ]
        refine regB_done (by kernel_rfl) ?_
        go_wp2
        go_meet
        exact ⟨_, rfl, HG7, HX, F7⟩
      · skip
        go_simp
        generalize hV : World.alloc _ _ = W8
        have F6 := Lib.hid (heap_of_alloc hV)
        have hE := below_of_alloc hV HX.out.size
        have HG7 := Lib.hid HX.out.size
        clear hV
        refine hK.out _ _ hE ?_
        have HX := Lib.hid (Below.trans HX.out hE)
        clear hE hK K
        try simp only [Act.put, List.setIfInBounds_toArray, List.set_cons_zero, List.set_cons_succ]
        refine regB_eff 12 rfl (by kernel_rfl) (fun K hK => ?_)
        go_simp
        refine (SX.out _ HX.out).mono ?_
        rintro e w3 ⟨rfl, hE0⟩
        try have F6 := Lib.hid ((hE0.block _ (lt_of_heap F6.out)).trans F6.out)
        have hE := RowKit.Below.mono hE0 HX.out.size
        clear hE0
        refine hK.out _ _ hE ?_
        have HX := Lib.hid (Below.trans HX.out hE)
        clear hE hK K
        try simp only [Act.put, List.setIfInBounds_toArray, List.set_cons_zero, List.set_cons_succ]
        refine regB_eff 14 rfl (by kernel_rfl) (fun K hK => ?_)
        refine step_st1 rfl 195 (.tmp 5) (.tmp 44) rfl (store_arr (cs := NY.map uv) (i3l NY LY.out) (uv_one _) (old := Z3) F6.out (by rw [List.length_map, LY.out]; exact hlz.out)) ?_
        generalize hV : World.setRow _ _ _ = W9
        have F7 := Lib.hid (heap_of_setRow hV F6.out)
        have hE := below_of_setRow hV HG7.out HX.out.size
        clear hV
        refine hK.out _ _ hE ?_
        have HX := Lib.hid (Below.trans HX.out hE)
        clear hE hK K
        try simp only [Act.put, List.setIfInBounds_toArray, List.set_cons_zero, List.set_cons_succ]
        refine regB_done (by kernel_rfl) ?_
        go_wp2
        go_meet
        exact ⟨_, rfl, HG7, HX, F7⟩
    case rest =>
      obtain ⟨g5, rfl, HG7, HBX, F5⟩ := hcut
      have K5 := Lib.hid (LO.out _ HBX.out)
      have KG := Lib.hid (gr_trans HG6.out (gr_of HBX.out))
      have SXX := Lib.hid (HSG.out _ KG.out)
      have hne : Hid (g ≠ g5) := by have h1 := HG7.out; have h2 := hgl.out; show g ≠ g5; omega
      have sl2 := cut_from uT s8 A k c .i64 (t : Int) (by omega) (by have := htk.out; omega)
      rw [Int.toNat_natCast] at sl2
      have SCU : Hid (∀ W, Ext wc W → Sl W (cutS A c t) (c - t) (b.drop t)) := fun W hW => (sl_cut SXX.out (by rw [HBL.out]; exact htk.out)).below hW
      have hRl : Hid (((b.drop t).drop (16 * ((k - t) / 16))).length = (k - t) % 16) := by show _ = _; rw [List.length_drop, hdl.out]; omega
      generalize (b.drop t).drop (16 * ((k - t) / 16)) = R at WY hRl W3
      generalize hq7 : (k - t) % 16 = q7 at WY hRl W4
      have hq16 : q7 < 16 := by omega
      clear hq7
      generalize hk7 : k - t = k7 at WY hdl sl2
      generalize hc7 : c - t = c7 at WY SCU sl2
      clear hk7 hc7
      clear LO SX HBX ar sl
      go_upto_region 5 with (fail)
      have D5 : Hid (wc.drew.heap[g5]? = some (.cells (NY.map uv).toArray 195 (0, 0))) := F5.out
      have DK : Hid (wc.drew.heap[g]? = some (.cells (pCells NR NS NX X 16).toArray 198 (0, 0))) := K5.out
      have DG : Hid (w.grownBy wc.drew (some g)) := gr_trans KG.out (gr_drew _ _)
      have HS : Hid (wc.drew = wc.drew) := rfl
      have hwx : Hid (Ext wc wc.drew) := (Below.refl _ _).drew
      have hA5 : Hid (ApartG (cutS A c t) g5) := by
        refine apart_cut ?_
        intro a ha
        obtain ⟨b1, o1, he, hb1, _⟩ := HS6.out.2.2.at_ (by rw [List.length_map, HBL.out]; have := htk.out; have := HTT.out; omega)
        rw [he] at ha
        injection ha with ha
        rw [← ha]; have := HG7.out; show b1 ≠ g5; omega
      refine regK_start (8) (fun W => W = wc.drew) (by kernel_rfl) ?_
      try simp only [Act.put, List.setIfInBounds_toArray, List.set_cons_zero, List.set_cons_succ]
      refine regK_load 0 (some 46) (fun W hW => load_arr arr3 rfl (i3l NY LY.out) (heap_eq' hW D5.out)) rfl rfl rfl rfl (by kernel_rfl) (by kernel_rfl) (by kernel_rfl) (fun _ _ _ h => h) (by rfl) (by kernel_rfl) HS.out ?_
      simp only [Act.put, List.setIfInBounds_toArray, List.set_cons_zero, List.set_cons_succ]
      refine regK_take (v := ?_) 1 (some 47) rfl rfl (by kernel_rfl) (by kernel_rfl) (by kernel_rfl) (fun _ _ _ h => h) (by rfl) (by kernel_rfl) HS.out (fun W => ?_) ?_
      rotate_left
      · (go_simp; try rfl)
      simp only [Act.put, List.setIfInBounds_toArray, List.set_cons_zero, List.set_cons_succ]
      refine regK_take (v := ?_) 2 (some 48) rfl rfl (by kernel_rfl) (by kernel_rfl) (by kernel_rfl) (fun _ _ _ h => h) (by rfl) (by kernel_rfl) HS.out (fun W => ?_) ?_
      rotate_left
      · (go_simp; try rfl)
      simp only [Act.put, List.setIfInBounds_toArray, List.set_cons_zero, List.set_cons_succ]
      refine regK_take (v := ?_) 3 (some 49) rfl rfl (by kernel_rfl) (by kernel_rfl) (by kernel_rfl) (fun _ _ _ h => h) (by rfl) (by kernel_rfl) HS.out (fun W => ?_) ?_
      rotate_left
      · (go_simp; try rfl)
      simp only [Act.put, List.setIfInBounds_toArray, List.set_cons_zero, List.set_cons_succ]
      refine regK_load 4 (some 50) (fun W hW => run_loadAt_mid W g 0 195 (NR.map uv) _ (prange_R (heap_eq' hW DK.out)) arr3 rfl (i3l NR LR.out)) rfl rfl rfl rfl (by kernel_rfl) (by kernel_rfl) (by kernel_rfl) (fun _ _ _ h => h) (by rfl) (by kernel_rfl) HS.out ?_
      simp only [Act.put, List.setIfInBounds_toArray, List.set_cons_zero, List.set_cons_succ]
      refine regK_take (v := ?_) 5 (some 51) rfl rfl (by kernel_rfl) (by kernel_rfl) (by kernel_rfl) (fun _ _ _ h => h) (by rfl) (by kernel_rfl) HS.out (fun W => ?_) ?_
      rotate_left
      · (go_simp; try rfl)
      simp only [Act.put, List.setIfInBounds_toArray, List.set_cons_zero, List.set_cons_succ]
      refine regK_take (v := ?_) 6 (some 52) rfl rfl (by kernel_rfl) (by kernel_rfl) (by kernel_rfl) (fun _ _ _ h => h) (by rfl) (by kernel_rfl) HS.out (fun W => ?_) ?_
      rotate_left
      · (go_simp; try rfl)
      simp only [Act.put, List.setIfInBounds_toArray, List.set_cons_zero, List.set_cons_succ]
      refine regK_take (v := ?_) 7 (some 53) rfl rfl (by kernel_rfl) (by kernel_rfl) (by kernel_rfl) (fun _ _ _ h => h) (by rfl) (by kernel_rfl) HS.out (fun W => ?_) ?_
      rotate_left
      · (go_simp; try rfl)
      simp only [Act.put, List.setIfInBounds_toArray, List.set_cons_zero, List.set_cons_succ]
      refine regK_bar 8 rfl (by kernel_rfl) (by kernel_rfl) (fun K hK => ?_)
      go_simp
      refine (WY.out _ (SCU.out _ hwx.out)).mono ?_
      rintro e w4 ⟨A7, c8, rfl, hA7, hP7, hE0⟩
      have E5 := Lib.hid ((hE0.block _ (lt_of_heap D5.out)).trans D5.out)
      have EK := Lib.hid ((hE0.block _ (lt_of_heap DK.out)).trans DK.out)
      have EG := Lib.hid (gr_trans DG.out (gr_of hE0))
      have HSR := Lib.hid (hA7.below hE0)
      have HAX : Hid (ApartG A7 g) := hP7 _ (apart_cut HAP'.out)
      have HA5 : Hid (ApartG A7 g5) := hP7 _ hA5.out
      clear hE0 hA7 hP7
      refine hK.out _ _ trivial ?_
      clear hK K
      try simp only [Act.put, List.setIfInBounds_toArray, List.set_cons_zero, List.set_cons_succ]
      refine regS_take (v := ?_) 9 (some 45) rfl rfl (by kernel_rfl) (by kernel_rfl) (by kernel_rfl) (fun _ _ _ h => h) (by rfl) (fun W hW => ?_) ?_
      rotate_left
      · (go_simp; try rfl)
      simp only [Act.put, List.setIfInBounds_toArray, List.set_cons_zero, List.set_cons_succ]
      refine regS_take (v := ?_) 10 (some 55) rfl rfl (by kernel_rfl) (by kernel_rfl) (by kernel_rfl) (fun _ _ _ h => h) (by rfl) (fun W hW => ?_) ?_
      rotate_left
      · (go_simp; try rfl)
      simp only [Act.put, List.setIfInBounds_toArray, List.set_cons_zero, List.set_cons_succ]
      refine regS_take (v := ?_) 11 (some 56) rfl rfl (by kernel_rfl) (by kernel_rfl) (by kernel_rfl) (fun _ _ _ h => h) (by rfl) (fun W hW => ?_) ?_
      rotate_left
      · (go_simp; try rfl)
      simp only [Act.put, List.setIfInBounds_toArray, List.set_cons_zero, List.set_cons_succ]
      refine regS_eff 12 rfl (by kernel_rfl) (fun K hK => ?_)
      refine step_st1 rfl 195 (.tmp 5) (.tmp 55) rfl (store_arr (cs := NZ.map uv) (i3l NZ LZ.out) (uv_one _) E5.out (by rw [List.length_map, List.length_map, LY.out, LZ.out])) ?_
      generalize hV : World.setRow _ _ _ = W9
      have F9 := Lib.hid (heap_of_setRow hV E5.out)
      have K9 := Lib.hid (heap_of_other hV hne.out EK.out)
      have G9 := Lib.hid (fun hge => gr_other EG.out hV hge)
      have HS9 : Hid (Sl W9 A7 c8 R) := by rw [← hV]; exact HSR.out.gr (gr_setRow _ _ _) HA5.out
      clear hV
      refine hK.out _ _ trivial ?_
      clear hK K
      try simp only [Act.put, List.setIfInBounds_toArray, List.set_cons_zero, List.set_cons_succ]
      refine regS_take (v := ?_) 13 (some 6) rfl rfl (by kernel_rfl) (by kernel_rfl) (by kernel_rfl) (fun _ _ _ h => h) (by rfl) (fun W hW => ?_) ?_
      rotate_left
      · (go_simp; try rfl)
      simp only [Act.put, List.setIfInBounds_toArray, List.set_cons_zero, List.set_cons_succ]
      refine regS_done (by kernel_rfl) ?_
      have G10 : Hid (w.grownBy W9 (some g)) := G9.out (Nat.le_trans HG6.out.size HG7.out)
      clear EG EK E5 HSR DG DK D5 KG K5 F5 G9
      have ssH := Lib.hid (psplice_H NR NS NX NZ X 16 LR.out LS.out (by rw [LZ.out, LX.out]))
      have hln : Hid (6 + (NZ.map uv).length ≤ (pCells NR NS NX X 16).length) := by show _ ≤ _; rw [pCells_len _ _ _ _ _ LR.out LS.out LX.out HXL.out, List.length_map, LZ.out]; decide
      have ssT := Lib.hid (psplice_T NR NS NZ X (List.replicate 16 0) 16 0 LR.out LS.out LZ.out (by rw [HXL.out]; simp))
      have hsp : Hid (splice X 0 (List.replicate 16 0) = List.replicate 16 0) := by show _ = _; simp [splice, List.drop_of_length_le, HXL.out]
      rw [hsp.out] at ssT
      have hln2 : Hid (9 + 0 + ((List.replicate 16 (0 : UInt8)).map bv).length ≤ (pCells NR NS NZ X 16).length) := by show _ ≤ _; rw [pCells_len _ _ _ _ _ LR.out LS.out LZ.out HXL.out]; simp
      have hZ : ∀ W, (zeroValue 60).run Tryz.prog W = .ok (.agg ((List.replicate 16 (0 : UInt8)).map bv).toArray) W := fun W => by kernel_rfl
      have l16 : Hid ((List.replicate 16 (0 : UInt8)).length = 16) := List.length_replicate
      clear sl2
      generalize List.replicate 16 (0 : UInt8) = O16 at ssT hln2 hZ l16 W3
      go_upto_region 8 with (first
        | (refine wpList_ld rfl 195 (.tmp 5) rfl (load_arr arr3 rfl (i3l NZ LZ.out) F9.out) ?_)
        | (refine wpList_st rfl 195 (.tmp 60) (.tmp 58) rfl (store_mid (cs := NZ.map uv) (i3l NZ LZ.out) (uv_one _) K9.out hln.out) ?_
           rw [ssH.out]
           generalize hV : World.setRow _ _ _ = W10
           have K10 := Lib.hid (heap_of_setRow hV K9.out)
           have KG10 : Hid (w.grownBy W10 (some g)) := by show w.grownBy _ _; rw [← hV]; exact gr_trans G10.out (gr_setRow _ _ _)
           have HSX10 : Hid (Sl W10 A7 c8 R) := by rw [← hV]; exact HS9.out.gr (gr_setRow _ _ _) HAX.out
           clear hV)
        | (refine wpList_run (o := ⟨some 62, _, _, _, _, _⟩) rfl (v := .agg (O16.map bv).toArray) (w' := W10) (exec_bld rfl (by simp only [List.map_toArray, List.map_nil]; exact (run_build W10 _ _ _ (by kernel_rfl)))) ?_)
        | (refine wpList_st rfl 60 (.tmp 64) (.tmp 62) rfl (store_mid (cs := O16.map bv) (off := 9 + 0) (i16p O16 l16.out) (bv_one _) K10.out hln2.out) ?_
           rw [ssT.out]
           generalize hV : World.setRow _ _ _ = W11
           have K11 := Lib.hid (heap_of_setRow hV K10.out)
           have KG11 : Hid (w.grownBy W11 (some g)) := by show w.grownBy _ _; rw [← hV]; exact gr_trans KG10.out (gr_setRow _ _ _)
           have HSX11 : Hid (Sl W11 A7 c8 R) := by rw [← hV]; exact HSX10.out.gr (gr_setRow _ _ _) HAX.out
           clear hV))
      have ar9 := arr_all arr16P s8 ⟨g, 9, none⟩
      obtain ⟨W12, hrun, hblk, hsz, hgr⟩ := copy_run uT s8 (sT := 22) 3 W11 g (9 + 0) (pCells NR NS NZ O16 16) 198 K11.out (some ⟨g, 9, none⟩) A7 16 16 q7 c8 W11.heap.size (R.map bv) (by rw [List.length_map, hRl.out]; omega) (fun _ => rfl) HSX11.out.2.2 (by rw [List.length_map, hRl.out, pCells_len _ _ _ _ _ LR.out LS.out LZ.out l16.out]; omega) (bv_one _)
      rw [psplice_T _ _ _ _ _ _ _ LR.out LS.out LZ.out (by rw [hRl.out, l16.out]; omega), W3.out] at hblk
      rw [List.length_map, hRl.out] at hrun
      have HB12 := Lib.hid hblk
      have HG12 := Lib.hid (gr_trans KG11.out hgr)
      have HRUN := Lib.hid hrun
      have hTB : Hid ((ptail (m ++ b)).length = 16) := ptail_len _
      have c25 := pcell_n HB12.out LR.out LS.out LZ.out hTB.out
      have fz := frozen_of_heap HB12.out 25
      clear hrun hblk hsz hgr K11 KG11 HSX11 K10 KG10 HSX10
      go_wp2_with (first
        | (refine wpList_cpy rfl (.tmp 69) (.tmp 70) 22 22 rfl HRUN.out ?_)
        | fail)
      refine bodyPost_end (v := .tuple #[]) (by simp [results, Tryz.results140, go_sem]) rfl ⟨⟨_, rfl⟩, ?_, gr_trans HG12.out (gr_setCell _ _ _ _)⟩
      rw [← List.length_append, HZ.out, W4.out, HNZ.out]
      have := heap_set HB12.out 25 (.int .i64 (q7 : Int))
      rw [pset_n _ _ _ _ _ _ LR.out LS.out LZ.out hTB.out] at this
      exact this
end Go.Proofs.YtnhhgiebnhlfcaaGreatDoor

/- poly: (*State).Sum, Sum. -/
namespace Go.Proofs.YtnhhgiebnhlfcaaGreatDoor
open Go.RowKit
set_option maxRecDepth 100000
set_option linter.unusedVariables false
set_option linter.unusedSimpArgs false
/-- the sum of the parts of m, whole ones and the last one -/
def polyN (r : Nat) (m : List UInt8) : Nat := if m.length % 16 = 0 then partsN r 0 m (m.length / 16) else stepN r (partsN r 0 m (m.length / 16)) (m.drop (16 * (m.length / 16)))
theorem polyN_lt (r : Nat) (m : List UInt8) (hr : r < 21267647932558653966460912964485513216) : polyN r m < 2722258935367507707706996859454145691648 := by
  unfold polyN
  split
  · exact partsN_lt r 0 m _ (by omega) hr
  · exact stepN_lt r _ _ (by rw [List.length_drop]; omega) (partsN_lt r 0 m _ (by omega) hr) hr
def psumL (r s : Nat) (m : List UInt8) : List UInt8 :=
  putLittle ((leastN (polyN r m) + s) % 18446744073709551616) 8 ++ putLittle ((leastN (polyN r m) + s) / 18446744073709551616 % 18446744073709551616) 8
theorem psumL_len (r s : Nat) (m : List UInt8) : (psumL r s m).length = 16 := by simp [psumL, putLittle_len]
theorem psum_nil (w : World) : Calls Tryz.prog 142 #[.pointer none] w fun e w' => e = .returned (.agg ((List.replicate 16 (0 : UInt8)).map bv).toArray) ∧ Below w.heap.size w w' := by
  have hz : ∀ W, (zeroValue 60).run Tryz.prog W = .ok (.agg zer16.toArray) W := fun W => by kernel_rfl
  have hZ : Hid ((List.replicate 16 (0 : UInt8)).map bv = zer16) := rfl
  have hlz : Hid (zer16.length = 16) := rfl
  have h1 : Hid (∀ v ∈ zer16, v.oneCell' = true) := bv_one (List.replicate 16 0)
  rw [hZ.out]
  have BD : Hid (∀ W, (Instr.build 60 #[]).run Tryz.prog W = .ok (.agg zer16.toArray) W) := fun W => by kernel_rfl
  generalize zer16 = Z at hz hlz h1 BD ⊢
  clear hZ
  have G := Lib.hid (heap_alloc_new' w (.cells Z.toArray 60))
  have GB : Hid (Below w.heap.size w (w.alloc (.cells Z.toArray 60))) := (Below.refl _ _).alloc (Nat.le_refl _) _
  go_enter Tryz.func142, Tryz.ntmps142
  go_upto_region 1 with (fail)
  generalize hV : w.alloc _ = W0 at G GB ⊢
  clear hV
  go_wp2_with (first
    | (refine wpList_run (o := ⟨some 7, _, _, _, _, _⟩) rfl (v := .agg Z.toArray) (w' := W0) (exec_bld rfl (by simp only [List.map_toArray, List.map_nil]; exact BD.out W0)) ?_)
    | (refine wpList_st rfl 60 (.tmp 2) (.tmp 7) rfl (store_arr (cs := Z) (by rw [hlz.out]; exact i16P) h1.out G.out rfl) ?_))
  have hres := setRow_heap W0 w.heap.size _ Z.toArray 60 _ G.out
  exact bodyPost_ret (results_cell_row (P := Tryz.prog) rfl _ _ w.heap.size 60 Z.toArray (0, 0) _ rfl hres arr16P rfl (by rw [List.size_toArray, hlz.out]; exact i16P)) rfl ⟨rfl, GB.out.trans (grown_below (grown_setRow _ _ _) (by omega) GB.out.size)⟩
set_option maxHeartbeats 4000000 in
theorem pstSum_any (g r s : Nat) (m : List UInt8) (w : World) (hr : r < 21267647932558653966460912964485513216) (H : PAt w g r s m) :
    Calls Tryz.prog 142 #[.pointer (some ⟨g, 0, none⟩)] w fun e w' => e = .returned (.agg ((psumL r s m).map bv).toArray) ∧ Below w.heap.size w w' := by
  unfold PAt at H
  obtain ⟨p, hp⟩ : ∃ p, m.length % 16 = p := ⟨_, rfl⟩
  have hp16 : p < 16 := by omega
  have HP := Lib.hid hp; have HR := Lib.hid hr
  have hyl := polyN_lt r m hr
  have hpl := partsN_lt r 0 m (m.length / 16) (by omega) hr
  obtain ⟨y, hy⟩ : ∃ y, polyN r m = y := ⟨_, rfl⟩
  have hlen : (m.drop (16 * (m.length / 16))).length = p := by rw [List.length_drop]; omega
  have hyd : y = if p = 0 then partsN r 0 m (m.length / 16) else stepN r (partsN r 0 m (m.length / 16)) (m.drop (16 * (m.length / 16))) := by rw [← hy, ← hp]; rfl
  have hps : psumL r s m = putLittle ((leastN y + s) % 18446744073709551616) 8 ++ putLittle ((leastN y + s) / 18446744073709551616 % 18446744073709551616) 8 := by rw [← hy]; rfl
  have hlp := psumL_len r s m
  rw [hy] at hyl
  have htl := ptail_len m
  have htk : (ptail m).take p = m.drop (16 * (m.length / 16)) := by unfold ptail; rw [← hlen]; exact List.take_left' rfl
  rw [hp] at H
  generalize m.drop (16 * (m.length / 16)) = D at hlen hyd htk
  generalize partsN r 0 m (m.length / 16) = x at H hyd hpl
  generalize ptail m = T at H htl htk
  generalize psumL r s m = Q at hps hlp ⊢
  have LR : Hid ((numL r).length = 3) := rfl
  have LS : Hid ((numL s).length = 3) := rfl
  have LX : Hid ((numL x).length = 3) := rfl
  have LY : Hid ((numL y).length = 3) := rfl
  have LT : Hid ((numL (leastN y + s)).length = 3) := rfl
  have SA := Lib.hid (fun A c W hS => step_any x r A p c D W hlen (by omega) hpl hr hS)
  have LA := Lib.hid (fun W => least_any y W hyl)
  have PA := Lib.hid (fun W => plus_any (leastN y) s W)
  obtain ⟨u0, hu0⟩ : ∃ u, (leastN y + s) % 18446744073709551616 = u := ⟨_, rfl⟩
  obtain ⟨u1, hu1⟩ : ∃ u, (leastN y + s) / 18446744073709551616 % 18446744073709551616 = u := ⟨_, rfl⟩
  have P0 := Lib.hid (fun W => putLittle_any u0 8 W (by omega) (by omega))
  have P1 := Lib.hid (fun W => putLittle_any u1 8 W (by omega) (by omega))
  have g0 : Hid ((numL (leastN y + s)).getD 0 0 = u0) := hu0
  have g1 : Hid ((numL (leastN y + s)).getD 1 0 = u1) := hu1
  rw [hu0, hu1] at hps
  generalize numL (leastN y + s) = NT at PA LT g0 g1
  generalize numL (leastN y) = NL at LA PA
  obtain ⟨NY, HNY⟩ : ∃ NY, Hid (numL y = NY) := ⟨_, rfl⟩
  obtain ⟨NX, HNX⟩ : ∃ NX, Hid (numL x = NX) := ⟨_, rfl⟩
  rw [HNY.out] at LA LY
  rw [HNX.out] at SA LX H
  have HSY : Hid (¬ p = 0 → stepN r x D = y) := by intro h; rw [hyd, if_neg h]
  have HEY : Hid (p = 0 → NX = NY) := by intro h; rw [← HNX.out, ← HNY.out, hyd, if_pos h]
  generalize numL r = NR at SA LR H
  generalize numL s = NS at PA LS H
  have HQ := Lib.hid hps; have HQL := Lib.hid hlp
  have HTL := Lib.hid htl; have HTK := Lib.hid htk; have HDL := Lib.hid hlen
  have hz : ∀ W, (zeroValue 60).run Tryz.prog W = .ok (.agg zer16.toArray) W := fun W => by kernel_rfl
  have hzn : ∀ W, (zeroValue 195).run Tryz.prog W = .ok (.agg zeros3.toArray) W := fun W => by kernel_rfl
  have hlz : Hid (zer16.length = 16) := rfl
  have HZ16 : Hid (zer16 = List.replicate 16 (Value.int .u8 0)) := rfl
  have hln : Hid (zeros3.length = 3) := rfl
  generalize zer16 = Z at hz hlz HZ16
  generalize zeros3 = Z3 at hzn hln
  have hgl := Lib.hid (lt_of_heap H)
  have LO : Hid (∀ W, Below w.heap.size w W → W.heap[g]? = some (.cells (pCells NR NS NX T p).toArray 198 (0, 0))) := by
    have h0 := H
    intro W hW
    exact (hW.block _ (lt_of_heap h0)).trans h0
  clear H hp hr hyl hpl hlen hyd hps hlp htl htk hu0 hu1 hy
  have G := Lib.hid (heap_alloc_new' w (.cells Z.toArray 60))
  have GB : Hid (Below w.heap.size w (w.alloc (.cells Z.toArray 60))) := (Below.refl _ _).alloc (Nat.le_refl _) _
  have hs0 : Hid ((w.alloc (.cells Z.toArray 60)).heap.size = w.heap.size + 1) := by show _ = _; simp
  go_enter Tryz.func142, Tryz.ntmps142
  go_upto_region 1 with (fail)
  generalize hV : w.alloc _ = W0 at G GB hs0 ⊢
  clear hV
  have RH := Lib.hid (prange_H (LO.out _ GB.out) LR.out LS.out)
  go_upto_region 4 with (first
    | (refine wpList_ld rfl 195 (.tmp 10) rfl (run_loadAt_mid _ g 6 195 (NX.map uv) _ RH.out arr3 rfl (i3l NX LX.out)) ?_)
    | (refine wpList_st rfl 195 (.tmp 3) (.tmp 11) rfl (store_arr (cs := NX.map uv) (i3l NX LX.out) (uv_one _) (heap_alloc_new' W0 _) (by rw [List.length_map, LX.out]; exact hln.out)) ?_
       generalize hV : World.setRow _ _ _ = W1
       have M1 := Lib.hid (heap_of_setRow hV (heap_alloc_new' W0 _))
       have MB := Lib.hid (((Below.refl W0.heap.size W0).alloc (Nat.le_refl _) _).trans (below_of_setRow hV (Nat.le_refl W0.heap.size) (by simp)))
       clear hV)
    | fail)
  have G1 := Lib.hid ((MB.out.block _ (lt_of_heap G.out)).trans G.out)
  have GB1 : Hid (Below w.heap.size w W1) := GB.out.trans (MB.out.mono GB.out.size)
  rw [hs0.out] at M1 ⊢
  clear MB RH G GB hs0
  have c25 := pcell_n (LO.out _ GB1.out) LR.out LS.out LX.out HTL.out
  go_upto_if 16 with (fail)
  clear c25
  go_cut [16] from 17 to 30 (fun v16 wx => Hid (Below w.heap.size w wx) ∧ Hid (wx.heap[w.heap.size]? = some (.cells Z.toArray 60 (0, 0))) ∧ Hid (wx.heap[w.heap.size + 1]? = some (.cells (NY.map uv).toArray 195 (0, 0))))
  case first =>
    by_cases h0 : p = 0
    · have e0 : ¬ ((0 : Int) < (p : Int)) := by omega
      have M2 : Hid (W1.heap[w.heap.size + 1]? = some (.cells (NY.map uv).toArray 195 (0, 0))) := by have := M1.out; rw [HEY.out h0] at this; exact this
      clear h0
      go_wp2_with fail
      go_meet
      exact ⟨GB1, G1, M2⟩
    · have e0 : (0 : Int) < (p : Int) := by omega
      have SY := SA.out
      rw [HSY.out h0, HNY.out] at SY
      have SY := Lib.hid SY
      have sl := arr_to arr16P s8 ⟨g, 9, none⟩ .i64 (p : Int) (by omega) (by omega)
      rw [Int.toNat_natCast] at sl
      have SX : Hid (∀ W, Below w.heap.size w W → Sl W (some ⟨g, 9, none⟩) 16 D) := by
        intro W hW
        have := sl_take' (q := p) (sl_range (prange_T (LO.out W hW) LR.out LS.out LX.out) (lt_of_heap (LO.out W hW)) (c := 16) (by rw [HTL.out]; omega) (by simp [maxLen]))
        rw [HTK.out] at this; exact this
      have HX : Hid (Grow (w.heap.size + 1) W1 W1.drew) := Grow.drew _ _
      have LG : Hid (∀ W, Grow (w.heap.size + 1) W1 W → Below w.heap.size w W) := fun W hW => GB1.out.trans (hW.below (Nat.le_succ _) GB1.out.size)
      go_wp2_with fail
      refine regS_start (Grow (w.heap.size + 1)) (by kernel_rfl) ?_
      try simp only [Act.put, List.setIfInBounds_toArray, List.set_cons_zero, List.set_cons_succ]
      refine regS_take (v := ?_) 1 (some 18) rfl rfl (by kernel_rfl) (by kernel_rfl) (by kernel_rfl) (fun _ _ _ h => h) (by rfl) (fun W hW => ?_) ?_
      rotate_left
      · (go_simp; try rfl)
      simp only [Act.put, List.setIfInBounds_toArray, List.set_cons_zero, List.set_cons_succ]
      refine regS_take (v := ?_) 2 (some 19) rfl rfl (by kernel_rfl) (by kernel_rfl) (by kernel_rfl) (fun _ _ _ h => h) (by rfl) (fun W hW => ?_) ?_
      rotate_left
      · (go_simp; try rfl)
      simp only [Act.put, List.setIfInBounds_toArray, List.set_cons_zero, List.set_cons_succ]
      refine regS_take (v := ?_) 3 (some 20) rfl rfl (by kernel_rfl) (by kernel_rfl) (by kernel_rfl) (fun _ _ _ h => h) (by rfl) (fun W hW => ?_) ?_
      rotate_left
      · (go_simp; try rfl)
      simp only [Act.put, List.setIfInBounds_toArray, List.set_cons_zero, List.set_cons_succ]
      refine regS_load 4 (some 21) (fun W hW => run_loadAt_mid W g 0 195 (NR.map uv) _ (prange_R (LO.out W (LG.out W (HX.out.trans hW)))) arr3 rfl (i3l NR LR.out)) rfl rfl rfl rfl (by kernel_rfl) (by kernel_rfl) (by kernel_rfl) (fun _ _ _ h => h) (by rfl) ?_
      simp only [Act.put, List.setIfInBounds_toArray, List.set_cons_zero, List.set_cons_succ]
      refine regS_take (v := ?_) 5 (some 22) rfl rfl (by kernel_rfl) (by kernel_rfl) (by kernel_rfl) (fun _ _ _ h => h) (by rfl) (fun W hW => ?_) ?_
      rotate_left
      · (go_simp; try rfl)
      simp only [Act.put, List.setIfInBounds_toArray, List.set_cons_zero, List.set_cons_succ]
      refine regS_take (v := ?_) 6 (some 23) rfl rfl (by kernel_rfl) (by kernel_rfl) (by kernel_rfl) (fun _ _ _ h => h) (by rfl) (fun W hW => ?_) ?_
      rotate_left
      · (go_simp; try rfl)
      simp only [Act.put, List.setIfInBounds_toArray, List.set_cons_zero, List.set_cons_succ]
      refine regS_take (v := ?_) 7 (some 24) rfl rfl (by kernel_rfl) (by kernel_rfl) (by kernel_rfl) (fun _ _ _ h => h) (by rfl) (fun W hW => ?_) ?_
      rotate_left
      · (go_simp; try rfl)
      simp only [Act.put, List.setIfInBounds_toArray, List.set_cons_zero, List.set_cons_succ]
      refine regS_take (v := ?_) 8 (some 25) rfl rfl (by kernel_rfl) (by kernel_rfl) (by kernel_rfl) (fun _ _ _ h => h) (by rfl) (fun W hW => ?_) ?_
      rotate_left
      · (go_simp; try rfl)
      simp only [Act.put, List.setIfInBounds_toArray, List.set_cons_zero, List.set_cons_succ]
      refine regS_take (v := ?_) 9 (some 26) rfl rfl (by kernel_rfl) (by kernel_rfl) (by kernel_rfl) (fun _ _ _ h => h) (by rfl) (fun W hW => ?_) ?_
      rotate_left
      · (go_simp; try rfl)
      simp only [Act.put, List.setIfInBounds_toArray, List.set_cons_zero, List.set_cons_succ]
      refine regS_take (v := ?_) 10 (some 27) rfl rfl (by kernel_rfl) (by kernel_rfl) (by kernel_rfl) (fun _ _ _ h => h) (by rfl) (fun W hW => ?_) ?_
      rotate_left
      · (go_simp; try rfl)
      simp only [Act.put, List.setIfInBounds_toArray, List.set_cons_zero, List.set_cons_succ]
      refine regS_load 11 (some 28) (fun W hW => load_cell Tryz.underlying3 (pcell_n (LO.out W (LG.out W (HX.out.trans hW))) LR.out LS.out LX.out HTL.out)) rfl rfl rfl rfl (by kernel_rfl) (by kernel_rfl) (by kernel_rfl) (fun _ _ _ h => h) (by rfl) ?_
      simp only [Act.put, List.setIfInBounds_toArray, List.set_cons_zero, List.set_cons_succ]
      refine regS_take (v := ?_) 12 (some 29) rfl rfl (by kernel_rfl) (by kernel_rfl) (by kernel_rfl) (fun _ _ _ h => h) (by rfl) (fun W hW => ?_) ?_
      rotate_left
      · (go_simp; try rfl)
      simp only [Act.put, List.setIfInBounds_toArray, List.set_cons_zero, List.set_cons_succ]
      refine regS_eff 0 rfl (by kernel_rfl) (fun K hK => ?_)
      refine step_ld rfl 195 (.tmp 3) rfl (load_arr arr3 rfl (i3l NX LX.out) (W := W1.drew) M1.out) ?_
      have hE : Grow (w.heap.size + 1) W1.drew W1.drew := Pre.refl _
      refine hK.out _ _ hE ?_
      have HX := Lib.hid (Pre.trans HX.out hE)
      clear hE hK K
      try simp only [Act.put, List.setIfInBounds_toArray, List.set_cons_zero, List.set_cons_succ]
      refine regS_eff 13 rfl (by kernel_rfl) (fun K hK => ?_)
      go_simp
      refine (SY.out _ _ _ (SX.out _ (LG.out _ HX.out))).mono ?_
      rintro e w2 ⟨rfl, hb⟩
      have N2 := Lib.hid ((hb.block _ (lt_of_heap (w := W1.drew) M1.out)).trans M1.out)
      have hE := Grow.of_ext (g := w.heap.size + 1) hb
      clear hb
      refine hK.out _ _ hE ?_
      have HX := Lib.hid (Pre.trans HX.out hE)
      clear hE hK K
      try simp only [Act.put, List.setIfInBounds_toArray, List.set_cons_zero, List.set_cons_succ]
      refine regS_eff 14 rfl (by kernel_rfl) (fun K hK => ?_)
      refine step_st1 rfl 195 (.tmp 3) (.tmp 30) rfl (store_arr (cs := NY.map uv) (i3l NY LY.out) (uv_one _) N2.out (by rw [List.length_map, List.length_map, LX.out, LY.out])) ?_
      generalize hV : World.setRow _ _ _ = W3
      have N3 := Lib.hid (heap_of_setRow hV N2.out)
      have hE : Grow (w.heap.size + 1) w2 W3 := by rw [← hV]; exact Grow.setRow _ _ _
      clear hV
      refine hK.out _ _ hE ?_
      have HX := Lib.hid (Pre.trans HX.out hE)
      clear hE hK K
      try simp only [Act.put, List.setIfInBounds_toArray, List.set_cons_zero, List.set_cons_succ]
      refine regS_done (by kernel_rfl) ?_
      have G3 := Lib.hid (HX.out.heap (by omega) G1.out)
      have GB3 := Lib.hid (LG.out _ HX.out)
      go_wp2_with fail
      go_meet
      exact ⟨GB3, G3, N3⟩
  case rest =>
    obtain ⟨GB2, G2, M2⟩ := hcut
    clear GB1 G1 M1
    go_upto_region 6 with (fail)
    have LG : Hid (∀ W, Grow (w.heap.size + 1) wc W → Below w.heap.size w W) := fun W hW => GB2.out.trans (hW.below (Nat.le_succ _) GB2.out.size)
    have HX : Hid (Grow (w.heap.size + 1) wc wc.drew) := Grow.drew _ _
    refine regS_start (Grow (w.heap.size + 1)) (by kernel_rfl) ?_
    try simp only [Act.put, List.setIfInBounds_toArray, List.set_cons_zero, List.set_cons_succ]
    refine regS_take (v := ?_) 2 (some 33) rfl rfl (by kernel_rfl) (by kernel_rfl) (by kernel_rfl) (fun _ _ _ h => h) (by rfl) (fun W hW => ?_) ?_
    rotate_left
    · (go_simp; try rfl)
    simp only [Act.put, List.setIfInBounds_toArray, List.set_cons_zero, List.set_cons_succ]
    refine regS_take (v := ?_) 3 (some 34) rfl rfl (by kernel_rfl) (by kernel_rfl) (by kernel_rfl) (fun _ _ _ h => h) (by rfl) (fun W hW => ?_) ?_
    rotate_left
    · (go_simp; try rfl)
    simp only [Act.put, List.setIfInBounds_toArray, List.set_cons_zero, List.set_cons_succ]
    refine regS_take (v := ?_) 4 (some 35) rfl rfl (by kernel_rfl) (by kernel_rfl) (by kernel_rfl) (fun _ _ _ h => h) (by rfl) (fun W hW => ?_) ?_
    rotate_left
    · (go_simp; try rfl)
    simp only [Act.put, List.setIfInBounds_toArray, List.set_cons_zero, List.set_cons_succ]
    refine regS_load 5 (some 36) (fun W hW => run_loadAt_mid W g 3 195 (NS.map uv) _ (prange_S (LO.out W (LG.out W (HX.out.trans hW))) LR.out) arr3 rfl (i3l NS LS.out)) rfl rfl rfl rfl (by kernel_rfl) (by kernel_rfl) (by kernel_rfl) (fun _ _ _ h => h) (by rfl) ?_
    simp only [Act.put, List.setIfInBounds_toArray, List.set_cons_zero, List.set_cons_succ]
    refine regS_eff 0 rfl (by kernel_rfl) (fun K hK => ?_)
    refine step_ld rfl 195 (.tmp 3) rfl (load_arr arr3 rfl (i3l NY LY.out) (W := wc.drew) M2.out) ?_
    have hE : Grow (w.heap.size + 1) wc.drew wc.drew := Pre.refl _
    refine hK.out _ _ hE ?_
    have HX := Lib.hid (Pre.trans HX.out hE)
    clear hE hK K
    try simp only [Act.put, List.setIfInBounds_toArray, List.set_cons_zero, List.set_cons_succ]
    refine regS_eff 1 rfl (by kernel_rfl) (fun K hK => ?_)
    go_simp
    refine (LA.out _).mono ?_
    rintro e w2 ⟨rfl, hb⟩
    have N2 := Lib.hid ((hb.block _ (lt_of_heap (w := wc.drew) M2.out)).trans M2.out)
    have hE := Grow.of_ext (g := w.heap.size + 1) hb
    clear hb
    refine hK.out _ _ hE ?_
    have HX := Lib.hid (Pre.trans HX.out hE)
    clear hE hK K
    try simp only [Act.put, List.setIfInBounds_toArray, List.set_cons_zero, List.set_cons_succ]
    refine regS_eff 6 rfl (by kernel_rfl) (fun K hK => ?_)
    go_simp
    refine (PA.out _).mono ?_
    rintro e w3 ⟨rfl, hb⟩
    have N3 := Lib.hid ((hb.block _ (lt_of_heap N2.out)).trans N2.out)
    have hE := Grow.of_ext (g := w.heap.size + 1) hb
    clear hb
    refine hK.out _ _ hE ?_
    have HX := Lib.hid (Pre.trans HX.out hE)
    clear hE hK K
    try simp only [Act.put, List.setIfInBounds_toArray, List.set_cons_zero, List.set_cons_succ]
    refine regS_eff 7 rfl (by kernel_rfl) (fun K hK => ?_)
    refine step_st1 rfl 195 (.tmp 3) (.tmp 37) rfl (store_arr (cs := NT.map uv) (i3l NT LT.out) (uv_one _) N3.out (by rw [List.length_map, List.length_map, LT.out, LY.out])) ?_
    generalize hV : World.setRow _ _ _ = W4
    have N4 := Lib.hid (heap_of_setRow hV N3.out)
    have hE : Grow (w.heap.size + 1) w3 W4 := by rw [← hV]; exact Grow.setRow _ _ _
    clear hV
    refine hK.out _ _ hE ?_
    have HX := Lib.hid (Pre.trans HX.out hE)
    clear hE hK K
    try simp only [Act.put, List.setIfInBounds_toArray, List.set_cons_zero, List.set_cons_succ]
    refine regS_done (by kernel_rfl) ?_
    have G4 := Lib.hid (HX.out.heap (by omega) G2.out)
    have GB4 := Lib.hid (LG.out _ HX.out)
    clear HX LG G2 GB2 M2 N2 N3 LA PA
    go_upto_region 8 with (fail)
    generalize hV : World.alloc _ _ = W5
    have F5 := Lib.hid (heap_of_alloc hV)
    have B5 := Lib.hid (below_of_alloc hV (Nat.le_refl _))
    clear hV
    have N5 := Lib.hid ((B5.out.block _ (lt_of_heap N4.out)).trans N4.out)
    have G5 := Lib.hid ((B5.out.block _ (lt_of_heap G4.out)).trans G4.out)
    have GB5 : Hid (Below w.heap.size w W5) := GB4.out.trans (B5.out.mono GB4.out.size)
    have hg4 := Lib.hid (lt_of_heap N4.out)
    generalize W4.heap.size = g4 at F5 hg4 ⊢
    clear B5 N4 G4 GB4
    have ar1 := arr_to arr16P s8 ⟨g4, 0, none⟩ .i64 8 (by omega) (by omega)
    have ar2 := arr_from arr16P s8 ⟨g4, 0, none⟩ .i64 8 (by omega) (by omega)
    rw [show (8 : Int).toNat = 8 from rfl] at ar1 ar2
    rw [show cutA ⟨g4, 0, none⟩ 16 8 = ⟨g4, 8, none⟩ from by unfold cutA; rw [if_neg (by omega), Addr.add_mid]] at ar2
    have hne : Hid (w.heap.size + 1 ≠ g4) := by have := hg4.out; show _ ≠ _; omega
    have hne0 : Hid (w.heap.size ≠ g4) := by have := hg4.out; show _ ≠ _; omega
    have hge : Hid (w.heap.size ≤ g4) := by have := hg4.out; show _ ≤ _; omega
    have HX : Hid (Grow g4 W5 W5.drew) := Grow.drew _ _
    have lp0 : Hid ((putLittle u0 8).length = 8) := putLittle_len _ _
    have lp1 : Hid ((putLittle u1 8).length = 8) := putLittle_len _ _
    have C0 : Hid (∀ W, Grow g4 W5 W → W.cell? ⟨w.heap.size + 1, 0, none⟩ = some (.int .u64 (u0 : Int))) := by
      intro W hW
      have := ucell (hW.heap hne.out N5.out) 0 (by rw [LT.out]; omega)
      rw [g0.out] at this; exact this
    have C1 : Hid (∀ W, Grow g4 W5 W → W.cell? ⟨w.heap.size + 1, 1, none⟩ = some (.int .u64 (u1 : Int))) := by
      intro W hW
      have := ucell (hW.heap hne.out N5.out) 1 (by rw [LT.out]; omega)
      rw [g1.out] at this; exact this
    generalize putLittle u0 8 = B0 at P0 lp0 HQ
    generalize putLittle u1 8 = B1 at P1 lp1 HQ
    have hsp0 : Hid (splice Z 0 (B0.map bv) = B0.map bv ++ List.replicate 8 (Value.int .u8 0)) := by
      show _ = _
      rw [HZ16.out]; exact splice_first (Value.int .u8 0) 8 8 (B0.map bv) (by rw [List.length_map, lp0.out])
    have hsp1 : Hid (splice (B0.map bv ++ List.replicate 8 (Value.int .u8 0)) 8 (B1.map bv) = Q.map bv) := by
      show _ = _
      rw [splice_last (Value.int .u8 0) 8 8 (B0.map bv) (B1.map bv) (by rw [List.length_map, lp0.out]) (by rw [List.length_map, lp1.out]), HQ.out, List.map_append]
    have hlz2 : Hid ((B0.map bv ++ List.replicate 8 (Value.int .u8 0)).length = 16) := by show _ = _; simp [lp0.out]
    refine regS_start (Grow g4) (by kernel_rfl) ?_
    try simp only [Act.put, List.setIfInBounds_toArray, List.set_cons_zero, List.set_cons_succ]
    refine regS_take (v := ?_) 0 (some 38) rfl rfl (by kernel_rfl) (by kernel_rfl) (by kernel_rfl) (fun _ _ _ h => h) (by rfl) (fun W hW => ?_) ?_
    rotate_left
    · (go_simp; try rfl)
    simp only [Act.put, List.setIfInBounds_toArray, List.set_cons_zero, List.set_cons_succ]
    refine regS_take (v := ?_) 1 (some 39) rfl rfl (by kernel_rfl) (by kernel_rfl) (by kernel_rfl) (fun _ _ _ h => h) (by rfl) (fun W hW => ?_) ?_
    rotate_left
    · (go_simp; try rfl)
    simp only [Act.put, List.setIfInBounds_toArray, List.set_cons_zero, List.set_cons_succ]
    refine regS_load 2 (some 40) (fun W hW => load_cell Tryz.underlying79 (C0.out W (HX.out.trans hW))) rfl rfl rfl rfl (by kernel_rfl) (by kernel_rfl) (by kernel_rfl) (fun _ _ _ h => h) (by rfl) ?_
    simp only [Act.put, List.setIfInBounds_toArray, List.set_cons_zero, List.set_cons_succ]
    refine regS_eff 3 rfl (by kernel_rfl) (fun K hK => ?_)
    go_simp
    refine (P0.out _).mono ?_
    rintro e w6 ⟨g6, hg6, rfl, hk6, hb⟩
    have K6 := Lib.hid hk6
    have F6 := Lib.hid ((hb.block _ (lt_of_heap (w := W5.drew) F5.out)).trans F5.out)
    have hE := Grow.of_ext (g := g4) hb
    clear hb hk6 hg6
    refine hK.out _ _ hE ?_
    have HX := Lib.hid (Pre.trans HX.out hE)
    clear hE hK K
    try simp only [Act.put, List.setIfInBounds_toArray, List.set_cons_zero, List.set_cons_succ]
    refine regS_eff 4 rfl (by kernel_rfl) (fun K hK => ?_)
    obtain ⟨w7, hrun, hblk, _, hgr⟩ := copy_run uT s8 (sT := 22) 3 w6 g4 0 Z 60 F6.out (some ⟨g4, 0, none⟩) (some ⟨g6, 0, none⟩) 8 16 8 8 w6.heap.size (B0.map bv) (by rw [List.length_map, lp0.out]; rfl) (fun _ => rfl) (row_of_heap K6.out (lt_of_heap K6.out)) (by rw [List.length_map, lp0.out, hlz.out]; decide) (bv_one _)
    rw [hsp0.out] at hblk
    have F7 := Lib.hid hblk
    refine step_cpy rfl (.tmp 38) (.tmp 41) 22 22 rfl hrun ?_
    have hE : Grow g4 w6 w7 := hgr
    clear hrun hblk hgr
    refine hK.out _ _ hE ?_
    have HX := Lib.hid (Pre.trans HX.out hE)
    clear hE hK K
    try simp only [Act.put, List.setIfInBounds_toArray, List.set_cons_zero, List.set_cons_succ]
    refine regS_done (by kernel_rfl) ?_
    clear F5 K6 F6
    go_upto_region 9 with (fail)
    have HX0 := HX
    clear HX
    have HX : Hid (Grow g4 W5 w7.drew) := HX0.out.trans (Grow.drew _ _)
    refine regS_start (Grow g4) (by kernel_rfl) ?_
    try simp only [Act.put, List.setIfInBounds_toArray, List.set_cons_zero, List.set_cons_succ]
    refine regS_take (v := ?_) 0 (some 43) rfl rfl (by kernel_rfl) (by kernel_rfl) (by kernel_rfl) (fun _ _ _ h => h) (by rfl) (fun W hW => ?_) ?_
    rotate_left
    · (go_simp; try rfl)
    simp only [Act.put, List.setIfInBounds_toArray, List.set_cons_zero, List.set_cons_succ]
    refine regS_take (v := ?_) 1 (some 44) rfl rfl (by kernel_rfl) (by kernel_rfl) (by kernel_rfl) (fun _ _ _ h => h) (by rfl) (fun W hW => ?_) ?_
    rotate_left
    · (go_simp; try rfl)
    simp only [Act.put, List.setIfInBounds_toArray, List.set_cons_zero, List.set_cons_succ]
    refine regS_load 2 (some 45) (fun W hW => load_cell Tryz.underlying79 (C1.out W (HX.out.trans hW))) rfl rfl rfl rfl (by kernel_rfl) (by kernel_rfl) (by kernel_rfl) (fun _ _ _ h => h) (by rfl) ?_
    simp only [Act.put, List.setIfInBounds_toArray, List.set_cons_zero, List.set_cons_succ]
    refine regS_eff 3 rfl (by kernel_rfl) (fun K hK => ?_)
    go_simp
    refine (P1.out _).mono ?_
    rintro e w8 ⟨g8, hg8, rfl, hk8, hb⟩
    have K8 := Lib.hid hk8
    have F8 := Lib.hid ((hb.block _ (lt_of_heap (w := w7.drew) F7.out)).trans F7.out)
    have hE := Grow.of_ext (g := g4) hb
    clear hb hk8 hg8
    refine hK.out _ _ hE ?_
    have HX := Lib.hid (Pre.trans HX.out hE)
    clear hE hK K
    try simp only [Act.put, List.setIfInBounds_toArray, List.set_cons_zero, List.set_cons_succ]
    refine regS_eff 4 rfl (by kernel_rfl) (fun K hK => ?_)
    obtain ⟨w9, hrun, hblk, _, hgr⟩ := copy_run uT s8 (sT := 22) 3 w8 g4 8 (B0.map bv ++ List.replicate 8 (Value.int .u8 0)) 60 F8.out (some ⟨g4, 8, none⟩) (some ⟨g8, 0, none⟩) 8 8 8 8 w8.heap.size (B1.map bv) (by rw [List.length_map, lp1.out]; rfl) (fun _ => rfl) (row_of_heap K8.out (lt_of_heap K8.out)) (by rw [List.length_map, lp1.out, hlz2.out]; decide) (bv_one _)
    rw [hsp1.out] at hblk
    have F9 := Lib.hid hblk
    refine step_cpy rfl (.tmp 43) (.tmp 46) 22 22 rfl hrun ?_
    have hE : Grow g4 w8 w9 := hgr
    clear hrun hblk hgr
    refine hK.out _ _ hE ?_
    have HX := Lib.hid (Pre.trans HX.out hE)
    clear hE hK K
    try simp only [Act.put, List.setIfInBounds_toArray, List.set_cons_zero, List.set_cons_succ]
    refine regS_done (by kernel_rfl) ?_
    simp only [List.getElem_toArray, List.getElem_cons_succ, List.getElem_cons_zero, List.set_cons_zero, List.set_cons_succ]
    have GB9 : Hid (Below w.heap.size w w9) := GB5.out.trans (HX.out.below hge.out GB5.out.size)
    have G9 := Lib.hid (HX.out.heap hne0.out G5.out)
    clear HX HX0 C0 C1 N5 G5 GB5 F7 F8 K8
    go_wp2_with (first
      | (refine wpList_ld rfl 60 (.tmp 4) rfl (load_arr arr16P rfl (i16p Q HQL.out) F9.out) ?_)
      | (refine wpList_st rfl 60 (.tmp 2) (.tmp 48) rfl (store_arr (cs := Q.map bv) (i16p Q HQL.out) (bv_one _) G9.out (by rw [List.length_map, HQL.out]; exact hlz.out)) ?_))
    have hres := setRow_heap w9 w.heap.size _ (Q.map bv).toArray 60 _ G9.out
    exact bodyPost_ret (results_cell_row (P := Tryz.prog) rfl _ _ w.heap.size 60 (Q.map bv).toArray (0, 0) _ rfl hres arr16P rfl (by rw [List.size_toArray]; exact i16p Q HQL.out)) rfl ⟨rfl, GB9.out.trans (grown_below (grown_setRow _ _ _) (Nat.le_refl _) GB9.out.size)⟩
end Go.Proofs.YtnhhgiebnhlfcaaGreatDoor

/- poly: Sum; the law's example. -/
namespace Go.Proofs.YtnhhgiebnhlfcaaGreatDoor
open Go.RowKit
set_option maxRecDepth 100000
set_option linter.unusedVariables false
set_option linter.unusedSimpArgs false
theorem PAt.ext {w w' : World} {g r s : Nat} {m : List UInt8} (h : PAt w g r s m) (hb : Ext w w') : PAt w' g r s m := (hb.block _ (lt_of_heap h)).trans h
/-- the sum of bytes by a key -/
def polyL (key b : List UInt8) : List UInt8 := psumL (rOf key) (sOf key) b
theorem polyL_len (key b : List UInt8) : (polyL key b).length = 16 := psumL_len _ _ _
def keyEx : List UInt8 := [2, 0, 0, 0, 0, 0, 0, 0, 0, 0, 0, 0, 0, 0, 0, 0, 7, 0, 0, 0, 0, 0, 0, 0, 0, 0, 0, 0, 0, 0, 0, 0]
def sumEx1 : List UInt8 := [7, 0, 0, 0, 0, 0, 0, 0, 0, 0, 0, 0, 0, 0, 0, 0]
def sumEx2 : List UInt8 := [13, 2, 0, 0, 0, 0, 0, 0, 0, 0, 0, 0, 0, 0, 0, 0]
theorem polyEx1 : polyL keyEx [] = sumEx1 := by decide +kernel
theorem polyEx2 : polyL keyEx [3] = sumEx2 := by decide +kernel
end Go.Proofs.YtnhhgiebnhlfcaaGreatDoor

/- aead: writeWhole (bytes with noughts behind, to whole 16 bytes). -/
namespace Go.Proofs.YtnhhgiebnhlfcaaGreatDoor
open Go.RowKit
set_option linter.unusedVariables false
set_option linter.unusedSimpArgs false
set_option maxRecDepth 100000
def padZ (n : Nat) : Nat := (16 - n % 16) % 16
/-- bytes with noughts behind, to whole 16 bytes -/
def whZ (b : List UInt8) : List UInt8 := b ++ List.replicate (padZ b.length) 0
theorem apart_of {w : World} {A : Option Addr} {c g : Nat} {b : List UInt8} (hS : Sl w A c b) (hg : 0 < b.length → ∀ x, A = some x → x.block ≠ g) : 0 < b.length → ApartG A g := hg
set_option maxHeartbeats 2000000 in
theorem writeWhole_any (g r s : Nat) (m : List UInt8) (A : Option Addr) (k c : Nat) (b : List UInt8) (w : World) (hr : r < 21267647932558653966460912964485513216) (hb : b.length = k) (hk : k ≤ 2147000000) (hA : 0 < k → ApartG A g) (hS : Sl w A c b) (H : PAt w g r s m) :
    Calls Tryz.prog 139 #[.pointer (some ⟨g, 0, none⟩), .slice A k c] w fun e w' => (∃ v, e = .returned v) ∧ PAt w' g r s (m ++ whZ b) ∧ w.grownBy w' (some g) := by
  have WA := Lib.hid (pwrite_any g r s m A k c b w hr hb hk hA hS H)
  obtain ⟨p, hp⟩ : ∃ p, p = padZ k := ⟨_, rfl⟩
  have hp16 : p < 16 := by rw [hp, padZ]; omega
  have WZ := Lib.hid (fun A c W hA hS H => pwrite_any g r s (m ++ b) A p c (List.replicate p 0) W hr (List.length_replicate) (by omega) hA hS H)
  have hmk : ∀ W, (Instr.makeSlice 22 (.int .i64 (p : Int)) (.int .i64 (p : Int))).run Tryz.prog W = .ok (.slice (some ⟨W.heap.size, 0, none⟩) p p) (W.alloc (.cells ((List.replicate p (0 : UInt8)).map bv).toArray 5)) := fun W => by
    rw [List.map_replicate]; exact make_run (P := Tryz.prog) uT made8 rfl .i64 .i64 p (by omega) (by omega) W
  have u1 : (16 - (k : Int) % 16) % 16 = (p : Int) := by rw [hp, padZ]; omega
  have HG : Hid (g < w.heap.size) := lt_of_heap H
  have HW : Hid (m ++ b ++ List.replicate p 0 = m ++ whZ b) := by show _ = _; rw [whZ, hb, ← hp, List.append_assoc]
  rw [HW.out] at WZ
  obtain ⟨Z, HZ⟩ : ∃ Z, Hid (List.replicate p (0 : UInt8) = Z) := ⟨_, rfl⟩
  rw [HZ.out] at WZ hmk
  have HZL : Hid (Z.length = p) := by show _ = _; rw [← HZ.out, List.length_replicate]
  clear hb hk hA hS H hr HZ HW hp
  go_enter Tryz.func139, Tryz.ntmps139
  go_wp2_with fail
  refine WA.out.mono ?_
  rintro e w1 ⟨⟨v1, rfl⟩, hP, hg1⟩
  have P1 := Lib.hid hP; have G1 := Lib.hid hg1
  clear hP hg1 WA
  go_wp2_with fail
  have HN := Lib.hid (heap_alloc_new' w1 (.cells (Z.map bv).toArray 5))
  have HB : Hid (Ext w1 (w1.alloc (.cells (Z.map bv).toArray 5))) := (Below.refl _ _).alloc (Nat.le_refl _) _
  have HGN : Hid (g ≠ w1.heap.size) := by have := HG.out; have := G1.out.size; show _ ≠ _; omega
  generalize hV : w1.alloc _ = W1 at HN HB ⊢
  clear hV
  generalize w1.heap.size = q at HN HGN ⊢
  refine (WZ.out (some ⟨q, 0, none⟩) p W1 (fun _ a ha => by injection ha with ha; rw [← ha]; exact HGN.out.symm) (sl_row HZL.out (by omega) HN.out) (P1.out.ext HB.out)).mono ?_
  rintro e w2 ⟨⟨v2, rfl⟩, hP, hg2⟩
  have P2 := Lib.hid hP; have G2 := Lib.hid hg2
  clear hP hg2
  go_wp2
  exact bodyPost_end (v := .tuple #[]) (by simp [results, Tryz.results139, go_sem]) rfl ⟨⟨_, rfl⟩, P2.out, gr_trans (gr_trans G1.out (gr_of HB.out)) G2.out⟩
end Go.Proofs.YtnhhgiebnhlfcaaGreatDoor

/- aead: tag. -/
namespace Go.Proofs.YtnhhgiebnhlfcaaGreatDoor
open Go.RowKit
set_option linter.unusedVariables false
set_option linter.unusedSimpArgs false
set_option maxRecDepth 100000
/-- the one key of a key and a nonce -/
def oneL (key nonce : List UInt8) : List UInt8 := (blockC key nonce 0#32).take 32
theorem oneL_len (key nonce : List UInt8) : (oneL key nonce).length = 32 := by rw [oneL, List.length_take, blockC_len]; rfl
/-- what is summed -/
def taggedL (aad x : List UInt8) : List UInt8 := whZ aad ++ whZ x ++ putLittle aad.length 8 ++ putLittle x.length 8
def tagL (key nonce aad x : List UInt8) : List UInt8 := polyL (oneL key nonce) (taggedL aad x)
theorem tagL_len (key nonce aad x : List UInt8) : (tagL key nonce aad x).length = 16 := polyL_len _ _
theorem PAt.lt' {w : World} {g r s : Nat} {m : List UInt8} (H : PAt w g r s m) : g < w.heap.size := lt_of_heap H
theorem apart_ge {w : World} {A : Option Addr} {c k g : Nat} {b : List UInt8} (hS : Sl w A c b) (hb : b.length = k) (hg : w.heap.size ≤ g) : 0 < k → ApartG A g := by
  intro h0 a ha
  obtain ⟨b1, o1, he, hb1, _⟩ := hS.2.2.at_ (by rw [List.length_map, hb]; exact h0)
  rw [he] at ha
  injection ha with ha
  rw [← ha]; show b1 ≠ g; omega
set_option maxHeartbeats 4000000 in
theorem atag_any (key nonce : List UInt8) (A3 A4 : Option Addr) (k3 c3 k4 c4 : Nat) (aad x : List UInt8) (w : World) (hk : key.length = 32) (hn : nonce.length = 12) (h3 : aad.length = k3) (h4 : x.length = k4) (h31 : k3 ≤ 2147000000) (h41 : k4 ≤ 2147000000)
    (S3 : Sl w A3 c3 aad) (S4 : Sl w A4 c4 x) :
    Calls Tryz.prog 105 #[.agg (key.map bv).toArray, .agg (nonce.map bv).toArray, .slice A3 k3 c3, .slice A4 k4 c4] w fun e w' => e = .returned (.agg ((tagL key nonce aad x).map bv).toArray) ∧ Below w.heap.size w w' := by
  have hz : ∀ W, (zeroValue 60).run Tryz.prog W = .ok (.agg zer16.toArray) W := fun W => by kernel_rfl
  have hlz : Hid (zer16.length = 16) := rfl
  have BL : Hid (∀ W, Calls Tryz.prog 137 #[.agg (key.map bv).toArray, .agg (nonce.map bv).toArray, .int .u32 0] W fun e w' => e = .returned (.agg ((blockC key nonce 0#32).map bv).toArray) ∧ Below W.heap.size W w') := fun W => cblock_any key nonce 0#32 W hk hn
  have HOL := Lib.hid (oneL_len key nonce)
  have HOE : Hid ((blockC key nonce 0#32).take 32 = oneL key nonce) := rfl
  have HXL : Hid ((blockC key nonce 0#32).length = 64) := blockC_len _ _ _
  have HTE : Hid (psumL (rOf (oneL key nonce)) (sOf (oneL key nonce)) (taggedL aad x) = tagL key nonce aad x) := rfl
  have LP := Lib.hid (tagL_len key nonce aad x)
  generalize tagL key nonce aad x = Q at HTE LP ⊢
  generalize blockC key nonce 0#32 = X at BL HOE HXL
  obtain ⟨one, hone⟩ : ∃ one, oneL key nonce = one := ⟨_, rfl⟩
  rw [hone] at HOL HOE HTE
  clear hone
  have hr := rOf_lt one HOL.out
  have HR := Lib.hid hr
  have NA := Lib.hid (fun W => pnew_any one W HOL.out)
  have HK := Lib.hid hk; have HN := Lib.hid hn; have H3 := Lib.hid h3; have H4 := Lib.hid h4; have HS3 := Lib.hid S3; have HS4 := Lib.hid S4
  generalize rOf one = r at hr NA HR HTE
  generalize sOf one = s at NA HTE
  have WW3 := Lib.hid (fun g m A W hA hS H => writeWhole_any g r s m A k3 c3 aad W hr h3 h31 hA hS H)
  have WW4 := Lib.hid (fun g m A W hA hS H => writeWhole_any g r s m A k4 c4 x W hr h4 h41 hA hS H)
  have HA3 := Lib.hid (fun g hg => apart_ge (g := g) S3 h3 hg)
  have HA4 := Lib.hid (fun g hg => apart_ge (g := g) S4 h4 hg)
  have PL3 := Lib.hid (fun W => putLittle_any k3 8 W (by omega) (by omega))
  have PL4 := Lib.hid (fun W => putLittle_any k4 8 W (by omega) (by omega))
  have LL3 := Lib.hid (putLittle_len k3 8)
  have LL4 := Lib.hid (putLittle_len k4 8)
  have WL3 := Lib.hid (fun g m A W hA hS H => pwrite_any g r s m A 8 8 (putLittle k3 8) W hr (putLittle_len k3 8) (by omega) hA hS H)
  have WL4 := Lib.hid (fun g m A W hA hS H => pwrite_any g r s m A 8 8 (putLittle k4 8) W hr (putLittle_len k4 8) (by omega) hA hS H)
  have SA := Lib.hid (fun g m W H => pstSum_any g r s m W hr H)
  have HM : Hid ([] ++ whZ aad ++ whZ x ++ putLittle k3 8 ++ putLittle k4 8 = taggedL aad x) := by show _ = _; rw [taggedL, h3, h4]; simp only [List.nil_append]
  generalize putLittle k3 8 = L3 at PL3 LL3 WL3 HM
  generalize putLittle k4 8 = L4 at PL4 LL4 WL4 HM
  have q3 : (k3 : Int) ≤ 2147000000 := by omega
  have q4 : (k4 : Int) ≤ 2147000000 := by omega
  generalize zer16 = Z at hz hlz
  clear hk hn h3 h4 S3 S4 hr h31 h41
  have G := Lib.hid (heap3 w (.cells (key.map bv).toArray 107) (.cells (nonce.map bv).toArray 123) (.cells Z.toArray 60))
  go_enter Tryz.func105, Tryz.ntmps105
  go_upto_region 1 with (fail)
  generalize hV : ((w.alloc _).alloc _).alloc _ = W0 at G ⊢
  clear hV
  have GB : Hid (Below w.heap.size w W0) := G.out.2.2.2
  have GN : Hid (W0.heap[w.heap.size + 2]? = some (.cells Z.toArray 60 (0, 0))) := G.out.2.2.1
  go_upto_region 2 with (first
    | (refine wpList_ld rfl 107 (.tmp 4) rfl (load_arr arr32K rfl (i32K' key HK.out) G.out.1) ?_)
    | (refine wpList_ld rfl 123 (.tmp 5) rfl (load_arr arr12B rfl (i12B' nonce HN.out) G.out.2.1) ?_))
  refine (BL.out W0).mono ?_
  rintro e w1 ⟨rfl, hb1⟩
  have GB1 : Hid (Below w.heap.size w w1) := GB.out.step hb1
  have GN1 := Lib.hid ((hb1.block _ (lt_of_heap GN.out)).trans GN.out)
  clear hb1 G GB GN BL
  go_upto_region 2 with (first
    | (refine wpList_st rfl 157 (.tmp 9) (.tmp 13) rfl (store_arr (cs := X.map bv) (old := List.replicate 64 (Value.int .u8 0)) (by rw [List.length_map, HXL.out]; exact i64Bc) (bv_one _) (heap_alloc_new' w1 _) (by rw [List.length_map, HXL.out]; exact List.length_replicate)) ?_
       generalize hV : World.setRow _ _ _ = W2
       have M1 := Lib.hid (heap_of_setRow hV (heap_alloc_new' w1 _))
       have MB := Lib.hid (((Below.refl w1.heap.size w1).alloc (Nat.le_refl _) _).trans (below_of_setRow hV (Nat.le_refl w1.heap.size) (by simp)))
       clear hV)
    | fail)
  have GB2 : Hid (Below w.heap.size w W2) := GB1.out.step MB.out
  have GN2 := Lib.hid ((MB.out.block _ (lt_of_heap GN1.out)).trans GN1.out)
  clear GB1 GN1 MB
  generalize w1.heap.size = q at M1 ⊢
  have ar1 := arr_to arr64B s8 ⟨q, 0, none⟩ .i64 32 (by omega) (by omega)
  rw [show (32 : Int).toNat = 32 from rfl] at ar1
  have ar2 := arr_ptr32 (some ⟨q, 0, none⟩) 32 64 (by omega)
  have RO : Hid (W2.rangeAt q 0 (one.map bv)) := by
    intro j v hv
    rw [← HOE.out] at hv
    have hj := (List.getElem?_eq_some_iff.1 hv).1
    rw [List.length_map, List.length_take] at hj
    rw [Nat.zero_add, cell_of_heap M1.out, ← hv, List.map_take, List.getElem?_take_of_lt (by omega)]
  go_wp2_with (first
    | (refine wpList_ld rfl 107 (.tmp 15) rfl (run_loadAt_mid _ q 0 107 (one.map bv) _ RO.out arr32K rfl (i32K' one HOL.out)) ?_))
  refine (NA.out W2).mono ?_
  rintro e w3 ⟨g, hg, rfl, hP, hb3⟩
  have ST3 := Lib.hid hP
  have HG : Hid (w.heap.size + 2 < g) := Nat.lt_of_lt_of_le (lt_of_heap GN2.out) hg
  have GB3 : Hid (Below w.heap.size w w3) := GB2.out.step hb3
  have GN3 := Lib.hid ((hb3.block _ (lt_of_heap GN2.out)).trans GN2.out)
  have HGE : Hid (w.heap.size ≤ g) := by have := HG.out; show _ ≤ _; omega
  clear hP hg hb3 GB2 GN2 RO M1 ar1 ar2 NA HXL HOE
  go_wp2_with fail
  refine (WW3.out g [] A3 w3 (HA3.out g HGE.out) (HS3.out.below GB3.out) ST3.out).mono ?_
  rintro e w4 ⟨⟨v4, rfl⟩, hP, hgr⟩
  have ST4 := Lib.hid hP
  have GB4 : Hid (Below w.heap.size w w4) := GB3.out.trans (grown_below hgr HGE.out GB3.out.size)
  have GN4 := Lib.hid ((hgr.block _ (lt_of_heap GN3.out) (by have := HG.out; simp; omega)).trans GN3.out)
  clear hP hgr GB3 GN3 ST3
  go_wp2_with fail
  refine (WW4.out g _ A4 w4 (HA4.out g HGE.out) (HS4.out.below GB4.out) ST4.out).mono ?_
  rintro e w5 ⟨⟨v5, rfl⟩, hP, hgr⟩
  have ST5 := Lib.hid hP
  have GB5 : Hid (Below w.heap.size w w5) := GB4.out.trans (grown_below hgr HGE.out GB4.out.size)
  have GN5 := Lib.hid ((hgr.block _ (lt_of_heap GN4.out) (by have := HG.out; simp; omega)).trans GN4.out)
  clear hP hgr GB4 GN4 ST4
  go_wp2_with fail
  refine (PL3.out w5).mono ?_
  rintro e w6 ⟨q6, hq, rfl, hk, hb⟩
  have S6 := Lib.hid (sl_row LL3.out (by omega) hk)
  have A6 : Hid (0 < 8 → ApartG (some ⟨q6, 0, none⟩) g) := fun _ a ha => by
    injection ha with ha; rw [← ha]; have := ST5.out.lt'; show q6 ≠ g; omega
  have ST6 := Lib.hid (ST5.out.ext hb)
  have GB6 : Hid (Below w.heap.size w w6) := GB5.out.step hb
  have GN6 := Lib.hid ((hb.block _ (lt_of_heap GN5.out)).trans GN5.out)
  clear hq hk hb ST5 GB5 GN5
  go_wp2_with fail
  refine (WL3.out g _ (some ⟨q6, 0, none⟩) w6 A6.out S6.out ST6.out).mono ?_
  rintro e w7 ⟨⟨v7, rfl⟩, hP, hgr⟩
  have ST7 := Lib.hid hP
  have GB7 : Hid (Below w.heap.size w w7) := GB6.out.trans (grown_below hgr HGE.out GB6.out.size)
  have GN7 := Lib.hid ((hgr.block _ (lt_of_heap GN6.out) (by have := HG.out; simp; omega)).trans GN6.out)
  clear hP hgr GB6 GN6 ST6 S6 A6
  go_wp2_with fail
  refine (PL4.out w7).mono ?_
  rintro e w8 ⟨q8, hq, rfl, hk, hb⟩
  have S8 := Lib.hid (sl_row LL4.out (by omega) hk)
  have A8 : Hid (0 < 8 → ApartG (some ⟨q8, 0, none⟩) g) := fun _ a ha => by
    injection ha with ha; rw [← ha]; have := ST7.out.lt'; show q8 ≠ g; omega
  have ST8 := Lib.hid (ST7.out.ext hb)
  have GB8 : Hid (Below w.heap.size w w8) := GB7.out.step hb
  have GN8 := Lib.hid ((hb.block _ (lt_of_heap GN7.out)).trans GN7.out)
  clear hq hk hb ST7 GB7 GN7
  go_wp2_with fail
  refine (WL4.out g _ (some ⟨q8, 0, none⟩) w8 A8.out S8.out ST8.out).mono ?_
  rintro e w9 ⟨⟨v9, rfl⟩, hP, hgr⟩
  have ST9 := Lib.hid hP
  have GB9 : Hid (Below w.heap.size w w9) := GB8.out.trans (grown_below hgr HGE.out GB8.out.size)
  have GN9 := Lib.hid ((hgr.block _ (lt_of_heap GN8.out) (by have := HG.out; simp; omega)).trans GN8.out)
  clear hP hgr GB8 GN8 ST8 S8 A8
  go_wp2_with fail
  have ST9' := ST9.out
  rw [HM.out] at ST9'
  refine (SA.out g _ w9 ST9').mono ?_
  rw [HTE.out]
  rintro e w10 ⟨rfl, hb⟩
  have B10 : Hid (Below w.heap.size w w10) := GB9.out.step hb
  have N10 := Lib.hid ((hb.block _ (lt_of_heap GN9.out)).trans GN9.out)
  clear hb GB9 GN9 ST9 ST9'
  go_wp2_with (first
    | (refine wpList_st rfl 60 (.tmp 8) (.tmp 37) rfl (store_arr (cs := Q.map bv) (i16p Q LP.out) (bv_one _) N10.out (by rw [List.length_map, LP.out]; exact hlz.out)) ?_))
  have hres := setRow_heap w10 (w.heap.size + 2) _ (Q.map bv).toArray 60 _ N10.out
  exact bodyPost_ret (results_cell_row (P := Tryz.prog) rfl _ _ (w.heap.size + 2) 60 (Q.map bv).toArray (0, 0) _ rfl hres arr16P rfl (by rw [List.size_toArray]; exact i16p Q LP.out)) rfl ⟨rfl, B10.out.trans (grown_below (grown_setRow _ _ _) (by omega) B10.out.size)⟩
end Go.Proofs.YtnhhgiebnhlfcaaGreatDoor

/- aead: what Seal and Open hand to both. -/
namespace Go.Proofs.YtnhhgiebnhlfcaaGreatDoor
open Go.RowKit
set_option linter.unusedVariables false
set_option linter.unusedSimpArgs false
set_option maxRecDepth 100000
/-- bytes, sealed -/
def sealE (key nonce aad b : List UInt8) : List UInt8 := cryptC key nonce 1#32 b ++ tagL key nonce aad (cryptC key nonce 1#32 b)
theorem sealE_len (key nonce aad b : List UInt8) : (sealE key nonce aad b).length = b.length + 16 := by rw [sealE, List.length_append, cryptC_len, tagL_len]
/-- what a box of a slice holds -/
theorem box_ext {W W' : World} {g : Nat} {v : Value} {t : TypeId} {fr : Nat × Nat} (h : W.heap[g]? = some (.cells #[v] t fr)) (hE : Below W.heap.size W W') : W'.heap[g]? = some (.cells #[v] t fr) := (hE.block _ (lt_of_heap h)).trans h
theorem box_cell {W : World} {g : Nat} {v : Value} {t : TypeId} {fr : Nat × Nat} (h : W.heap[g]? = some (.cells #[v] t fr)) : W.cell? ⟨g, 0, none⟩ = some v := by rw [cell_of_heap (cs := [v]) h]; rfl
theorem ge_ownE {a g : Nat} (h : a ≤ g) {n c : Nat} : ∀ k, (Value.slice (some ⟨g, 0, none⟩) n c).ownBlock = some k → a ≤ k := by
  intro k hk
  simp [Value.ownBlock] at hk
  omega
set_option maxHeartbeats 4000000 in
theorem seal1_any (key nonce : List UInt8) (g2 g3 : Nat) (A3 A4 : Option Addr) (k3 c3 k4 c4 : Nat) (aad x : List UInt8) (w : World) (hk : key.length = 32) (hn : nonce.length = 12) (h3 : aad.length = k3) (h4 : x.length = k4) (h31 : k3 ≤ 100000) (h41 : k4 ≤ 100000)
    (S3 : Sl w A3 c3 aad) (S4 : Sl w A4 c4 x) (H2 : w.heap[g2]? = some (.cells #[.slice A4 k4 c4] 22 (0, 0))) (H3 : w.heap[g3]? = some (.cells #[.slice A3 k3 c3] 22 (0, 0))) :
    Calls Tryz.prog 103 #[.agg (key.map bv).toArray, .agg (nonce.map bv).toArray, .pointer (some ⟨g2, 0, none⟩), .pointer (some ⟨g3, 0, none⟩)] w fun e w' =>
      ∃ v, e = .returned (.tuple #[v, .int .i64 0]) ∧ w'.ownsRow w.heap.size 5 1 v (k4 + 16) ((sealE key nonce aad x).map bv) ∧ Below w.heap.size w w' := by
  have hz : ∀ W, (zeroValue 60).run Tryz.prog W = .ok (.agg zer16.toArray) W := fun W => by kernel_rfl
  have hlz : Hid (zer16.length = 16) := rfl
  have HK := Lib.hid hk; have HN := Lib.hid hn; have HS3 := Lib.hid S3; have HS4 := Lib.hid S4; have HH2 := Lib.hid H2; have HH3 := Lib.hid H3
  have CR : Hid (∀ W, Sl W A4 c4 x → Calls Tryz.prog 104 #[.agg (key.map bv).toArray, .agg (nonce.map bv).toArray, .int .u32 1, .slice A4 k4 c4] W (NewRow W k4 (cryptC key nonce 1#32 x))) := fun W hS => crypt_any key nonce 1#32 A4 k4 c4 x W hk hn h4 h41 hS
  have HCL : Hid ((cryptC key nonce 1#32 x).length = k4) := by show _ = _; rw [cryptC_len]; exact h4
  have TA := Lib.hid (fun A W hS3 hS => atag_any key nonce A3 A k3 c3 k4 k4 aad (cryptC key nonce 1#32 x) W hk hn h3 HCL.out (by omega) (by omega) hS3 hS)
  have HSE : Hid (cryptC key nonce 1#32 x ++ tagL key nonce aad (cryptC key nonce 1#32 x) = sealE key nonce aad x) := rfl
  have HTL := Lib.hid (tagL_len key nonce aad (cryptC key nonce 1#32 x))
  generalize tagL key nonce aad (cryptC key nonce 1#32 x) = T at TA HSE HTL
  generalize cryptC key nonce 1#32 x = C at CR HCL TA HSE
  generalize sealE key nonce aad x = R at HSE ⊢
  generalize zer16 = Z at hz hlz
  have G := Lib.hid (heap2c w (.cells (key.map bv).toArray 107) (.cells (nonce.map bv).toArray 123))
  have q4 : (k4 : Int) + 16 ≤ 2147483647 := by omega
  clear hk hn h3 h4 S3 S4 H2 H3 h31
  go_enter Tryz.func103, Tryz.ntmps103
  go_upto_region 1 with (fail)
  generalize hV : (w.alloc _).alloc _ = W0 at G ⊢
  clear hV
  have B0 : Hid (Below w.heap.size w W0) := G.out.2.2
  have K0 := Lib.hid G.out.1
  have N0 := Lib.hid G.out.2.1
  clear G
  have c2 := box_cell (box_ext HH2.out B0.out)
  go_upto_region 2 with (first
    | (refine wpList_ld rfl 107 (.tmp 4) rfl (load_arr arr32K rfl (i32K' key HK.out) K0.out) ?_)
    | (refine wpList_ld rfl 123 (.tmp 5) rfl (load_arr arr12B rfl (i12B' nonce HN.out) N0.out) ?_))
  refine (CR.out W0 (HS4.out.below B0.out)).mono ?_
  rintro e w1 ⟨g, hg, rfl, hk1, hb1⟩
  have B1 : Hid (Below w.heap.size w w1) := B0.out.step hb1
  have K1 := Lib.hid ((hb1.block _ (lt_of_heap K0.out)).trans K0.out)
  have N1 := Lib.hid ((hb1.block _ (lt_of_heap N0.out)).trans N0.out)
  have C1 := Lib.hid hk1
  have HG : Hid (w.heap.size ≤ g) := Nat.le_trans B0.out.size hg
  clear hg hk1 hb1 B0 K0 N0 c2 CR
  have c3' := box_cell (box_ext HH3.out B1.out)
  go_wp2_with (first
    | (refine wpList_ld rfl 107 (.tmp 4) rfl (load_arr arr32K rfl (i32K' key HK.out) K1.out) ?_)
    | (refine wpList_ld rfl 123 (.tmp 5) rfl (load_arr arr12B rfl (i12B' nonce HN.out) N1.out) ?_))
  refine (TA.out (some ⟨g, 0, none⟩) w1 (HS3.out.below B1.out) (sl_row HCL.out (by omega) C1.out)).mono ?_
  rintro e w2 ⟨rfl, hb2⟩
  have B2 : Hid (Below w.heap.size w w2) := B1.out.step hb2
  have C2 := Lib.hid ((hb2.block _ (lt_of_heap C1.out)).trans C1.out)
  clear hb2 B1 K1 N1 C1 c3' TA
  have ar := arr_all arr16P s8 ⟨w2.heap.size, 0, none⟩
  go_wp2_with (first
    | (refine wpList_st rfl 60 (.tmp 9) (.tmp 18) rfl (store_arr (cs := T.map bv) (i16p T HTL.out) (bv_one _) (heap_alloc_new' w2 _) (by rw [List.length_map, HTL.out]; exact hlz.out)) ?_
       generalize hV : World.setRow _ _ _ = W3
       have M3 := Lib.hid (heap_of_setRow hV (heap_alloc_new' w2 _))
       have MB := Lib.hid (((Below.refl w2.heap.size w2).alloc (Nat.le_refl _) _).trans (below_of_setRow hV (Nat.le_refl w2.heap.size) (by simp)))
       clear hV)
    | (at_builtin
       refine wpList_app8 rfl (.tmp 19) (.tmp 20) rfl w.heap.size _ k4 C rfl ?_ (some ⟨w2.heap.size, 0, none⟩) 16 16 W3.heap.size T rfl ?_ ?_ ?_ ?_ ?_
       · exact own_heap ((MB.out.block _ (lt_of_heap C2.out)).trans C2.out) HG.out HCL.out (by unfold maxLen; omega)
       · exact (sl_row HTL.out (by omega) M3.out).2.2
       · exact HTL.out
       · omega
       · exact (B2.out.step MB.out).size
       rintro v4 w4 hown hgr
       have HO4 := Lib.hid hown
       have B4 : Hid (Below w.heap.size w w4) := (B2.out.step MB.out).grown hgr (B2.out.step MB.out).size (ge_ownE HG.out)
       clear hown hgr)
    | fail)
  go_ret2
  exact ⟨_, rfl, by rw [← HSE.out]; exact HO4.out, B4.out⟩
end Go.Proofs.YtnhhgiebnhlfcaaGreatDoor

/- aead: Open's own function; Seal and Open. -/
namespace Go.Proofs.YtnhhgiebnhlfcaaGreatDoor
open Go.RowKit
set_option linter.unusedVariables false
set_option linter.unusedSimpArgs false
set_option maxRecDepth 100000
theorem own_monoE {w : World} {base b' : Nat} {e : TypeId} {s : Nat} {v : Value} {n : Nat} {xs : List Value} (h : w.ownsRow base e s v n xs) (hb : b' ≤ base) : w.ownsRow b' e s v n xs := by
  obtain ⟨h0, h | ⟨g, cap, cur, hv, hg, r⟩⟩ := h
  · exact ⟨h0, .inl h⟩
  · exact ⟨h0, .inr ⟨g, cap, cur, hv, Nat.le_trans hb hg, r⟩⟩
/-- what opening comes to -/
def OpenE (w : World) (key nonce aad b : List UInt8) (m : Nat) (v : Value) (x : Int) (w' : World) : Prop :=
  if tagL key nonce aad (b.take m) = b.drop m then x = 0 ∧ w'.ownsRow w.heap.size 5 1 v m ((cryptC key nonce 1#32 (b.take m)).map bv) else v = .slice none 0 0 ∧ x = 7
set_option maxHeartbeats 4000000 in
theorem open1_short (key nonce : List UInt8) (g2 g3 : Nat) (A4 : Option Addr) (k4 c4 : Nat) (w : World) (h41 : k4 < 16)
    (H2 : w.heap[g2]? = some (.cells #[.slice A4 k4 c4] 22 (0, 0))) :
    Calls Tryz.prog 106 #[.agg (key.map bv).toArray, .agg (nonce.map bv).toArray, .pointer (some ⟨g2, 0, none⟩), .pointer (some ⟨g3, 0, none⟩)] w fun e w' =>
      e = .returned (.tuple #[.slice none 0 0, .int .i64 17]) ∧ Below w.heap.size w w' := by
  have HH2 := Lib.hid H2
  have G := Lib.hid (heap2c w (.cells (key.map bv).toArray 107) (.cells (nonce.map bv).toArray 123))
  have u1 : (k4 : Int) - 16 < 0 := by omega
  clear H2
  go_enter Tryz.func106, Tryz.ntmps106
  go_upto_region 1 with (fail)
  generalize hV : (w.alloc _).alloc _ = W0 at G ⊢
  clear hV
  have B0 : Hid (Below w.heap.size w W0) := G.out.2.2
  clear G
  have c2 := box_cell (box_ext HH2.out B0.out)
  go_wp2_with fail
  go_ret2
  exact ⟨rfl, B0.out⟩
set_option maxHeartbeats 8000000 in
theorem open1_any (key nonce : List UInt8) (g2 g3 : Nat) (A3 A4 : Option Addr) (k3 c3 k4 c4 m : Nat) (aad x : List UInt8) (w : World) (hk : key.length = 32) (hn : nonce.length = 12) (h3 : aad.length = k3) (h4 : x.length = k4) (h31 : k3 ≤ 100000) (h41 : k4 ≤ 100000) (hm : k4 = m + 16)
    (S3 : Sl w A3 c3 aad) (S4 : Sl w A4 c4 x) (H2 : w.heap[g2]? = some (.cells #[.slice A4 k4 c4] 22 (0, 0))) (H3 : w.heap[g3]? = some (.cells #[.slice A3 k3 c3] 22 (0, 0))) :
    Calls Tryz.prog 106 #[.agg (key.map bv).toArray, .agg (nonce.map bv).toArray, .pointer (some ⟨g2, 0, none⟩), .pointer (some ⟨g3, 0, none⟩)] w fun e w' =>
      ∃ v y, e = .returned (.tuple #[v, .int .i64 y]) ∧ Below w.heap.size w w' ∧ OpenE w key nonce aad x m v y w' := by
  have hz : ∀ W, (zeroValue 60).run Tryz.prog W = .ok (.agg zer16.toArray) W := fun W => by kernel_rfl
  have hlz : Hid (zer16.length = 16) := rfl
  have HK := Lib.hid hk; have HN := Lib.hid hn; have HS3 := Lib.hid S3; have HS4 := Lib.hid S4; have HH2 := Lib.hid H2; have HH3 := Lib.hid H3
  have htl : (x.take m).length = m := by rw [List.length_take, h4]; omega
  have hdl : (x.drop m).length = 16 := by rw [List.length_drop, h4]; omega
  have HDL := Lib.hid hdl
  have ST := Lib.hid (sl_take' (q := m) S4)
  have SD := Lib.hid (sl_cut (k := m) S4 (by omega))
  have CR : Hid (∀ W, Sl W A4 c4 (x.take m) → Calls Tryz.prog 104 #[.agg (key.map bv).toArray, .agg (nonce.map bv).toArray, .int .u32 1, .slice A4 m c4] W (NewRow W m (cryptC key nonce 1#32 (x.take m)))) := fun W hS => crypt_any key nonce 1#32 A4 m c4 (x.take m) W hk hn htl (by omega) hS
  have HCL : Hid ((cryptC key nonce 1#32 (x.take m)).length = m) := by show _ = _; rw [cryptC_len]; exact htl
  have TA := Lib.hid (fun W hS3 hS => atag_any key nonce A3 A4 k3 c3 m c4 aad (x.take m) W hk hn h3 htl (by omega) (by omega) hS3 hS)
  have HTL := Lib.hid (tagL_len key nonce aad (x.take m))
  have EQ := Lib.hid (fun A W hS hS' => equal_n A (cutS A4 c4 m) 16 16 16 (c4 - m) (tagL key nonce aad (x.take m)) (x.drop m) W HTL.out hdl hS hS' (by omega) (by omega))
  unfold OpenE
  generalize tagL key nonce aad (x.take m) = T at TA HTL EQ ⊢
  generalize cryptC key nonce 1#32 (x.take m) = C at CR HCL ⊢
  generalize x.take m = X1 at ST TA CR
  generalize x.drop m = X2 at SD EQ HDL ⊢
  generalize zer16 = Z at hz hlz
  have sl1 := cut_to uT s8 A4 k4 c4 .i64 (m : Int) (by omega) (by have := S4.1; omega)
  have sl2 := cut_from uT s8 A4 k4 c4 .i64 (m : Int) (by omega) (by omega)
  rw [Int.toNat_natCast] at sl1 sl2
  rw [show k4 - m = 16 by omega] at sl2
  have u1 : (k4 : Int) - 16 = (m : Int) := by omega
  have hmc : m ≤ c4 := by have := S4.1; omega
  have hmk : m ≤ k4 := by omega
  have G := Lib.hid (heap2c w (.cells (key.map bv).toArray 107) (.cells (nonce.map bv).toArray 123))
  have hkm : k4 ≤ 100000 ∧ m ≤ 100000 := by omega
  clear hk hn h3 h4 S3 S4 H2 H3 h31 htl hdl hm
  go_enter Tryz.func106, Tryz.ntmps106
  go_upto_region 1 with (fail)
  generalize hV : (w.alloc _).alloc _ = W0 at G ⊢
  clear hV
  have B0 : Hid (Below w.heap.size w W0) := G.out.2.2
  have K0 := Lib.hid G.out.1
  have N0 := Lib.hid G.out.2.1
  clear G
  have c2 := box_cell (box_ext HH2.out B0.out)
  go_upto_region 4 with (fail)
  clear c2
  have BX : Hid (Below w.heap.size w W0.drew) := B0.out.drew
  have HX : Hid (Below W0.heap.size W0.drew W0.drew) := Below.refl _ _
  have K0 : Hid (W0.drew.heap[w.heap.size]? = _) := K0.out
  have N0 : Hid (W0.drew.heap[w.heap.size + 1]? = _) := N0.out
  have hsz : Hid (W0.drew.heap.size = W0.heap.size) := rfl
  have LK : w.heap.size < W0.heap.size := lt_of_heap K0.out
  have LN : w.heap.size + 1 < W0.heap.size := lt_of_heap N0.out
  refine regB_start (W0.heap.size) (by kernel_rfl) ?_
  try simp only [Act.put, List.setIfInBounds_toArray, List.set_cons_zero, List.set_cons_succ]
  generalize W0.drew = WD at HX BX K0 N0 hsz ⊢
  refine regB_load 0 (some 15) (fun W hW => load_arr arr32K rfl (i32K' key HK.out) ((hW.block _ LK).trans K0.out)) rfl rfl rfl rfl (by kernel_rfl) (by kernel_rfl) (by kernel_rfl) (fun _ _ _ h => h) (by rfl) ?_
  simp only [Act.put, List.setIfInBounds_toArray, List.set_cons_zero, List.set_cons_succ]
  refine regB_load 1 (some 16) (fun W hW => load_arr arr12B rfl (i12B' nonce HN.out) ((hW.block _ LN).trans N0.out)) rfl rfl rfl rfl (by kernel_rfl) (by kernel_rfl) (by kernel_rfl) (fun _ _ _ h => h) (by rfl) ?_
  simp only [Act.put, List.setIfInBounds_toArray, List.set_cons_zero, List.set_cons_succ]
  refine regB_load 2 (some 17) (fun W hW => o_load_slice uT (box_cell (box_ext HH3.out (BX.out.trans (hW.mono B0.out.size))))) rfl rfl rfl rfl (by kernel_rfl) (by kernel_rfl) (by kernel_rfl) (fun _ _ _ h => h) (by rfl) ?_
  simp only [Act.put, List.setIfInBounds_toArray, List.set_cons_zero, List.set_cons_succ]
  refine regB_load 3 (some 18) (fun W hW => o_load_slice uT (box_cell (box_ext HH2.out (BX.out.trans (hW.mono B0.out.size))))) rfl rfl rfl rfl (by kernel_rfl) (by kernel_rfl) (by kernel_rfl) (fun _ _ _ h => h) (by rfl) ?_
  simp only [Act.put, List.setIfInBounds_toArray, List.set_cons_zero, List.set_cons_succ]
  refine regB_take (v := ?_) 4 (some 19) rfl rfl (by kernel_rfl) (by kernel_rfl) (by kernel_rfl) (fun _ _ _ h => h) (by rfl) (fun W hW => ?_) ?_
  rotate_left
  · (go_simp; try rfl)
  simp only [Act.put, List.setIfInBounds_toArray, List.set_cons_zero, List.set_cons_succ]
  refine regB_take (v := ?_) 5 (some 20) rfl rfl (by kernel_rfl) (by kernel_rfl) (by kernel_rfl) (fun _ _ _ h => h) (by rfl) (fun W hW => ?_) ?_
  rotate_left
  · (go_simp; try rfl)
  simp only [Act.put, List.setIfInBounds_toArray, List.set_cons_zero, List.set_cons_succ]
  refine regB_join 6 7 21 9 (fun v1 v2 W => v1 = .agg (T.map bv).toArray ∧ ∃ p, W0.heap.size ≤ p ∧ v2 = .pointer (some ⟨p, 0, none⟩) ∧ W.heap[p]? = some (.cells Z.toArray 60 (0, 0))) rfl rfl (by decide) (by decide) (by kernel_rfl) (by kernel_rfl) (by kernel_rfl) (fun K hK => ?_) (fun K hK => ?_) ?_
  · unfold Does
    go_simp
    refine (TA.out WD (HS3.out.below BX.out) (ST.out.below BX.out)).mono ?_
    rintro e w5 ⟨rfl, hE⟩
    refine hK.out (.agg (T.map bv).toArray) w5 (hE.mono (Nat.le_of_eq hsz.out.symm)) fun K2 hK2 => ?_
    unfold Does
    go_simp
    exact hK2.out (.pointer (some ⟨w5.heap.size, 0, none⟩)) _ ((Below.refl _ w5).alloc (by have := hE.size; have := hsz.out; omega) _) ⟨rfl, _, by have := hE.size; have := hsz.out; omega, rfl, heap_alloc_new' w5 _⟩
  · unfold Does
    go_simp
    have HE1 : Below W0.heap.size WD (WD.alloc (.cells Z.toArray 60)) := (Below.refl _ WD).alloc (Nat.le_of_eq hsz.out.symm) _
    refine hK.out (.pointer (some ⟨WD.heap.size, 0, none⟩)) _ HE1 fun K2 hK2 => ?_
    have BX1 : Below w.heap.size w (WD.alloc (.cells Z.toArray 60)) := BX.out.trans (HE1.mono B0.out.size)
    have HP1 : W0.heap.size ≤ WD.heap.size := Nat.le_of_eq hsz.out.symm
    have HS1 : W0.heap.size ≤ (WD.alloc (.cells Z.toArray 60)).heap.size := by have := hsz.out; simp; omega
    have N1 := heap_alloc_new' WD (.cells Z.toArray 60)
    unfold Does
    go_simp
    generalize WD.alloc (.cells Z.toArray 60) = W1 at HE1 BX1 N1 HS1 hK2 ⊢
    refine (TA.out W1 (HS3.out.below BX1) (ST.out.below BX1)).mono ?_
    rintro e w5 ⟨rfl, hE⟩
    exact hK2.out (.agg (T.map bv).toArray) w5 (hE.mono HS1) ⟨rfl, _, HP1, rfl, (hE.block _ (lt_of_heap N1)).trans N1⟩
  rintro v1 v2 w5 hE ⟨rfl, p, hp, rfl, hN⟩
  have B5 : Hid (Below w.heap.size w w5) := BX.out.trans (hE.mono B0.out.size)
  have P5 := Lib.hid hN
  have K5 := Lib.hid ((hE.block _ LK).trans K0.out)
  have N5 := Lib.hid ((hE.block _ LN).trans N0.out)
  have HP := Lib.hid hp
  have HZ5 : Hid (W0.heap.size ≤ w5.heap.size) := by have := hE.size; have := hsz.out; show _ ≤ _; omega
  clear hE hp hN
  simp only [Act.put, List.setIfInBounds_toArray, List.set_cons_zero, List.set_cons_succ]
  refine regB_eff 8 rfl (by kernel_rfl) (fun K hK => ?_)
  refine step_st1 rfl 60 (.tmp 9) (.tmp 21) rfl (store_arr (cs := T.map bv) (i16p T HTL.out) (bv_one _) P5.out (by rw [List.length_map, HTL.out]; exact hlz.out)) ?_
  generalize hV : World.setRow _ _ _ = W6
  have P6 := Lib.hid (heap_of_setRow hV P5.out)
  have hE6 : Below W0.heap.size w5 W6 := below_of_setRow hV HP.out HZ5.out
  have B6 : Hid (Below w.heap.size w W6) := B5.out.trans (hE6.mono B0.out.size)
  have K6 := Lib.hid ((hE6.block _ LK).trans K5.out)
  have N6 := Lib.hid ((hE6.block _ LN).trans N5.out)
  clear hV
  refine hK.out _ _ hE6 ?_
  clear hK K hE6 P5 B5 HZ5
  simp only [Act.put, List.setIfInBounds_toArray, List.set_cons_zero, List.set_cons_succ]
  refine regB_done (by kernel_rfl) ?_
  clear BX HX hsz
  have ar := arr_all arr16P s8 ⟨p, 0, none⟩
  have HX : Hid (Ext W6 W6.drew) := (Below.refl _ _).drew
  go_upto_region 5 with (fail)
  refine reg_start (by kernel_rfl) ?_
  try simp only [Act.put, List.setIfInBounds_toArray, List.set_cons_zero, List.set_cons_succ]
  refine reg_take (v := ?_) 0 (some 22) rfl rfl (by kernel_rfl) (by kernel_rfl) (by kernel_rfl) (fun _ _ _ h => h) (by rfl) (fun W hW => ?_) ?_
  rotate_left
  · (go_simp; try rfl)
  simp only [Act.put, List.setIfInBounds_toArray, List.set_cons_zero, List.set_cons_succ]
  refine reg_load 1 (some 23) (fun W hW => o_load_slice uT (box_cell (box_ext HH2.out (B6.out.step (HX.out.trans hW))))) rfl rfl rfl rfl (by kernel_rfl) (by kernel_rfl) (by kernel_rfl) (fun _ _ _ h => h) (by rfl) ?_
  simp only [Act.put, List.setIfInBounds_toArray, List.set_cons_zero, List.set_cons_succ]
  refine reg_take (v := ?_) 2 (some 24) rfl rfl (by kernel_rfl) (by kernel_rfl) (by kernel_rfl) (fun _ _ _ h => h) (by rfl) (fun W hW => ?_) ?_
  rotate_left
  · (go_simp; try rfl)
  simp only [Act.put, List.setIfInBounds_toArray, List.set_cons_zero, List.set_cons_succ]
  refine reg_take (v := ?_) 3 (some 25) rfl rfl (by kernel_rfl) (by kernel_rfl) (by kernel_rfl) (fun _ _ _ h => h) (by rfl) (fun W hW => ?_) ?_
  rotate_left
  · (go_simp; try rfl)
  simp only [Act.put, List.setIfInBounds_toArray, List.set_cons_zero, List.set_cons_succ]
  refine reg_eff 4 rfl (by kernel_rfl) (fun K hK => ?_)
  go_simp
  refine (EQ.out _ _ ((sl_row HTL.out (by omega) P6.out).below HX.out) ((SD.out.below B6.out).below HX.out)).mono ?_
  rintro e w7 ⟨rfl, hE⟩
  refine hK.out _ _ hE ?_
  have HX := Lib.hid (Ext.trans HX.out hE)
  clear hE hK K
  try simp only [Act.put, List.setIfInBounds_toArray, List.set_cons_zero, List.set_cons_succ]
  refine reg_take (v := ?_) 5 (some 27) rfl rfl (by kernel_rfl) (by kernel_rfl) (by kernel_rfl) (fun _ _ _ h => h) (by rfl) (fun W hW => ?_) ?_
  rotate_left
  · (go_simp; try rfl)
  simp only [Act.put, List.setIfInBounds_toArray, List.set_cons_zero, List.set_cons_succ]
  refine reg_done (by kernel_rfl) ?_
  have B7 : Hid (Below w.heap.size w w7) := B6.out.step HX.out
  have K7 := Lib.hid ((HX.out.block _ (lt_of_heap K6.out)).trans K6.out)
  have N7 := Lib.hid ((HX.out.block _ (lt_of_heap N6.out)).trans N6.out)
  clear P6 B6 HX ar EQ TA SD
  generalize hbb : decide (T = X2) = bb
  cases bb with
  | false =>
    have hne : ¬ T = X2 := of_decide_eq_false hbb
    have HNE := Lib.hid hne
    clear hbb hne
    go_wp2_with fail
    go_ret2
    exact ⟨_, _, rfl, B7.out, ⟨rfl, rfl⟩⟩
  | true =>
    have HEQ := Lib.hid (of_decide_eq_true hbb)
    clear hbb
    have HX : Hid (Ext w7 w7.drew) := (Below.refl _ _).drew
    go_upto_region 7 with (fail)
    refine reg_start (by kernel_rfl) ?_
    try simp only [Act.put, List.setIfInBounds_toArray, List.set_cons_zero, List.set_cons_succ]
    refine reg_load 0 (some 28) (fun W hW => load_arr arr32K rfl (i32K' key HK.out) (((HX.out.trans hW).block _ (lt_of_heap K7.out)).trans K7.out)) rfl rfl rfl rfl (by kernel_rfl) (by kernel_rfl) (by kernel_rfl) (fun _ _ _ h => h) (by rfl) ?_
    simp only [Act.put, List.setIfInBounds_toArray, List.set_cons_zero, List.set_cons_succ]
    refine reg_load 1 (some 29) (fun W hW => load_arr arr12B rfl (i12B' nonce HN.out) (((HX.out.trans hW).block _ (lt_of_heap N7.out)).trans N7.out)) rfl rfl rfl rfl (by kernel_rfl) (by kernel_rfl) (by kernel_rfl) (fun _ _ _ h => h) (by rfl) ?_
    simp only [Act.put, List.setIfInBounds_toArray, List.set_cons_zero, List.set_cons_succ]
    refine reg_load 2 (some 30) (fun W hW => o_load_slice uT (box_cell (box_ext HH2.out (B7.out.step (HX.out.trans hW))))) rfl rfl rfl rfl (by kernel_rfl) (by kernel_rfl) (by kernel_rfl) (fun _ _ _ h => h) (by rfl) ?_
    simp only [Act.put, List.setIfInBounds_toArray, List.set_cons_zero, List.set_cons_succ]
    refine reg_take (v := ?_) 3 (some 31) rfl rfl (by kernel_rfl) (by kernel_rfl) (by kernel_rfl) (fun _ _ _ h => h) (by rfl) (fun W hW => ?_) ?_
    rotate_left
    · (go_simp; try rfl)
    simp only [Act.put, List.setIfInBounds_toArray, List.set_cons_zero, List.set_cons_succ]
    refine reg_take (v := ?_) 4 (some 32) rfl rfl (by kernel_rfl) (by kernel_rfl) (by kernel_rfl) (fun _ _ _ h => h) (by rfl) (fun W hW => ?_) ?_
    rotate_left
    · (go_simp; try rfl)
    simp only [Act.put, List.setIfInBounds_toArray, List.set_cons_zero, List.set_cons_succ]
    refine reg_eff 5 rfl (by kernel_rfl) (fun K hK => ?_)
    go_simp
    refine (CR.out _ ((ST.out.below B7.out).below HX.out)).mono ?_
    rintro e w8 ⟨g, hg, rfl, hk8, hE⟩
    have C8 := Lib.hid hk8
    have HG := Lib.hid hg
    clear hg hk8
    refine hK.out _ _ hE ?_
    have HX := Lib.hid (Ext.trans HX.out hE)
    clear hE hK K
    try simp only [Act.put, List.setIfInBounds_toArray, List.set_cons_zero, List.set_cons_succ]
    refine reg_take (v := ?_) 6 (some 6) rfl rfl (by kernel_rfl) (by kernel_rfl) (by kernel_rfl) (fun _ _ _ h => h) (by rfl) (fun W hW => ?_) ?_
    rotate_left
    · (go_simp; try rfl)
    simp only [Act.put, List.setIfInBounds_toArray, List.set_cons_zero, List.set_cons_succ]
    refine reg_take (v := ?_) 7 (some 7) rfl rfl (by kernel_rfl) (by kernel_rfl) (by kernel_rfl) (fun _ _ _ h => h) (by rfl) (fun W hW => ?_) ?_
    rotate_left
    · (go_simp; try rfl)
    simp only [Act.put, List.setIfInBounds_toArray, List.set_cons_zero, List.set_cons_succ]
    refine reg_done (by kernel_rfl) ?_
    have B8 : Hid (Below w.heap.size w w8) := B7.out.step HX.out
    go_wp2
    go_ret2
    exact ⟨_, _, rfl, B8.out, ⟨rfl, own_heap C8.out (Nat.le_trans B7.out.size HG.out) HCL.out (by have := hkm.2; unfold maxLen; omega)⟩⟩
theorem callSealE : ∀ args W, (callFunc 103 args).run Tryz.prog W = .ok (.enter 103 args) W := fun _ _ => by kernel_rfl
theorem callOpenE : ∀ args W, (callFunc 106 args).run Tryz.prog W = .ok (.enter 106 args) W := fun _ _ => by kernel_rfl
theorem heap_two (w : World) (o1 o2 : Obj) : ((w.alloc o1).alloc o2).heap[w.heap.size]? = some o1 ∧ ((w.alloc o1).alloc o2).heap[w.heap.size + 1]? = some o2 ∧ Below w.heap.size w ((w.alloc o1).alloc o2) := heap2c w o1 o2
set_option maxHeartbeats 2000000 in
theorem aseal_any (key nonce aad x : List UInt8) (A1 A2 A3 A4 : Option Addr) (c1 c2 k3 c3 k4 c4 : Nat) (w : World) (hk : key.length = 32) (hn : nonce.length = 12) (h3 : aad.length = k3) (h4 : x.length = k4) (h31 : k3 ≤ 100000) (h41 : k4 ≤ 100000)
    (S1 : Sl w A1 c1 key) (S2 : Sl w A2 c2 nonce) (S3 : Sl w A3 c3 aad) (S4 : Sl w A4 c4 x) :
    Calls Tryz.prog 64 #[.slice A1 32 c1, .slice A2 12 c2, .slice A3 k3 c3, .slice A4 k4 c4] w fun e w' =>
      ∃ v, e = .returned (.tuple #[v, .int .i64 0]) ∧ w'.ownsRow w.heap.size 5 1 v (k4 + 16) ((sealE key nonce aad x).map bv) ∧ Below w.heap.size w w' := by
  have G := heap_two w (.cells #[.slice A3 k3 c3] 22) (.cells #[.slice A4 k4 c4] 22)
  have BA : Hid (Calls Tryz.prog 102 #[.slice A1 32 c1, .slice A2 12 c2, .func (.func 103) #[] #[.pointer (some ⟨w.heap.size + 1, 0, none⟩), .pointer (some ⟨w.heap.size, 0, none⟩)]] ((w.alloc (.cells #[.slice A3 k3 c3] 22)).alloc (.cells #[.slice A4 k4 c4] 22)) fun e w' =>
      ∃ v y, e = .returned (.tuple #[v, .int .i64 y]) ∧ Ext ((w.alloc (.cells #[.slice A3 k3 c3] 22)).alloc (.cells #[.slice A4 k4 c4] 22)) w' ∧ (y = 0 ∧ w'.ownsRow w.heap.size 5 1 v (k4 + 16) ((sealE key nonce aad x).map bv))) := by
    generalize (w.alloc _).alloc _ = W0 at G ⊢
    refine aboth_any 103 _ (fun v y w' => y = 0 ∧ w'.ownsRow w.heap.size 5 1 v (k4 + 16) ((sealE key nonce aad x).map bv)) key nonce A1 A2 c1 c2 W0 hk hn (S1.below G.2.2) (S2.below G.2.2) callSealE fun W hW => ?_
    have hb := G.2.2.step hW
    refine (seal1_any key nonce (w.heap.size + 1) w.heap.size A3 A4 k3 c3 k4 c4 aad x W hk hn h3 h4 h31 h41 (S3.below hb) (S4.below hb) (box_ext G.2.1 hW) (box_ext G.1 hW)).mono ?_
    rintro e w' ⟨v, rfl, hO, hB⟩
    exact ⟨v, 0, rfl, hB, rfl, own_monoE hO hb.size⟩
  have GB := Lib.hid G.2.2
  clear G hk hn h3 h4 S1 S2 S3 S4
  generalize sealE key nonce aad x = R at BA ⊢
  go_enter Tryz.func64, Tryz.ntmps64
  go_wp2_with fail
  refine BA.out.mono ?_
  rintro e w' ⟨v, y, rfl, hE, rfl, hO⟩
  have HO := Lib.hid hO
  have HB : Hid (Below w.heap.size w w') := GB.out.step hE
  clear hO hE
  go_wp2
  go_ret2
  exact ⟨_, rfl, HO.out, HB.out⟩
set_option maxHeartbeats 2000000 in
theorem aopen_any (key nonce aad x : List UInt8) (A1 A2 A3 A4 : Option Addr) (c1 c2 k3 c3 k4 c4 m : Nat) (w : World) (hk : key.length = 32) (hn : nonce.length = 12) (h3 : aad.length = k3) (h4 : x.length = k4) (h31 : k3 ≤ 100000) (h41 : k4 ≤ 100000) (hm : k4 = m + 16)
    (S1 : Sl w A1 c1 key) (S2 : Sl w A2 c2 nonce) (S3 : Sl w A3 c3 aad) (S4 : Sl w A4 c4 x) :
    Calls Tryz.prog 65 #[.slice A1 32 c1, .slice A2 12 c2, .slice A3 k3 c3, .slice A4 k4 c4] w fun e w' =>
      ∃ v y, e = .returned (.tuple #[v, .int .i64 y]) ∧ OpenE w key nonce aad x m v y w' ∧ Below w.heap.size w w' := by
  have G := heap_two w (.cells #[.slice A3 k3 c3] 22) (.cells #[.slice A4 k4 c4] 22)
  have BA : Hid (Calls Tryz.prog 102 #[.slice A1 32 c1, .slice A2 12 c2, .func (.func 106) #[] #[.pointer (some ⟨w.heap.size + 1, 0, none⟩), .pointer (some ⟨w.heap.size, 0, none⟩)]] ((w.alloc (.cells #[.slice A3 k3 c3] 22)).alloc (.cells #[.slice A4 k4 c4] 22)) fun e w' =>
      ∃ v y, e = .returned (.tuple #[v, .int .i64 y]) ∧ Ext ((w.alloc (.cells #[.slice A3 k3 c3] 22)).alloc (.cells #[.slice A4 k4 c4] 22)) w' ∧ OpenE w key nonce aad x m v y w') := by
    generalize (w.alloc _).alloc _ = W0 at G ⊢
    refine aboth_any 106 _ (fun v y w' => OpenE w key nonce aad x m v y w') key nonce A1 A2 c1 c2 W0 hk hn (S1.below G.2.2) (S2.below G.2.2) callOpenE fun W hW => ?_
    have hb := G.2.2.step hW
    refine (open1_any key nonce (w.heap.size + 1) w.heap.size A3 A4 k3 c3 k4 c4 m aad x W hk hn h3 h4 h31 h41 hm (S3.below hb) (S4.below hb) (box_ext G.2.1 hW) (box_ext G.1 hW)).mono ?_
    rintro e w' ⟨v, y, rfl, hB, hO⟩
    refine ⟨v, y, rfl, hB, ?_⟩
    unfold OpenE at hO ⊢
    split
    · rename_i h; rw [if_pos h] at hO; exact ⟨hO.1, own_monoE hO.2 hb.size⟩
    · rename_i h; rw [if_neg h] at hO; exact hO
  have GB := Lib.hid G.2.2
  clear G hk hn h3 h4 S1 S2 S3 S4 hm
  generalize OpenE w key nonce aad x m = R at BA ⊢
  go_enter Tryz.func65, Tryz.ntmps65
  go_wp2_with fail
  refine BA.out.mono ?_
  rintro e w' ⟨v, y, rfl, hE, hO⟩
  have HO := Lib.hid hO
  have HB : Hid (Below w.heap.size w w') := GB.out.step hE
  clear hO hE
  go_wp2
  go_ret2
  exact ⟨_, _, rfl, HO.out, HB.out⟩
end Go.Proofs.YtnhhgiebnhlfcaaGreatDoor

/- Rows of rows of bytes that come in. -/
namespace Go.Proofs.YtnhhgiebnhlfcaaGreatDoor
open Go.RowKit Go.ChangeShapes Go.WideShapes Go.ChangeAt
set_option maxRecDepth 100000
set_option linter.unusedVariables false
theorem open_bytes_cs {H : Type} {enc : TypeId × Value → H} {W : World} {fuel : Nat} {cs : List Value} {x : DataW H × List MemPlace}
    (hf : DataW.trod enc Tryz.prog W 0 (fun _ => true) true fuel 22 cs = some x) : ∃ A c bs, cs = [.slice A (bs : List UInt8).length c] ∧ Sl W A c bs := by
  rcases open_ints Tryz.underlying22 Tryz.underlying5 (by kernel_rfl) hf with ⟨hcs, _⟩ | ⟨x, l, c, zs, hcs, _, hl, hm, hz, hp, hcell, hwz⟩
  · exact ⟨none, 0, [], hcs, by simp, by simp [maxLen], .inl rfl⟩
  · obtain ⟨bs, rfl⟩ := bytes_of hwz
    have hlen : bs.length = c := by simpa using hz
    refine ⟨_, c, bs.take l, by rw [hcs, List.length_take, Nat.min_eq_left (by omega)], by rw [List.length_take]; omega, hm, ?_⟩
    by_cases h0 : l = 0
    · subst h0; exact .inl (by simp)
    · have hc0 := hcell 0 (by simp; omega)
      obtain ⟨b, o, spot⟩ := x
      have hspot : spot = none := by simpa [Addr.add] using World.cell?_spot hc0
      subst hspot
      refine .inr ⟨b, o, rfl, ?_, fun j u hu => ?_⟩
      · rcases Nat.lt_or_ge b W.heap.size with hlt | hge
        · exact hlt
        · rw [add_none] at hc0
          simp [World.cell?, Array.getElem?_eq_none hge] at hc0
      · rw [List.getElem?_map, List.getElem?_take] at hu
        split at hu
        · rename_i hj
          have hjl : j < bs.length := by omega
          have hc := hcell j (by simpa using hjl)
          rw [add_none] at hc
          rw [hc]
          rw [List.getElem?_eq_getElem hjl] at hu
          simp [hjl, List.getD] at hu ⊢
          exact hu
        · simp at hu
abbrev Part := Option Addr × Nat × List UInt8
def partV (q : Part) : Value := .slice q.1 q.2.2.length q.2.1
/-- what a walk is told of a row of rows of bytes that came in -/
def PartsAt (w : World) (y : Option Addr × Nat × List Part) : Prop :=
  y.2.2.length ≤ y.2.1 ∧ y.2.1 ≤ maxLen ∧ (∀ q ∈ y.2.2, Sl w q.1 q.2.1 q.2.2) ∧ RowAt w w.heap.size y.1 (y.2.2.map partV)
theorem build_parts {α : Type} {P : Nat → α → Prop} (n : Nat) (h : ∀ i, i < n → ∃ q, P i q) : ∃ l : List α, l.length = n ∧ ∀ i q, l[i]? = some q → P i q := by
  induction n with
  | zero => exact ⟨[], rfl, fun i q hq => by simp at hq⟩
  | succ n ih =>
    obtain ⟨l, hl, hP⟩ := ih (fun i hi => h i (by omega))
    obtain ⟨q, hq⟩ := h n (by omega)
    refine ⟨l ++ [q], by simp [hl], fun i r hr => ?_⟩
    by_cases hi : i < n
    · rw [List.getElem?_append_left (by omega)] at hr; exact hP i r hr
    · have hlt := (List.getElem?_eq_some_iff.1 hr).1
      simp at hlt
      have : i = n := by omega
      subst this
      rw [List.getElem?_append_right (by omega), hl, Nat.sub_self] at hr
      simp at hr; rw [← hr]; exact hq
theorem open_____uint8 {H : Type} {enc : TypeId × Value → H} {W : World} {base : Nat} {v : Value} {d : DataW H} {p : List MemPlace}
    (hv : Value.okWide Tryz.prog W .any base 187 v) (h : DataW.Trod enc Tryz.prog W 0 (fun _ => true) true 187 v d p) :
    ∃ y : Option Addr × Nat × List Part, v = .slice y.1 y.2.2.length y.2.1 ∧ PartsAt W y := by
  obtain ⟨a0, len0, cap0, rfl⟩ := okWide_slice Tryz.underlying187 hv
  obtain ⟨fuel, hf⟩ := h
  have hc1 : Tryz.prog.cellsOf 22 = 1 := by kernel_rfl
  rcases DataW.trod_slice Tryz.underlying187 hf with ⟨hcs, _⟩ | ⟨a, len, cap, elems, rest, n, _, hcs, _, _, hl, hm, hlen, hel, _, _⟩
  · simp [Value.cells] at hcs
    obtain ⟨rfl, rfl, rfl⟩ := hcs
    exact ⟨(none, 0, []), rfl, by simp, by simp [maxLen], by simp, .inl rfl⟩
  · simp [Value.cells] at hcs
    obtain ⟨rfl, rfl, rfl⟩ := hcs
    have each : ∀ i, i < len0 → ∃ q : Part, W.cell? (a.add i) = some (partV q) ∧ Sl W q.1 q.2.1 q.2.2 := by
      intro i hi
      have h1 := hel i hi
      rw [List.getElem?_eq_getElem (by omega), hc1, Nat.mul_one, Option.bind_eq_some_iff] at h1
      obtain ⟨cs', hcs, hy'⟩ := h1
      obtain ⟨A, c, bs, rfl, hs⟩ := open_bytes_cs hy'
      exact ⟨(A, c, bs), cell_of_cells?_one hcs, hs⟩
    obtain ⟨ps, hpl, hps⟩ := build_parts len0 each
    refine ⟨(some a, cap0, ps), by simp [hpl], by simp [hpl]; exact hl, hm, ?_, ?_⟩
    · intro q hq
      obtain ⟨i, hi⟩ := List.getElem?_of_mem hq
      exact (hps i q hi).2
    · by_cases h0 : len0 = 0
      · exact .inl (by simp [List.eq_nil_of_length_eq_zero (l := ps) (by omega)])
      · obtain ⟨q0, hc0, _⟩ := each 0 (by omega)
        obtain ⟨b, o, spot⟩ := a
        have hspot : spot = none := by simpa [Addr.add] using World.cell?_spot hc0
        subst hspot
        refine .inr ⟨b, o, rfl, ?_, fun j u hu => ?_⟩
        · rcases Nat.lt_or_ge b W.heap.size with hlt | hge
          · exact hlt
          · rw [add_none] at hc0
            simp [World.cell?, Array.getElem?_eq_none hge] at hc0
        · rw [List.getElem?_map] at hu
          cases hq : ps[j]? with
          | none => simp [hq] at hu
          | some q =>
            simp [hq] at hu
            rw [← hu, ← add_none]
            exact (hps j q hq).1
end Go.Proofs.YtnhhgiebnhlfcaaGreatDoor

/- A key, a nonce and an aad that come in (layer 11). -/
namespace Go.Proofs.YtnhhgiebnhlfcaaGreatDoor
open Go.RowKit Go.ChangeShapes Go.WideShapes Go.ChangeAt
set_option maxRecDepth 100000
set_option linter.unusedVariables false
set_option linter.unusedSimpArgs false
structure KeyE where
  (A1 : Option Addr) (c1 : Nat) (k : List UInt8) (A2 : Option Addr) (c2 : Nat) (n : List UInt8) (A3 : Option Addr) (c3 : Nat) (a : List UInt8)
def KeyE.cells (y : KeyE) : List Value := [.slice y.A1 y.k.length y.c1, .slice y.A2 y.n.length y.c2, .slice y.A3 y.a.length y.c3]
def KeyE.ok (y : KeyE) (w : World) : Prop := Sl w y.A1 y.c1 y.k ∧ Sl w y.A2 y.c2 y.n ∧ Sl w y.A3 y.c3 y.a
theorem split111 (L : List Value) (h : L.length = 3) : L = L.take 1 ++ ((L.drop 1).take 1 ++ (L.drop 2).take 1) := by
  match L, h with
  | [a, b, c], _ => rfl
end Go.Proofs.YtnhhgiebnhlfcaaGreatDoor

/- Layer 11's laws' own functions: short, wrong, awake. -/
namespace Go.Proofs.YtnhhgiebnhlfcaaGreatDoor
open Go.RowKit
set_option linter.unusedVariables false
set_option linter.unusedSimpArgs false
set_option maxRecDepth 100000
theorem keyE_cells {W : World} {g : Nat} {y : KeyE} {t : TypeId} {fr : Nat × Nat} (h : W.heap[g]? = some (.cells y.cells.toArray t fr)) :
    W.cell? ⟨g, 0, none⟩ = some (.slice y.A1 y.k.length y.c1) ∧ W.cell? ⟨g, 1, none⟩ = some (.slice y.A2 y.n.length y.c2) ∧ W.cell? ⟨g, 2, none⟩ = some (.slice y.A3 y.a.length y.c3) := by
  refine ⟨?_, ?_, ?_⟩ <;> rw [cell_of_heap h] <;> rfl
def shortB (y : KeyE) : Bool := decide (y.k.length ≤ 100) && (decide (y.n.length ≤ 100) && decide (y.a.length ≤ 200))
def wrongB (y : KeyE) : Int := if y.k.length = 32 then (if y.n.length = 12 then 0 else 6) else 5
def z32 : List UInt8 := List.replicate 32 0
def z12 : List UInt8 := List.replicate 12 0
/-- two new rows -/
def Two12 (Z1 Z2 : List UInt8) (v1 v2 : Value) (W : World) : Prop := ∃ p1 p2, v1 = .slice (some ⟨p1, 0, none⟩) 32 32 ∧ v2 = .slice (some ⟨p2, 0, none⟩) 12 12 ∧ W.heap[p1]? = some (.cells (Z1.map bv).toArray 5 (0, 0)) ∧ W.heap[p2]? = some (.cells (Z2.map bv).toArray 5 (0, 0))
theorem heap_keep' {w : World} {g : Nat} {o : Obj} (h : w.heap[g]? = some o) (o' : Obj) : (w.alloc o').heap[g]? = some o := (((Below.refl w.heap.size w).alloc (Nat.le_refl _) o').block _ (lt_of_heap h)).trans h
theorem size_of_below {B : Nat} {w w' : World} (h : Below B w w') (hB : B ≤ w.heap.size) : w.heap.size ≤ w'.heap.size := h.size
theorem sl_none (W : World) : Sl W none 0 [] := ⟨by simp, by simp [maxLen], .inl rfl⟩
/-- what was sealed is opened to what it was -/
theorem openE_seal {w w' : World} {key nonce aad b : List UInt8} {m : Nat} {v : Value} {y : Int} (hm : b.length = m) (h : OpenE w key nonce aad (sealE key nonce aad b) m v y w') :
    y = 0 ∧ w'.ownsRow w.heap.size 5 1 v m (b.map bv) := by
  have hl : (cryptC key nonce 1#32 b).length = m := by rw [cryptC_len]; exact hm
  have e1 : (sealE key nonce aad b).take m = cryptC key nonce 1#32 b := by rw [sealE, List.take_left' hl]
  have e2 : (sealE key nonce aad b).drop m = tagL key nonce aad (cryptC key nonce 1#32 b) := by rw [sealE, List.drop_left' hl]
  unfold OpenE at h
  rw [e1, e2, if_pos rfl, crypt_back] at h
  exact h
end Go.Proofs.YtnhhgiebnhlfcaaGreatDoor

/- The law file's own awake (layer 12): a tag comes out. -/
namespace Go.Proofs.YtnhhgiebnhlfcaaGreatDoor
open Go.RowKit Go.Shelf
set_option linter.unusedVariables false
set_option linter.unusedSimpArgs false
set_option maxRecDepth 100000
/-- a region by what each of its values is, as long as it goes on -/
structure FJ (R : Nat → Value → World → Prop) (W0 : World) (vs : Nat → Value) (L : Nat → Bool) (W : World) : Prop where
  fv : ∀ i, L i = true → R i (vs i) W
  b : Below W0.heap.size W0 W
theorem FJ.step {R : Nat → Value → World → Prop} {W0 W W' : World} {vs : Nat → Value} {L : Nat → Bool} (H : FJ R W0 vs L W) (hR : ∀ i v (A B : World), R i v A → Below A.heap.size A B → R i v B)
    (k : Nat) (hb : Below W.heap.size W W') (x : Value) (hx : R k x W') : FJ R W0 (updv vs k x) (fun j => if j = k then true else L j) W' := by
  refine ⟨fun i hi => ?_, H.b.step hb⟩
  unfold updv
  by_cases e : i = k
  · rw [if_pos e, e]; exact hx
  · rw [if_neg e]
    rw [if_neg e] at hi
    exact hR _ _ _ _ (H.fv i hi) hb
theorem size_freeze (W : World) (a : Addr) (n : Nat) : (W.freeze a n).heap.size = W.heap.size := by
  unfold World.freeze
  split <;> simp
theorem cell_freeze (W : World) (a : Addr) (n : Nat) (p : Addr) : (W.freeze a n).cell? p = W.cell? p := by
  unfold World.freeze
  split
  · rfl
  · simp only [World.cell?, Array.getElem?_modify]
    by_cases h : a.block = p.block
    · rw [if_pos h, ← h]
      cases hh : W.heap[a.block]? with
      | none => rfl
      | some o => cases o <;> first | rfl | (rename_i fr; cases fr; rfl)
    · rw [if_neg h]
theorem heap_freeze {W : World} {g : Nat} {C : Array Value} {e : TypeId} {fr : Nat × Nat} (a : Addr) (n : Nat) (h : W.heap[g]? = some (.cells C e fr)) : ∃ fr', (W.freeze a n).heap[g]? = some (.cells C e fr') := by
  unfold World.freeze
  split
  · exact ⟨fr, h⟩
  · simp only [Array.getElem?_modify]
    split
    · rw [h]
      cases fr
      exact ⟨_, rfl⟩
    · exact ⟨fr, h⟩
theorem Sl.freeze {W : World} {A : Option Addr} {c : Nat} {bs : List UInt8} (h : Sl W A c bs) (a : Addr) (n : Nat) : Sl (W.freeze a n) A c bs := by
  obtain ⟨h1, h2, h3⟩ := h
  refine ⟨h1, h2, ?_⟩
  rcases h3 with h3 | ⟨b, o, e, hb, hc⟩
  · exact .inl h3
  · exact .inr ⟨b, o, e, by rw [size_freeze]; exact hb, fun j u hu => (cell_freeze W a n _).trans (hc j u hu)⟩
theorem conv_mark {P : Program} {W : World} {t e : TypeId} {g n c : Nat} {C : Array Value} {fr : Nat × Nat} (ht : P.underlying t = some (.slice e)) (he : P.underlying e = some (.int .u8)) (hg : W.heap[g]? = some (.cells C e fr)) :
    (convert t t (.slice (some ⟨g, 0, none⟩) n c)).run P W = .ok (.slice (some ⟨g, 0, none⟩) n c) (W.freeze ⟨g, C.size, none⟩ 1) := by
  have hsh : W.shape? g = some (e, C.size) := by
    unfold World.shape?
    rw [hg]
  simp [convert, run_underlying ht, run_underlying he, markStringish, hsh]
theorem FJ.step' {R : Nat → Value → World → Prop} {W0 W W' : World} {vs : Nat → Value} {L : Nat → Bool} (H : FJ R W0 vs L W) (hR : ∀ i v, R i v W → R i v W')
    (k : Nat) (hb : Below W0.heap.size W W') (x : Value) (hx : R k x W') : FJ R W0 (updv vs k x) (fun j => if j = k then true else L j) W' := by
  refine ⟨fun i hi => ?_, H.b.trans hb⟩
  unfold updv
  by_cases e : i = k
  · rw [if_pos e, e]; exact hx
  · rw [if_neg e]
    rw [if_neg e] at hi
    exact hR _ _ (H.fv i hi)
def doR6 (v : Value) (y : Int) (_ : World) : Prop := y = 0 ∧ ∃ A c, v = .slice A 17 c
set_option maxHeartbeats 2000000 in
theorem do6_any (g1 g2 g4 : Nat) (w : World) (S1 : Sl w (some ⟨g1, 0, none⟩) 32 z32) (S2 : Sl w (some ⟨g2, 0, none⟩) 12 z12) (S4 : Sl w (some ⟨g4, 0, none⟩) 1 [97]) :
    Calls Tryz.prog 10 #[.agg (parV 6 false (some ⟨g1, 0, none⟩) 32 32 (some ⟨g2, 0, none⟩) 12 12 none 0 0).toArray, .slice (some ⟨g4, 0, none⟩) 1 1] w fun e w' => ∃ A c, e = .returned (.tuple #[.slice A 17 c, .int .i64 0]) ∧ Below w.heap.size w w' := by
  refine (do_any doR6 6 false (some ⟨g1, 0, none⟩) 32 32 (some ⟨g2, 0, none⟩) 12 12 none 0 0 (some ⟨g4, 0, none⟩) 1 1 w (by omega) (by omega) (by omega) (by omega) ?_).mono ?_
  · intro k n0 d W hx h1 h2 hh hk hi ha hr hD hb
    obtain rfl : k = 6 := by omega
    have hD : ByKey n0 W d 64 := hD
    obtain ⟨g, t, hg, rfl, hcell⟩ := hD
    refine ⟨101, #[.pointer (some ⟨g, 0, none⟩)], rfl, enters_of Tryz.func101 (by kernel_rfl) rfl, ?_⟩
    show Calls Tryz.prog 101 #[.agg (parV 6 false (some ⟨g1, 0, none⟩) 32 32 (some ⟨g2, 0, none⟩) 12 12 none 0 0).toArray, .slice (some ⟨g4, 0, none⟩) 1 1, .pointer (some ⟨g, 0, none⟩)] W _
    refine byKey1_any doR6 64 (enters_of Tryz.func64 (by kernel_rfl) rfl) 6 false (some ⟨g1, 0, none⟩) 32 32 (some ⟨g2, 0, none⟩) 12 12 none 0 0 (some ⟨g4, 0, none⟩) 1 1 g t W hcell ?_
    intro W2 hb2
    have b2 := hb.step hb2
    refine (aseal_any z32 z12 [] [97] (some ⟨g1, 0, none⟩) (some ⟨g2, 0, none⟩) none (some ⟨g4, 0, none⟩) 32 12 0 0 1 1 W2 List.length_replicate List.length_replicate rfl rfl (by omega) (by omega) (S1.below b2) (S2.below b2) (sl_none W2) (S4.below b2)).mono ?_
    rintro e W3 ⟨v, rfl, hO, hb3⟩
    obtain ⟨A, c, rfl, _⟩ := own_read hO
    exact ⟨_, _, rfl, ⟨rfl, A, c, rfl⟩, hb3⟩
  · rintro e w' ⟨v, y, rfl, hD, hb⟩
    have h1 : checkR 6 false 32 12 0 = 0 := by decide
    have h2 : (roomR 6 false ((1 : Nat) : Int)).2 = 0 := by decide
    unfold DoR at hD
    rw [if_neg (by rw [h1]; simp), if_neg (by rw [h2]; simp)] at hD
    obtain ⟨rfl, A, c, rfl⟩ := hD
    exact ⟨A, c, rfl, hb⟩
def awR (n0 : Nat) : Nat → Value → World → Prop
  | 0, v, W => ∃ g, v = .slice (some ⟨g, 0, none⟩) 32 32 ∧ Sl W (some ⟨g, 0, none⟩) 32 z32
  | 1, v, W => ∃ g, v = .slice (some ⟨g, 0, none⟩) 12 12 ∧ Sl W (some ⟨g, 0, none⟩) 12 z12
  | 2, v, W => ∃ g1 g2, v = .agg (parV 6 false (some ⟨g1, 0, none⟩) 32 32 (some ⟨g2, 0, none⟩) 12 12 none 0 0).toArray ∧ Sl W (some ⟨g1, 0, none⟩) 32 z32 ∧ Sl W (some ⟨g2, 0, none⟩) 12 z12
  | 3, v, W => ∃ g, v = .slice (some ⟨g, 0, none⟩) 1 1 ∧ Sl W (some ⟨g, 0, none⟩) 1 [97] ∧ n0 ≤ g ∧ ∃ fr, W.heap[g]? = some (.cells #[.int .u8 97] 5 fr)
  | 4, v, W => ∃ g, v = .slice (some ⟨g, 0, none⟩) 1 1 ∧ Sl W (some ⟨g, 0, none⟩) 1 [97]
  | 5, v, _ => ∃ A c, v = .tuple #[.slice A 17 c, .int .i64 0]
  | 6, v, _ => ∃ A c, v = .tuple #[.slice A 17 c, .int .i64 0]
  | 7, v, _ => ∃ A c, v = .slice A 17 c
  | 8, v, _ => v = .int .i64 0
  | 9, v, _ => ∃ A c, v = .slice A 17 c
  | 10, v, _ => v = .int .i64 0
  | _, _, _ => True
theorem awR_ext (n0 : Nat) : ∀ i v (A B : World), awR n0 i v A → Below A.heap.size A B → awR n0 i v B
  | 0, _, _, _, ⟨g, e, s⟩, hb => ⟨g, e, s.below hb⟩
  | 1, _, _, _, ⟨g, e, s⟩, hb => ⟨g, e, s.below hb⟩
  | 2, _, _, _, ⟨g1, g2, e, s1, s2⟩, hb => ⟨g1, g2, e, s1.below hb, s2.below hb⟩
  | 3, _, _, _, ⟨g, e, s, hn, fr, hg⟩, hb => ⟨g, e, s.below hb, hn, fr, (hb.block _ (lt_of_heap hg)).trans hg⟩
  | 4, _, _, _, ⟨g, e, s⟩, hb => ⟨g, e, s.below hb⟩
  | 5, _, _, _, h, _ => h
  | 6, _, _, _, h, _ => h
  | 7, _, _, _, h, _ => h
  | 8, _, _, _, h, _ => h
  | 9, _, _, _, h, _ => h
  | 10, _, _, _, h, _ => h
  | _ + 11, _, _, _, _, _ => trivial
theorem awR_freeze (n0 : Nat) (a : Addr) (n : Nat) (A : World) : ∀ i v, awR n0 i v A → awR n0 i v (A.freeze a n)
  | 0, _, ⟨g, e, s⟩ => ⟨g, e, s.freeze a n⟩
  | 1, _, ⟨g, e, s⟩ => ⟨g, e, s.freeze a n⟩
  | 2, _, ⟨g1, g2, e, s1, s2⟩ => ⟨g1, g2, e, s1.freeze a n, s2.freeze a n⟩
  | 3, _, ⟨g, e, s, hn, fr, hg⟩ => ⟨g, e, s.freeze a n, hn, heap_freeze a n hg⟩
  | 4, _, ⟨g, e, s⟩ => ⟨g, e, s.freeze a n⟩
  | 5, _, h => h
  | 6, _, h => h
  | 7, _, h => h
  | 8, _, h => h
  | 9, _, h => h
  | 10, _, h => h
  | _ + 11, _, _ => trivial
theorem bldA (g1 g2 : Nat) (W : World) : (Instr.build 29 #[(0, .int .i64 6), (2, .slice (some ⟨g1, 0, none⟩) 32 32), (3, .slice (some ⟨g2, 0, none⟩) 12 12)]).run Tryz.prog W = .ok (.agg (parV 6 false (some ⟨g1, 0, none⟩) 32 32 (some ⟨g2, 0, none⟩) 12 12 none 0 0).toArray) W := by kernel_rfl
set_option maxHeartbeats 4000000 in
theorem awake12_any (w : World) : Calls Tryz.prog 13 #[] w fun e w' => e = .returned (.bool true) ∧ Below w.heap.size w w' := by
  have hmk1 : ∀ W, (Instr.makeSlice 22 (.int .i64 32) (.int .i64 32)).run Tryz.prog W = .ok (.slice (some ⟨W.heap.size, 0, none⟩) 32 32) (W.alloc (.cells (z32.map bv).toArray 5)) := fun W => by
    rw [z32, List.map_replicate]; exact make_run (P := Tryz.prog) uT made8 rfl .i64 .i64 32 (by omega) (by omega) W
  have hmk2 : ∀ W, (Instr.makeSlice 22 (.int .i64 12) (.int .i64 12)).run Tryz.prog W = .ok (.slice (some ⟨W.heap.size, 0, none⟩) 12 12) (W.alloc (.cells (z12.map bv).toArray 5)) := fun W => by
    rw [z12, List.map_replicate]; exact make_run (P := Tryz.prog) uT made8 rfl .i64 .i64 12 (by omega) (by omega) W
  have RM := Lib.hid (fun W => room_any 5 false 5 W (by omega) (by omega))
  rw [show roomR 5 false 5 = (21, 0) by decide] at RM
  have L1 : Hid (z32.length = 32) := List.length_replicate
  have L2 : Hid (z12.length = 12) := List.length_replicate
  go_enter Tryz.func13, Tryz.ntmps13
  go_wp2_with fail
  refine (RM.out w).mono ?_
  rintro e w1 ⟨rfl, hb⟩
  have B1 := Lib.hid hb
  clear hb RM
  go_upto_region 2 with (fail)
  refine reg_inv (fun L a W => ∃ vs : Nat → Value, a = { tmps := #[.bool false, .int .i64 21, .int .i64 0, vs 9, vs 10, .tuple #[.int .i64 21, .int .i64 0], .tuple #[.int .i64 21, .int .i64 0], .int .i64 21, .int .i64 0, vs 6, vs 0, vs 1, vs 2, vs 3, vs 4, vs 5, vs 7, vs 8, undef, undef, undef, undef, undef, undef, undef, undef, undef, undef, undef, undef, undef, undef, undef], defers := [] } ∧ FJ (awR w1.heap.size) w1 vs L W) (by kernel_rfl) (by kernel_rfl) ?_
    (And.intro ?_ (And.intro ?_ (And.intro ?_ (And.intro ?_ (And.intro ?_ (And.intro ?_ (And.intro ?_ (And.intro ?_ (And.intro ?_ (And.intro ?_ (And.intro ?_ trivial))))))))))) ?_
  · intro L hL
    refine ⟨fun _ => undef, rfl, fun i hi => ?_, (Below.refl _ _).drew⟩
    by_cases h : i < 11
    · rw [hL i h] at hi; cases hi
    · obtain ⟨j, rfl⟩ : ∃ j, i = j + 11 := ⟨i - 11, by omega⟩
      trivial
  · rintro L a W ⟨vs, rfl, H⟩ hLi hd K0 hK
    go_simp
    exact hK.out _ _ ⟨updv vs 0 _, rfl, H.step (awR_ext _) 0 ((Below.refl _ _).alloc (Nat.le_refl _) _) _ ⟨_, rfl, sl_row L1.out (by omega) (heap_alloc_new' W _)⟩⟩
  · rintro L a W ⟨vs, rfl, H⟩ hLi hd K0 hK
    go_simp
    exact hK.out _ _ ⟨updv vs 1 _, rfl, H.step (awR_ext _) 1 ((Below.refl _ _).alloc (Nat.le_refl _) _) _ ⟨_, rfl, sl_row L2.out (by omega) (heap_alloc_new' W _)⟩⟩
  · rintro L a W ⟨vs, rfl, H⟩ hLi hd K0 hK
    obtain ⟨g1, e1, s1⟩ := H.fv 0 (hd ⟨0, .data⟩ (by simp) rfl)
    obtain ⟨g2, e2, s2⟩ := H.fv 1 (hd ⟨1, .data⟩ (by simp) rfl)
    refine step_valF rfl (exec_bldF rfl (by
      have hb := bldA g1 g2 W
      rw [← e1, ← e2] at hb
      simp only [List.map_toArray, List.map_cons, List.map_nil]; exact hb)) ?_
    exact hK.out _ _ ⟨updv vs 2 _, rfl, H.step (awR_ext _) 2 (Below.refl _ _) _ ⟨g1, g2, rfl, s1, s2⟩⟩
  · rintro L a W ⟨vs, rfl, H⟩ hLi hd K0 hK
    go_simp
    exact hK.out _ _ ⟨updv vs 3 _, rfl, H.step (awR_ext _) 3 ((Below.refl _ _).alloc (Nat.le_refl _) _) _ ⟨_, rfl, sl_row (bs := [97]) rfl (by omega) (heap_alloc_new' W _), H.b.size, _, heap_alloc_new' W _⟩⟩
  · rintro L a W ⟨vs, rfl, H⟩ hLi hd K0 hK
    obtain ⟨g, e3, s3, hn, fr, hg⟩ := H.fv 3 (hd ⟨3, .data⟩ (by simp) rfl)
    have hcv := conv_mark (P := Tryz.prog) (n := 1) (c := 1) uT Tryz.underlying5 hg
    simp only [e3]
    go_simp
    exact hK.out _ _ ⟨updv vs 4 _, by rw [← e3]; rfl, H.step' (awR_freeze _ _ _ W) 4 (Lib.below_freeze (Below.refl _ _) hn _) _ ⟨g, rfl, s3.freeze _ _⟩⟩
  · rintro L a W ⟨vs, rfl, H⟩ hLi hd K0 hK
    obtain ⟨g1, g2, e2, s1, s2⟩ := H.fv 2 (hd ⟨2, .data⟩ (by simp) rfl)
    obtain ⟨g4, e4, s4⟩ := H.fv 4 (hd ⟨4, .data⟩ (by simp) rfl)
    have hc := do6_any g1 g2 g4 W s1 s2 s4
    rw [← e2, ← e4] at hc
    refine step_callF rfl 10 #[.tmp 12, .tmp 14] _ rfl (enters_of Tryz.func10 (by kernel_rfl) rfl) (by simp only [List.map_toArray, List.map_cons, List.map_nil]; rfl) hc ?_
    rintro e W' ⟨A, c, rfl, hb⟩
    exact ⟨_, rfl, hK.out _ _ ⟨updv vs 5 _, rfl, H.step (awR_ext _) 5 hb _ ⟨A, c, rfl⟩⟩⟩
  · rintro L a W ⟨vs, rfl, H⟩ hLi hd K0 hK
    obtain ⟨A, c, e5⟩ := H.fv 5 (hd ⟨5, .data⟩ (by simp) rfl)
    simp only [e5]
    go_simp
    exact hK.out _ _ ⟨updv vs 6 _, by rw [← e5]; rfl, H.step (awR_ext _) 6 (Below.refl _ _) _ ⟨A, c, rfl⟩⟩
  · rintro L a W ⟨vs, rfl, H⟩ hLi hd K0 hK
    obtain ⟨A, c, e6⟩ := H.fv 6 (hd ⟨6, .data⟩ (by simp) rfl)
    simp only [e6]
    go_simp
    exact hK.out _ _ ⟨updv vs 7 (.slice A 17 c), by rw [← e6]; rfl, H.step (awR_ext _) 7 (Below.refl _ _) _ ⟨A, c, rfl⟩⟩
  · rintro L a W ⟨vs, rfl, H⟩ hLi hd K0 hK
    obtain ⟨A, c, e6⟩ := H.fv 6 (hd ⟨6, .data⟩ (by simp) rfl)
    simp only [e6]
    go_simp
    exact hK.out _ _ ⟨updv vs 8 (.int .i64 0), by rw [← e6]; rfl, H.step (awR_ext _) 8 (Below.refl _ _) _ rfl⟩
  · rintro L a W ⟨vs, rfl, H⟩ hLi hd K0 hK
    obtain ⟨A, c, e7⟩ := H.fv 7 (hd ⟨7, .data⟩ (by simp) rfl)
    simp only [e7]
    go_simp
    exact hK.out _ _ ⟨updv vs 9 (.slice A 17 c), by rw [← e7]; rfl, H.step (awR_ext _) 9 (Below.refl _ _) _ ⟨A, c, rfl⟩⟩
  · rintro L a W ⟨vs, rfl, H⟩ hLi hd K0 hK
    have e8 : vs 8 = _ := H.fv 8 (hd ⟨8, .data⟩ (by simp) rfl)
    simp only [e8]
    go_simp
    exact hK.out _ _ ⟨updv vs 10 (.int .i64 0), by rw [← e8]; rfl, H.step (awR_ext _) 10 (Below.refl _ _) _ rfl⟩
  · rintro L a W hL ⟨vs, rfl, H⟩
    obtain ⟨A, c, e9⟩ := H.fv 9 (hL 9)
    have e10 : vs 10 = _ := H.fv 10 (hL 10)
    simp only [e9, e10]
    have B2 : Hid (Below w.heap.size w W) := B1.out.step H.b
    go_wp2
    go_ret
    exact ⟨rfl, B2.out⟩
end Go.Proofs.YtnhhgiebnhlfcaaGreatDoor

/- Params that come in (layer 12). -/
namespace Go.Proofs.YtnhhgiebnhlfcaaGreatDoor
open Go.RowKit Go.ChangeShapes Go.WideShapes Go.ChangeAt
set_option maxRecDepth 100000
set_option linter.unusedVariables false
set_option linter.unusedSimpArgs false
structure ParY where
  (x : Int) (o : Bool) (A1 : Option Addr) (c1 : Nat) (k : List UInt8) (A2 : Option Addr) (c2 : Nat) (iv : List UInt8) (A3 : Option Addr) (c3 : Nat) (a : List UInt8)
def ParY.cells (y : ParY) : List Value := [.int .i64 y.x, .bool y.o, .slice y.A1 y.k.length y.c1, .slice y.A2 y.iv.length y.c2, .slice y.A3 y.a.length y.c3]
def ParY.ok (y : ParY) (w : World) : Prop := (Lit.int .i64 y.x).wf = true ∧ Sl w y.A1 y.c1 y.k ∧ Sl w y.A2 y.c2 y.iv ∧ Sl w y.A3 y.c3 y.a
theorem split5x1 (L : List Value) (h : L.length = 5) : L = L.take 1 ++ ((L.drop 1).take 1 ++ ((L.drop 2).take 1 ++ ((L.drop 3).take 1 ++ (L.drop 4).take 1))) := by
  match L, h with
  | [a, b, c, d, e], _ => rfl
theorem trod5 {P : Program} {H : Type} {enc : TypeId × Value → H} {w : World} {base : Nat} {spare : Nat → Bool} {held : Bool} {t : TypeId} {f0 f1 f2 f3 f4 : Field} {fuel : Nat} {cs : List Value} {x : DataW H × List MemPlace} (ht : P.underlying t = some (.struct #[f0, f1, f2, f3, f4])) (h : DataW.trod enc P w base spare held fuel t cs = some x) :
    ∃ y0 y1 y2 y3 y4 n, cs.length = P.cellsOf t ∧ DataW.trod enc P w base spare held n f0.type ((cs.drop f0.offset).take (P.cellsOf f0.type)) = some y0 ∧
      DataW.trod enc P w base spare held n f1.type ((cs.drop f1.offset).take (P.cellsOf f1.type)) = some y1 ∧ DataW.trod enc P w base spare held n f2.type ((cs.drop f2.offset).take (P.cellsOf f2.type)) = some y2 ∧
      DataW.trod enc P w base spare held n f3.type ((cs.drop f3.offset).take (P.cellsOf f3.type)) = some y3 ∧ DataW.trod enc P w base spare held n f4.type ((cs.drop f4.offset).take (P.cellsOf f4.type)) = some y4 := by
  obtain ⟨xs, n, _, rfl, hl, hlen, hf⟩ := DataW.trod_struct ht h
  match xs, hlen with
  | [y0, y1, y2, y3, y4], _ => exact ⟨y0, y1, y2, y3, y4, n, hl, by simpa using hf 0 f0 rfl, by simpa using hf 1 f1 rfl, by simpa using hf 2 f2 rfl, by simpa using hf 3 f3 rfl, by simpa using hf 4 f4 rfl⟩
theorem open_palfreyref12_Params {H : Type} {enc : TypeId × Value → H} {W : World} {base : Nat} {v : Value} {d : DataW H} {p : List MemPlace}
    (hv : Value.okWide Tryz.prog W .any base 24 v) (h : DataW.Trod enc Tryz.prog W 0 (fun _ => true) true 24 v d p) :
    ∃ y : ParY, v = .agg y.cells.toArray ∧ y.ok W := by
  obtain ⟨cs, rfl, hsz⟩ := okWide_struct Tryz.underlying24 hv
  obtain ⟨fuel, hf⟩ := h
  obtain ⟨y0, y1, y2, y3, y4, m, hl, h0, h1, h2, h3, h4⟩ := trod5 Tryz.underlying24 hf
  simp only [Value.cells] at hl h0 h1 h2 h3 h4
  have hc : Tryz.prog.cellsOf 24 = 5 := by kernel_rfl
  have c0 : Tryz.prog.cellsOf 3 = 1 := by kernel_rfl
  have c1 : Tryz.prog.cellsOf 4 = 1 := by kernel_rfl
  have c2 : Tryz.prog.cellsOf 22 = 1 := by kernel_rfl
  rw [hc] at hl
  rw [c0] at h0
  rw [c1] at h1
  rw [c2] at h2 h3 h4
  obtain ⟨x, e0, _, wx⟩ := DataW.trod_int Tryz.underlying3 h0
  obtain ⟨b, e1, _⟩ := DataW.trod_bool Tryz.underlying4 h1
  obtain ⟨A1, k1, k, e2, s1⟩ := open_bytes_cs h2
  obtain ⟨A2, k2, iv, e3, s2⟩ := open_bytes_cs h3
  obtain ⟨A3, k3, a, e4, s3⟩ := open_bytes_cs h4
  refine ⟨⟨x, b, A1, k1, k, A2, k2, iv, A3, k3, a⟩, ?_, wx, s1, s2, s3⟩
  congr 1
  apply Array.ext'
  have hs := split5x1 cs.toList hl
  simp only [List.drop_zero] at e0
  rw [e0, e1, e2, e3, e4] at hs
  rw [hs]
  simp [ParY.cells]
end Go.Proofs.YtnhhgiebnhlfcaaGreatDoor

/- What the row's condition on the rounds' numbers gives the walks. -/
namespace Go.Proofs.YtnhhgiebnhlfcaaGreatDoor
open Go.ChangeShapes Go.WideShapes Go.ChangeAt Go.RowKit
set_option linter.unusedVariables false
set_option linter.unusedSimpArgs false
theorem gRounds : Tryz.prog.globalNamed "palfrey/sha.rounds" = some 0 := by kernel_rfl
theorem tRounds : (Tryz.prog.globals[0]?).map (·.type) = some 93 := by kernel_rfl
theorem laidL : (Rows.laid_palfrey_sha_rounds : DataW Unit) = .agg (roundsL.map fun (n : Nat) => .lit (.int .u32 (n : Int))) := rfl
theorem roundsL_lt : ∀ i, i < 64 → roundsL.getD i 0 < 4294967296 := by decide
theorem rnd_of_laid {W : World} (h : laidMetH Tryz.prog [("palfrey/sha.rounds", Rows.laid_palfrey_sha_rounds)] W) : Rnd W := by
  rw [MakeChecks.laidMetH_plain _ _ _ (by kernel_rfl)] at h
  obtain ⟨ps, ⟨g0, t0, cs0, f0, p0, q0, hg0, ht0, hv0, hd0, _, _⟩, _, _⟩ := h
  obtain rfl := Option.some.inj (gRounds.symm.trans hg0)
  obtain rfl := Option.some.inj (tRounds.symm.trans ht0)
  obtain ⟨xs, m1, rfl, hx1, hlen, hn, hel⟩ := DataW.trod_array Tryz.underlying93 hd0
  have c1 : Tryz.prog.cellsOf 68 = 1 := by kernel_rfl
  have c64 : Tryz.prog.cellsOf 93 = 64 := by kernel_rfl
  rw [laidL] at hx1
  simp only [Prod.mk.injEq, DataW.agg.injEq] at hx1
  have hc : ∀ i, i < 64 → W.cell? ⟨0, i, none⟩ = some (wv (kL i)) := by
    intro i hi
    have h1 := hel i hi
    have hix : i < xs.length := by omega
    rw [List.getElem?_eq_getElem hix] at h1
    obtain ⟨k, e1, e2, _⟩ := DataW.trod_int Tryz.underlying68 h1
    have h2 := congrArg (fun l => l[i]?) hx1.1
    simp only [List.getElem?_map, List.getElem?_eq_getElem hix] at h2
    have h3 : i < roundsL.length := hi
    rw [List.getElem?_eq_getElem h3] at h2
    simp only [Option.map_some, Option.some.injEq, e2, DataW.lit.injEq, Lit.int.injEq, true_and] at h2
    rw [World.var?_cell hg0 hv0 i]
    rw [c1, Nat.mul_one] at e1
    have h4 := congrArg (fun l => l[0]?) e1
    simp [List.getElem?_take] at h4
    rw [h4, ← h2]
    have h5 := roundsL_lt i hi
    simp only [List.getD, List.getElem?_eq_getElem h3, Option.getD_some] at h5
    simp only [wv, kL, List.getD, List.getElem?_eq_getElem h3, Option.getD_some, BitVec.toNat_ofNat, Nat.mod_eq_of_lt h5]
  refine ⟨?_, hc⟩
  have := hc 0 (by omega)
  rcases Nat.eq_zero_or_pos W.heap.size with h0 | h0
  · simp [World.cell?, Array.getElem?_eq_none (show W.heap.size ≤ 0 by omega)] at this
  · exact h0
end Go.Proofs.YtnhhgiebnhlfcaaGreatDoor

/- Laws of layer 12: which params may be, how many bytes come out, of which class they are. -/
namespace Go.Proofs.YtnhhgiebnhlfcaaGreatDoor
open Go.RowKit Go.Shelf
set_option linter.unusedVariables false
set_option linter.unusedSimpArgs false
set_option maxRecDepth 100000
theorem b1_wf {x : Int} (h : (Lit.int .i64 x).wf = true) : -9223372036854775808 ≤ x ∧ x ≤ 9223372036854775807 := by
  exact bounds_i64 h
theorem i5R : (Tryz.prog.info? 24).map (·.size) = some 5 := by kernel_rfl
theorem shortR_yes {kn vn an : Nat} (h : shortR kn vn an = true) : kn ≤ 120 ∧ vn ≤ 100 ∧ an ≤ 1100 := by
  simp [shortR] at h
  omega
set_option maxHeartbeats 4000000 in
theorem algoChecks_walk (w : World) (y : ParY) (l : y.ok w) (n : Int) (wn : (Lit.int .i64 n).wf = true) (hR : Rnd w) :
    Calls Tryz.prog 4 #[.agg y.cells.toArray, .int .i64 n] w fun e w' => e = .returned (.bool true) ∧ Below w.heap.size w w' := by
  obtain ⟨x, o, Ak, kc, k, Ai, ic, iv, Aa, ac, aad⟩ := y
  obtain ⟨wx, hs1, hs2, hs3⟩ := l
  simp only at wx hs1 hs2 hs3 ⊢
  clear hR
  have hx : -9223372036854775808 ≤ x ∧ x ≤ 9223372036854775807 := b1_wf wx
  have hnn : -9223372036854775808 ≤ n ∧ n ≤ 9223372036854775807 := b1_wf wn
  clear wx wn
  have S1 := Lib.hid hs1; have S2 := Lib.hid hs2; have S3 := Lib.hid hs3
  have q1 : k.length ≤ 9223372036854775807 := by have := hs1.1; have := hs1.2.1; simp [maxLen] at this; omega
  have q2 : iv.length ≤ 9223372036854775807 := by have := hs2.1; have := hs2.2.1; simp [maxLen] at this; omega
  have q3 : aad.length ≤ 9223372036854775807 := by have := hs3.1; have := hs3.2.1; simp [maxLen] at this; omega
  show Calls Tryz.prog 4 #[.agg (parV x o Ak k.length kc Ai iv.length ic Aa aad.length ac).toArray, .int .i64 n] w _
  obtain ⟨kn, hkn⟩ : ∃ m, k.length = m := ⟨_, rfl⟩
  obtain ⟨vn, hvn⟩ : ∃ m, iv.length = m := ⟨_, rfl⟩
  obtain ⟨an, han⟩ : ∃ m, aad.length = m := ⟨_, rfl⟩
  have HKN := Lib.hid hkn; have HVN := Lib.hid hvn; have HAN := Lib.hid han
  rw [hkn] at q1 ⊢
  rw [hvn] at q2 ⊢
  rw [han] at q3 ⊢
  clear hkn hvn han hs1 hs2 hs3
  have SH := Lib.hid (fun W => short_any x o Ak kn kc Ai vn ic Aa an ac W q1 q2 q3)
  have RC := Lib.hid (fun W => refCheck_any x o Ak kn kc Ai vn ic Aa an ac W q1 q2 q3)
  have CH := Lib.hid (fun A1 c1 A2 c2 A3 c3 W => check_any x o A1 kn c1 A2 vn c2 A3 an c3 W q1 q2 q3)
  have PC := Lib.hid (fun (W : World) (g : Nat) (t : TypeId) (fr : Nat × Nat) (h : W.heap[g]? = some (.cells (parV x o Ak kn kc Ai vn ic Aa an ac).toArray t fr)) => par_cells h)
  have PL : Hid ((parV x o Ak kn kc Ai vn ic Aa an ac).length = 5) := rfl
  have HSH : Hid (shortR kn vn an = false ∨ (kn ≤ 120 ∧ vn ≤ 100 ∧ an ≤ 1100)) := by
    show _ ∨ _
    cases h : shortR kn vn an with
    | false => exact .inl rfl
    | true => exact .inr (shortR_yes h)
  have OF : Hid (kn ≤ 2147000000 → vn ≤ 2147000000 → an ≤ 2147000000 → ∀ W, Sl W Ak kc k → Sl W Ai ic iv → Sl W Aa ac aad → Calls Tryz.prog 11 #[.agg (parV x o Ak kn kc Ai vn ic Aa an ac).toArray] W fun e w' => ∃ A1 c1 A2 c2 A3 c3, e = .returned (.agg (parV x o A1 kn c1 A2 vn c2 A3 an c3).toArray) ∧ Sl w' A1 c1 k ∧ Sl w' A2 c2 iv ∧ Sl w' A3 c3 aad ∧ Below W.heap.size W w') :=
    fun h1 h2 h3 W a b c => of_any x o Ak kn kc Ai vn ic Aa an ac k iv aad W HKN.out HVN.out HAN.out h1 h2 h3 a b c
  have CL : Hid (∀ W, Calls Tryz.prog 18 #[.int .i64 x] W fun e w' => e = .returned (.int .i64 (clsR x)) ∧ Below W.heap.size W w') := fun W => class_any x W
  have RL := Lib.hid (fun W => refClass_any x W hx)
  have AW := Lib.hid (fun W => awake12_any W)
  have RM := Lib.hid (fun W (h : n ≤ 4611686018427387904) => room_any x o n W h hnn.1)
  have RR := Lib.hid (fun W (h : n ≤ 4611686018427387904) => refRoom_any x o n W h hnn.1)
  generalize clsR x = cX at CL RL
  generalize checkR x o kn vn an = cR at CH RC
  generalize roomR x o n = rR at RM RR
  obtain ⟨r1, r2⟩ := rR
  simp only at RM RR
  have HPV : Hid (∀ A1 c1 A2 c2 A3 c3, (parV x o A1 kn c1 A2 vn c2 A3 an c3).length = 5) := fun _ _ _ _ _ _ => rfl
  obtain ⟨PV, HPVE⟩ : ∃ PV, Hid (parV x o Ak kn kc Ai vn ic Aa an ac = PV) := ⟨_, rfl⟩
  rw [HPVE.out] at SH RC PC PL OF ⊢
  obtain ⟨sh, hsh⟩ : ∃ b, shortR kn vn an = b := ⟨_, rfl⟩
  rw [hsh] at SH HSH
  clear hsh q1 q2 q3 HPVE HPV
  have HB := Lib.hid (heap_alloc_new' w (.cells PV.toArray 24))
  have B0 : Hid (Below w.heap.size w (w.alloc (.cells PV.toArray 24))) := (Below.refl _ _).alloc (Nat.le_refl _) _
  go_enter Tryz.func4, Tryz.ntmps4
  go_upto_region 1 with (fail)
  generalize w.alloc _ = W0 at HB B0 ⊢
  go_wp2_with (first
    | (refine wpList_ld rfl 24 (.tmp 2) rfl (load_arr Tryz.underlying24 rfl (by rw [PL.out]; exact i5R) HB.out) ?_)
    | fail)
  refine (SH.out W0).mono ?_
  rintro e w1 ⟨rfl, hb⟩
  have B1 : Hid (Below w.heap.size w w1) := B0.out.step hb
  have HB1 : Hid (w1.heap[w.heap.size]? = _) := (hb.block _ (lt_of_heap HB.out)).trans HB.out
  clear hb B0 HB SH
  cases sh
  · go_wp2
    go_ret
    exact ⟨rfl, B1.out⟩
  by_cases hn : 4611686018427387904 < n
  · go_wp2
    go_ret
    exact ⟨rfl, B1.out⟩
  have hn2 : n ≤ 4611686018427387904 := by omega
  have c0 := (PC.out _ _ _ _ HB1.out).1
  have c1 := (PC.out _ _ _ _ HB1.out).2.1
  go_wp2_with fail
  clear c0 c1
  refine (RM.out w1 hn2).mono ?_
  rintro e w2 ⟨rfl, hb⟩
  have B2 : Hid (Below w.heap.size w w2) := B1.out.step hb
  have HB2 : Hid (w2.heap[w.heap.size]? = _) := (hb.block _ (lt_of_heap HB1.out)).trans HB1.out
  clear hb B1 HB1 RM
  have c0 := (PC.out _ _ _ _ HB2.out).1
  have c1 := (PC.out _ _ _ _ HB2.out).2.1
  go_wp2_with fail
  clear c0 c1
  refine (RR.out w2 hn2).mono ?_
  rintro e w3 ⟨rfl, hb⟩
  have B3 : Hid (Below w.heap.size w w3) := B2.out.step hb
  have HB3 : Hid (w3.heap[w.heap.size]? = _) := (hb.block _ (lt_of_heap HB2.out)).trans HB2.out
  clear hb B2 HB2 RR hn hn2
  obtain ⟨s1, s2, s3⟩ : kn ≤ 120 ∧ vn ≤ 100 ∧ an ≤ 1100 := by
    rcases HSH.out with h | h
    · cases h
    · exact h
  have OF2 := Lib.hid (OF.out (by omega) (by omega) (by omega))
  clear s1 s2 s3 HSH OF
  go_wp2_with fail
  have HX : Hid (Ext w3 w3.drew) := (Below.refl _ _).drew
  refine reg_start (by kernel_rfl) ?_
  try simp only [Act.put, List.setIfInBounds_toArray, List.set_cons_zero, List.set_cons_succ]
  refine reg_load 0 (some 34) (fun W hW => load_arr Tryz.underlying24 rfl (by rw [PL.out]; exact i5R) (((HX.out.trans hW).block _ (lt_of_heap HB3.out)).trans HB3.out)) rfl rfl rfl rfl (by kernel_rfl) (by kernel_rfl) (by kernel_rfl) (fun _ _ _ h => h) (by rfl) ?_
  simp only [Act.put, List.setIfInBounds_toArray, List.set_cons_zero, List.set_cons_succ]
  refine reg_load 3 (some 37) (fun W hW => load_arr Tryz.underlying24 rfl (by rw [PL.out]; exact i5R) (((HX.out.trans hW).block _ (lt_of_heap HB3.out)).trans HB3.out)) rfl rfl rfl rfl (by kernel_rfl) (by kernel_rfl) (by kernel_rfl) (fun _ _ _ h => h) (by rfl) ?_
  simp only [Act.put, List.setIfInBounds_toArray, List.set_cons_zero, List.set_cons_succ]
  refine reg_eff 1 rfl (by kernel_rfl) (fun K hK => ?_)
  go_simp
  refine (OF2.out _ ((S1.out.below B3.out).below HX.out) ((S2.out.below B3.out).below HX.out) ((S3.out.below B3.out).below HX.out)).mono ?_
  rintro e w4 ⟨A1, d1, A2, d2, A3, d3, rfl, _, _, _, hE⟩
  refine hK.out _ _ hE ?_
  have HX := Lib.hid (Ext.trans HX.out hE)
  clear hE hK K
  try simp only [Act.put, List.setIfInBounds_toArray, List.set_cons_zero, List.set_cons_succ]
  refine reg_eff 2 rfl (by kernel_rfl) (fun K hK => ?_)
  go_simp
  refine (CH.out _ _ _ _ _ _ _).mono ?_
  rintro e w5 ⟨rfl, hE⟩
  refine hK.out _ _ hE ?_
  have HX := Lib.hid (Ext.trans HX.out hE)
  clear hE hK K
  try simp only [Act.put, List.setIfInBounds_toArray, List.set_cons_zero, List.set_cons_succ]
  refine reg_eff 4 rfl (by kernel_rfl) (fun K hK => ?_)
  go_simp
  refine (RC.out _).mono ?_
  rintro e w6 ⟨rfl, hE⟩
  refine hK.out _ _ hE ?_
  have HX := Lib.hid (Ext.trans HX.out hE)
  clear hE hK K
  try simp only [Act.put, List.setIfInBounds_toArray, List.set_cons_zero, List.set_cons_succ]
  refine reg_take (v := ?_) 5 (some 39) rfl rfl (by kernel_rfl) (by kernel_rfl) (by kernel_rfl) (fun _ _ _ h => h) (by rfl) (fun W hW => ?_) ?_
  rotate_left
  · (go_simp; try rfl)
  simp only [Act.put, List.setIfInBounds_toArray, List.set_cons_zero, List.set_cons_succ]
  refine reg_take (v := ?_) 6 (some 40) rfl rfl (by kernel_rfl) (by kernel_rfl) (by kernel_rfl) (fun _ _ _ h => h) (by rfl) (fun W hW => ?_) ?_
  rotate_left
  · (go_simp; try rfl)
  simp only [Act.put, List.setIfInBounds_toArray, List.set_cons_zero, List.set_cons_succ]
  refine reg_take (v := ?_) 7 (some 41) rfl rfl (by kernel_rfl) (by kernel_rfl) (by kernel_rfl) (fun _ _ _ h => h) (by rfl) (fun W hW => ?_) ?_
  rotate_left
  · (go_simp; try rfl)
  simp only [Act.put, List.setIfInBounds_toArray, List.set_cons_zero, List.set_cons_succ]
  refine reg_take (v := ?_) 8 (some 42) rfl rfl (by kernel_rfl) (by kernel_rfl) (by kernel_rfl) (fun _ _ _ h => h) (by rfl) (fun W hW => ?_) ?_
  rotate_left
  · (go_simp; try rfl)
  simp only [Act.put, List.setIfInBounds_toArray, List.set_cons_zero, List.set_cons_succ]
  refine reg_take (v := ?_) 9 (some 43) rfl rfl (by kernel_rfl) (by kernel_rfl) (by kernel_rfl) (fun _ _ _ h => h) (by rfl) (fun W hW => ?_) ?_
  rotate_left
  · (go_simp; try rfl)
  simp only [Act.put, List.setIfInBounds_toArray, List.set_cons_zero, List.set_cons_succ]
  refine reg_take (v := ?_) 10 (some 44) rfl rfl (by kernel_rfl) (by kernel_rfl) (by kernel_rfl) (fun _ _ _ h => h) (by rfl) (fun W hW => ?_) ?_
  rotate_left
  · (go_simp; try rfl)
  simp only [Act.put, List.setIfInBounds_toArray, List.set_cons_zero, List.set_cons_succ]
  refine reg_take (v := ?_) 11 (some 45) rfl rfl (by kernel_rfl) (by kernel_rfl) (by kernel_rfl) (fun _ _ _ h => h) (by rfl) (fun W hW => ?_) ?_
  rotate_left
  · (go_simp; try rfl)
  simp only [Act.put, List.setIfInBounds_toArray, List.set_cons_zero, List.set_cons_succ]
  refine reg_take (v := ?_) 12 (some 46) rfl rfl (by kernel_rfl) (by kernel_rfl) (by kernel_rfl) (fun _ _ _ h => h) (by rfl) (fun W hW => ?_) ?_
  rotate_left
  · (go_simp; try rfl)
  simp only [Act.put, List.setIfInBounds_toArray, List.set_cons_zero, List.set_cons_succ]
  refine reg_take (v := ?_) 13 (some 47) rfl rfl (by kernel_rfl) (by kernel_rfl) (by kernel_rfl) (fun _ _ _ h => h) (by rfl) (fun W hW => ?_) ?_
  rotate_left
  · (go_simp; try rfl)
  simp only [Act.put, List.setIfInBounds_toArray, List.set_cons_zero, List.set_cons_succ]
  refine reg_take (v := ?_) 14 (some 48) rfl rfl (by kernel_rfl) (by kernel_rfl) (by kernel_rfl) (fun _ _ _ h => h) (by rfl) (fun W hW => ?_) ?_
  rotate_left
  · (go_simp; try rfl)
  simp only [Act.put, List.setIfInBounds_toArray, List.set_cons_zero, List.set_cons_succ]
  refine reg_take (v := ?_) 15 (some 49) rfl rfl (by kernel_rfl) (by kernel_rfl) (by kernel_rfl) (fun _ _ _ h => h) (by rfl) (fun W hW => ?_) ?_
  rotate_left
  · (go_simp; try rfl)
  simp only [Act.put, List.setIfInBounds_toArray, List.set_cons_zero, List.set_cons_succ]
  refine reg_take (v := ?_) 16 (some 50) rfl rfl (by kernel_rfl) (by kernel_rfl) (by kernel_rfl) (fun _ _ _ h => h) (by rfl) (fun W hW => ?_) ?_
  rotate_left
  · (go_simp; try rfl)
  simp only [Act.put, List.setIfInBounds_toArray, List.set_cons_zero, List.set_cons_succ]
  refine reg_take (v := ?_) 17 (some 51) rfl rfl (by kernel_rfl) (by kernel_rfl) (by kernel_rfl) (fun _ _ _ h => h) (by rfl) (fun W hW => ?_) ?_
  rotate_left
  · (go_simp; try rfl)
  simp only [Act.put, List.setIfInBounds_toArray, List.set_cons_zero, List.set_cons_succ]
  refine reg_load 18 (some 52) (fun W hW => load_cellW (hu := Tryz.underlying3) (hd := rfl) (PC.out _ _ _ _ (((HX.out.trans hW).block _ (lt_of_heap HB3.out)).trans HB3.out)).1) rfl rfl rfl rfl (by kernel_rfl) (by kernel_rfl) (by kernel_rfl) (fun _ _ _ h => h) (by rfl) ?_
  simp only [Act.put, List.setIfInBounds_toArray, List.set_cons_zero, List.set_cons_succ]
  refine reg_take (v := ?_) 20 (some 54) rfl rfl (by kernel_rfl) (by kernel_rfl) (by kernel_rfl) (fun _ _ _ h => h) (by rfl) (fun W hW => ?_) ?_
  rotate_left
  · (go_simp; try rfl)
  simp only [Act.put, List.setIfInBounds_toArray, List.set_cons_zero, List.set_cons_succ]
  refine reg_load 21 (some 55) (fun W hW => load_cellW (hu := Tryz.underlying3) (hd := rfl) (PC.out _ _ _ _ (((HX.out.trans hW).block _ (lt_of_heap HB3.out)).trans HB3.out)).1) rfl rfl rfl rfl (by kernel_rfl) (by kernel_rfl) (by kernel_rfl) (fun _ _ _ h => h) (by rfl) ?_
  simp only [Act.put, List.setIfInBounds_toArray, List.set_cons_zero, List.set_cons_succ]
  refine reg_eff 19 rfl (by kernel_rfl) (fun K hK => ?_)
  go_simp
  refine (CL.out _).mono ?_
  rintro e w7 ⟨rfl, hE⟩
  refine hK.out _ _ hE ?_
  have HX := Lib.hid (Ext.trans HX.out hE)
  clear hE hK K
  try simp only [Act.put, List.setIfInBounds_toArray, List.set_cons_zero, List.set_cons_succ]
  refine reg_eff 22 rfl (by kernel_rfl) (fun K hK => ?_)
  go_simp
  refine (RL.out _).mono ?_
  rintro e w8 ⟨rfl, hE⟩
  refine hK.out _ _ hE ?_
  have HX := Lib.hid (Ext.trans HX.out hE)
  clear hE hK K
  try simp only [Act.put, List.setIfInBounds_toArray, List.set_cons_zero, List.set_cons_succ]
  refine reg_take (v := ?_) 23 (some 57) rfl rfl (by kernel_rfl) (by kernel_rfl) (by kernel_rfl) (fun _ _ _ h => h) (by rfl) (fun W hW => ?_) ?_
  rotate_left
  · (go_simp; try rfl)
  simp only [Act.put, List.setIfInBounds_toArray, List.set_cons_zero, List.set_cons_succ]
  refine reg_take (v := ?_) 24 (some 58) rfl rfl (by kernel_rfl) (by kernel_rfl) (by kernel_rfl) (fun _ _ _ h => h) (by rfl) (fun W hW => ?_) ?_
  rotate_left
  · (go_simp; try rfl)
  simp only [Act.put, List.setIfInBounds_toArray, List.set_cons_zero, List.set_cons_succ]
  refine reg_take (v := ?_) 25 (some 59) rfl rfl (by kernel_rfl) (by kernel_rfl) (by kernel_rfl) (fun _ _ _ h => h) (by rfl) (fun W hW => ?_) ?_
  rotate_left
  · (go_simp; try rfl)
  simp only [Act.put, List.setIfInBounds_toArray, List.set_cons_zero, List.set_cons_succ]
  refine reg_eff 26 rfl (by kernel_rfl) (fun K hK => ?_)
  go_simp
  refine (AW.out _).mono ?_
  rintro e w9 ⟨rfl, hE⟩
  refine hK.out _ _ hE ?_
  have HX := Lib.hid (Ext.trans HX.out hE)
  clear hE hK K
  try simp only [Act.put, List.setIfInBounds_toArray, List.set_cons_zero, List.set_cons_succ]
  refine reg_take (v := ?_) 27 (some 61) rfl rfl (by kernel_rfl) (by kernel_rfl) (by kernel_rfl) (fun _ _ _ h => h) (by rfl) (fun W hW => ?_) ?_
  rotate_left
  · (go_simp; try rfl)
  simp only [Act.put, List.setIfInBounds_toArray, List.set_cons_zero, List.set_cons_succ]
  refine reg_take (v := ?_) 28 (some 4) rfl rfl (by kernel_rfl) (by kernel_rfl) (by kernel_rfl) (fun _ _ _ h => h) (by rfl) (fun W hW => ?_) ?_
  rotate_left
  · (go_simp; try rfl)
  simp only [Act.put, List.setIfInBounds_toArray, List.set_cons_zero, List.set_cons_succ]
  refine reg_done (by kernel_rfl) ?_
  have B9 : Hid (Below w.heap.size w w9) := B3.out.step HX.out
  go_wp2
  go_ret
  exact ⟨rfl, B9.out⟩
end Go.Proofs.YtnhhgiebnhlfcaaGreatDoor

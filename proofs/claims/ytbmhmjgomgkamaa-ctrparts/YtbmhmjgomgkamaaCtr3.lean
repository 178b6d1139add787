/- Package ctr: New, (*Stream).Crypt, (*Stream).At. -/
import Derived.Test.YtbmhmjgomgkamaaCtr2
import Derived.Deep.MidRow
namespace Go.Proofs.Ytbmhmjgomgkamaa
open Go.RowKit
set_option linter.unusedVariables false
set_option linter.unusedSimpArgs false
theorem c_store_mid {P : Program} {ty : TypeId} {cs : List Value} (hi : (P.info? ty).map (·.size) = some cs.length) (h1 : ∀ v ∈ cs, v.oneCell' = true)
    {W : World} {g off : Nat} {t : TypeId} {cur : List Value} (hg : W.heap[g]? = some (.cells cur.toArray t (0, 0))) (ho : off + cs.length ≤ cur.length) :
    (Instr.storeAt ty (.pointer (some ⟨g, off, none⟩)) (.agg cs.toArray)).run P W = .ok () (W.setRow g (splice cur off cs).toArray) := by
  have h := run_storeCells_at P g off t cs 0 cur.toArray W hg (by simpa using ho) h1
  simp only [Nat.add_zero] at h
  have h2 : (storeVar ty ⟨g, off, none⟩ (.agg cs.toArray)).run P W = .ok () (W.setRow g (splice cur off cs).toArray) := by
    cases hq : P.info? ty with
    | none => simp [hq] at hi
    | some i =>
      have hs : cs.length = i.size := by simp [hq] at hi; omega
      simp [storeVar, sizeOf, typeInfo, hq, Value.cells, hs, h, splice]
  simp only [Instr.storeAt, Instr.sureAddr, Sem.run_bind, Sem.run_pure, Result.andThen_ok, h2]
def strCells (K : List Value) (iv : List UInt8) (p : Nat) : List Value := K ++ (iv.map bv ++ [.int .i64 (p : Int)])
theorem strCells_len (K : List Value) (iv : List UInt8) (p : Nat) (hK : K.length = 61) (hiv : iv.length = 16) : (strCells K iv p).length = 78 := by simp [strCells, hK, hiv]
theorem keyCells_len (ws : List W32) (n : Nat) (h : ws.length = 60) : (keyCells ws n).length = 61 := by simp [keyCells, h]
theorem keyCells_one (ws : List W32) (n : Nat) : ∀ v ∈ keyCells ws n, v.oneCell' = true := by
  intro v hv
  rw [keyCells, List.mem_append] at hv
  rcases hv with hv | hv
  · exact wv_one ws v hv
  · rw [List.mem_singleton] at hv; rw [hv]; rfl
theorem zeros61_len' : zeros61.length = 61 := by simp [zeros61, zeros60_len]
def zeros78 : List Value := strCells zeros61 (List.replicate 16 0) 0
theorem zeros78_len : zeros78.length = 78 := strCells_len _ _ _ zeros61_len' (by simp)
theorem built_fillS (parts : List (Nat × Value)) : Try.prog.built 63 parts = Instr.fill (fun i => #[(0, 61), (61, 16), (77, 1)][i]?) zeros78.toArray parts := by kernel_rfl
theorem splice_iv (K : List Value) (iv iv' : List UInt8) (p : Nat) (hK : K.length = 61) (h : iv'.length = iv.length) : splice (strCells K iv p) 61 (iv'.map bv) = strCells K iv' p := by
  have := splice_split K (iv.map bv) [Value.int .i64 (p : Int)] (iv'.map bv) (by simpa using h)
  rw [hK] at this
  simpa [strCells] using this
theorem splice_key (K K' : List Value) (iv : List UInt8) (p : Nat) (h : K'.length = K.length) : splice (strCells K iv p) 0 K' = strCells K' iv p := by
  have := splice_split [] K (iv.map bv ++ [Value.int .i64 (p : Int)]) K' h
  simpa [strCells] using this
theorem built_stream (iv : List UInt8) (h : iv.length = 16) : Try.prog.built 63 [(1, .agg (iv.map bv).toArray)] = some (strCells zeros61 iv 0).toArray := by
  have hz := zeros61_len'
  rw [built_fillS]
  have h78 := zeros78_len
  have e0 := splice_iv zeros61 (List.replicate 16 0) iv 0 hz (by simp [h])
  change splice zeros78 61 (iv.map bv) = _ at e0
  generalize zeros78 = Z at h78 e0
  rw [fill_cons (off := 61) (size := 16) rfl (by simpa [Value.cells] using h) (by simp [h78])]
  have e1 : (Value.agg (iv.map bv).toArray).cells = (iv.map bv).toArray := rfl
  rw [e1, fold_arr 61 (iv.map bv) Z (by rw [List.length_map, h, h78]; omega), e0]
  rfl
def StrAt (w : World) (g : Nat) (ws : List W32) (n : Nat) (iv : List UInt8) (p : Nat) : Prop :=
  ws.length = 60 ∧ iv.length = 16 ∧ w.heap[g]? = some (.cells (strCells (keyCells ws n) iv p).toArray 63 (0, 0))
theorem StrAt.ext {w w' : World} {g n p : Nat} {ws : List W32} {iv : List UInt8} (h : StrAt w g ws n iv p) (hb : Below w.heap.size w w') : StrAt w' g ws n iv p := ⟨h.1, h.2.1, (hb.block _ (lt_of_heap h.2.2)).trans h.2.2⟩
theorem StrAt.other {w w' : World} {g n p : Nat} {ws : List W32} {iv : List UInt8} (h : StrAt w g ws n iv p) (hb : w'.heap[g]? = w.heap[g]?) : StrAt w' g ws n iv p := ⟨h.1, h.2.1, hb.trans h.2.2⟩
theorem StrAt.lt {w : World} {g n p : Nat} {ws : List W32} {iv : List UInt8} (h : StrAt w g ws n iv p) : g < w.heap.size := lt_of_heap h.2.2
theorem StrAt.keys {w : World} {g n p : Nat} {ws : List W32} {iv : List UInt8} (h : StrAt w g ws n iv p) : KeyIn w g ws n := by
  refine ⟨h.1, h.lt, fun j v hv => ?_⟩
  have hj := (List.getElem?_eq_some_iff.1 hv).1
  rw [Nat.zero_add, cell_of_heap h.2.2, strCells, List.getElem?_append_left hj]; exact hv
theorem StrAt.iv {w : World} {g n p : Nat} {ws : List W32} {iv : List UInt8} (h : StrAt w g ws n iv p) : w.rangeAt g 61 (iv.map bv) := fun j v hv => by
  have hj := (List.getElem?_eq_some_iff.1 hv).1
  have hk := keyCells_len ws n h.1
  rw [cell_of_heap h.2.2, strCells, List.getElem?_append_right (by omega), hk, List.getElem?_append_left (by omega), show 61 + j - 61 = j by omega]; exact hv
theorem StrAt.at_ {w : World} {g n p : Nat} {ws : List W32} {iv : List UInt8} (h : StrAt w g ws n iv p) : w.cell? ⟨g, 77, none⟩ = some (.int .i64 (p : Int)) := by
  have hk := keyCells_len ws n h.1
  have hi := h.2.1
  rw [cell_of_heap h.2.2, strCells, List.getElem?_append_right (by omega), hk, List.getElem?_append_right (by simp; omega)]; simp [hi]
theorem str_set (ws : List W32) (n : Nat) (iv : List UInt8) (p p' : Nat) (h : ws.length = 60) (hi : iv.length = 16) : (strCells (keyCells ws n) iv p).set 77 (.int .i64 (p' : Int)) = strCells (keyCells ws n) iv p' := by
  have hk := keyCells_len ws n h
  unfold strCells
  rw [List.set_append_right _ _ (by omega), List.set_append_right _ _ (by simp; omega)]
  simp [hk, hi]
theorem KeyIn.enc {w : World} {g n : Nat} {ws : List W32} (h : KeyIn w g ws n) (hn : 1 ≤ n) (hn2 : n ≤ 14) : Enc w (.pointer (some ⟨g, 0, none⟩)) (encL ws n) :=
  ⟨fun x hx => by rw [encL, encT, outL_len, addW_len _ _ _ (shiftW_len _ _) (by have := h.1; omega)], fun W hW x hx => encIn_any g n ws x W hx hn hn2 (h.ext hW)⟩
set_option maxHeartbeats 1000000 in
theorem cnew_any (g n : Nat) (ws : List W32) (iv : List UInt8) (w : World) (H : KeyAt w g ws n) (hiv : iv.length = 16) :
    Calls Try.prog 12 #[.pointer (some ⟨g, 0, none⟩), .agg (iv.map bv).toArray] w fun e w' => ∃ g', e = .returned (.pointer (some ⟨g', 0, none⟩)) ∧ w.heap.size ≤ g' ∧ StrAt w' g' ws n iv 0 ∧ Below w.heap.size w w' := by
  have HB0 : Hid (Below w.heap.size w (w.alloc (.cells (iv.map bv).toArray 23))) := (Below.refl _ _).alloc (Nat.le_refl _) _
  have hb : Hid (∀ W, (Instr.build 63 #[(1, .agg (iv.map bv).toArray)]).run Try.prog W = .ok (.agg (strCells zeros61 iv 0).toArray) W) := fun W => run_build W _ _ _ (built_stream iv hiv)
  have HK := Lib.hid H
  have HIV := Lib.hid hiv
  have SPL : Hid (splice (strCells zeros61 iv 0) 0 (keyCells ws n) = strCells (keyCells ws n) iv 0) := splice_key _ _ _ _ (by rw [keyCells_len ws n H.1, zeros61_len'])
  have HKL := Lib.hid (keyCells_len ws n H.1)
  have HKO := Lib.hid (keyCells_one ws n)
  have HSL := Lib.hid (strCells_len zeros61 iv 0 zeros61_len' hiv)
  have HKI : Hid ((Try.prog.info? 61).map (·.size) = some (keyCells ws n).length) := by show _ = _; rw [HKL.out]; kernel_rfl
  have HH : Hid (w.heap[g]? = some (.cells (keyCells ws n).toArray 61 (0, 0))) := H.2
  have HW : Hid (ws.length = 60) := H.1
  have HI16 := Lib.hid (i16c iv hiv)
  have HST : Hid (∀ W g', W.heap[g']? = some (.cells (strCells (keyCells ws n) iv 0).toArray 63 (0, 0)) → StrAt W g' ws n iv 0) := fun W g' h => ⟨H.1, hiv, h⟩
  clear H hiv HK HW HIV
  generalize strCells zeros61 iv 0 = S0 at hb SPL HSL
  generalize strCells (keyCells ws n) iv 0 = S1 at SPL HST
  generalize keyCells ws n = KC at SPL HKL HKO HKI HH
  generalize iv.map bv = IV at HB0 hb HI16 ⊢
  go_enter Try.func12, Try.ntmps12
  go_upto_region 1 with (fail)
  generalize hV : w.alloc _ = W0 at HB0 ⊢
  have F0 : Hid (W0.heap[w.heap.size]? = some (.cells IV.toArray 23 (0, 0))) := by rw [← hV]; exact heap_alloc_new' w _
  clear hV
  have HH0 := Lib.hid ((HB0.out.block _ (lt_of_heap HH.out)).trans HH.out)
  have HG : Hid (g ≠ W0.heap.size) := by have := lt_of_heap HH0.out; show _ ≠ _; omega
  go_wp2_with (first
    | (refine wpList_ld rfl 23 (.tmp 3) rfl (load_arr arr16B rfl HI16.out F0.out) ?_)
    | (refine wpList_run (o := ⟨some 7, _, _, _, _, _⟩) rfl (v := .agg S0.toArray) (w' := W0) (exec_build rfl (by simp only [List.map_toArray, List.map_cons, List.map_nil]; exact hb.out W0)) ?_)
    | (refine wpList_ld rfl 61 (.tmp 13) rfl (load_arr Try.underlying61 rfl HKI.out ((heap_alloc_old W0 _ (lt_of_heap HH0.out)).trans HH0.out)) ?_)
    | (refine wpList_st rfl 61 (.tmp 16) (.tmp 14) rfl (c_store_mid (cs := KC) (off := 0) HKI.out HKO.out (cur := S0) (heap_alloc_new' W0 _) (by rw [HKL.out, HSL.out]; omega)) ?_
       rw [SPL.out]
       generalize hV : World.setRow _ _ _ = W3
       have M3 := Lib.hid (heap_of_setRow hV (heap_alloc_new' W0 _))
       have MB := Lib.hid (((Below.refl W0.heap.size W0).alloc (Nat.le_refl _) _).trans (below_of_setRow hV (Nat.le_refl W0.heap.size) (by simp)))
       clear hV)
    | fail)
  go_ret
  exact ⟨_, rfl, HB0.out.size, HST.out _ _ M3.out, HB0.out.step MB.out⟩
theorem cat_nil (w : World) : Calls Try.prog 14 #[.pointer none] w fun e w' => e = .returned (.int .i64 0) ∧ w = w' := by
  go_enter Try.func14, Try.ntmps14
  go_wp2
  go_ret
  exact ⟨rfl, rfl⟩
theorem cat_any (g n p : Nat) (ws : List W32) (iv : List UInt8) (w : World) (H : StrAt w g ws n iv p) : Calls Try.prog 14 #[.pointer (some ⟨g, 0, none⟩)] w fun e w' => e = .returned (.int .i64 (p : Int)) ∧ w = w' := by
  have c := H.at_
  clear H
  go_enter Try.func14, Try.ntmps14
  go_wp2
  go_ret
  exact ⟨rfl, rfl⟩
theorem cstr_nil (A : Option Addr) (n c : Nat) (w : World) : Calls Try.prog 13 #[.pointer none, .slice A n c] w fun e w' => e = .returned (.slice none 0 0) ∧ w = w' := by
  go_enter Try.func13, Try.ntmps13
  go_wp2
  go_ret
  exact ⟨rfl, rfl⟩
theorem c_gr_trans {a b c : World} {g : Nat} (h : a.grownBy b (some g)) (k : b.grownBy c (some g)) : a.grownBy c (some g) :=
  ⟨k.os.trans h.os, k.tape.trans h.tape, k.output.trans h.output, Nat.le_trans h.size k.size, fun i hi hn => (k.block i (Nat.lt_of_lt_of_le hi h.size) hn).trans (h.block i hi hn)⟩
theorem c_gr_of {a b : World} {g : Nat} (h : Below a.heap.size a b) : a.grownBy b (some g) := ⟨h.os, h.tape, h.output, h.size, fun k hk _ => h.block k hk⟩
theorem c_gr_setCell (w : World) (g o : Nat) (v : Value) : w.grownBy (w.setCell ⟨g, o, none⟩ v) (some g) :=
  ⟨rfl, rfl, rfl, by simp [World.setCell], fun k hk hn => Below.heap_setCell _ _ _ _ (fun e => hn (by rw [e]))⟩
theorem c_own_gr {w w' : World} {base : Nat} {e : TypeId} {s : Nat} {v : Value} {n : Nat} {xs : List Value} {g : Nat} (h : w.ownsRow base e s v n xs) (hb : w.grownBy w' (some g)) (hg : g < base) : w'.ownsRow base e s v n xs := by
  obtain ⟨h0, h | ⟨g1, cap, cur, hv, hg1, hh, r⟩⟩ := h
  · exact ⟨h0, .inl h⟩
  · exact ⟨h0, .inr ⟨g1, cap, cur, hv, hg1, (hb.block _ (lt_of_heap hh) (fun e => by injection e with e; omega)).trans hh, r⟩⟩
set_option maxHeartbeats 1000000 in
theorem cstr_any (g n p : Nat) (ws : List W32) (iv : List UInt8) (A : Option Addr) (m c : Nat) (bs : List UInt8) (w : World) (hn : 1 ≤ n) (hn2 : n ≤ 14) (hl : bs.length = m) (hp : p + m ≤ 2147483647) (hS : Sl w A c bs) (H : StrAt w g ws n iv p) :
    Calls Try.prog 13 #[.pointer (some ⟨g, 0, none⟩), .slice A m c] w fun e w' => ∃ v, e = .returned v ∧ w'.ownsRow w.heap.size 5 1 v m ((ctrL (strmF (encL ws n) iv) p bs).map bv) ∧ StrAt w' g ws n iv (p + m) ∧ w.grownBy w' (some g) := by
  have HH := Lib.hid H
  have CR := Lib.hid (fun W (hX : Ext w W) => crypt_any (.pointer (some ⟨g, 0, none⟩)) (encL ws n) iv p A m c bs W H.2.1 ((H.keys.enc hn hn2).ext hX) hl (by omega) (hS.below hX))
  have HW : Hid (ws.length = 60 ∧ iv.length = 16) := ⟨H.1, H.2.1⟩
  have HST := Lib.hid (str_set ws n iv p (p + m) H.1 H.2.1)
  have u1 : IntKind.i64.wrap ((p : Int) + (m : Int)) = ((p + m : Nat) : Int) := by rw [IntKind.wrap_i64]; omega
  have u2 : (p : Int) + (m : Int) = ((p + m : Nat) : Int) := by omega
  have hpm : p + m ≤ 2147483647 := hp
  clear hn hn2 hl hp hS H
  generalize ctrL (strmF (encL ws n) iv) p bs = R at CR ⊢
  obtain ⟨q, hq⟩ : ∃ q, q = p + m := ⟨_, rfl⟩
  rw [← hq] at HST u1 u2 hpm ⊢
  have HQ := Lib.hid hq
  clear hq
  go_enter Try.func13, Try.ntmps13
  go_upto_region 3 with (fail)
  have HX : Hid (Ext w w.drew) := (Below.refl _ _).drew
  refine reg_start (by kernel_rfl) ?_
  try simp only [Act.put, List.setIfInBounds_toArray, List.set_cons_zero, List.set_cons_succ]
  refine reg_take (v := ?_) 0 (some 8) rfl rfl (by kernel_rfl) (by kernel_rfl) (by kernel_rfl) (fun _ _ _ h => h) (by rfl) (fun W hW => ?_) ?_
  rotate_left
  · (go_simp; try rfl)
  simp only [Act.put, List.setIfInBounds_toArray, List.set_cons_zero, List.set_cons_succ]
  refine reg_take (v := ?_) 1 (some 9) rfl rfl (by kernel_rfl) (by kernel_rfl) (by kernel_rfl) (fun _ _ _ h => h) (by rfl) (fun W hW => ?_) ?_
  rotate_left
  · (go_simp; try rfl)
  simp only [Act.put, List.setIfInBounds_toArray, List.set_cons_zero, List.set_cons_succ]
  refine reg_take (v := ?_) 2 (some 10) rfl rfl (by kernel_rfl) (by kernel_rfl) (by kernel_rfl) (fun _ _ _ h => h) (by rfl) (fun W hW => ?_) ?_
  rotate_left
  · (go_simp; try rfl)
  simp only [Act.put, List.setIfInBounds_toArray, List.set_cons_zero, List.set_cons_succ]
  refine reg_take (v := ?_) 3 (some 11) rfl rfl (by kernel_rfl) (by kernel_rfl) (by kernel_rfl) (fun _ _ _ h => h) (by rfl) (fun W hW => ?_) ?_
  rotate_left
  · (go_simp; try rfl)
  simp only [Act.put, List.setIfInBounds_toArray, List.set_cons_zero, List.set_cons_succ]
  refine reg_take (v := ?_) 4 (some 12) rfl rfl (by kernel_rfl) (by kernel_rfl) (by kernel_rfl) (fun _ _ _ h => h) (by rfl) (fun W hW => ?_) ?_
  rotate_left
  · (go_simp; try rfl)
  simp only [Act.put, List.setIfInBounds_toArray, List.set_cons_zero, List.set_cons_succ]
  refine reg_take (v := ?_) 5 (some 13) rfl rfl (by kernel_rfl) (by kernel_rfl) (by kernel_rfl) (fun _ _ _ h => h) (by rfl) (fun W hW => ?_) ?_
  rotate_left
  · (go_simp; try rfl)
  simp only [Act.put, List.setIfInBounds_toArray, List.set_cons_zero, List.set_cons_succ]
  refine reg_load 6 (some 14) (fun W hW => run_loadAt_mid W g 61 23 (iv.map bv) _ (HH.out.ext (HX.out.trans hW)).iv arr16B rfl (i16z iv HW.out.2)) rfl rfl rfl rfl (by kernel_rfl) (by kernel_rfl) (by kernel_rfl) (fun _ _ _ h => h) (by rfl) ?_
  simp only [Act.put, List.setIfInBounds_toArray, List.set_cons_zero, List.set_cons_succ]
  refine reg_take (v := ?_) 7 (some 15) rfl rfl (by kernel_rfl) (by kernel_rfl) (by kernel_rfl) (fun _ _ _ h => h) (by rfl) (fun W hW => ?_) ?_
  rotate_left
  · (go_simp; try rfl)
  simp only [Act.put, List.setIfInBounds_toArray, List.set_cons_zero, List.set_cons_succ]
  refine reg_take (v := ?_) 8 (some 16) rfl rfl (by kernel_rfl) (by kernel_rfl) (by kernel_rfl) (fun _ _ _ h => h) (by rfl) (fun W hW => ?_) ?_
  rotate_left
  · (go_simp; try rfl)
  simp only [Act.put, List.setIfInBounds_toArray, List.set_cons_zero, List.set_cons_succ]
  refine reg_take (v := ?_) 9 (some 17) rfl rfl (by kernel_rfl) (by kernel_rfl) (by kernel_rfl) (fun _ _ _ h => h) (by rfl) (fun W hW => ?_) ?_
  rotate_left
  · (go_simp; try rfl)
  simp only [Act.put, List.setIfInBounds_toArray, List.set_cons_zero, List.set_cons_succ]
  refine reg_load 10 (some 18) (fun W hW => load_cell Try.underlying3 (HH.out.ext (HX.out.trans hW)).at_) rfl rfl rfl rfl (by kernel_rfl) (by kernel_rfl) (by kernel_rfl) (fun _ _ _ h => h) (by rfl) ?_
  simp only [Act.put, List.setIfInBounds_toArray, List.set_cons_zero, List.set_cons_succ]
  refine reg_take (v := ?_) 11 (some 19) rfl rfl (by kernel_rfl) (by kernel_rfl) (by kernel_rfl) (fun _ _ _ h => h) (by rfl) (fun W hW => ?_) ?_
  rotate_left
  · (go_simp; try rfl)
  simp only [Act.put, List.setIfInBounds_toArray, List.set_cons_zero, List.set_cons_succ]
  refine reg_eff 12 rfl (by kernel_rfl) (fun K hK => ?_)
  go_simp
  refine (CR.out _ HX.out).mono ?_
  rintro e w1 ⟨v1, rfl, hO1, hE⟩
  have O1 := Lib.hid hO1
  clear hO1
  refine hK.out _ _ hE ?_
  have HX := Lib.hid (Ext.trans HX.out hE)
  clear hE hK K
  try simp only [Act.put, List.setIfInBounds_toArray, List.set_cons_zero, List.set_cons_succ]
  refine reg_take (v := ?_) 13 (some 5) rfl rfl (by kernel_rfl) (by kernel_rfl) (by kernel_rfl) (fun _ _ _ h => h) (by rfl) (fun W hW => ?_) ?_
  rotate_left
  · (go_simp; try rfl)
  simp only [Act.put, List.setIfInBounds_toArray, List.set_cons_zero, List.set_cons_succ]
  refine reg_done (by kernel_rfl) ?_
  have H1 := Lib.hid (HH.out.ext HX.out)
  have c1 := H1.out.at_
  have HGW := Lib.hid HH.out.lt
  have fz : w1.frozen? ⟨g, 77, none⟩ = false := by simp [World.frozen?, H1.out.2.2]
  have HSZ : Hid (w.heap.size ≤ w1.heap.size) := HX.out.size
  go_wp2_with fail
  go_ret
  refine ⟨_, rfl, c_own_gr (own_mono O1.out (Nat.le_refl _)) (c_gr_setCell _ _ _ _) HGW.out, ⟨HW.out.1, HW.out.2, ?_⟩, c_gr_trans (c_gr_of HX.out) (c_gr_setCell _ _ _ _)⟩
  have := heap_set H1.out.2.2 77 (.int .i64 (q : Int))
  rw [HST.out] at this
  exact this
end Go.Proofs.Ytbmhmjgomgkamaa

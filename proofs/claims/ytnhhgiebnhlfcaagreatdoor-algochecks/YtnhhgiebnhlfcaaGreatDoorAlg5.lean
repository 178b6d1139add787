/- algo.known, Class. -/
import Derived.Test.YtnhhgiebnhlfcaaGreatDoorAlg4
namespace Go.Proofs.YtnhhgiebnhlfcaaGreatDoor
open Go.RowKit Go.Shelf
set_option linter.unusedVariables false
set_option linter.unusedSimpArgs false
set_option maxRecDepth 100000
def zeroKind : List Value := [.int .i64 0, .nilFunc, .nilFunc, .int .i64 0, .nilFunc, .nilFunc, .nilFunc, .nilFunc]
def FnV (v : Value) : Prop := isF v ∨ v = .nilFunc
theorem kinds_get {n0 : Nat} {W : World} {v : Value} (h : KindsV n0 W v) (x : Int) : ∃ E, (Instr.lookup 66 v (.int .i64 x) false).run Tryz.prog W = .ok E W ∧ ((∃ k : Nat, 1 ≤ k ∧ k ≤ 6 ∧ x = (k : Int) ∧ KindAt n0 W E k) ∨ ((x < 1 ∨ 6 < x) ∧ E = .agg zeroKind.toArray)) := by
  obtain ⟨g, es, clock, ks, rfl, h2, h3, h4, h5⟩ := h
  refine ⟨_, run_mapGet Tryz.underlying66 Tryz.underlying3 h2 h3 x (.agg zeroKind.toArray) (fun W => by kernel_rfl), ?_⟩
  by_cases hx : x < 1 ∨ 6 < x
  · rw [h4 x hx]
    exact .inr ⟨hx, rfl⟩
  · obtain ⟨k, hk⟩ : ∃ k : Nat, x = (k : Int) := ⟨x.toNat, by omega⟩
    subst hk
    obtain ⟨E, hE, hK⟩ := h5 k (by omega) (by omega)
    rw [hE]
    exact .inl ⟨k, by omega, by omega, rfl, hK⟩
/-- the eight cells of a kind, which ways it has -/
theorem kind_cells {n0 : Nat} {W : World} {E : Value} {k : Nat} (hk : 1 ≤ k ∧ k ≤ 6) (h : KindAt n0 W E k) : ∃ c a : Int, ∃ key iv r1 d1 r2 d2, E = .agg [.int .i64 c, key, iv, .int .i64 a, r1, d1, r2, d2].toArray ∧ isF key ∧ isF iv ∧ FnV r1 ∧ FnV d1 ∧ FnV r2 ∧ FnV d2 ∧
    WayRD n0 W k false r1 d1 ∧ WayRD n0 W k true r2 d2 := by
  obtain ⟨key, iv, r1, d1, r2, d2, h1, h2, h3, h4, h5⟩ := h
  have hw : ∀ o r d, WayRD n0 W k o r d → FnV r ∧ FnV d := fun o r d h => by
    unfold WayRD at h
    by_cases hh : hasW k o = true
    · rw [if_pos hh] at h
      refine ⟨.inl (fun_room h.1), .inl ?_⟩
      have hd := h.2
      have hk6 : k = 1 ∨ k = 2 ∨ k = 3 ∨ k = 4 ∨ k = 5 ∨ k = 6 := by omega
      rcases hk6 with rfl | rfl | rfl | rfl | rfl | rfl <;> cases o <;> first | exact ⟨_, _, hd⟩ | exact fun_aes hd | exact fun_key hd
    · rw [if_neg hh] at h
      exact ⟨.inr h.1, .inr h.2⟩
  exact ⟨_, _, key, iv, r1, d1, r2, d2, h1, fun_fit h2, fun_fit h3, (hw _ _ _ h4).1, (hw _ _ _ h4).2, (hw _ _ _ h5).1, (hw _ _ _ h5).2, h4, h5⟩
theorem fnv_one {v : Value} (h : FnV v) : v.oneCell' = true := by
  rcases h with ⟨F, c, rfl⟩ | rfl <;> rfl
theorem isf_one {v : Value} (h : isF v) : v.oneCell' = true := by
  obtain ⟨F, c, rfl⟩ := h
  rfl
set_option maxHeartbeats 2000000 in
theorem class_any (x : Int) (w : World) : Calls Tryz.prog 18 #[.int .i64 x] w fun e w' => e = .returned (.int .i64 (if x < 1 ∨ 6 < x then 0 else clsK x.toNat)) ∧ Below w.heap.size w w' := by
  obtain ⟨y, hy⟩ : ∃ y : Int, y = (if x < 1 ∨ 6 < x then 0 else clsK x.toNat) := ⟨_, rfl⟩
  rw [← hy]
  have HY := Lib.hid hy
  clear hy
  go_enter Tryz.func18, Tryz.ntmps18
  go_wp2_with fail
  refine (kinds_any w.heap.size w (Nat.le_refl _)).mono ?_
  rintro e w1 ⟨v, rfl, hv, hb⟩
  obtain ⟨E, hE, hc⟩ := kinds_get hv x
  have HC := Lib.hid hc; have HB := Lib.hid hb
  have HF : Hid (∀ W, (Instr.field 54 E 0).run Tryz.prog W = .ok (.int .i64 y) W) := fun W => by
    rw [HY.out]
    rcases hc with ⟨k, h1, h2, rfl, hK⟩ | ⟨h1, rfl⟩
    · obtain ⟨key, iv, r1, d1, r2, d2, rfl, ⟨F, c, rfl, _⟩, ⟨F2, c2, rfl, _⟩, _, _⟩ := hK
      rw [if_neg (by omega), Int.toNat_natCast]
      kernel_rfl
    · rw [if_pos h1]
      kernel_rfl
  clear hv hb hc
  have hF := HF.out
  go_wp2_with (first
    | (refine wpList_run (o := ⟨some 5, _, _, _, _, _⟩) rfl (v := E) (w' := w1) (exec_lookF rfl hE) ?_)
    | (refine wpList_run (o := ⟨some 6, _, _, _, _, _⟩) rfl (v := .int .i64 y) (w' := w1) (exec_fieldF rfl (hF w1)) ?_)
    | fail)
  go_ret
  exact ⟨rfl, HB.out⟩
/-- what known comes to -/
def KnownV (W : World) (x : Int) (o : Bool) (v : Value) : Prop :=
  (∃ k : Nat, 1 ≤ k ∧ k ≤ 6 ∧ x = (k : Int) ∧ hasW k o = true ∧ ∃ E r d, v = .tuple #[E, .agg #[r, d], .int .i64 0] ∧ ∃ n0, KindAt n0 W E k ∧ RoomV n0 W r (roomP k o) ∧ DoV n0 W k o d) ∨
  ((x < 1 ∨ 6 < x ∨ ∃ k : Nat, 1 ≤ k ∧ k ≤ 6 ∧ x = (k : Int) ∧ hasW k o = false) ∧ v = .tuple #[.agg zeroKind.toArray, .agg #[.nilFunc, .nilFunc], .int .i64 4])
theorem known_finds {n0 : Nat} {W : World} {v : Value} (h : KindsV n0 W v) (x : Int) (o : Bool) : ∃ c a : Int, ∃ key iv r1 d1 r2 d2 : Value,
    (Instr.lookup 66 v (.int .i64 x) false).run Tryz.prog W = .ok (.agg [.int .i64 c, key, iv, .int .i64 a, r1, d1, r2, d2].toArray) W ∧ FnV key ∧ FnV iv ∧ FnV r1 ∧ FnV d1 ∧ FnV r2 ∧ FnV d2 ∧
    ((isF (if o then d2 else d1) ∧ ∀ W', KeepL n0 W W' → KnownV W' x o (.tuple #[.agg [.int .i64 c, key, iv, .int .i64 a, r1, d1, r2, d2].toArray, .agg [if o then r2 else r1, if o then d2 else d1].toArray, .int .i64 0])) ∨
     ((if o then d2 else d1) = .nilFunc ∧ ∀ W', KnownV W' x o (.tuple #[.agg zeroKind.toArray, .agg #[.nilFunc, .nilFunc], .int .i64 4]))) := by
  obtain ⟨E, hE, ⟨k, h1, h2, rfl, hK⟩ | ⟨hx, rfl⟩⟩ := kinds_get h x
  · obtain ⟨c, a, key, iv, r1, d1, r2, d2, rfl, f1, f2, f3, f4, f5, f6, w1, w2⟩ := kind_cells ⟨h1, h2⟩ hK
    refine ⟨c, a, key, iv, r1, d1, r2, d2, hE, .inl f1, .inl f2, f3, f4, f5, f6, ?_⟩
    have hw : WayRD n0 W k o (if o then r2 else r1) (if o then d2 else d1) := by cases o <;> assumption
    unfold WayRD at hw
    by_cases hh : hasW k o = true
    · rw [if_pos hh] at hw
      refine .inl ⟨?_, fun W' hW => .inl ⟨k, h1, h2, rfl, hh, _, _, _, rfl, n0, hK.keep hW, hw.1.keep hW, hw.2.keep hW⟩⟩
      have hd := hw.2
      have hk6 : k = 1 ∨ k = 2 ∨ k = 3 ∨ k = 4 ∨ k = 5 ∨ k = 6 := by omega
      rcases hk6 with rfl | rfl | rfl | rfl | rfl | rfl <;> cases o <;> first | exact ⟨_, _, hd⟩ | exact fun_aes hd | exact fun_key hd
    · rw [if_neg hh] at hw
      exact .inr ⟨hw.2, fun W' => .inr ⟨.inr (.inr ⟨k, h1, h2, rfl, by simpa using hh⟩), rfl⟩⟩
  · refine ⟨0, 0, .nilFunc, .nilFunc, .nilFunc, .nilFunc, .nilFunc, .nilFunc, hE, .inr rfl, .inr rfl, .inr rfl, .inr rfl, .inr rfl, .inr rfl, .inr ⟨by cases o <;> rfl, fun W' => .inr ⟨by rcases hx with h | h; exact .inl h; exact .inr (.inl h), rfl⟩⟩⟩
theorem way_rangeK {W : World} {g : Nat} {c a : Int} {key iv r1 d1 r2 d2 : Value} {t : TypeId} {fr : Nat × Nat} (h : W.heap[g]? = some (.cells [.int .i64 c, key, iv, .int .i64 a, r1, d1, r2, d2].toArray t fr)) :
    W.rangeAt g 4 [r1, d1] ∧ W.rangeAt g 6 [r2, d2] := by
  constructor
  · intro j v hv
    rw [cell_of_heap h]
    rcases j with _ | _ | j
    · exact hv
    · exact hv
    · simp at hv
  · intro j v hv
    rw [cell_of_heap h]
    rcases j with _ | _ | j
    · exact hv
    · exact hv
    · simp at hv
theorem agg2_one {r d : Value} (h1 : FnV r) (h2 : FnV d) : ∀ v ∈ [r, d], v.oneCell' = true := by
  intro v hv
  simp only [List.mem_cons, List.not_mem_nil, or_false] at hv
  rcases hv with rfl | rfl
  · exact fnv_one h1
  · exact fnv_one h2
theorem agg8_one {c a : Int} {key iv r1 d1 r2 d2 : Value} (h1 : FnV key) (h2 : FnV iv) (h3 : FnV r1) (h4 : FnV d1) (h5 : FnV r2) (h6 : FnV d2) : ∀ v ∈ [.int .i64 c, key, iv, .int .i64 a, r1, d1, r2, d2], v.oneCell' = true := by
  intro v hv
  simp only [List.mem_cons, List.not_mem_nil, or_false] at hv
  rcases hv with rfl | rfl | rfl | rfl | rfl | rfl | rfl | rfl <;> first | rfl | exact fnv_one (by assumption)
theorem load_cellW {ty : TypeId} {d : TypeDesc} (hd : (match d with | .struct _ | .array _ _ => true | _ => false) = false) (hu : Tryz.prog.underlying ty = some d) {W : World} {a : Addr} {v : Value} (h : W.cell? a = some v) :
    (Instr.loadAt ty (.pointer (some a))).run Tryz.prog W = .ok v W := by
  have h1 : (isAgg ty).run Tryz.prog W = .ok false W := by cases d <;> simp_all [isAgg, run_underlying hu]
  simp [Instr.loadAt, Instr.sureAddr, loadVar, h1, h, Result.andThen]
theorem results_cct {fn : Func} {p1 p2 s : Tmp} {t1 t2 : TypeId} (h : fn.results = #[.cell p1 t1, .cell p2 t2, .tmp s]) (tmps : Array Value) (w : World) (a1 a2 : Addr) (v1 v2 : Value)
    (h1 : tmps.getD p1 undef = .pointer (some a1)) (h2 : tmps.getD p2 undef = .pointer (some a2)) (l1 : (loadVar t1 a1).run Tryz.prog w = .ok v1 w) (l2 : (loadVar t2 a2).run Tryz.prog w = .ok v2 w) :
    (results fn tmps).run Tryz.prog w = .ok (.tuple #[v1, v2, tmps.getD s undef]) w := by
  have h1' : tmps[p1]?.getD undef = .pointer (some a1) := by simpa using h1
  have h2' : tmps[p2]?.getD undef = .pointer (some a2) := by simpa using h2
  simp [results, h, h1', h2', asAddr, l1, l2]
theorem loadVarK {W : World} {g : Nat} {ty t : TypeId} {cs : List Value} {fr : Nat × Nat} {d : TypeDesc} (hg : W.heap[g]? = some (.cells cs.toArray t fr)) (hu : Tryz.prog.underlying ty = some d) (hd : (match d with | .struct _ | .array _ _ => true | _ => false) = true) (hi : (Tryz.prog.info? ty).map (·.size) = some cs.length) :
    (loadVar ty ⟨g, 0, none⟩).run Tryz.prog W = .ok (.agg cs.toArray) W := run_loadVar_row W g t ty cs.toArray fr d hg hu (by cases d <;> simp_all) (by simpa using hi)
theorem keepL_setRow {n0 : Nat} {W W' : World} {g : Nat} {cs : Array Value} (hV : W.setRow g cs = W') (hg : g < n0) : KeepL n0 W W' :=
  ⟨by rw [← hV]; simp [World.setRow], fun k cs' t fr hk h => heap_of_other hV (by omega) h⟩
theorem heap2K (w : World) (o1 o2 : Obj) : ((w.alloc o1).alloc o2).heap[w.heap.size]? = some o1 ∧ ((w.alloc o1).alloc o2).heap[w.heap.size + 1]? = some o2 ∧ Below w.heap.size w ((w.alloc o1).alloc o2) := by
  have e1 : (w.alloc o1).heap.size = w.heap.size + 1 := by simp
  refine ⟨?_, ?_, ((Below.refl _ w).alloc (Nat.le_refl _) _).alloc (by simp) _⟩
  · rw [Below.heap_alloc _ _ _ (by omega)]; exact heap_alloc_new' w o1
  · rw [← e1]; exact heap_alloc_new' _ _
set_option maxHeartbeats 8000000 in
/-- the walk, of what the look-up finds -/
theorem known_any (x : Int) (o : Bool) (w : World) : Calls Tryz.prog 20 #[.int .i64 x, .bool o] w fun e w' => ∃ v, e = .returned v ∧ KnownV w' x o v ∧ Below w.heap.size w w' := by
  have hzk : ∀ W, (zeroValue 54).run Tryz.prog W = .ok (.agg zeroKind.toArray) W := fun W => by kernel_rfl
  have hzw : ∀ W, (zeroValue 52).run Tryz.prog W = .ok (.agg #[.nilFunc, .nilFunc]) W := fun W => by kernel_rfl
  have hbk : ∀ W, (Instr.build 54 #[]).run Tryz.prog W = .ok (.agg zeroKind.toArray) W := fun W => by kernel_rfl
  have hbw : ∀ W, (Instr.build 52 #[]).run Tryz.prog W = .ok (.agg #[.nilFunc, .nilFunc]) W := fun W => by kernel_rfl
  have hl8 : Hid (zeroKind.length = 8) := rfl
  have h1z : Hid (∀ v ∈ zeroKind, v.oneCell' = true) := by
    intro v hv
    simp only [zeroKind, List.mem_cons, List.not_mem_nil, or_false] at hv
    rcases hv with rfl | rfl | rfl | rfl | rfl | rfl | rfl | rfl <;> rfl
  have KF := Lib.hid (fun (n0 : Nat) (W : World) (v : Value) (h : KindsV n0 W v) => known_finds h x o)
  have ik : Hid ((Tryz.prog.info? 54).map (·.size) = some zeroKind.length) := by show _ = _; kernel_rfl
  have HR : Hid (∀ (W : World) (v : Value), KnownV W x o v → KnownV W x o v) := fun _ _ h => h
  have hq1 : ∀ (F : Fn) (cp : Array Value) (W : World), (binOp .eql 50 (.func F #[] cp) .nilFunc).run Tryz.prog W = .ok (.bool false) W := fun F cp W => by kernel_rfl
  have hq2 : ∀ (W : World), (binOp .eql 50 .nilFunc .nilFunc).run Tryz.prog W = .ok (.bool true) W := fun W => by kernel_rfl
  have KN := Lib.hid (fun (W : World) (h : KnownV W x o (.tuple #[.agg zeroKind.toArray, .agg #[.nilFunc, .nilFunc], .int .i64 4])) => h)
  generalize zeroKind = ZK at hzk hbk hl8 h1z KF ik KN
  go_enter Tryz.func20, Tryz.ntmps20
  go_wp2_with fail
  have HH := heap2K w (.cells ZK.toArray 54) (.cells #[.nilFunc, .nilFunc] 52)
  have hsz : ((w.alloc (.cells ZK.toArray 54)).alloc (.cells #[.nilFunc, .nilFunc] 52)).heap.size = w.heap.size + 2 := by simp
  generalize hV : (w.alloc _).alloc _ = W0 at HH hsz ⊢
  have R4 := Lib.hid HH.1; have R5 := Lib.hid HH.2.1; have B0 := Lib.hid HH.2.2
  clear hV HH
  have hs0 : W0.heap.size = w.heap.size + 2 := hsz
  refine (kinds_any (w.heap.size + 2) W0 (Nat.le_of_eq hs0.symm)).mono ?_
  rintro e w1 ⟨v, rfl, hv, hb⟩
  obtain ⟨c, a, key, iv, r1, d1, r2, d2, hE, f1, f2, f3, f4, f5, f6, hc⟩ := KF.out (w.heap.size + 2) w1 v hv
  have R4 : Hid (w1.heap[w.heap.size]? = _) := (hb.block _ (lt_of_heap R4.out)).trans R4.out
  have R5 : Hid (w1.heap[w.heap.size + 1]? = _) := (hb.block _ (lt_of_heap R5.out)).trans R5.out
  have B1 := Lib.hid (B0.out.step hb)
  have H8 := Lib.hid (agg8_one (c := c) (a := a) f1 f2 f3 f4 f5 f6)
  have HW1 := Lib.hid (agg2_one f3 f4); have HW2 := Lib.hid (agg2_one f5 f6)
  have HC := Lib.hid hc
  have ik8 : Hid ((Tryz.prog.info? 54).map (·.size) = some ([.int .i64 c, key, iv, .int .i64 a, r1, d1, r2, d2] : List Value).length) := by rw [ik.out, hl8.out]; rfl
  have RG := Lib.hid (fun (W : World) (g : Nat) (t : TypeId) (fr : Nat × Nat) (h : W.heap[g]? = some (.cells [.int .i64 c, key, iv, .int .i64 a, r1, d1, r2, d2].toArray t fr)) => way_rangeK h)
  have hl8' : Hid (([.int .i64 c, key, iv, .int .i64 a, r1, d1, r2, d2] : List Value).length = 8) := rfl
  clear hb hv hc KF f1 f2 f3 f5 B0
  generalize ([.int .i64 c, key, iv, .int .i64 a, r1, d1, r2, d2] : List Value) = CS at hE H8 ik8 RG HC hl8'
  have hle : ZK.length = CS.length := by rw [hl8.out, hl8'.out]
  have HLE := Lib.hid hle
  have i2 : Hid ((Tryz.prog.info? 52).map (·.size) = some 2) := by show _ = _; kernel_rfl
  clear hle
  cases o with
  | false =>
    have HC2 := HC.out
    simp only [if_true, Bool.false_eq_true, if_false] at HC2
    clear HC
    rcases HC2 with ⟨⟨F, cp, rfl⟩, hKn⟩ | ⟨rfl, hKn⟩
    · have HKN := Lib.hid hKn
      clear hKn
      go_wp2_with (first
        | (refine wpList_run (o := ⟨some 11, _, _, _, _, _⟩) rfl (v := .agg CS.toArray) (w' := w1) (exec_lookF rfl hE) ?_)
        | (refine wpList_st rfl 54 (.tmp 7) (.tmp 11) rfl (store_arr (cs := CS) (old := ZK) ik8.out H8.out (heap_alloc_new' w1 _) HLE.out) ?_
           generalize hV : World.setRow _ _ _ = W2
           have G2 := Lib.hid (heap_of_setRow hV (heap_alloc_new' w1 _))
           have X2 : Hid (Below w1.heap.size w1 W2) := ((Below.refl _ w1).alloc (Nat.le_refl _) _).trans (below_of_setRow hV (Nat.le_refl _) (by simp))
           clear hV)
        | (refine wpList_ld rfl 52 (.tmp 12) rfl (run_loadAt_mid W2 w1.heap.size 4 52 [r1, (.func F #[] cp)] _ (RG.out _ _ _ _ G2.out).1 Tryz.underlying52 rfl i2.out) ?_)
        | (refine wpList_st rfl 52 (.tmp 8) (.tmp 13) rfl (store_arr (cs := [r1, (.func F #[] cp)]) (old := [.nilFunc, .nilFunc]) i2.out HW1.out (heap_alloc_new' W2 _) rfl) ?_
           generalize hV : World.setRow _ _ _ = W3
           have P3 := Lib.hid (heap_of_setRow hV (heap_alloc_new' W2 _))
           have X3 : Hid (Below w1.heap.size w1 W3) := X2.out.step (((Below.refl _ W2).alloc (Nat.le_refl _) _).trans (below_of_setRow hV (Nat.le_refl _) (by simp)))
           have G3 : Hid (W3.heap[w1.heap.size]? = _) := heap_of_other hV (by have := lt_of_heap G2.out; omega) ((Below.heap_alloc W2 _ _ (lt_of_heap G2.out)).trans G2.out)
           clear hV)
        | (refine wpList_ld rfl 50 (.tmp 17) rfl (load_cellW (hu := Tryz.underlying50) (hd := rfl) (v := (.func F #[] cp)) (by rw [cell_of_heap (cs := [r1, (.func F #[] cp)]) P3.out]; rfl)) ?_)
        | fail)
      have HG : Hid (W3.heap[w1.heap.size]? = some (.cells CS.toArray 54 (0, 0))) := G3.out
      have hw1 : w.heap.size + 2 ≤ w1.heap.size := by have := lt_of_heap R5.out; omega
      have hw2 : w.heap.size + 2 ≤ W2.heap.size := by have := X2.out.size; omega
      have hR4 : W3.heap[w.heap.size]? = some (.cells ZK.toArray 54 (0, 0)) := (X3.out.block _ (lt_of_heap R4.out)).trans R4.out
      have hR5 : W3.heap[w.heap.size + 1]? = some (.cells #[.nilFunc, .nilFunc] 52 (0, 0)) := (X3.out.block _ (lt_of_heap R5.out)).trans R5.out
      have BR : Hid (Below w.heap.size w W3) := B1.out.step X3.out
      refine reg_inv (fun L a W => ∃ v22 v23 : Value, a = { tmps := #[.int .i64 x, .bool false, undef, undef, .pointer (some ⟨w.heap.size, 0, none⟩), .pointer (some ⟨w.heap.size + 1, 0, none⟩), .int .i64 0, .pointer (some ⟨w1.heap.size, 0, none⟩), .pointer (some ⟨W2.heap.size, 0, none⟩), v, .int .i64 x, .agg CS.toArray, .pointer (some ⟨w1.heap.size, 4, none⟩), .agg #[r1, (.func F #[] cp)], .bool false, undef, undef, .pointer (some ⟨W2.heap.size, 1, none⟩), (.func F #[] cp), .bool false, undef, undef, v22, v23], defers := [] } ∧ (L 0 = true → v22 = .agg CS.toArray) ∧ (L 1 = true → v23 = .agg [r1, (.func F #[] cp)].toArray) ∧
          Below w.heap.size w W ∧ KeepL (w.heap.size + 2) W3 W ∧ (L 2 = false → W.heap[w.heap.size]? = some (.cells ZK.toArray 54 (0, 0))) ∧ (L 2 = true → W.heap[w.heap.size]? = some (.cells CS.toArray 54 (0, 0))) ∧
          (L 3 = false → W.heap[w.heap.size + 1]? = some (.cells #[.nilFunc, .nilFunc] 52 (0, 0))) ∧ (L 3 = true → W.heap[w.heap.size + 1]? = some (.cells [r1, (.func F #[] cp)].toArray 52 (0, 0)))) (by kernel_rfl) (by kernel_rfl) ?_
        (And.intro ?_ (And.intro ?_ (And.intro ?_ (And.intro ?_ (And.intro ?_ trivial))))) ?_
      · intro L hL
        have no : ∀ j, j < 5 → L j = true → False := fun j hj h => by rw [hL j hj] at h; cases h
        exact ⟨_, _, rfl, fun h => (no 0 (by decide) h).elim, fun h => (no 1 (by decide) h).elim, BR.out.drew, ⟨Nat.le_refl _, fun _ _ _ _ _ h => h⟩, fun _ => hR4, fun h => (no 2 (by decide) h).elim, fun _ => hR5, fun h => (no 3 (by decide) h).elim⟩
      · rintro L a W ⟨v22, v23, rfl, F0, F1, hB, hK, f2, t2, f3, t3⟩ hLi hd K0 hK0
        refine step_ldF rfl 54 (.tmp 7) rfl (load_arr Tryz.underlying54 rfl ik8.out (hK.same _ _ _ _ hw1 HG.out)) ?_
        exact hK0.out _ _ ⟨_, v23, rfl, fun _ => rfl, F1, hB, hK, f2, t2, f3, t3⟩
      · rintro L a W ⟨v22, v23, rfl, F0, F1, hB, hK, f2, t2, f3, t3⟩ hLi hd K0 hK0
        refine step_ldF rfl 52 (.tmp 8) rfl (load_arr (cs := [r1, (.func F #[] cp)]) Tryz.underlying52 rfl i2.out (hK.same _ _ _ _ hw2 P3.out)) ?_
        exact hK0.out _ _ ⟨v22, _, rfl, F0, fun _ => rfl, hB, hK, f2, t2, f3, t3⟩
      · rintro L a W ⟨v22, v23, rfl, F0, F1, hB, hK, f2, t2, f3, t3⟩ hLi hd K0 hK0
        have e0 : v22 = _ := F0 (hd ⟨0, .data⟩ (by simp) rfl)
        subst e0
        have hst := f2 hLi
        refine step_st1 rfl 54 (.tmp 4) (.tmp 22) rfl (store_arr (cs := CS) (old := ZK) ik8.out H8.out hst HLE.out) ?_
        generalize hV : World.setRow _ _ _ = W'
        refine hK0.out _ _ ⟨_, v23, rfl, fun _ => rfl, F1, hB.trans (below_of_setRow hV (Nat.le_refl _) hB.size), hK.trans (keepL_setRow hV (by omega)), fun h => (upS h).elim, fun _ => heap_of_setRow hV hst, fun h => heap_of_other hV (by omega) (f3 h), fun h => heap_of_other hV (by omega) (t3 h)⟩
      · rintro L a W ⟨v22, v23, rfl, F0, F1, hB, hK, f2, t2, f3, t3⟩ hLi hd K0 hK0
        have e1 : v23 = _ := F1 (hd ⟨1, .data⟩ (by simp) rfl)
        subst e1
        have hst := f3 hLi
        refine step_st1 rfl 52 (.tmp 5) (.tmp 23) rfl (store_arr (cs := [r1, (.func F #[] cp)]) (old := [.nilFunc, .nilFunc]) i2.out HW1.out hst rfl) ?_
        generalize hV : World.setRow _ _ _ = W'
        refine hK0.out _ _ ⟨v22, _, rfl, F0, fun _ => rfl, hB.trans (below_of_setRow hV (Nat.le_succ _) hB.size), hK.trans (keepL_setRow hV (by omega)), fun h => heap_of_other hV (by omega) (f2 h), fun h => heap_of_other hV (by omega) (t2 h), fun h => (upS h).elim, fun _ => heap_of_setRow hV hst⟩
      · rintro L a W ⟨v22, v23, rfl, F0, F1, hB, hK, f2, t2, f3, t3⟩ hLi hd K0 hK0
        go_simp
        exact hK0.out _ _ ⟨v22, v23, rfl, F0, F1, hB, hK, f2, t2, f3, t3⟩
      · rintro L a W hL ⟨v22, v23, rfl, F0, F1, hB, hK, f2, t2, f3, t3⟩
        go_wp2
        exact bodyPost_ret (results_cct rfl _ _ ⟨w.heap.size, 0, none⟩ ⟨w.heap.size + 1, 0, none⟩ (.agg CS.toArray) (.agg [r1, (.func F #[] cp)].toArray) rfl rfl (loadVarK (t2 (hL 2)) Tryz.underlying54 rfl ik8.out) (loadVarK (cs := [r1, (.func F #[] cp)]) (t3 (hL 3)) Tryz.underlying52 rfl i2.out)) rfl
          ⟨.tuple #[.agg CS.toArray, .agg [r1, (.func F #[] cp)].toArray, .int .i64 0], rfl, HKN.out _ ((KeepL.of X3.out).trans hK), hB⟩
    · have HKN := Lib.hid hKn
      clear hKn
      go_wp2_with (first
        | (refine wpList_run (o := ⟨some 11, _, _, _, _, _⟩) rfl (v := .agg CS.toArray) (w' := w1) (exec_lookF rfl hE) ?_)
        | (refine wpList_st rfl 54 (.tmp 7) (.tmp 11) rfl (store_arr (cs := CS) (old := ZK) ik8.out H8.out (heap_alloc_new' w1 _) HLE.out) ?_
           generalize hV : World.setRow _ _ _ = W2
           have G2 := Lib.hid (heap_of_setRow hV (heap_alloc_new' w1 _))
           have X2 : Hid (Below w1.heap.size w1 W2) := ((Below.refl _ w1).alloc (Nat.le_refl _) _).trans (below_of_setRow hV (Nat.le_refl _) (by simp))
           clear hV)
        | (refine wpList_ld rfl 52 (.tmp 12) rfl (run_loadAt_mid W2 w1.heap.size 4 52 [r1, .nilFunc] _ (RG.out _ _ _ _ G2.out).1 Tryz.underlying52 rfl i2.out) ?_)
        | (refine wpList_st rfl 52 (.tmp 8) (.tmp 13) rfl (store_arr (cs := [r1, .nilFunc]) (old := [.nilFunc, .nilFunc]) i2.out HW1.out (heap_alloc_new' W2 _) rfl) ?_
           generalize hV : World.setRow _ _ _ = W3
           have P3 := Lib.hid (heap_of_setRow hV (heap_alloc_new' W2 _))
           have X3 : Hid (Below w1.heap.size w1 W3) := X2.out.step (((Below.refl _ W2).alloc (Nat.le_refl _) _).trans (below_of_setRow hV (Nat.le_refl _) (by simp)))
           have G3 : Hid (W3.heap[w1.heap.size]? = _) := heap_of_other hV (by have := lt_of_heap G2.out; omega) ((Below.heap_alloc W2 _ _ (lt_of_heap G2.out)).trans G2.out)
           clear hV)
        | (refine wpList_ld rfl 50 (.tmp 17) rfl (load_cellW (hu := Tryz.underlying50) (hd := rfl) (v := .nilFunc) (by rw [cell_of_heap (cs := [r1, .nilFunc]) P3.out]; rfl)) ?_)
        | (refine wpList_st rfl 54 (.tmp 4) (.tmp 20) rfl (store_arr (cs := ZK) (old := ZK) ik.out h1z.out ((X3.out.block _ (lt_of_heap R4.out)).trans R4.out) rfl) ?_
           generalize hV : World.setRow _ _ _ = W5
           have Y4 := Lib.hid (heap_of_setRow hV ((X3.out.block _ (lt_of_heap R4.out)).trans R4.out))
           have Y5 : Hid (W5.heap[w.heap.size + 1]? = _) := heap_of_other hV (by omega) ((X3.out.block _ (lt_of_heap R5.out)).trans R5.out)
           have B5 : Hid (Below w.heap.size w W5) := (B1.out.step X3.out).trans (below_of_setRow hV (Nat.le_refl _) (B1.out.step X3.out).size)
           clear hV)
        | (refine wpList_st rfl 52 (.tmp 5) (.tmp 21) rfl (store_arr (cs := [.nilFunc, .nilFunc]) (old := [.nilFunc, .nilFunc]) i2.out (agg2_one (.inr rfl) (.inr rfl)) Y5.out rfl) ?_
           generalize hV : World.setRow _ _ _ = W6
           have Z6 := Lib.hid (heap_of_setRow hV Y5.out)
           have Z5 : Hid (W6.heap[w.heap.size]? = _) := heap_of_other hV (by omega) Y4.out
           have B6 : Hid (Below w.heap.size w W6) := B5.out.trans (below_of_setRow hV (Nat.le_succ _) B5.out.size)
           clear hV)
        | fail)
      exact bodyPost_ret (results_cct rfl _ _ ⟨w.heap.size, 0, none⟩ ⟨w.heap.size + 1, 0, none⟩ (.agg ZK.toArray) (.agg #[.nilFunc, .nilFunc]) rfl rfl (loadVarK Z5.out Tryz.underlying54 rfl ik.out) (loadVarK (cs := [.nilFunc, .nilFunc]) Z6.out Tryz.underlying52 rfl i2.out)) rfl
          ⟨.tuple #[.agg ZK.toArray, .agg #[.nilFunc, .nilFunc], .int .i64 4], rfl, HKN.out _, B6.out⟩
  | true =>
    have HC2 := HC.out
    simp only [if_true, Bool.false_eq_true, if_false] at HC2
    clear HC
    rcases HC2 with ⟨⟨F, cp, rfl⟩, hKn⟩ | ⟨rfl, hKn⟩
    · have HKN := Lib.hid hKn
      clear hKn
      go_wp2_with (first
        | (refine wpList_run (o := ⟨some 11, _, _, _, _, _⟩) rfl (v := .agg CS.toArray) (w' := w1) (exec_lookF rfl hE) ?_)
        | (refine wpList_st rfl 54 (.tmp 7) (.tmp 11) rfl (store_arr (cs := CS) (old := ZK) ik8.out H8.out (heap_alloc_new' w1 _) HLE.out) ?_
           generalize hV : World.setRow _ _ _ = W2
           have G2 := Lib.hid (heap_of_setRow hV (heap_alloc_new' w1 _))
           have X2 : Hid (Below w1.heap.size w1 W2) := ((Below.refl _ w1).alloc (Nat.le_refl _) _).trans (below_of_setRow hV (Nat.le_refl _) (by simp))
           clear hV)
        | (refine wpList_ld rfl 52 (.tmp 12) rfl (run_loadAt_mid W2 w1.heap.size 4 52 [r1, d1] _ (RG.out _ _ _ _ G2.out).1 Tryz.underlying52 rfl i2.out) ?_)
        | (refine wpList_st rfl 52 (.tmp 8) (.tmp 13) rfl (store_arr (cs := [r1, d1]) (old := [.nilFunc, .nilFunc]) i2.out HW1.out (heap_alloc_new' W2 _) rfl) ?_
           generalize hV : World.setRow _ _ _ = W3
           have P3 := Lib.hid (heap_of_setRow hV (heap_alloc_new' W2 _))
           have X3 : Hid (Below w1.heap.size w1 W3) := X2.out.step (((Below.refl _ W2).alloc (Nat.le_refl _) _).trans (below_of_setRow hV (Nat.le_refl _) (by simp)))
           have G3 : Hid (W3.heap[w1.heap.size]? = _) := heap_of_other hV (by have := lt_of_heap G2.out; omega) ((Below.heap_alloc W2 _ _ (lt_of_heap G2.out)).trans G2.out)
           clear hV)
        | (refine wpList_ld rfl 52 (.tmp 15) rfl (run_loadAt_mid W3 w1.heap.size 6 52 [r2, (.func F #[] cp)] _ (RG.out _ _ _ _ G3.out).2 Tryz.underlying52 rfl i2.out) ?_)
        | (refine wpList_st rfl 52 (.tmp 8) (.tmp 16) rfl (store_arr (cs := [r2, (.func F #[] cp)]) (old := [r1, d1]) i2.out HW2.out P3.out rfl) ?_
           generalize hV : World.setRow _ _ _ = W4
           have P4 := Lib.hid (heap_of_setRow hV P3.out)
           have X4 : Hid (Below w1.heap.size w1 W4) := X3.out.trans (below_of_setRow hV (by have := X2.out.size; omega) X3.out.size)
           have G4 : Hid (W4.heap[w1.heap.size]? = _) := heap_of_other hV (by have := lt_of_heap G2.out; omega) G3.out
           clear hV)
        | (refine wpList_ld rfl 50 (.tmp 17) rfl (load_cellW (hu := Tryz.underlying50) (hd := rfl) (v := (.func F #[] cp)) (by rw [cell_of_heap (cs := [r2, (.func F #[] cp)]) P4.out]; rfl)) ?_)
        | fail)
      have HG : Hid (W4.heap[w1.heap.size]? = some (.cells CS.toArray 54 (0, 0))) := G4.out
      have hw1 : w.heap.size + 2 ≤ w1.heap.size := by have := lt_of_heap R5.out; omega
      have hw2 : w.heap.size + 2 ≤ W2.heap.size := by have := X2.out.size; omega
      have hR4 : W4.heap[w.heap.size]? = some (.cells ZK.toArray 54 (0, 0)) := (X4.out.block _ (lt_of_heap R4.out)).trans R4.out
      have hR5 : W4.heap[w.heap.size + 1]? = some (.cells #[.nilFunc, .nilFunc] 52 (0, 0)) := (X4.out.block _ (lt_of_heap R5.out)).trans R5.out
      have BR : Hid (Below w.heap.size w W4) := B1.out.step X4.out
      refine reg_inv (fun L a W => ∃ v22 v23 : Value, a = { tmps := #[.int .i64 x, .bool true, undef, undef, .pointer (some ⟨w.heap.size, 0, none⟩), .pointer (some ⟨w.heap.size + 1, 0, none⟩), .int .i64 0, .pointer (some ⟨w1.heap.size, 0, none⟩), .pointer (some ⟨W2.heap.size, 0, none⟩), v, .int .i64 x, .agg CS.toArray, .pointer (some ⟨w1.heap.size, 4, none⟩), .agg #[r1, d1], .bool true, .pointer (some ⟨w1.heap.size, 6, none⟩), .agg #[r2, (.func F #[] cp)], .pointer (some ⟨W2.heap.size, 1, none⟩), (.func F #[] cp), .bool false, undef, undef, v22, v23], defers := [] } ∧ (L 0 = true → v22 = .agg CS.toArray) ∧ (L 1 = true → v23 = .agg [r2, (.func F #[] cp)].toArray) ∧
          Below w.heap.size w W ∧ KeepL (w.heap.size + 2) W4 W ∧ (L 2 = false → W.heap[w.heap.size]? = some (.cells ZK.toArray 54 (0, 0))) ∧ (L 2 = true → W.heap[w.heap.size]? = some (.cells CS.toArray 54 (0, 0))) ∧
          (L 3 = false → W.heap[w.heap.size + 1]? = some (.cells #[.nilFunc, .nilFunc] 52 (0, 0))) ∧ (L 3 = true → W.heap[w.heap.size + 1]? = some (.cells [r2, (.func F #[] cp)].toArray 52 (0, 0)))) (by kernel_rfl) (by kernel_rfl) ?_
        (And.intro ?_ (And.intro ?_ (And.intro ?_ (And.intro ?_ (And.intro ?_ trivial))))) ?_
      · intro L hL
        have no : ∀ j, j < 5 → L j = true → False := fun j hj h => by rw [hL j hj] at h; cases h
        exact ⟨_, _, rfl, fun h => (no 0 (by decide) h).elim, fun h => (no 1 (by decide) h).elim, BR.out.drew, ⟨Nat.le_refl _, fun _ _ _ _ _ h => h⟩, fun _ => hR4, fun h => (no 2 (by decide) h).elim, fun _ => hR5, fun h => (no 3 (by decide) h).elim⟩
      · rintro L a W ⟨v22, v23, rfl, F0, F1, hB, hK, f2, t2, f3, t3⟩ hLi hd K0 hK0
        refine step_ldF rfl 54 (.tmp 7) rfl (load_arr Tryz.underlying54 rfl ik8.out (hK.same _ _ _ _ hw1 HG.out)) ?_
        exact hK0.out _ _ ⟨_, v23, rfl, fun _ => rfl, F1, hB, hK, f2, t2, f3, t3⟩
      · rintro L a W ⟨v22, v23, rfl, F0, F1, hB, hK, f2, t2, f3, t3⟩ hLi hd K0 hK0
        refine step_ldF rfl 52 (.tmp 8) rfl (load_arr (cs := [r2, (.func F #[] cp)]) Tryz.underlying52 rfl i2.out (hK.same _ _ _ _ hw2 P4.out)) ?_
        exact hK0.out _ _ ⟨v22, _, rfl, F0, fun _ => rfl, hB, hK, f2, t2, f3, t3⟩
      · rintro L a W ⟨v22, v23, rfl, F0, F1, hB, hK, f2, t2, f3, t3⟩ hLi hd K0 hK0
        have e0 : v22 = _ := F0 (hd ⟨0, .data⟩ (by simp) rfl)
        subst e0
        have hst := f2 hLi
        refine step_st1 rfl 54 (.tmp 4) (.tmp 22) rfl (store_arr (cs := CS) (old := ZK) ik8.out H8.out hst HLE.out) ?_
        generalize hV : World.setRow _ _ _ = W'
        refine hK0.out _ _ ⟨_, v23, rfl, fun _ => rfl, F1, hB.trans (below_of_setRow hV (Nat.le_refl _) hB.size), hK.trans (keepL_setRow hV (by omega)), fun h => (upS h).elim, fun _ => heap_of_setRow hV hst, fun h => heap_of_other hV (by omega) (f3 h), fun h => heap_of_other hV (by omega) (t3 h)⟩
      · rintro L a W ⟨v22, v23, rfl, F0, F1, hB, hK, f2, t2, f3, t3⟩ hLi hd K0 hK0
        have e1 : v23 = _ := F1 (hd ⟨1, .data⟩ (by simp) rfl)
        subst e1
        have hst := f3 hLi
        refine step_st1 rfl 52 (.tmp 5) (.tmp 23) rfl (store_arr (cs := [r2, (.func F #[] cp)]) (old := [.nilFunc, .nilFunc]) i2.out HW2.out hst rfl) ?_
        generalize hV : World.setRow _ _ _ = W'
        refine hK0.out _ _ ⟨v22, _, rfl, F0, fun _ => rfl, hB.trans (below_of_setRow hV (Nat.le_succ _) hB.size), hK.trans (keepL_setRow hV (by omega)), fun h => heap_of_other hV (by omega) (f2 h), fun h => heap_of_other hV (by omega) (t2 h), fun h => (upS h).elim, fun _ => heap_of_setRow hV hst⟩
      · rintro L a W ⟨v22, v23, rfl, F0, F1, hB, hK, f2, t2, f3, t3⟩ hLi hd K0 hK0
        go_simp
        exact hK0.out _ _ ⟨v22, v23, rfl, F0, F1, hB, hK, f2, t2, f3, t3⟩
      · rintro L a W hL ⟨v22, v23, rfl, F0, F1, hB, hK, f2, t2, f3, t3⟩
        go_wp2
        exact bodyPost_ret (results_cct rfl _ _ ⟨w.heap.size, 0, none⟩ ⟨w.heap.size + 1, 0, none⟩ (.agg CS.toArray) (.agg [r2, (.func F #[] cp)].toArray) rfl rfl (loadVarK (t2 (hL 2)) Tryz.underlying54 rfl ik8.out) (loadVarK (cs := [r2, (.func F #[] cp)]) (t3 (hL 3)) Tryz.underlying52 rfl i2.out)) rfl
          ⟨.tuple #[.agg CS.toArray, .agg [r2, (.func F #[] cp)].toArray, .int .i64 0], rfl, HKN.out _ ((KeepL.of X4.out).trans hK), hB⟩
    · have HKN := Lib.hid hKn
      clear hKn
      go_wp2_with (first
        | (refine wpList_run (o := ⟨some 11, _, _, _, _, _⟩) rfl (v := .agg CS.toArray) (w' := w1) (exec_lookF rfl hE) ?_)
        | (refine wpList_st rfl 54 (.tmp 7) (.tmp 11) rfl (store_arr (cs := CS) (old := ZK) ik8.out H8.out (heap_alloc_new' w1 _) HLE.out) ?_
           generalize hV : World.setRow _ _ _ = W2
           have G2 := Lib.hid (heap_of_setRow hV (heap_alloc_new' w1 _))
           have X2 : Hid (Below w1.heap.size w1 W2) := ((Below.refl _ w1).alloc (Nat.le_refl _) _).trans (below_of_setRow hV (Nat.le_refl _) (by simp))
           clear hV)
        | (refine wpList_ld rfl 52 (.tmp 12) rfl (run_loadAt_mid W2 w1.heap.size 4 52 [r1, d1] _ (RG.out _ _ _ _ G2.out).1 Tryz.underlying52 rfl i2.out) ?_)
        | (refine wpList_st rfl 52 (.tmp 8) (.tmp 13) rfl (store_arr (cs := [r1, d1]) (old := [.nilFunc, .nilFunc]) i2.out HW1.out (heap_alloc_new' W2 _) rfl) ?_
           generalize hV : World.setRow _ _ _ = W3
           have P3 := Lib.hid (heap_of_setRow hV (heap_alloc_new' W2 _))
           have X3 : Hid (Below w1.heap.size w1 W3) := X2.out.step (((Below.refl _ W2).alloc (Nat.le_refl _) _).trans (below_of_setRow hV (Nat.le_refl _) (by simp)))
           have G3 : Hid (W3.heap[w1.heap.size]? = _) := heap_of_other hV (by have := lt_of_heap G2.out; omega) ((Below.heap_alloc W2 _ _ (lt_of_heap G2.out)).trans G2.out)
           clear hV)
        | (refine wpList_ld rfl 52 (.tmp 15) rfl (run_loadAt_mid W3 w1.heap.size 6 52 [r2, .nilFunc] _ (RG.out _ _ _ _ G3.out).2 Tryz.underlying52 rfl i2.out) ?_)
        | (refine wpList_st rfl 52 (.tmp 8) (.tmp 16) rfl (store_arr (cs := [r2, .nilFunc]) (old := [r1, d1]) i2.out HW2.out P3.out rfl) ?_
           generalize hV : World.setRow _ _ _ = W4
           have P4 := Lib.hid (heap_of_setRow hV P3.out)
           have X4 : Hid (Below w1.heap.size w1 W4) := X3.out.trans (below_of_setRow hV (by have := X2.out.size; omega) X3.out.size)
           have G4 : Hid (W4.heap[w1.heap.size]? = _) := heap_of_other hV (by have := lt_of_heap G2.out; omega) G3.out
           clear hV)
        | (refine wpList_ld rfl 50 (.tmp 17) rfl (load_cellW (hu := Tryz.underlying50) (hd := rfl) (v := .nilFunc) (by rw [cell_of_heap (cs := [r2, .nilFunc]) P4.out]; rfl)) ?_)
        | (refine wpList_st rfl 54 (.tmp 4) (.tmp 20) rfl (store_arr (cs := ZK) (old := ZK) ik.out h1z.out ((X4.out.block _ (lt_of_heap R4.out)).trans R4.out) rfl) ?_
           generalize hV : World.setRow _ _ _ = W5
           have Y4 := Lib.hid (heap_of_setRow hV ((X4.out.block _ (lt_of_heap R4.out)).trans R4.out))
           have Y5 : Hid (W5.heap[w.heap.size + 1]? = _) := heap_of_other hV (by omega) ((X4.out.block _ (lt_of_heap R5.out)).trans R5.out)
           have B5 : Hid (Below w.heap.size w W5) := (B1.out.step X4.out).trans (below_of_setRow hV (Nat.le_refl _) (B1.out.step X4.out).size)
           clear hV)
        | (refine wpList_st rfl 52 (.tmp 5) (.tmp 21) rfl (store_arr (cs := [.nilFunc, .nilFunc]) (old := [.nilFunc, .nilFunc]) i2.out (agg2_one (.inr rfl) (.inr rfl)) Y5.out rfl) ?_
           generalize hV : World.setRow _ _ _ = W6
           have Z6 := Lib.hid (heap_of_setRow hV Y5.out)
           have Z5 : Hid (W6.heap[w.heap.size]? = _) := heap_of_other hV (by omega) Y4.out
           have B6 : Hid (Below w.heap.size w W6) := B5.out.trans (below_of_setRow hV (Nat.le_succ _) B5.out.size)
           clear hV)
        | fail)
      exact bodyPost_ret (results_cct rfl _ _ ⟨w.heap.size, 0, none⟩ ⟨w.heap.size + 1, 0, none⟩ (.agg ZK.toArray) (.agg #[.nilFunc, .nilFunc]) rfl rfl (loadVarK Z5.out Tryz.underlying54 rfl ik.out) (loadVarK (cs := [.nilFunc, .nilFunc]) Z6.out Tryz.underlying52 rfl i2.out)) rfl
          ⟨.tuple #[.agg ZK.toArray, .agg #[.nilFunc, .nilFunc], .int .i64 4], rfl, HKN.out _, B6.out⟩
end Go.Proofs.YtnhhgiebnhlfcaaGreatDoor

/- cbc.Seal. -/
import Derived.Test.YtfcnahbbieldfaaCbc5
import Derived.Test.YtfcnahbbieldfaaCtr1
import Derived.Test.YtfcnahbbieldfaaReg6
namespace Go.Proofs.Ytfcnahbbieldfaa
open Go.RowKit Go.Shelf
set_option linter.unusedVariables false
set_option linter.unusedSimpArgs false
set_option maxRecDepth 100000
attribute [local go_sem] Oper.semAt_some
/-- append in a round or ahead of a range, with where the new slice lies -/
theorem wpListIn_app8 {F : Fence} {nF : Nat} {w : World} {ops : Array Oper} {rest : List Oper} {o : Oper} {a : Act} {Q : Exit → Act → World → Prop} (hg : o.guard = none) (s x : Operand)
    (ho : o.op = .call { callee := .builtin .append, args := #[s, x], argTypes := #[26, 26] }) (base : Nat) (v : Value) (n : Nat) (bs : List UInt8) (hs : a.eval s = v) (hown : w.ownsRow base 5 1 v n (bs.map bv))
    (A : Option Addr) (m c B : Nat) (news : List UInt8) (hx : a.eval x = .slice A m c) (hr : RowAt w B A (news.map bv)) (hm : news.length = m) (hk : n + m ≤ 2147483647) (hbase : base ≤ w.heap.size)
    (h : ∀ v' w', w'.ownsRow base 5 1 v' (n + m) ((bs ++ news).map bv) → w.grownBy w' v.ownBlock → (v'.ownBlock = v.ownBlock ∨ v'.ownBlock = some w.heap.size) → wpListIn F nF Try.prog ops Q rest (a.put o.dst v') w') :
    wpListIn F nF Try.prog ops Q (o :: rest) a w := by
  obtain ⟨v', w', hrun, h2, h3, h4⟩ := append_row_at (P := Try.prog) w base o.type uT made8 rfl v n _ hown B A m c _ hr (by simpa using hm) (bv_one news) (by omega) (by simp [maxLen]; omega) hbase
  refine wpListIn_plain hg fun K hK' => ?_
  unfold Oper.wpIn
  refine ⟨by simp [Oper.about, ho, resolve, Target.leads, Sem.run_pure], ?_⟩
  rw [Oper.semAt_plain F _ _ (by rw [ho]; intro c hc'; cases hc')]
  simp [execOp, ho, resolve, invoke, builtin, hs, hx, hrun, Result.andThen]
  exact hK' _ _ (h v' w' (by rw [List.map_append]; exact h2) h3 h4)
theorem wpListIn_st {P : Program} {F : Fence} {nF : Nat} {w w' : World} {ops : Array Oper} {rest : List Oper} {o : Oper} {a : Act} {Q : Exit → Act → World → Prop} (hg : o.guard = none) (ty : TypeId) (x y : Operand) (ho : o.op = .store ty x y) {p v : Value} (hx : a.eval x = p) (hy : a.eval y = v)
    (hrun : (Instr.storeAt ty p v).run P w = .ok () w') (h : wpListIn F nF P ops Q rest (a.put o.dst undef) w') : wpListIn F nF P ops Q (o :: rest) a w := by
  refine wpListIn_plain hg fun K' hK' => ?_
  unfold Oper.wpIn
  refine ⟨by simp [Oper.about, ho], ?_⟩
  rw [Oper.semAt_plain F _ _ (by rw [ho]; intro c hc'; cases hc')]
  unfold execOp
  simp only [ho, hx, hy, Sem.run_bind, hrun, Result.andThen_ok]
  exact hK' _ _ h
theorem keepsFrom_below {B : Nat} {W W' : World} (h : Below W.heap.size W W') : KeepsFrom B W W' :=
  ⟨h.size, fun k o _ hk _ => (h.block k (lt_of_heap hk)).trans hk⟩
theorem keepsFrom_row {B : Nat} {W W' : World} {row : Option Nat} (hg : W.grownBy W' row) (hrow : ∀ (j : Nat) (o : Obj), row = some j → W.heap[j]? = some o → o.isCells = true) : KeepsFrom B W W' := (KeepsOthers.of_grownBy hg hrow).from B
theorem cells_own {β : Type} (B : Nat) (t : TypeId) (f : β → Array Value) : Own (fun (s : β) W => W.heap[B]? = some (.cells (f s) t (0, 0))) := fun s X Y row hs hg hrow =>
  (hg.block B (lt_of_heap hs) (fun e => by
    obtain ⟨o, ho, hc⟩ := hrow B e.symm
    have hs' : X.heap[B]? = _ := hs
    rw [hs'] at ho; cases ho; cases hc)).trans hs
/-- a block of another type is not an own row's -/
theorem cells_not_row {W : World} {B : Nat} {cs : Array Value} {t e : TypeId} {fr : Nat × Nat} (h : W.heap[B]? = some (.cells cs t fr)) (hte : t ≠ e) {base size k : Nat} {v : Value} {xs : List Value} (hr : W.ownsRow base e size v k xs) : some B ≠ v.ownBlock := by
  rcases hr.2 with ⟨rfl, _⟩ | ⟨g, cap, cur, rfl, _, hgb, _⟩
  · simp [Value.ownBlock]
  · intro e'
    obtain rfl : B = g := by simpa [Value.ownBlock] using e'
    have := h.symm.trans hgb
    simp at this
    exact hte this.2.1
theorem ownBlock_cells {W : World} {base : Nat} {e : TypeId} {s : Nat} {v : Value} {n : Nat} {xs : List Value} (h : W.ownsRow base e s v n xs) : ∀ (j : Nat) (o : Obj), v.ownBlock = some j → W.heap[j]? = some o → o.isCells = true := by
  intro j o ej hj
  rcases h.2 with ⟨rfl, _⟩ | ⟨g, cap, cur, rfl, _, hgb, _⟩
  · simp [Value.ownBlock] at ej
  · obtain rfl : g = j := by simpa [Value.ownBlock] using ej
    rw [hgb] at hj; cases hj; rfl
theorem opIn_app8 {F : Fence} {nF : Nat} {w : World} {o : Oper} {a : Act} {K : Act → World → Prop} {Q : Exit → Act → World → Prop} (s x : Operand)
    (ho : o.op = .call { callee := .builtin .append, args := #[s, x], argTypes := #[26, 26] }) (base : Nat) (v : Value) (n : Nat) (bs : List UInt8) (hs : a.eval s = v) (hown : w.ownsRow base 5 1 v n (bs.map bv))
    (A : Option Addr) (m c B : Nat) (news : List UInt8) (hx : a.eval x = .slice A m c) (hr : RowAt w B A (news.map bv)) (hm : news.length = m) (hk : n + m ≤ 2147483647) (hbase : base ≤ w.heap.size)
    (h : ∀ v' w', w'.ownsRow base 5 1 v' (n + m) ((bs ++ news).map bv) → w.grownBy w' v.ownBlock → (v'.ownBlock = v.ownBlock ∨ v'.ownBlock = some w.heap.size) → K (a.put o.dst v') w') :
    o.wpIn F nF Try.prog a w K Q := by
  obtain ⟨v', w', hrun, h2, h3, h4⟩ := append_row_at (P := Try.prog) w base o.type uT made8 rfl v n _ hown B A m c _ hr (by simpa using hm) (bv_one news) (by omega) (by simp [maxLen]; omega) hbase
  unfold Oper.wpIn
  refine ⟨by simp [Oper.about, ho, resolve, Target.leads, Sem.run_pure], ?_⟩
  rw [Oper.semAt_plain F _ _ (by rw [ho]; intro c hc'; cases hc')]
  simp [execOp, ho, resolve, invoke, builtin, hs, hx, hrun, Result.andThen]
  exact h _ _ (by rw [List.map_append]; exact h2) h3 h4
theorem opIn_plain {P : Program} {F : Fence} {nF : Nat} {o : Oper} {a : Act} {w w' : World} {K : Act → World → Prop} {Q : Exit → Act → World → Prop} {v : Value} (hd : ∀ c, o.op ≠ .defer c) (hab : o.about P w a.eval = none) (hrun : (execOp a.eval o).run P w = .ok (.value v) w') (h : K (a.put o.dst v) w') : o.wpIn F nF P a w K Q := by
  unfold Oper.wpIn
  refine ⟨by simp [hab], ?_⟩
  rw [Oper.semAt_plain F _ _ hd, hrun]
  exact h
set_option maxHeartbeats 4000000 in
theorem seal_any (P : Option Addr) (E : List UInt8 → List UInt8) (iv : List UInt8) (A : Option Addr) (n c : Nat) (bs : List UInt8) (w : World) (hiv : iv.length = 16) (hE : Enc w (.pointer P) E) (hl : bs.length = n) (hn : n ≤ 2147000000) (hS : Sl w A c bs) :
    Calls Try.prog 15 #[.pointer P, .agg (iv.map bv).toArray, .slice A n c] w fun e w' => ∃ v, e = .returned v ∧ w'.ownsRow w.heap.size 5 1 v (n + padK9 n) ((chainL E iv (bs ++ padB n) ((n + padK9 n) / 16)).map bv) ∧ Below w.heap.size w w' := by
  have HIV := Lib.hid hiv; have HL := Lib.hid hl; have HS := Lib.hid hS; have HEE := Lib.hid hE
  have hkk := padK9_le n
  have HM16 : Hid ((n + padK9 n) % 16 = 0) := by show _ = _; unfold padK9; omega
  have HPL := Lib.hid (padB_len n)
  have HQ := Lib.hid (fun W => cpad_any n W (by omega))
  have HC := Lib.hid (fun W hS => clone_any A n c bs W hl hn hS)
  generalize padB n = PB at HPL HQ ⊢
  generalize padK9 n = k9 at HPL HQ HM16 hkk ⊢
  obtain ⟨L, HLL⟩ : ∃ L, Hid (bs ++ PB = L) := ⟨_, rfl⟩
  rw [HLL.out]
  obtain ⟨m2, hm2⟩ : ∃ m2, n + k9 = m2 := ⟨_, rfl⟩
  rw [hm2] at HM16 ⊢
  have hnk : n + k9 ≤ 2147483647 := by omega
  have hm31 : m2 ≤ 2147483647 := by omega
  have HM2 := Lib.hid hm2
  have hz : ∀ W, (zeroValue 23).run Try.prog W = .ok (.agg zeros16.toArray) W := fun W => by kernel_rfl
  have hmk := make_room (P := Try.prog) uT made8 rfl .i64 .i64 m2 (by omega) (by omega)
  clear hiv hl hS hE hm2
  refine (callsIn_wide (n := 6)).1 ?_
  refine callsIn_of_wp_marks Try.func15 rfl trivial ?_
  simp only [Try.ntmps15, List.size_toArray, List.length_cons, List.length_nil, Nat.reduceAdd, Nat.reduceSub, Array.replicate_succ, Array.replicate_zero, List.push_toArray, List.append_toArray, List.nil_append, List.cons_append]
  gi_wp2_with fail
  have hA := heap2 w (.cells #[.pointer P] 43) (.cells (iv.map bv).toArray 23)
  generalize hV : (w.alloc _).alloc _ = W0 at hA ⊢
  have hs0 : Hid (W0.heap.size = w.heap.size + 2) := by rw [← hV]; show _ = _; simp
  have K0 := Lib.hid hA.1; have V0 := Lib.hid hA.2.1; have B0 := Lib.hid hA.2.2
  clear hA hV
  refine ⟨trivial, (callsIn_wide.2 (HC.out W0 (HS.out.below B0.out))).mono ?_⟩
  rintro e w1 ⟨v1, rfl, hO1, hb1⟩
  have O1 := Lib.hid hO1; have b1 := Lib.hid hb1
  obtain ⟨A1, c1, rfl, _⟩ := own_read hO1
  clear hO1 hb1
  gi_wp2_with fail
  refine ⟨trivial, (callsIn_wide.2 (HQ.out w1)).mono ?_⟩
  rintro e w2 ⟨g2, hg2, rfl, hS2, hb2⟩
  have O2 := Lib.hid (c_own_below O1.out hb2)
  have b2 := Lib.hid (b1.out.step hb2)
  have S2 := Lib.hid hS2
  have HM := Lib.hid hg2
  clear hb2 hS2 hg2 O1 b1
  have hsz2 := Lib.hid b2.out.size
  have B3 : Hid (∀ W, Below W0.heap.size W0 W → W.heap[w.heap.size + 1]? = some (.cells (iv.map bv).toArray 23 (0, 0))) := fun W hW => (hW.block _ (by have := hs0.out; omega)).trans V0.out
  gi_wp2_with (first
    | (gi_at_builtin
       refine wpListIn_app8 rfl (.tmp 12) (.tmp 15) rfl W0.heap.size _ n bs rfl O2.out (some ⟨g2, 0, none⟩) k9 k9 w2.heap.size PB rfl S2.out.2.2 HPL.out hnk hsz2.out ?_
       intro v3 w3 hown hgr hat
       rw [HLL.out, HM2.out] at hown
       have O3 := Lib.hid hown
       have b3 := Lib.hid (b2.out.grown hgr b2.out.size (c_own_ge O2.out (Nat.le_refl _)))
       obtain ⟨A3, c3, rfl, _⟩ := own_read hown
       have hs3 := Lib.hid b3.out.size
       have hn1 : w.heap.size + 1 < w3.heap.size := by have h1 := hs0.out; have h2 := b3.out.size; omega
       clear hown hgr hat)
    | (refine wpListIn_ld rfl 23 (.tmp 4) rfl rfl (load_arr arr16B rfl (i16c iv HIV.out) (B3.out _ (b3.out.trans ((heap2 w3 _ _).2.2.mono hs3.out)))) ?_)
    | (refine wpListIn_st rfl 23 (.tmp 9) (.tmp 20) rfl rfl rfl (store_arr (cs := iv.map bv) (old := zeros16) (i16c iv HIV.out) (bv_one _) (heap3 w3 _ _ _).2.2.1 (by rw [List.length_map, HIV.out]; rfl)) ?_
       have hH := heap3 w3 (.cells (Array.replicate m2 (Value.int .u8 0)) 5) (.cells #[.slice (some ⟨w3.heap.size, 0, none⟩) 0 m2] 26) (.cells zeros16.toArray 23)
       generalize hU : ((w3.alloc _).alloc _).alloc _ = W4 at hH ⊢
       have hs4 : Hid (W4.heap.size = w3.heap.size + 3) := by rw [← hU]; show _ = _; simp
       clear hU
       generalize hV : World.setRow _ _ _ = W5
       have R5 := Lib.hid (heap_of_other hV (show w3.heap.size ≠ w3.heap.size + 1 + 1 by omega) hH.1)
       have C5 := Lib.hid (heap_of_other hV (show w3.heap.size + 1 ≠ w3.heap.size + 1 + 1 by omega) hH.2.1)
       have A5 := Lib.hid (heap_of_setRow hV hH.2.2.1)
       have b5 := Lib.hid (hH.2.2.2.trans (below_of_setRow hV (show w3.heap.size ≤ w3.heap.size + 1 + 1 by omega) hH.2.2.2.size))
       clear hV hH)
    | fail)
  refine ⟨trivial, (blocks_in Fence.wide 5 trivial rfl A3 m2 c3 W5).mono ?_⟩
  rintro e w6 ⟨rfl, hw6⟩
  gi_wp2
  -- what lies where at the range
  have hgA := lt_of_heap A5.out
  obtain ⟨gA, HgA⟩ : ∃ g, w3.heap.size + 1 + 1 = g := ⟨_, rfl⟩
  obtain ⟨gO, HgO⟩ : ∃ g, w3.heap.size + 1 = g := ⟨_, rfl⟩
  obtain ⟨g0, Hg0⟩ : ∃ g, w3.heap.size = g := ⟨_, rfl⟩
  obtain ⟨sB, HsB⟩ : ∃ g, W5.heap.size = g := ⟨_, rfl⟩
  have hne : gO ≠ gA ∧ g0 < gO ∧ gO < gA ∧ gA < sB := by omega
  have ESL : Sl w3 A3 c3 L := by
    obtain ⟨A', c', he, h1, h2, h3, h4⟩ := own_read O3.out
    cases he
    exact ⟨by omega, h3, h4⟩
  have EA3 : ∀ b o x, A3 = some ⟨b, o, x⟩ → b < g0 := fun b o x e => by
    subst e
    rw [← Hg0]
    exact (O3.out.lt b rfl).2
  have hLl : L.length = m2 := by have := O3.out.1; simpa using this
  have hw6s : w6.heap.size = sB + 1 := by rw [hw6, World.size_alloc, HsB]
  have b56 : Below W5.heap.size W5 w6 := by rw [hw6]; exact (Below.refl _ _).alloc (Nat.le_refl _) _
  have SB6 : Boxed w6 sB 26 (.slice A3 m2 c3) := by rw [hw6, ← HsB]; exact Boxed.new _ _ _
  rw [HgA] at A5
  rw [HgO] at C5
  have A6 : w6.heap[gA]? = some (.cells (iv.map bv).toArray 23 (0, 0)) := (b56.block _ (lt_of_heap A5.out)).trans A5.out
  have C6 : Boxed w6 gO 26 (.slice (some ⟨g0, 0, none⟩) 0 m2) := by rw [← Hg0]; exact (b56.block _ (lt_of_heap C5.out)).trans C5.out
  have R6 : w6.heap[g0]? = some (.cells (Array.replicate m2 (Value.int .u8 0)) 5 (0, 0)) := by rw [← Hg0]; exact (b56.block _ (lt_of_heap R5.out)).trans R5.out
  have bw6 : Below w3.heap.size w3 w6 := b5.out.step b56
  have O6 : w6.ownsRow g0 5 1 (.slice (some ⟨g0, 0, none⟩) 0 m2) 0 (([] : List UInt8).map bv) :=
    ⟨by simp, .inr ⟨g0, m2, _, rfl, Nat.le_refl _, R6, Nat.zero_le _, by simp [maxLen]; omega, by simp, by simp⟩⟩
  have S6 : Sl w6 A3 c3 L := ESL.below bw6
  have K6 : w6.heap[w.heap.size]? = some (.cells #[.pointer P] 43 (0, 0)) := ?hK6
  case hK6 =>
    have h1 := hs0.out
    have h2 := b3.out
    have h3 : W0.heap[w.heap.size]? = _ := K0.out
    exact (bw6.block _ (by have := h2.size; omega)).trans ((h2.block _ (by omega)).trans h3)
  have hk0 : w.heap.size < g0 := by have h1 := hs0.out; have h2 := b3.out.size; omega
  have HE3' : Enc w3 (.pointer P) E := ?hE3
  case hE3 =>
    refine HEE.out.ext ?_
    have h1 := hs0.out
    exact B0.out.trans (b3.out.mono (by omega))
  have E6 : Enc w6 (.pointer P) E := HE3'.ext bw6
  have bw3 : Hid (Below w.heap.size w w3) := B0.out.trans (b3.out.mono (by have := hs0.out; omega))
  clear hgA HLL HM2 HPL HQ HC HS HL hs0 hs4 R5 C5 A5 b5 b3 B0 B3 K0 V0 O3 HEE
  have HE16 := Lib.hid E6.1
  have HE3 : Hid (Enc w3 (.pointer P) E) := HE3'
  have HXL : Hid (∀ pre : List Blk, (chB E iv pre).1.length = 16 ∧ (chB E iv pre).2.length = 16 * pre.length) := fun pre => chB_len E iv HIV.out HE16.out pre.length pre rfl
  rw [← hw6, HgA, HgO, Hg0, HsB]
  refine wpIn_rangeFunc_ownH (gf := 51) (lb := #[.pointer (some ⟨sB, 0, none⟩)]) rfl (by omega) rfl trivial (enters_of Try.func51 (by kernel_rfl) rfl)
    (blocks_stops Fence.wide 5 trivial rfl (by omega) sB g0 m2 c3 A3 L hLl hm31 w6 SB6.lt SB6.cell S6 (fun _ => EA3)) KpB.trans (kpB_b (by omega) SB6.lt) (Below.refl _ _) (fun _ => rfl)
    (fun (pre : List Blk) W => (((∃ v, Boxed W gO 26 v ∧ W.ownsRow g0 5 1 v (16 * pre.length) ((chB E iv pre).2.map bv) ∧ True) ∧ W.heap[gA]? = some (.cells ((chB E iv pre).1.map bv).toArray 23 (0, 0))) ∧ Boxed W sB 26 (.slice A3 m2 c3)) ∧ Below w3.heap.size w3 W)
    (fun _ _ _ => False)
    (OwnFrom.and (OwnFrom.and (OwnFrom.and (Own.from (holdsRow_own g0 gO _ _ 1 (fun pre : List Blk => 16 * pre.length) (fun pre => (chB E iv pre).2.map bv) (fun _ _ => True)) _) (Own.from (cells_own gA _ (fun pre : List Blk => ((chB E iv pre).1.map bv).toArray)) _)) (Own.from (boxed_own sB _ (fun _ : List Blk => Value.slice A3 m2 c3)) _)) (ownFrom_below (Nat.le_refl _) bw6.size))
    (fun _ _ _ _ _ hs _ _ => hs)
    ⟨⟨⟨⟨_, C6, O6, trivial⟩, A6⟩, SB6⟩, bw6⟩
    (fun x a' W => ∃ Bx, w6.heap.size ≤ Bx ∧ W.heap[Bx]? = some (.cells (x.1.map bv).toArray 23 (0, 0)) ∧ a' = { tmps := #[Value.pointer P, Value.agg (List.map bv iv).toArray, Value.slice A n c,
          Value.pointer (some ⟨w.heap.size, 0, none⟩), Value.pointer (some ⟨w.heap.size + 1, 0, none⟩), undef, Value.slice none 0 0,
          Value.slice A3 m2 c3, Value.pointer (some ⟨gO, 0, none⟩), Value.pointer (some ⟨gA, 0, none⟩), .pointer (some ⟨Bx, 0, none⟩), Value.slice A n c,
          Value.slice A1 n c1, Value.slice A n c, Value.int IntKind.i64 ↑n, Value.slice (some ⟨g2, 0, none⟩) k9 k9, Value.slice A3 m2 c3, Value.slice A3 m2 c3,
          Value.int IntKind.i64 ↑m2, Value.slice (some ⟨g0, 0, none⟩) 0 m2, Value.agg (List.map bv iv).toArray, Value.slice A3 m2 c3,
          Value.func (Fn.func 51) #[] #[Value.pointer (some ⟨sB, 0, none⟩)], .agg (x.1.map bv).toArray, undef, undef, undef, undef, undef, undef, undef, undef, undef], defers := [] })
    (fun x a' _ X Y row hs hg hr => by obtain ⟨Bx, h1, h2, h3⟩ := hs; exact ⟨Bx, h1, cells_own Bx 23 (fun _ : Unit => (x.1.map bv).toArray) () X Y row h2 hg (fun r e => (hr r e).2), h3⟩)
    ?assign ?body ?done ?stop
  case assign =>
    rintro l pre x W K ⟨⟨⟨⟨v, hv1, hv2, _⟩, hA⟩, hSB⟩, hB⟩ hK
    gi_wp2_with (first
      | (refine wpListIn_st rfl 23 (.tmp 10) (.tmp 23) rfl rfl rfl (store_arr (cs := x.1.map bv) (old := zeros16) (i16c x.1 x.2) (bv_one _) (heap_alloc_new' W _) (by rw [List.length_map, x.2]; rfl)) ?_
         generalize hV : World.setRow _ _ _ = W2)
      | fail)
    have hb2 : Below W.heap.size W W2 := ((Below.refl _ W).alloc (Nat.le_refl _) _).trans (below_of_setRow hV (Nat.le_refl _) (by simp))
    have hlt := hSB.lt
    refine hK _ _ (keepsFrom_below hb2) ⟨hb2.mono (by omega), hb2.cell hlt⟩ ⟨⟨⟨⟨v, (hb2.block _ hv1.lt).trans hv1, c_own_below hv2 hb2, trivial⟩, (hb2.block _ (lt_of_heap hA)).trans hA⟩, (hb2.block _ hlt).trans hSB⟩, hB.step hb2⟩ ⟨W.heap.size, by omega, heap_of_setRow hV (heap_alloc_new' W _), ?_⟩
    simp only [HgA, HgO, Hg0, HsB]
  case body =>
    rintro l pre x a' W hl ⟨r, hr⟩ ⟨⟨⟨⟨v, hv1, hv2, _⟩, hA⟩, hSB⟩, hB⟩ ⟨Bx, hBx, hX, rfl⟩ hlt
    have hKW : W.heap[w.heap.size]? = some (.cells #[.pointer P] 43 (0, 0)) := ?hKW
    case hKW => exact (hB.block _ (by omega)).trans ((bw6.block _ (by omega)).symm.trans K6)
    have hEW : Enc W (.pointer P) E := ?hEW
    case hEW => exact HE3.out.ext hB
    have HC16 := Lib.hid (HXL.out pre).1
    have HO16 := Lib.hid (HXL.out pre).2
    have HS := Lib.hid (chB_snoc E iv pre x)
    have hX16 := x.2
    generalize hc : (chB E iv pre).1 = Cc at HC16 HS hA
    generalize ho : (chB E iv pre).2 = Oo at HO16 HS hv2
    obtain ⟨Xx, hXx⟩ : ∃ l, x.1 = l := ⟨_, rfl⟩
    rw [hXx] at hX16 HS hX ⊢
    have HX16 := Lib.hid hX16
    have HC := Lib.hid (fun Wn => cxor_any Xx Cc Wn HX16.out HC16.out)
    have HXC : Hid ((xorL Xx Cc).length = 16) := by show _ = _; rw [xorL_len, HX16.out, HC16.out]; rfl
    have HE := Lib.hid (fun Wn (h : Below W.heap.size W Wn) => hEW.2 Wn h (xorL Xx Cc) HXC.out)
    have HEC := Lib.hid (hEW.1 (xorL Xx Cc) HXC.out)
    generalize E (xorL Xx Cc) = EC at HE HEC HS
    generalize xorL Xx Cc = XC at HC HXC HE
    clear hc ho hX16 hEW
    gi_wp2
    refine regIn_inv (fun L a Wn => ∃ vs : Nat → Value, a = { tmps := #[Value.pointer P, Value.agg (List.map bv iv).toArray, Value.slice A n c,
          Value.pointer (some ⟨w.heap.size, 0, none⟩), Value.pointer (some ⟨w.heap.size + 1, 0, none⟩), undef, Value.slice none 0 0,
          Value.slice A3 m2 c3, Value.pointer (some ⟨gO, 0, none⟩), Value.pointer (some ⟨gA, 0, none⟩), .pointer (some ⟨Bx, 0, none⟩), Value.slice A n c,
          Value.slice A1 n c1, Value.slice A n c, Value.int IntKind.i64 ↑n, Value.slice (some ⟨g2, 0, none⟩) k9 k9, Value.slice A3 m2 c3, Value.slice A3 m2 c3,
          Value.int IntKind.i64 ↑m2, Value.slice (some ⟨g0, 0, none⟩) 0 m2, Value.agg (List.map bv iv).toArray, Value.slice A3 m2 c3,
          Value.func (Fn.func 51) #[] #[Value.pointer (some ⟨sB, 0, none⟩)], .agg (Xx.map bv).toArray, vs 0, vs 1, vs 2, vs 3, vs 4, undef, undef, undef, undef], defers := [] } ∧
        RJ 5 (fun i v _ => v = match i with | 0 => .pointer P | 1 => .agg (Xx.map bv).toArray | 2 => .agg (Cc.map bv).toArray | 3 => .agg (XC.map bv).toArray | _ => .agg (EC.map bv).toArray)
          (fun _ Wn => ∃ Wm, Below W.heap.size W Wm ∧ Wm.setRow gA (EC.map bv).toArray = Wn) W vs L Wn) (by kernel_rfl) (by kernel_rfl) ?_
      (And.intro ?_ (And.intro ?_ (And.intro ?_ (And.intro ?_ (And.intro ?_ (And.intro ?_ trivial)))))) ?_
    · intro L hL
      exact ⟨fun _ => undef, rfl, RJ.start hL ((Below.refl _ _).drew)⟩
    · rintro L a Wn ⟨vs, rfl, H⟩ hLi hd
      refine ⟨rfl, fun K0 hK => ?_⟩
      have hb := H.b0 (H.last (by omega) hLi)
      have hcell : Wn.cell? ⟨w.heap.size, 0, none⟩ = some (.pointer P) := by simp [World.cell?, (hb.block _ (lt_of_heap hKW)).trans hKW]
      go_simp
      exact hK.out _ _ ⟨_, rfl, H.step (fun _ _ _ _ h _ => h) 0 (by omega) hLi (Below.refl _ _) _ rfl⟩
    · rintro L a Wn ⟨vs, rfl, H⟩ hLi hd
      refine ⟨rfl, fun K0 hK => ?_⟩
      have hb := H.b0 (H.last (by omega) hLi)
      refine opIn_load 23 (.tmp 10) rfl rfl (load_arr arr16B rfl (i16c Xx HX16.out) ((hb.block _ (lt_of_heap hX)).trans hX)) ?_
      exact hK.out _ _ ⟨_, rfl, H.step (fun _ _ _ _ h _ => h) 1 (by omega) hLi (Below.refl _ _) _ rfl⟩
    · rintro L a Wn ⟨vs, rfl, H⟩ hLi hd
      refine ⟨rfl, fun K0 hK => ?_⟩
      have hb := H.b0 (H.last (by omega) hLi)
      refine opIn_load 23 (.tmp 9) rfl rfl (load_arr arr16B rfl (i16c Cc HC16.out) ((hb.block _ (lt_of_heap hA)).trans hA)) ?_
      exact hK.out _ _ ⟨_, rfl, H.step (fun _ _ _ _ h _ => h) 2 (by omega) hLi (Below.refl _ _) _ rfl⟩
    · rintro L a Wn ⟨vs, rfl, H⟩ hLi hd
      refine ⟨rfl, fun K0 hK => ?_⟩
      have hn5 := H.last (by omega) hLi
      have e1 : vs 1 = .agg (Xx.map bv).toArray := H.fv hn5 1 (hd ⟨1, .data⟩ (by simp) rfl) (by omega)
      have e2 : vs 2 = .agg (Cc.map bv).toArray := H.fv hn5 2 (hd ⟨2, .data⟩ (by simp) rfl) (by omega)
      simp only [e1, e2]
      go_simp
      refine ⟨trivial, (CallsIn.inRound l (callsIn_wide.2 (HC.out Wn))).mono ?_⟩
      rintro e W' ⟨rfl, hb'⟩
      exact hK.out _ _ ⟨updv vs 3 _, by rw [← e1, ← e2]; rfl, H.step (fun _ _ _ _ h _ => h) 3 (by omega) hLi hb' _ rfl⟩
    · rintro L a Wn ⟨vs, rfl, H⟩ hLi hd
      refine ⟨rfl, fun K0 hK => ?_⟩
      have hn5 := H.last (by omega) hLi
      have e0 : vs 0 = .pointer P := H.fv hn5 0 (hd ⟨0, .data⟩ (by simp) rfl) (by omega)
      have e3 : vs 3 = .agg (XC.map bv).toArray := H.fv hn5 3 (hd ⟨3, .data⟩ (by simp) rfl) (by omega)
      simp only [e0, e3]
      go_simp
      refine ⟨trivial, (CallsIn.inRound l (callsIn_wide.2 (HE.out Wn (H.b0 hn5)))).mono ?_⟩
      rintro e W' ⟨rfl, hb'⟩
      exact hK.out _ _ ⟨updv vs 4 _, by rw [← e0, ← e3]; rfl, H.step (fun _ _ _ _ h _ => h) 4 (by omega) hLi hb' _ rfl⟩
    · rintro L a Wn ⟨vs, rfl, H⟩ hLi hd
      refine ⟨rfl, fun K0 hK => ?_⟩
      have e4 : vs 4 = .agg (EC.map bv).toArray := H.fv hLi 4 (hd ⟨4, .data⟩ (by simp) rfl) (by omega)
      have hb := H.b0 hLi
      refine opIn_store 23 (.tmp 9) (.tmp 28) rfl rfl e4 (store_arr (cs := EC.map bv) (old := Cc.map bv) (i16c EC HEC.out) (bv_one _) ((hb.block _ (lt_of_heap hA)).trans hA) (by rw [List.length_map, List.length_map, HEC.out, HC16.out])) ?_
      refine hK.out _ _ ⟨vs, rfl, H.fin (fun i hi => ?_) ⟨Wn, hb, rfl⟩⟩
      have h5 : i = 0 ∨ i = 1 ∨ i = 2 ∨ i = 3 ∨ i = 4 := by omega
      rcases h5 with rfl | rfl | rfl | rfl | rfl <;> exact hd ⟨_, .phase⟩ (by simp) rfl
    rintro L a Wn hL ⟨vs, rfl, H⟩
    obtain ⟨Wm, hbm, hVm⟩ := H.b1 (hL 5)
    gi_wp2
    have hvB : gO < W.heap.size := hv1.lt
    have hAm : Wm.heap[gA]? = some (.cells (Cc.map bv).toArray 23 (0, 0)) := (hbm.block _ (lt_of_heap hA)).trans hA
    have hAn := heap_of_setRow hVm hAm
    have hvn : Boxed Wn gO 26 v := heap_of_other hVm (by omega) ((hbm.block _ hvB).trans hv1)
    have hSn : Boxed Wn sB 26 (.slice A3 m2 c3) := heap_of_other hVm (by omega) ((hbm.block _ hSB.lt).trans hSB)
    have hgn : Wm.grownBy Wn (some gA) := by rw [← hVm]; exact grown_setRow _ _ _
    have hon : Wn.ownsRow g0 5 1 v (16 * pre.length) (Oo.map bv) := (c_own_below hv2 hbm).kept hgn (.inr (cells_not_row hAm (by decide) (c_own_below hv2 hbm)).symm)
    have hBn : Below w3.heap.size w3 Wn := (hB.step hbm).trans (below_of_setRow hVm (by omega) (by have := hB.size; have := hbm.size; omega))
    have hKn : KeepsFrom w6.heap.size W Wn := (keepsFrom_below hbm).trans (keepsFrom_row hgn (fun j o e ho => by cases e; rw [hAm] at ho; cases ho; rfl))
    have hbg : Below g0 W Wn := (hbm.mono (by have := hB.size; omega)).trans (below_of_setRow hVm (by omega) (by have := hB.size; have := hbm.size; omega))
    obtain ⟨pl, hpl⟩ : ∃ k, 16 * pre.length = k := ⟨_, rfl⟩
    rw [hpl] at hon
    have hpl31 : pl + 16 ≤ 2147483647 := by omega
    have hg0n : g0 ≤ Wn.heap.size := by have := hB.size; have := hbm.size; have := hgn.size; omega
    have sl1 := arr_all arr16B s8 ⟨gA, 0, none⟩
    have hSl : Sl Wn.drew (some ⟨gA, 0, none⟩) 16 EC := sl_row HEC.out (by omega) hAn
    refine regIn_inv (fun L a Wx => ∃ v29 v30 v31 : Value, a = { tmps := #[Value.pointer P, Value.agg (List.map bv iv).toArray, Value.slice A n c,
          Value.pointer (some ⟨w.heap.size, 0, none⟩), Value.pointer (some ⟨w.heap.size + 1, 0, none⟩), undef, Value.slice none 0 0,
          Value.slice A3 m2 c3, Value.pointer (some ⟨gO, 0, none⟩), Value.pointer (some ⟨gA, 0, none⟩), .pointer (some ⟨Bx, 0, none⟩), Value.slice A n c,
          Value.slice A1 n c1, Value.slice A n c, Value.int IntKind.i64 ↑n, Value.slice (some ⟨g2, 0, none⟩) k9 k9, Value.slice A3 m2 c3, Value.slice A3 m2 c3,
          Value.int IntKind.i64 ↑m2, Value.slice (some ⟨g0, 0, none⟩) 0 m2, Value.agg (List.map bv iv).toArray, Value.slice A3 m2 c3,
          Value.func (Fn.func 51) #[] #[Value.pointer (some ⟨sB, 0, none⟩)], .agg (Xx.map bv).toArray, vs 0, vs 1, vs 2, vs 3, vs 4, v29, v30, v31, undef], defers := [] } ∧
        (L 0 = true → v29 = v) ∧ (L 1 = true → v30 = .slice (some ⟨gA, 0, none⟩) 16 16) ∧ (L 2 = true → L 0 = true ∧ L 1 = true) ∧ (L 3 = true → L 2 = true) ∧ (L 2 = false → Wx = Wn.drew) ∧
        (L 2 = true → ∃ w', w'.ownsRow g0 5 1 v31 (pl + 16) ((Oo ++ EC).map bv) ∧ Wn.drew.grownBy w' v.ownBlock ∧ (L 3 = false → Wx = w') ∧ (L 3 = true → Wx = w'.setCell ⟨gO, 0, none⟩ v31))) (by kernel_rfl) (by kernel_rfl) ?_
      (And.intro ?_ (And.intro ?_ (And.intro ?_ (And.intro ?_ trivial)))) ?_
    · intro L hL
      have no : ∀ j, j < 4 → L j = true → False := fun j hj h => by rw [hL j hj] at h; cases h
      exact ⟨_, _, _, rfl, fun h => (no 0 (by decide) h).elim, fun h => (no 1 (by decide) h).elim, fun h => (no 2 (by decide) h).elim, fun h => (no 3 (by decide) h).elim, fun _ => rfl, fun h => (no 2 (by decide) h).elim⟩
    · rintro L a Wx ⟨v29, v30, v31, rfl, F0, F1, D2, D3, F2, F3⟩ hLi hd
      refine ⟨rfl, fun K0 hK => ?_⟩
      have h2 : L 2 = false := by cases h : L 2 with
        | false => rfl
        | true => rw [(D2 h).1] at hLi; cases hLi
      obtain rfl := F2 h2
      have hcell : Wn.drew.cell? ⟨gO, 0, none⟩ = some v := hvn.cell
      go_simp
      exact hK.out _ _ ⟨_, v30, v31, rfl, fun _ => rfl, F1, fun h => (upF h2 (by decide) h).elim, D3, fun _ => rfl, fun h => (upF h2 (by decide) h).elim⟩
    · rintro L a Wx ⟨v29, v30, v31, rfl, F0, F1, D2, D3, F2, F3⟩ hLi hd
      refine ⟨rfl, fun K0 hK => ?_⟩
      have h2 : L 2 = false := by cases h : L 2 with
        | false => rfl
        | true => rw [(D2 h).2] at hLi; cases hLi
      obtain rfl := F2 h2
      go_simp
      exact hK.out _ _ ⟨v29, _, v31, rfl, F0, fun _ => rfl, fun h => (upF h2 (by decide) h).elim, D3, fun _ => rfl, fun h => (upF h2 (by decide) h).elim⟩
    · rintro L a Wx ⟨v29, v30, v31, rfl, F0, F1, D2, D3, F2, F3⟩ hLi hd
      refine ⟨rfl, fun K0 hK => ?_⟩
      obtain rfl := F2 hLi
      have h0 := hd ⟨0, .data⟩ (by simp) rfl
      have h1 := hd ⟨1, .data⟩ (by simp) rfl
      have h3 : L 3 = false := by cases h : L 3 with
        | false => rfl
        | true => rw [D3 h] at hLi; cases hLi
      have hon' : Wn.drew.ownsRow g0 5 1 v pl (Oo.map bv) := hon
      refine opIn_app8 (.tmp 29) (.tmp 30) rfl g0 v pl Oo (F0 h0) hon' (some ⟨gA, 0, none⟩) 16 16 Wn.drew.heap.size EC (F1 h1) hSl.2.2 HEC.out hpl31 hg0n ?_
      intro v' w' hown hgr _
      exact hK.out _ _ ⟨v29, v30, v', rfl, F0, F1, fun _ => ⟨h0, h1⟩, fun h => (upF h3 (by decide) h).elim, fun h => (upS h).elim, fun _ => ⟨w', hown, hgr, fun _ => rfl, fun h => (upF h3 (by decide) h).elim⟩⟩
    · rintro L a Wx ⟨v29, v30, v31, rfl, F0, F1, D2, D3, F2, F3⟩ hLi hd
      refine ⟨rfl, fun K0 hK => ?_⟩
      have h2 := hd ⟨2, .data⟩ (by simp) rfl
      obtain ⟨w', hown, hgr, hw, _⟩ := F3 h2
      obtain rfl := hw hLi
      have hvw : Boxed Wx gO 26 v := Boxed.kept (show Boxed Wn.drew gO 26 v from hvn) hgr (hvn.not_row (by decide) hon)
      have hcell := hvw.cell
      have hfr := hvw.frozen
      obtain ⟨A', c', rfl, _⟩ := own_read hown
      go_simp
      exact hK.out _ _ ⟨v, .slice (some ⟨gA, 0, none⟩) 16 16, _, rfl, fun _ => rfl, fun _ => rfl, fun _ => D2 h2, fun _ => h2, fun h => (upT h2 h).elim, fun _ => ⟨Wx, hown, hgr, fun h => (upS h).elim, fun _ => rfl⟩⟩
    rintro L a Wx hL2 ⟨v29, v30, v31, rfl, _, _, _, _, _, F3⟩
    obtain ⟨w', hown, hgr, _, hwx⟩ := F3 (hL2 2)
    have hWx := hwx (hL2 3)
    clear hwx F3
    have hvw : Boxed w' gO 26 v := Boxed.kept (show Boxed Wn.drew gO 26 v from hvn) hgr (hvn.not_row (by decide) hon)
    have hge : ∀ k, v.ownBlock = some k → g0 ≤ k := c_own_ge hon (Nat.le_refl _)
    have hbw : Below g0 Wn w' := ((Below.refl g0 Wn).drew).grown hgr hg0n hge
    have hsx := grownBy_setCell' w' gO v31
    rw [← hWx] at hsx
    have hbx : Below g0 Wn Wx := hbw.grown hsx (by have := hgr.size; have : Wn.drew.heap.size = Wn.heap.size := rfl; omega) (fun k e => by (cases e; omega))
    have hAw : w'.heap[gA]? = some (.cells (EC.map bv).toArray 23 (0, 0)) := (hgr.block gA (lt_of_heap hAn) (cells_not_row hAn (by decide) hon)).trans hAn
    have hSw : Boxed w' sB 26 (.slice A3 m2 c3) := Boxed.kept (show Boxed Wn.drew sB 26 _ from hSn) hgr (hSn.not_row (by decide) hon)
    have hKx : KeepsFrom w6.heap.size W Wx := ((hKn.trans ((KeepsOthers.drew Wn).from _)).trans (keepsFrom_row hgr (ownBlock_cells (W := Wn.drew) hon))).trans (keepsFrom_row hsx (fun j o e ho => by cases e; rw [show w'.heap[gO]? = _ from hvw] at ho; cases ho; rfl))
    have hSx : Boxed Wx sB 26 (.slice A3 m2 c3) := Boxed.kept hSw hsx (by simp; omega)
    gi_wp2
    refine ⟨hKx, ⟨hbg.trans hbx, hSx.cell.trans hSB.cell.symm⟩, ⟨⟨⟨v31, ?_, ?_, trivial⟩, ?_⟩, hSx⟩, hBn.trans (hbx.mono (by omega))⟩
    · rw [hWx]; exact hvw.set v31
    · rw [HS.out, List.length_append, Nat.mul_add, hpl]
      exact hown.kept hsx (.inr (hvw.not_row (by decide) hown).symm)
    · rw [HS.out]; exact (hsx.block gA (lt_of_heap hAw) (by simp; omega)).trans hAw
  case done =>
    rintro D xs W hD rfl ⟨⟨⟨⟨v, hv1, hv2, _⟩, hA⟩, hSB⟩, hB⟩ hK
    have cO := hv1.cell
    obtain ⟨Av, cv, rfl, _⟩ := own_read hv2
    gi_wp2
    have h16 : 16 * (m2 / 16) = m2 := by have := HM16.out; omega
    refine ⟨by simp, .inl ⟨_, _, rfl, run_takeDeferred hK, ?_⟩⟩
    refine ⟨_, results_tmp rfl _ _ _, _, rfl, ?_, ?_⟩
    · rw [blkUp_len, chB_up, h16] at hv2
      have := own_mono (ownsRow_putObj hv2 (.deferred none) hK rfl) (show w.heap.size ≤ g0 by omega)
      rw [blkUp_len, h16]
      exact this
    · exact (bw3.out.step (hB.trans (belowK_b (w := w6) (by omega) W D _ _ hD hK rfl rfl)))
  case stop =>
    rintro D c pre W _ _ h _
    exact h.elim
end Go.Proofs.Ytfcnahbbieldfaa

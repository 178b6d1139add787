/- palfreyref03.Keys. -/
import Derived.Test.YtjmpbcfbfbjenaaRefA4
import Derived.Test.YtjmpbcfbfbjenaaRefAM3
import Derived.Test.YtjmpbcfbfbjenaaAppN
import Derived.StillTailTactics
namespace Go.Proofs.Ytjmpbcfbfbjenaa
open Go.RowKit
set_option maxRecDepth 100000
set_option linter.unusedVariables false
set_option linter.unusedSimpArgs false
theorem arr4B : Try.prog.underlying 83 = some (.array 4 5) := Try.underlying83
theorem made4B : (Try.prog.info? 83).map (fun i => (i.zero, i.size, i.bytes)) = some (some (.agg #[.int .u8 0, .int .u8 0, .int .u8 0, .int .u8 0]), 4, 4) := by kernel_rfl
theorem made16B : (Try.prog.info? 23).map (fun i => (i.zero, i.size, i.bytes)) = some (some (.agg zeros16.toArray), 16, 16) := by kernel_rfl
theorem uT4 : Try.prog.underlying 82 = some (.slice 83) := Try.underlying82
theorem uT16 : Try.prog.underlying 51 = some (.slice 23) := Try.underlying51
theorem k_alloc {w : World} {base : Nat} {e : TypeId} {s : Nat} {v : Value} {n : Nat} {xs : List Value} (h : w.ownsRow base e s v n xs) (o : Obj) : (w.alloc o).ownsRow base e s v n xs := by
  have hb : Below w.heap.size w (w.alloc o) := (Below.refl _ _).alloc (Nat.le_refl _) o
  obtain ⟨h0, h | ⟨g, cap, cur, hv, hg, hh, r⟩⟩ := h
  · exact ⟨h0, .inl h⟩
  · exact ⟨h0, .inr ⟨g, cap, cur, hv, hg, (hb.block _ (lt_of_heap hh)).trans hh, r⟩⟩
theorem ka_own_ge {w : World} {base : Nat} {e : TypeId} {s : Nat} {v : Value} {n : Nat} {xs : List Value} (h : w.ownsRow base e s v n xs) {B : Nat} (hB : B ≤ base) : ∀ g, v.ownBlock = some g → B ≤ g := fun g hq => Nat.le_trans hB (h.lt g hq).1
theorem ka_sl_cell {w : World} {A : Option Addr} {c i : Nat} {bs : List UInt8} (h : Sl w A c bs) (hi : i < bs.length) : ∃ b o, A = some ⟨b, o, none⟩ ∧ b < w.heap.size ∧ ∀ j, j < bs.length → w.cell? ⟨b, o + j, none⟩ = some (.int .u8 ((bs.getD j 0).toNat : Int)) := by
  obtain ⟨b, o, rfl, hb, hc⟩ := h.2.2.at_ (by rw [List.length_map]; omega)
  refine ⟨b, o, rfl, hb, fun j hj => ?_⟩
  have := hc j (bv bs[j]) (by simp [hj])
  rw [this]; simp [List.getD, hj, bv]
theorem take4 (key : List UInt8) (i : Nat) (h : 4 * i + 4 ≤ key.length) : key.take (4 * i) ++ [key.getD (4 * i) 0, key.getD (4 * i + 1) 0, key.getD (4 * i + 2) 0, key.getD (4 * i + 3) 0] = key.take (4 * (i + 1)) := by
  rw [show 4 * (i + 1) = 4 * i + 4 by omega, List.take_add]
  congr 1
  apply List.ext_getElem
  · simp; omega
  · intro j h1 h2
    have hj : j = 0 ∨ j = 1 ∨ j = 2 ∨ j = 3 := by simp at h1; omega
    rcases hj with rfl | rfl | rfl | rfl
    · simp [List.getD, show 4 * i < key.length by omega]
    · simp [List.getD, show 4 * i + 1 < key.length by omega]
    · simp [List.getD, show 4 * i + 2 < key.length by omega]
    · simp [List.getD, show 4 * i + 3 < key.length by omega]
theorem build4 (a b c d : UInt8) (W : World) : (Instr.build 83 #[(0, .int .u8 (a.toNat : Int)), (1, .int .u8 (b.toNat : Int)), (2, .int .u8 (c.toNat : Int)), (3, .int .u8 (d.toNat : Int))]).run Try.prog W = .ok (.agg #[.int .u8 (a.toNat : Int), .int .u8 (b.toNat : Int), .int .u8 (c.toNat : Int), .int .u8 (d.toNat : Int)]) W := by kernel_rfl
theorem k_range {w : World} {g : Nat} {F : List UInt8} (h : ∀ j u, (F.map bv)[j]? = some u → w.cell? ⟨g, j, none⟩ = some u) (X : List UInt8) (p : Nat) (hX : X.length = 4) (hp : 4 * p + 4 ≤ F.length) (hg : ∀ r, r < 4 → F.getD (4 * p + r) 0 = X.getD r 0) : w.rangeAt g (p * 4) (X.map bv) := fun j v hv => by
  have hj : j < 4 := by have := (List.getElem?_eq_some_iff.1 hv).1; rw [List.length_map, hX] at this; exact this
  refine h _ _ ?_
  have e := hg j hj
  rw [List.getD_eq_getElem?_getD, List.getElem?_eq_getElem (by omega), List.getD_eq_getElem?_getD, List.getElem?_eq_getElem (by omega)] at e
  simp only [Option.getD_some] at e
  rw [show p * 4 + j = 4 * p + j by omega, List.getElem?_map, List.getElem?_eq_getElem (by omega), e, ← hv, List.getElem?_map, List.getElem?_eq_getElem (by omega)]
theorem k_ldv {P : Program} {w : World} {ops : Array Oper} {rest : List Oper} {o : Oper} {a : Act} {Q : Exit → Act → World → Prop} (hw : Region.wanted o (yielded ops a.tmps) = true) (ty : TypeId) (x : Operand)
    (ho : o.op = .load ty x) {p v : Value} (hx : a.eval x = p) (hrun : (Instr.loadAt ty p).run P w = .ok v w) (h : wpList P ops Q rest (a.put o.dst v) w) : wpList P ops Q (o :: rest) a w :=
  wpList_ld hw ty x ho (by rw [hx]; exact hrun) h
theorem k_stv {P : Program} {w w' : World} {ops : Array Oper} {rest : List Oper} {o : Oper} {a : Act} {Q : Exit → Act → World → Prop} (hw : Region.wanted o (yielded ops a.tmps) = true) (ty : TypeId) (x y : Operand)
    (ho : o.op = .store ty x y) {p v : Value} (hx : a.eval x = p) (hy : a.eval y = v) (hrun : (Instr.storeAt ty p v).run P w = .ok () w') (h : wpList P ops Q rest (a.put o.dst undef) w') : wpList P ops Q (o :: rest) a w :=
  wpList_st hw ty x y ho (by rw [hx, hy]; exact hrun) h
theorem ka_own_below {w w' : World} {base : Nat} {e : TypeId} {s : Nat} {v : Value} {n : Nat} {xs : List Value} (h : w.ownsRow base e s v n xs) (hb : Below w.heap.size w w') : w'.ownsRow base e s v n xs := by
  obtain ⟨h0, h | ⟨g, cap, cur, hv, hg, hh, r⟩⟩ := h
  · exact ⟨h0, .inl h⟩
  · exact ⟨h0, .inr ⟨g, cap, cur, hv, hg, (hb.block _ (lt_of_heap hh)).trans hh, r⟩⟩
theorem exec_bsl {P : Program} {o : Oper} {a : Act} {W W' : World} {t : TypeId} {n : Nat} {parts : Array (Nat × Operand)} {v : Value} (ho : o.op = .buildSlice t n parts) (hrun : (Instr.buildSlice t n (parts.map fun (i, x) => (i, a.eval x))).run P W = .ok v W') : (execOp a.eval o).run P W = .ok (.value v) W' := by
  unfold execOp
  simp only [ho, Sem.run_bind, hrun, Result.andThen_ok, Sem.run_pure]
theorem bsl16 (a0 a1 a2 a3 a4 a5 a6 a7 a8 a9 a10 a11 a12 a13 a14 a15 : UInt8) (W : World) : (Instr.buildSlice 51 1 #[(0, .agg ([a0, a1, a2, a3, a4, a5, a6, a7, a8, a9, a10, a11, a12, a13, a14, a15].map bv).toArray)]).run Try.prog W = .ok (.slice (some ⟨W.heap.size, 0, none⟩) 1 1) (W.alloc (.cells ([a0, a1, a2, a3, a4, a5, a6, a7, a8, a9, a10, a11, a12, a13, a14, a15].map bv).toArray 23)) := by kernel_rfl
theorem bsl16L (G : List UInt8) (h : G.length = 16) (W : World) : (Instr.buildSlice 51 1 #[(0, .agg (G.map bv).toArray)]).run Try.prog W = .ok (.slice (some ⟨W.heap.size, 0, none⟩) 1 1) (W.alloc (.cells (G.map bv).toArray 23)) := by
  match G, h with
  | [a0, a1, a2, a3, a4, a5, a6, a7, a8, a9, a10, a11, a12, a13, a14, a15], _ => exact bsl16 a0 a1 a2 a3 a4 a5 a6 a7 a8 a9 a10 a11 a12 a13 a14 a15 W
theorem ka_own_le {w : World} {b b' : Nat} {e : TypeId} {s : Nat} {v : Value} {n : Nat} {xs : List Value} (h : w.ownsRow b e s v n xs) (hb : b' ≤ b) : w.ownsRow b' e s v n xs := by
  obtain ⟨h0, h | ⟨g, cap, cur, hv, hg, r⟩⟩ := h
  · exact ⟨h0, .inl h⟩
  · exact ⟨h0, .inr ⟨g, cap, cur, hv, Nat.le_trans hb hg, r⟩⟩
theorem k_appv {P : Program} {w w' : World} {ops : Array Oper} {rest : List Oper} {o : Oper} {a : Act} {Q : Exit → Act → World → Prop} (hw : Region.wanted o (yielded ops a.tmps) = true) (s x : Operand) (t1 t2 : TypeId)
    (ho : o.op = .call { callee := .builtin .append, args := #[s, x], argTypes := #[t1, t2] }) {v v2 v' : Value} (hs : a.eval s = v) (hx : a.eval x = v2) (hrun : (Builtin.append_ #[t1, t2] o.type #[v, v2]).run P w = .ok v' w') (h : wpList P ops Q rest (a.put o.dst v') w') : wpList P ops Q (o :: rest) a w :=
  wpList_app hw s x _ _ ho (by rw [hs, hx]; exact hrun) h
def filG (G : List UInt8) (p : Nat) : List UInt8 := G.take p ++ List.replicate (16 - p) 0
theorem filG_zero (G : List UInt8) : (filG G 0).map bv = zeros16 := by simp [filG, zeros16]
theorem filG_len (G : List UInt8) (p : Nat) (hG : G.length = 16) (hp : p ≤ 16) : (filG G p).length = 16 := by simp [filG, hG]; omega
theorem filG_end (G : List UInt8) (hG : G.length = 16) : filG G 16 = G := by
  rw [filG, List.take_of_length_le (by omega), List.replicate_zero, List.append_nil]
theorem filG_step (G : List UInt8) (p : Nat) (hG : G.length = 16) (hp : p < 16) : (filG G p).set p (G.getD p 0) = filG G (p + 1) := by
  have hl : (G.take p).length = p := by rw [List.length_take]; omega
  unfold filG
  rw [List.set_append_right _ _ (by omega), hl, Nat.sub_self, show 16 - p = (16 - (p + 1)) + 1 by omega, List.replicate_succ, List.set_cons_zero, List.take_succ_eq_append_getElem (by omega), List.append_assoc]
  congr 2
  rw [List.getD_eq_getElem?_getD, List.getElem?_eq_getElem (by omega)]; rfl
theorem chunk_len (F : List UInt8) (j k7 : Nat) (hF : F.length = 16 * k7) (hj : j < k7) : ((F.drop (16 * j)).take 16).length = 16 := by
  rw [List.length_take, List.length_drop]; omega
theorem chunk_get (F : List UInt8) (j p : Nat) (hp : p < 16) : ((F.drop (16 * j)).take 16).getD p 0 = F.getD (16 * j + p) 0 := by
  simp [List.getD, List.getElem?_take, hp, List.getElem?_drop]
theorem chunk_next (F : List UInt8) (j : Nat) : F.take (16 * j) ++ (F.drop (16 * j)).take 16 = F.take (16 * (j + 1)) := by
  rw [show 16 * (j + 1) = 16 * j + 16 by omega, List.take_add]
set_option maxRecDepth 100000 in
set_option maxHeartbeats 8000000 in
theorem refKeys_any (T : List UInt8) (A : Option Addr) (n c nk : Nat) (key : List UInt8) (w : World) (hT : T.length = 256) (hl : key.length = n) (hn : n = 4 * nk) (hk : nk = 4 ∨ nk = 8) (hS : Sl w A c key) :
    Calls Try.prog 27 #[.agg (T.map bv).toArray, .slice A n c] w fun e w' => ∃ v, e = .returned v ∧ w'.ownsRow w.heap.size 23 16 v (nk + 7) ((wBy T nk key (3 * nk + 28)).map bv) ∧ Below w.heap.size w w' := by
  have HT := Lib.hid hT; have HL := Lib.hid hl; have HN := Lib.hid hn; have HK := Lib.hid hk; have HS := Lib.hid hS
  have hnk8 : nk ≤ 8 := by omega
  have u1 : (n : Int) / 4 = (nk : Int) := by omega
  have HW0 := Lib.hid (wBy_zero T nk key (hl.trans hn) hnk8)
  have HWS := Lib.hid (fun i h => wBy_step T nk key i h (by omega))
  have HWG := Lib.hid (wBy_get T nk key)
  have HWL := Lib.hid (wBy_len T nk key)
  have HCS : Hid (∀ i, conB nk (i + 1) = if i % nk = 0 then mulB (conB nk i) 2 else conB nk i) := fun _ => rfl
  have HC0 : Hid (conB nk 0 = 1) := rfl
  have HLB : Hid (∀ con x i, lastB T nk con x i = if i % nk = 0 then [T.getD (x.getD 1 0).toNat 0 ^^^ con, T.getD (x.getD 2 0).toNat 0, T.getD (x.getD 3 0).toNat 0, T.getD (x.getD 0 0).toNat 0] else if i % nk = 4 then [T.getD (x.getD 0 0).toNat 0, T.getD (x.getD 1 0).toNat 0, T.getD (x.getD 2 0).toNat 0, T.getD (x.getD 3 0).toNat 0] else x) := fun _ _ _ => rfl
  generalize wBy T nk key = WB at HW0 HWS HWG HWL ⊢
  generalize conB nk = CB at HWS HCS HC0
  generalize lastB T nk = LB at HWS HLB
  have hWL : Hid (∀ i, (wb ((expN T nk key i).1.getD (nk + i - 1) 0)).length = 4 ∧ (wb ((expN T nk key i).1.getD i 0)).length = 4) := fun i => ⟨wb_len _, wb_len _⟩
  have HG1 : Hid (∀ i r, nk + i ≤ 60 → r < 4 → (WB i).getD (4 * (nk + i - 1) + r) 0 = (wb ((expN T nk key i).1.getD (nk + i - 1) 0)).getD r 0) := fun i r h hr => HWG.out i _ r h (by omega) hr
  have HG2 : Hid (∀ i r, nk + i ≤ 60 → r < 4 → (WB i).getD (4 * i + r) 0 = (wb ((expN T nk key i).1.getD i 0)).getD r 0) := fun i r h hr => HWG.out i _ r h (by omega) hr
  generalize (fun i => wb ((expN T nk key i).1.getD (nk + i - 1) 0)) = DUMMY
  obtain ⟨XW, HXW⟩ : ∃ XW : Nat → List UInt8, Hid (∀ i, wb ((expN T nk key i).1.getD (nk + i - 1) 0) = XW i) := ⟨fun i => _, fun _ => rfl⟩
  obtain ⟨YW, HYW⟩ : ∃ YW : Nat → List UInt8, Hid (∀ i, wb ((expN T nk key i).1.getD i 0) = YW i) := ⟨fun i => _, fun _ => rfl⟩
  have HWS' : Hid (∀ i, nk + i < 60 → WB (i + 1) = WB i ++ xorL (LB (CB i) (XW i) i) (YW i)) := fun i h => by rw [← HXW.out, ← HYW.out]; exact HWS.out i h
  have HG1' : Hid (∀ i r, nk + i ≤ 60 → r < 4 → (WB i).getD (4 * (nk + i - 1) + r) 0 = (XW i).getD r 0) := fun i r h hr => by rw [← HXW.out]; exact HG1.out i r h hr
  have HG2' : Hid (∀ i r, nk + i ≤ 60 → r < 4 → (WB i).getD (4 * i + r) 0 = (YW i).getD r 0) := fun i r h hr => by rw [← HYW.out]; exact HG2.out i r h hr
  have HXL : Hid (∀ i, (XW i).length = 4 ∧ (YW i).length = 4) := fun i => by rw [← HXW.out, ← HYW.out]; exact hWL.out i
  clear HWS HG1 HG2 hWL HXW HYW HWG DUMMY
  have hz4 : ∀ W, (zeroValue 83).run Try.prog W = .ok (.agg ((List.replicate 4 (0 : UInt8)).map bv).toArray) W := fun W => by kernel_rfl
  have HZ4 : Hid ((List.replicate 4 (0 : UInt8)).length = 4) := rfl
  generalize List.replicate 4 (0 : UInt8) = Z4 at hz4 HZ4
  clear hT hl hn hk hS
  obtain ⟨F, HF⟩ : ∃ F, Hid (WB (3 * nk + 28) = F) := ⟨_, rfl⟩
  rw [HF.out]
  obtain ⟨k7, hk7z⟩ : ∃ k7, k7 = nk + 7 := ⟨_, rfl⟩
  rw [← hk7z]
  have HK7 := Lib.hid hk7z
  clear hk7z
  have hz16 : ∀ W, (zeroValue 23).run Try.prog W = .ok (.agg zeros16.toArray) W := fun W => by kernel_rfl
  have HFG0 := Lib.hid filG_zero
  have HFGL := Lib.hid filG_len
  have HFGE := Lib.hid filG_end
  have HFGS := Lib.hid filG_step
  generalize zeros16 = Z16 at hz16 HFG0
  generalize filG = FG at HFG0 HFGL HFGE HFGS
  go_enter Try.func27, Try.ntmps27
  go_wp2_with fail
  generalize hV : w.alloc _ = W0
  have F2 : Hid (W0.heap[w.heap.size]? = some (.cells (T.map bv).toArray 48 (0, 0))) := heap_of_alloc hV
  have FB := Lib.hid (below_of_alloc hV (Nat.le_refl w.heap.size))
  have FS : Hid (W0.heap.size = w.heap.size + 1) := by show _ = _; rw [← hV]; simp
  clear hV
  obtain ⟨q, hq⟩ : ∃ q, q = w.heap.size + 1 := ⟨_, rfl⟩
  rw [← hq] at FS
  have HQ := Lib.hid hq
  clear hq
  have HS0 := Lib.hid (HS.out.below FB.out)
  go_loopw [6, 7] (fun v6 vi wr => ∃ (i : Nat) (A6 : Option Addr) (c6 : Nat), i ≤ nk ∧ vi = .int .i64 (i : Int) ∧ v6 = .slice A6 i c6 ∧ Hid (wr.ownsRow q 83 4 (.slice A6 i c6) i ((key.take (4 * i)).map bv)) ∧ Hid (Below q W0 wr)) (fun _ i _ => nk - (intOf i).toNat)
  case atStart => exact ⟨0, none, 0, by omega, rfl, rfl, by rw [Nat.mul_zero, List.take_zero]; exact World.ownsRow_nil _ _ _ _, Below.refl _ _⟩
  case round =>
    obtain ⟨i, A6, c6, hi, rfl, rfl, O6, HB⟩ := hrel
    have HQR : Hid (q ≤ wr.heap.size) := by have h1 := HB.out.size; have h2 := FS.out; show _ ≤ _; omega
    by_cases hlt : i < nk
    · have q1 : (i : Int) < (nk : Int) := by omega
      have HTK := Lib.hid (take4 key i (by have h1 := HL.out; have h2 := HN.out; omega))
      have hkl : 4 * i + 3 < key.length := by have h1 := HL.out; have h2 := HN.out; omega
      have hin : 4 * i + 3 < n := by have h2 := HN.out; omega
      obtain ⟨b0, o0, hA, hb0, hcell⟩ := ka_sl_cell HS0.out (i := 4 * i) (by omega)
      have SK : Hid (∀ W, Below q W0 W → Sl W A c key) := fun W hW => HS.out.below (FB.out.trans (hW.mono (by have := HQ.out; omega)))
      obtain ⟨b1, o1, hA1, hb1, _⟩ := ka_sl_cell HS.out (i := 4 * i) (by omega)
      rw [hA] at hA1
      injection hA1 with hA1
      injection hA1 with ee1 ee2
      subst ee1; subst ee2
      have d0 := (HB.out.cell (p := ⟨b0, o0 + 4 * i, none⟩) (by have := HQ.out; show b0 < q; omega)).trans (hcell (4 * i) (by omega))
      have d1 := (HB.out.cell (p := ⟨b0, o0 + (4 * i + 1), none⟩) (by have := HQ.out; show b0 < q; omega)).trans (hcell (4 * i + 1) (by omega))
      have d2 := (HB.out.cell (p := ⟨b0, o0 + (4 * i + 2), none⟩) (by have := HQ.out; show b0 < q; omega)).trans (hcell (4 * i + 2) (by omega))
      have d3 := (HB.out.cell (p := ⟨b0, o0 + (4 * i + 3), none⟩) (by have := HQ.out; show b0 < q; omega)).trans (hcell (4 * i + 3) (by omega))
      generalize key.getD (4 * i) 0 = a0 at d0 HTK
      generalize key.getD (4 * i + 1) 0 = a1 at d1 HTK
      generalize key.getD (4 * i + 2) 0 = a2 at d2 HTK
      generalize key.getD (4 * i + 3) 0 = a3 at d3 HTK
      obtain ⟨p0, hp0⟩ : ∃ p, p = 4 * i := ⟨_, rfl⟩
      rw [← hp0] at d0 d1 d2 d3 hin
      have HP0 := Lib.hid hp0
      have e0 : IntKind.i64.wrap (4 * (i : Int)) = (p0 : Int) := by rw [IntKind.wrap_i64]; omega
      obtain ⟨p1, hp1⟩ : ∃ p, p = p0 + 1 := ⟨_, rfl⟩
      obtain ⟨p2, hp2⟩ : ∃ p, p = p0 + 2 := ⟨_, rfl⟩
      obtain ⟨p3, hp3⟩ : ∃ p, p = p0 + 3 := ⟨_, rfl⟩
      rw [← hp1] at d1
      rw [← hp2] at d2
      rw [← hp3] at d3
      have e1 : IntKind.i64.wrap ((p0 : Int) + 1) = (p1 : Int) := by rw [IntKind.wrap_i64]; omega
      have e2 : IntKind.i64.wrap ((p0 : Int) + 2) = (p2 : Int) := by rw [IntKind.wrap_i64]; omega
      have e3 : IntKind.i64.wrap ((p0 : Int) + 3) = (p3 : Int) := by rw [IntKind.wrap_i64]; omega
      have n0 : (p0 : Int) < (n : Int) := by omega
      have n1 : (p1 : Int) < (n : Int) := by omega
      have n2 : (p2 : Int) < (n : Int) := by omega
      have n3 : (p3 : Int) < (n : Int) := by omega
      have D0 : Hid (wr.drew.cell? ⟨b0, o0 + p0, none⟩ = _) := d0
      have D1 : Hid (wr.drew.cell? ⟨b0, o0 + p1, none⟩ = _) := d1
      have D2 : Hid (wr.drew.cell? ⟨b0, o0 + p2, none⟩ = _) := d2
      have D3 : Hid (wr.drew.cell? ⟨b0, o0 + p3, none⟩ = _) := d3
      have LB0 : Hid (b0 < q) := by have h2 := HQ.out; show b0 < q; omega
      have O7 : Hid (wr.drew.ownsRow q 83 4 (.slice A6 i c6) i ((key.take (4 * i)).map bv)) := O6.out
      have HB7 : Hid (Below q W0 wr.drew) := HB.out.drew
      have HQ7 : Hid (q ≤ wr.drew.heap.size) := HQR.out
      have BD := Lib.hid (fun W => build4 a0 a1 a2 a3 W)
      have hm1 : Hid ([a0, a1, a2, a3].map bv = [.int .u8 (a0.toNat : Int), .int .u8 (a1.toNat : Int), .int .u8 (a2.toNat : Int), .int .u8 (a3.toNat : Int)]) := rfl
      subst hA
      clear hcell hb0 hb1 d0 d1 d2 d3 hp0 hp1 hp2 hp3 hkl hin O6 HB HQR
      go_upto_region 6 with (fail)
      have HX : Hid (Below q wr.drew wr.drew) := Below.refl _ _
      have hi14 : i ≤ 8 := by omega
      refine regB_start (q) (by kernel_rfl) ?_
      try simp only [Act.put, List.setIfInBounds_toArray, List.set_cons_zero, List.set_cons_succ]
      generalize wr.drew = W1 at D0 D1 D2 D3 O7 HB7 HQ7 HX ⊢
      refine regB_take (v := ?_) 0 (some 25) rfl rfl (by kernel_rfl) (by kernel_rfl) (by kernel_rfl) (fun _ _ _ h => h) (by rfl) (fun W hW => ?_) ?_
      rotate_left
      · (go_simp; try rfl)
      simp only [Act.put, List.setIfInBounds_toArray, List.set_cons_zero, List.set_cons_succ]
      refine regB_take (v := ?_) 1 (some 26) rfl rfl (by kernel_rfl) (by kernel_rfl) (by kernel_rfl) (fun _ _ _ h => h) (by rfl) (fun W hW => ?_) ?_
      rotate_left
      · (go_simp; try rfl)
      simp only [Act.put, List.setIfInBounds_toArray, List.set_cons_zero, List.set_cons_succ]
      refine regB_take (v := ?_) 2 (some 27) rfl rfl (by kernel_rfl) (by kernel_rfl) (by kernel_rfl) (fun _ _ _ h => h) (by rfl) (fun W hW => ?_) ?_
      rotate_left
      · (go_simp; try rfl)
      simp only [Act.put, List.setIfInBounds_toArray, List.set_cons_zero, List.set_cons_succ]
      refine regB_take (v := ?_) 3 (some 28) rfl rfl (by kernel_rfl) (by kernel_rfl) (by kernel_rfl) (fun _ _ _ h => h) (by rfl) (fun W hW => ?_) ?_
      rotate_left
      · (go_simp; try rfl)
      simp only [Act.put, List.setIfInBounds_toArray, List.set_cons_zero, List.set_cons_succ]
      refine regB_take (v := ?_) 4 (some 29) rfl rfl (by kernel_rfl) (by kernel_rfl) (by kernel_rfl) (fun _ _ _ h => h) (by rfl) (fun W hW => ?_) ?_
      rotate_left
      · (go_simp; try rfl)
      simp only [Act.put, List.setIfInBounds_toArray, List.set_cons_zero, List.set_cons_succ]
      refine regB_load 5 (some 30) (fun W hW => load_cell Try.underlying5 ((hW.cell LB0.out).trans D0.out)) rfl rfl rfl rfl (by kernel_rfl) (by kernel_rfl) (by kernel_rfl) (fun _ _ _ h => h) (by rfl) ?_
      simp only [Act.put, List.setIfInBounds_toArray, List.set_cons_zero, List.set_cons_succ]
      refine regB_take (v := ?_) 6 (some 31) rfl rfl (by kernel_rfl) (by kernel_rfl) (by kernel_rfl) (fun _ _ _ h => h) (by rfl) (fun W hW => ?_) ?_
      rotate_left
      · (go_simp; try rfl)
      simp only [Act.put, List.setIfInBounds_toArray, List.set_cons_zero, List.set_cons_succ]
      refine regB_take (v := ?_) 7 (some 32) rfl rfl (by kernel_rfl) (by kernel_rfl) (by kernel_rfl) (fun _ _ _ h => h) (by rfl) (fun W hW => ?_) ?_
      rotate_left
      · (go_simp; try rfl)
      simp only [Act.put, List.setIfInBounds_toArray, List.set_cons_zero, List.set_cons_succ]
      refine regB_take (v := ?_) 8 (some 33) rfl rfl (by kernel_rfl) (by kernel_rfl) (by kernel_rfl) (fun _ _ _ h => h) (by rfl) (fun W hW => ?_) ?_
      rotate_left
      · (go_simp; try rfl)
      simp only [Act.put, List.setIfInBounds_toArray, List.set_cons_zero, List.set_cons_succ]
      refine regB_take (v := ?_) 9 (some 34) rfl rfl (by kernel_rfl) (by kernel_rfl) (by kernel_rfl) (fun _ _ _ h => h) (by rfl) (fun W hW => ?_) ?_
      rotate_left
      · (go_simp; try rfl)
      simp only [Act.put, List.setIfInBounds_toArray, List.set_cons_zero, List.set_cons_succ]
      refine regB_take (v := ?_) 10 (some 35) rfl rfl (by kernel_rfl) (by kernel_rfl) (by kernel_rfl) (fun _ _ _ h => h) (by rfl) (fun W hW => ?_) ?_
      rotate_left
      · (go_simp; try rfl)
      simp only [Act.put, List.setIfInBounds_toArray, List.set_cons_zero, List.set_cons_succ]
      refine regB_load 11 (some 36) (fun W hW => load_cell Try.underlying5 ((hW.cell LB0.out).trans D1.out)) rfl rfl rfl rfl (by kernel_rfl) (by kernel_rfl) (by kernel_rfl) (fun _ _ _ h => h) (by rfl) ?_
      simp only [Act.put, List.setIfInBounds_toArray, List.set_cons_zero, List.set_cons_succ]
      refine regB_take (v := ?_) 12 (some 37) rfl rfl (by kernel_rfl) (by kernel_rfl) (by kernel_rfl) (fun _ _ _ h => h) (by rfl) (fun W hW => ?_) ?_
      rotate_left
      · (go_simp; try rfl)
      simp only [Act.put, List.setIfInBounds_toArray, List.set_cons_zero, List.set_cons_succ]
      refine regB_take (v := ?_) 13 (some 38) rfl rfl (by kernel_rfl) (by kernel_rfl) (by kernel_rfl) (fun _ _ _ h => h) (by rfl) (fun W hW => ?_) ?_
      rotate_left
      · (go_simp; try rfl)
      simp only [Act.put, List.setIfInBounds_toArray, List.set_cons_zero, List.set_cons_succ]
      refine regB_take (v := ?_) 14 (some 39) rfl rfl (by kernel_rfl) (by kernel_rfl) (by kernel_rfl) (fun _ _ _ h => h) (by rfl) (fun W hW => ?_) ?_
      rotate_left
      · (go_simp; try rfl)
      simp only [Act.put, List.setIfInBounds_toArray, List.set_cons_zero, List.set_cons_succ]
      refine regB_take (v := ?_) 15 (some 40) rfl rfl (by kernel_rfl) (by kernel_rfl) (by kernel_rfl) (fun _ _ _ h => h) (by rfl) (fun W hW => ?_) ?_
      rotate_left
      · (go_simp; try rfl)
      simp only [Act.put, List.setIfInBounds_toArray, List.set_cons_zero, List.set_cons_succ]
      refine regB_take (v := ?_) 16 (some 41) rfl rfl (by kernel_rfl) (by kernel_rfl) (by kernel_rfl) (fun _ _ _ h => h) (by rfl) (fun W hW => ?_) ?_
      rotate_left
      · (go_simp; try rfl)
      simp only [Act.put, List.setIfInBounds_toArray, List.set_cons_zero, List.set_cons_succ]
      refine regB_load 17 (some 42) (fun W hW => load_cell Try.underlying5 ((hW.cell LB0.out).trans D2.out)) rfl rfl rfl rfl (by kernel_rfl) (by kernel_rfl) (by kernel_rfl) (fun _ _ _ h => h) (by rfl) ?_
      simp only [Act.put, List.setIfInBounds_toArray, List.set_cons_zero, List.set_cons_succ]
      refine regB_take (v := ?_) 18 (some 43) rfl rfl (by kernel_rfl) (by kernel_rfl) (by kernel_rfl) (fun _ _ _ h => h) (by rfl) (fun W hW => ?_) ?_
      rotate_left
      · (go_simp; try rfl)
      simp only [Act.put, List.setIfInBounds_toArray, List.set_cons_zero, List.set_cons_succ]
      refine regB_take (v := ?_) 19 (some 44) rfl rfl (by kernel_rfl) (by kernel_rfl) (by kernel_rfl) (fun _ _ _ h => h) (by rfl) (fun W hW => ?_) ?_
      rotate_left
      · (go_simp; try rfl)
      simp only [Act.put, List.setIfInBounds_toArray, List.set_cons_zero, List.set_cons_succ]
      refine regB_take (v := ?_) 20 (some 45) rfl rfl (by kernel_rfl) (by kernel_rfl) (by kernel_rfl) (fun _ _ _ h => h) (by rfl) (fun W hW => ?_) ?_
      rotate_left
      · (go_simp; try rfl)
      simp only [Act.put, List.setIfInBounds_toArray, List.set_cons_zero, List.set_cons_succ]
      refine regB_take (v := ?_) 21 (some 46) rfl rfl (by kernel_rfl) (by kernel_rfl) (by kernel_rfl) (fun _ _ _ h => h) (by rfl) (fun W hW => ?_) ?_
      rotate_left
      · (go_simp; try rfl)
      simp only [Act.put, List.setIfInBounds_toArray, List.set_cons_zero, List.set_cons_succ]
      refine regB_take (v := ?_) 22 (some 47) rfl rfl (by kernel_rfl) (by kernel_rfl) (by kernel_rfl) (fun _ _ _ h => h) (by rfl) (fun W hW => ?_) ?_
      rotate_left
      · (go_simp; try rfl)
      simp only [Act.put, List.setIfInBounds_toArray, List.set_cons_zero, List.set_cons_succ]
      refine regB_load 23 (some 48) (fun W hW => load_cell Try.underlying5 ((hW.cell LB0.out).trans D3.out)) rfl rfl rfl rfl (by kernel_rfl) (by kernel_rfl) (by kernel_rfl) (fun _ _ _ h => h) (by rfl) ?_
      simp only [Act.put, List.setIfInBounds_toArray, List.set_cons_zero, List.set_cons_succ]
      refine regB_take (v := ?_) 24 (some 49) rfl rfl (by kernel_rfl) (by kernel_rfl) (by kernel_rfl) (fun _ _ _ h => h) (by rfl) (fun W hW => ?_) ?_
      rotate_left
      · exact exec_build rfl (by simp only [List.map_toArray, List.map_cons, List.map_nil]; exact BD.out W)
      simp only [Act.put, List.setIfInBounds_toArray, List.set_cons_zero, List.set_cons_succ]
      refine regB_eff 25 rfl (by kernel_rfl) (fun K hK => ?_)
      go_simp
      have hE : Below q W1 (W1.alloc (.cells ([a0, a1, a2, a3].map bv).toArray 83)) := (Below.refl _ _).alloc HQ7.out _
      refine hK.out _ _ hE ?_
      have HX := Lib.hid (Below.trans HX.out hE)
      clear hE hK K
      try simp only [Act.put, List.setIfInBounds_toArray, List.set_cons_zero, List.set_cons_succ]
      refine regB_eff 26 rfl (by kernel_rfl) (fun K hK => ?_)
      obtain ⟨v8, w8, hrun, hown, hgr, hat⟩ := append_elem (P := Try.prog) (W1.alloc (.cells ([a0, a1, a2, a3].map bv).toArray 83)) q 82 uT4 made4B rfl (by omega) (.slice A6 i c6) i ((key.take (4 * i)).map bv) (k_alloc O7.out _) W1.heap.size 1 ([a0, a1, a2, a3].map bv) rfl (heap_alloc_new' W1 _) (bv_one _) (by omega) (by simp [maxLen]; omega) (Nat.le_trans HQ7.out (by simp))
      rw [← List.map_append, HTK.out] at hown
      obtain ⟨A8, c8, rfl, _⟩ := own_readN hown
      have O8 := Lib.hid hown
      have hE := (Below.refl q (W1.alloc (.cells ([a0, a1, a2, a3].map bv).toArray 83))).grown hgr (Nat.le_trans HQ7.out (by simp)) (ka_own_ge O7.out (Nat.le_refl _))
      refine step_app rfl (.tmp 25) (.tmp 50) 82 82 rfl hrun ?_
      clear hrun hown hgr hat
      refine hK.out _ _ hE ?_
      have HX := Lib.hid (Below.trans HX.out hE)
      clear hE hK K
      try simp only [Act.put, List.setIfInBounds_toArray, List.set_cons_zero, List.set_cons_succ]
      refine regB_take (v := ?_) 27 (some 6) rfl rfl (by kernel_rfl) (by kernel_rfl) (by kernel_rfl) (fun _ _ _ h => h) (by rfl) (fun W hW => ?_) ?_
      rotate_left
      · (go_simp; try rfl)
      simp only [Act.put, List.setIfInBounds_toArray, List.set_cons_zero, List.set_cons_succ]
      refine regB_done (by kernel_rfl) ?_
      go_wp2
      go_roundw
      case rel => exact ⟨i + 1, A8, c8, by omega, by go_num, rfl, O8, HB7.out.trans HX.out⟩
      case measure => simp [intOf]; omega
    · have q1 : ¬ ((i : Int) < (nk : Int)) := by omega
      have hin : i = nk := by omega
      have HK0 : Hid (wr.ownsRow q 83 4 (.slice A6 nk c6) nk ((WB 0).map bv)) := by
        have h := O6.out
        rw [hin, List.take_of_length_le (by have h1 := HL.out; have h2 := HN.out; omega)] at h
        rw [HW0.out]; exact h
      have hiv : (i : Int) = (nk : Int) := by omega
      obtain ⟨wo, hwo⟩ : ∃ x, x = wr := ⟨_, rfl⟩
      subst hwo
      have hA6 : Value.slice A6 i c6 = .slice A6 nk c6 := by rw [hin]
      have hk7 : k7 = nk + 7 := HK7.out
      obtain ⟨M, hM⟩ : ∃ M, M = 4 * k7 := ⟨_, rfl⟩
      have f1 : (nk : Int) + 7 = (k7 : Int) := by omega
      have f2 : 4 * (k7 : Int) = (M : Int) := by omega
      have HM7 : Hid (k7 = nk + 7 ∧ M = 4 * k7) := ⟨hk7, hM⟩
      have HKN := Lib.hid HK.out
      have HHA := Lib.hid hA6
      clear O6 hin hiv hA6 hk7 hM hi
      go_wp2_with fail
      rw [HHA.out]
      go_loopw [6, 8, 9] (fun v6 v8 v9 wr => ∃ (i s : Nat) (A6 : Option Addr) (c6 : Nat), nk + i ≤ M ∧ Hid (s = nk + i) ∧ v9 = .int .i64 (s : Int) ∧ v8 = .int .u8 ((CB i).toNat : Int) ∧ v6 = .slice A6 s c6 ∧ Hid (wr.ownsRow q 83 4 (.slice A6 s c6) s ((WB i).map bv)) ∧ Hid (Below q W0 wr)) (fun _ _ i _ => M - (intOf i).toNat)
      case atStart => exact ⟨0, nk, A6, c6, by have := HM7.out; omega, rfl, rfl, by rw [HC0.out]; rfl, rfl, HK0, HB⟩
      case round =>
        clear HK0 HB
        obtain ⟨i, s, A6, c6, hi, HSI, rfl, rfl, rfl, O6, HB⟩ := hrel
        have HQR : Hid (q ≤ wr.heap.size) := by have h1 := HB.out.size; have h2 := FS.out; show _ ≤ _; omega
        by_cases hlt : nk + i < M
        · have q1 : (s : Int) < (M : Int) := by have := HSI.out; omega
          have hsnk : 0 < s ∧ nk ≤ s ∧ s < 60 ∧ nk + i < 60 ∧ 0 < nk := by have h1 := HSI.out; have h2 := HM7.out; have h3 := HK.out; omega
          obtain ⟨A', c', he, hfl, hrd⟩ := own_readN O6.out
          injection he with he1 he2 he3
          subst he1; subst he3
          obtain ⟨g6, rfl, hg6, hg6w, hcell⟩ := hrd hsnk.1
          clear he2
          obtain ⟨s1, hs1⟩ : ∃ s1, s1 = s - 1 := ⟨_, rfl⟩
          have f3 : (s : Int) - 1 = (s1 : Int) := by omega
          have f4 : (s1 : Int) < (s : Int) := by omega
          have XR := k_range hcell (XW i) s1 (HXL.out i).1 (by rw [HWL.out i (by omega)]; have := HSI.out; omega) (fun r hr => by rw [show s1 = nk + i - 1 by have := HSI.out; omega]; exact HG1'.out i r (by omega) hr)
          have YR := k_range hcell (YW i) i (HXL.out i).2 (by rw [HWL.out i (by omega)]; omega) (fun r hr => HG2'.out i r (by omega) hr)
          have XI := Lib.hid (r_i4 (XW i) (HXL.out i).1)
          have YI := Lib.hid (r_i4 (YW i) (HXL.out i).2)
          have XL := Lib.hid (HXL.out i).1
          have YL := Lib.hid (HXL.out i).2
          have HXR := Lib.hid XR; have HYR := Lib.hid YR
          have HST := HWS'.out i (by omega)
          have HLBi := HLB.out (CB i) (XW i) i
          have HCSi := HCS.out i
          generalize XW i = X at HXR XI XL HST HLBi
          generalize YW i = Y at HYR YI YL HST
          have HST := Lib.hid HST; have HLBi := Lib.hid HLBi; have HCSi := Lib.hid HCSi
          have HG6 : Hid (q ≤ g6 ∧ g6 < wr.heap.size) := ⟨hg6, hg6w⟩
          clear XR YR hcell hrd hfl hg6 hg6w hs1
          go_upto_region 12 with (first
            | (refine k_ldv (o := ⟨some 64, .load _ _, _, _, _, _⟩) rfl 83 (.tmp 63) rfl (p := .pointer (some ⟨g6, s1 * 4, none⟩)) (by rfl) (run_loadAt_mid wr g6 (s1 * 4) 83 (X.map bv) _ HXR.out arr4B rfl XI.out) ?_)
            | (refine k_stv (o := ⟨none, .store _ _ _, _, _, _, _⟩) rfl 83 (.tmp 10) (.tmp 64) rfl (p := .pointer (some ⟨wr.heap.size, 0, none⟩)) (v := .agg (X.map bv).toArray) (by rfl) (by rfl) (store_arr (cs := X.map bv) XI.out (bv_one _) (old := Z4.map bv) (heap_alloc_new' wr _) (by rw [List.length_map, List.length_map, XL.out, HZ4.out])) ?_
               generalize hV : World.setRow _ _ _ = W2
               have M2 := Lib.hid (heap_of_setRow hV (heap_alloc_new' wr _))
               have MB := Lib.hid (((Below.refl wr.heap.size wr).alloc (Nat.le_refl _) _).trans (below_of_setRow hV (Nat.le_refl wr.heap.size) (by simp)))
               clear hV)
            | fail)
          have HG7 : Hid (g6 < wr.heap.size) := HG6.out.2
          have SNK := Lib.hid hsnk
          have BB := Lib.hid (HB.out.trans (MB.out.mono HQR.out))
          have FT : Hid (W2.heap[w.heap.size]? = some (.cells (T.map bv).toArray 48 (0, 0))) := (BB.out.block _ (by have := HQ.out; omega)).trans F2.out
          have YR2 : Hid (W2.rangeAt g6 (i * 4) (Y.map bv)) := fun j v hv => (MB.out.cell HG7.out).trans (HYR.out j v hv)
          have O62 : Hid (W2.ownsRow q 83 4 (.slice (some ⟨g6, 0, none⟩) s c6) s ((WB i).map bv)) := ka_own_below O6.out MB.out
          obtain ⟨L, HLE⟩ : ∃ L, Hid (LB (CB i) X i = L) := ⟨_, rfl⟩
          have hHL : L.length = 4 := by
            rw [← HLE.out, HLBi.out]
            split
            · rfl
            · split
              · rfl
              · exact XL.out
          have HL4 := Lib.hid hHL
          rw [HLE.out] at HST
          obtain ⟨x0, x1, x2, x3, hX4⟩ := list4 XL.out
          have XE := Lib.hid hX4
          have c0 := bcellT M2.out 0 (by rw [XL.out]; omega)
          have c1 := bcellT M2.out 1 (by rw [XL.out]; omega)
          have c2 := bcellT M2.out 2 (by rw [XL.out]; omega)
          have c3 := bcellT M2.out 3 (by rw [XL.out]; omega)
          rw [show X.getD 0 0 = x0 by rw [hX4]; rfl] at c0
          rw [show X.getD 1 0 = x1 by rw [hX4]; rfl] at c1
          rw [show X.getD 2 0 = x2 by rw [hX4]; rfl] at c2
          rw [show X.getD 3 0 = x3 by rw [hX4]; rfl] at c3
          have C0 := Lib.hid c0; have C1 := Lib.hid c1; have C2 := Lib.hid c2; have C3 := Lib.hid c3
          have d0 := bcellT FT.out x0.toNat (by rw [HT.out]; exact x0.toNat_lt)
          have d1 := bcellT FT.out x1.toNat (by rw [HT.out]; exact x1.toNat_lt)
          have d2 := bcellT FT.out x2.toNat (by rw [HT.out]; exact x2.toNat_lt)
          have d3 := bcellT FT.out x3.toNat (by rw [HT.out]; exact x3.toNat_lt)
          have HL0 : Hid (i % nk = 0 → L = [T.getD x1.toNat 0 ^^^ CB i, T.getD x2.toNat 0, T.getD x3.toNat 0, T.getD x0.toNat 0]) := fun h => by rw [← HLE.out, HLBi.out, if_pos h, XE.out]; rfl
          have HL1 : Hid (¬ i % nk = 0 → i % nk = 4 → L = [T.getD x0.toNat 0, T.getD x1.toNat 0, T.getD x2.toNat 0, T.getD x3.toNat 0]) := fun h h4 => by rw [← HLE.out, HLBi.out, if_neg h, if_pos h4, XE.out]; rfl
          have HL2 : Hid (¬ i % nk = 0 → ¬ i % nk = 4 → L = X) := fun h h4 => by rw [← HLE.out, HLBi.out, if_neg h, if_neg h4]
          generalize T.getD x0.toNat 0 = t0 at d0 HL0 HL1
          generalize T.getD x1.toNat 0 = t1 at d1 HL0 HL1
          generalize T.getD x2.toNat 0 = t2 at d2 HL0 HL1
          generalize T.getD x3.toNat 0 = t3 at d3 HL0 HL1
          have D0 := Lib.hid d0; have D1 := Lib.hid d1; have D2 := Lib.hid d2; have D3 := Lib.hid d3
          have b0 : x0.toNat < 256 := x0.toNat_lt
          have b1 : x1.toNat < 256 := x1.toNat_lt
          have b2 : x2.toNat < 256 := x2.toNat_lt
          have b3 : x3.toNat < 256 := x3.toNat_lt
          have bi0 : (x0.toNat : Int) < 256 := by omega
          have bi1 : (x1.toNat : Int) < 256 := by omega
          have bi2 : (x2.toNat : Int) < 256 := by omega
          have bi3 : (x3.toNat : Int) < 256 := by omega
          obtain ⟨cn1, HC1⟩ : ∃ c, Hid (CB (i + 1) = c) := ⟨_, rfl⟩
          rw [HC1.out] at HCSi
          obtain ⟨cn0, HCN⟩ : ∃ c, Hid (CB i = c) := ⟨_, rfl⟩
          rw [HCN.out] at HCSi HL0 ⊢
          obtain ⟨rm, hrm⟩ : ∃ rm, rm = i % nk := ⟨_, rfl⟩
          rw [← hrm] at HCSi HL0 HL1 HL2
          have hsr : s % nk = rm := by rw [HSI.out, Nat.add_mod_left, hrm]
          have f5 : (s : Int) % (nk : Int) = (rm : Int) := by rw [← hsr]; rfl
          have f6 : (s : Int).tmod (nk : Int) = (rm : Int) := by rw [Int.tmod_eq_emod_of_nonneg (by omega)]; exact f5
          have hrl : rm < nk := by rw [hrm]; exact Nat.mod_lt _ (by omega)
          have hnz : ¬ ((nk : Int) = 0) := by omega
          have hnz2 : ((nk : Int) == 0) = false := by simp; omega
          have U2 : (2 : UInt8).toNat = 2 := rfl
          have MU : Hid (∀ W, Calls Try.prog 58 #[.int .u8 (cn0.toNat : Int), .int .u8 2] W fun e w' => e = .returned (.int .u8 ((mulB cn0 2).toNat : Int)) ∧ W = w') := fun W => refMul_any cn0 2 W
          clear hrm hsr c0 c1 c2 c3 d0 d1 d2 d3 hX4 hHL HXR HYR XI HLBi HLE
          obtain ⟨gx, hgx⟩ : ∃ g, g = wr.heap.size := ⟨_, rfl⟩
          have HGX := Lib.hid hgx
          rw [← hgx] at M2 MB HG7 HQR C0 C1 C2 C3 ⊢
          clear hgx
          have MS : Hid (gx < W2.heap.size) := lt_of_heap M2.out
          go_upto_if 68 with (fail)
          go_cut [8, 68] from 69 to 114 (fun v8 v68 wx => v8 = .int .u8 (cn1.toNat : Int) ∧ Hid (Below gx W2 wx) ∧ Hid (wx.heap[gx]? = some (.cells (L.map bv).toArray 83 (0, 0))))
          case first =>
            have c0 := C0.out
            have c1 := C1.out
            have c2 := C2.out
            have c3 := C3.out
            have d0 := D0.out
            have d1 := D1.out
            have d2 := D2.out
            have d3 := D3.out
            by_cases hz : rm = 0
            · have q3 : ((rm : Int) == 0) = true := by simp [hz]
              have HZ1 := Lib.hid (HL0.out hz)
              have HZC : Hid (cn1 = mulB cn0 2) := by have := HCSi.out; rw [if_pos hz] at this; exact this
              have xx := xor8 t1 cn0
              generalize t1 ^^^ cn0 = y1 at xx HZ1
              have hbd := build4 y1 t2 t3 t0
              clear hz
              go_wp2_with fail
              go_still_tail 18, (by kernel_rfl)
              change wpList _ _ _ _ _ W2.drew
              go_wp2_with (first
                | (refine wpList_run (o := ⟨some 87, .build _ _, _, _, _, _⟩) rfl (exec_build rfl (by simp only [List.map_toArray, List.map_cons, List.map_nil]; exact hbd _)) ?_)
                | (refine k_stv (o := ⟨none, .store _ _ _, _, _, _, _⟩) rfl 83 (.tmp 10) (.tmp 87) rfl (p := .pointer (some ⟨gx, 0, none⟩)) (v := .agg (([y1, t2, t3, t0]).map bv).toArray) (by rfl) (by rfl) (store_arr (cs := ([y1, t2, t3, t0]).map bv) (r_i4 _ rfl) (bv_one _) (old := X.map bv) (show W2.drew.heap[gx]? = _ from M2.out) (by rw [List.length_map, List.length_map, XL.out]; rfl)) ?_
                   generalize hV : World.setRow _ _ _ = W5
                   have N5 := Lib.hid (heap_of_setRow hV (show W2.drew.heap[gx]? = _ from M2.out))
                   have NB := Lib.hid ((Below.refl gx W2).drew.trans (below_of_setRow hV (Nat.le_refl gx) (Nat.le_of_lt MS.out)))
                   clear hV)
                | fail)
              refine (MU.out W5).mono ?_
              rintro e w6 ⟨rfl, rfl⟩
              go_wp2_with fail
              go_meet
              exact ⟨by rw [HZC.out], NB.out, by rw [HZ1.out]; exact N5.out⟩
            · have q2 : ¬ ((rm : Int) = 0) := by omega
              have q3 : ((rm : Int) == 0) = false := by simp; omega
              have HZC : Hid (cn1 = cn0) := by have := HCSi.out; rw [if_neg hz] at this; exact this
              by_cases h4 : rm = 4
              · have h8 : nk = 8 := by have := SNK.out; have := HKN.out; omega
                have r3 : ((rm : Int) == 4) = true := by simp [h4]
                have r4 : ((nk : Int) == 8) = true := by simp [h8]
                have HZ1 := Lib.hid (HL1.out hz h4)
                have hbd := build4 t0 t1 t2 t3
                clear h4 h8 hz
                go_wp2_with fail
                go_still_tail 16, (by kernel_rfl)
                change wpList _ _ _ _ _ W2.drew
                go_wp2_with (first
                  | (refine wpList_run (o := ⟨some 114, .build _ _, _, _, _, _⟩) rfl (exec_build rfl (by simp only [List.map_toArray, List.map_cons, List.map_nil]; exact hbd _)) ?_)
                  | (refine k_stv (o := ⟨none, .store _ _ _, _, _, _, _⟩) rfl 83 (.tmp 10) (.tmp 114) rfl (p := .pointer (some ⟨gx, 0, none⟩)) (v := .agg (([t0, t1, t2, t3]).map bv).toArray) (by rfl) (by rfl) (store_arr (cs := ([t0, t1, t2, t3]).map bv) (r_i4 _ rfl) (bv_one _) (old := X.map bv) (show W2.drew.heap[gx]? = _ from M2.out) (by rw [List.length_map, List.length_map, XL.out]; rfl)) ?_
                     generalize hV : World.setRow _ _ _ = W5
                     have N5 := Lib.hid (heap_of_setRow hV (show W2.drew.heap[gx]? = _ from M2.out))
                     have NB := Lib.hid ((Below.refl gx W2).drew.trans (below_of_setRow hV (Nat.le_refl gx) (Nat.le_of_lt MS.out)))
                     clear hV)
                  | fail)
                go_meet
                exact ⟨by rw [HZC.out], NB.out, by rw [HZ1.out]; exact N5.out⟩
              · have r3 : ((rm : Int) == 4) = false := by simp; omega
                have r2 : ¬ ((rm : Int) = 4) := by omega
                have HZ1 := Lib.hid (HL2.out hz h4)
                have n8 : nk = 4 ∨ nk = 8 := HKN.out
                rcases n8 with n8 | n8
                · have r4 : ((nk : Int) == 8) = false := by simp; omega
                  have r5 : ¬ ((nk : Int) = 8) := by omega
                  clear n8 h4 hz
                  go_wp2_with fail
                  go_meet
                  exact ⟨by rw [HZC.out], Below.refl _ _, by rw [HZ1.out]; exact M2.out⟩
                · have r4 : ((nk : Int) == 8) = true := by simp [n8]
                  have f9 : (s : Int).tmod 8 = (rm : Int) := by rw [n8] at f6; exact f6
                  have f10 : (s : Int) % 8 = (rm : Int) := by rw [n8] at f5; exact f5
                  clear n8 h4 hz
                  go_wp2_with fail
                  go_meet
                  exact ⟨by rw [HZC.out], Below.refl _ _, by rw [HZ1.out]; exact M2.out⟩
          case rest =>
            obtain ⟨rfl, MB5, M5⟩ := hcut
            have BX : Hid (Below gx wr wc) := MB.out.trans MB5.out
            have YR5 : Hid (wc.rangeAt g6 (i * 4) (Y.map bv)) := fun j v hv => (MB5.out.cell HG7.out).trans (YR2.out j v hv)
            have O65 : Hid (wc.ownsRow q 83 4 (.slice (some ⟨g6, 0, none⟩) s c6) s ((WB i).map bv)) := ka_own_below O6.out (by rw [← HGX.out]; exact BX.out)
            have MS5 : Hid (gx < wc.heap.size) := lt_of_heap M5.out
            have BQ5 : Hid (Below q W0 wc) := HB.out.trans (BX.out.mono HQR.out)
            have HQ5 : Hid (q ≤ wc.heap.size) := Nat.le_trans HQR.out (Nat.le_of_lt MS5.out)
            clear M2 C0 C1 C2 C3 D0 D1 D2 D3 HL0 HL1 HL2 HCSi MU MB MB5 FT YR2 O62 O6 HB HG7 BX b0 b1 b2 b3 XE HCN f5 f6 hrl hnz hnz2
            obtain ⟨l0, l1, l2, l3, hL4⟩ := list4 HL4.out
            obtain ⟨y0, y1, y2, y3, hY4⟩ := list4 YL.out
            have LE := Lib.hid hL4
            have YE := Lib.hid hY4
            have f7 : (s : Int) - (nk : Int) = (i : Int) := by have := HSI.out; omega
            have f8 : (i : Int) < (s : Int) := by have := HSI.out; have := SNK.out; omega
            have hs60 : s < 60 := by have := SNK.out; omega
            clear hL4 hY4
            go_upto_region 18 with (first
              | (refine k_ldv (o := ⟨some 120, .load _ _, _, _, _, _⟩) rfl 83 (.tmp 119) rfl (p := .pointer (some ⟨g6, i * 4, none⟩)) (by rfl) (run_loadAt_mid wc g6 (i * 4) 83 (Y.map bv) _ YR5.out arr4B rfl YI.out) ?_)
              | (refine k_stv (o := ⟨none, .store _ _ _, _, _, _, _⟩) rfl 83 (.tmp 11) (.tmp 120) rfl (p := .pointer (some ⟨wc.heap.size, 0, none⟩)) (v := .agg (Y.map bv).toArray) (by rfl) (by rfl) (store_arr (cs := Y.map bv) YI.out (bv_one _) (old := Z4.map bv) (heap_alloc_new' wc _) (by rw [List.length_map, List.length_map, YL.out, HZ4.out])) ?_
                 generalize hV : World.setRow _ _ _ = W5
                 have N5 := Lib.hid (heap_of_setRow hV (heap_alloc_new' wc _))
                 have NB := Lib.hid (((Below.refl wc.heap.size wc).alloc (Nat.le_refl _) _).trans (below_of_setRow hV (Nat.le_refl wc.heap.size) (by simp)))
                 clear hV)
              | fail)
            have M7 : Hid (W5.heap[gx]? = some (.cells (L.map bv).toArray 83 (0, 0))) := (NB.out.block _ MS5.out).trans M5.out
            have c0 := bcellT M7.out 0 (by rw [HL4.out]; omega)
            have c1 := bcellT M7.out 1 (by rw [HL4.out]; omega)
            have c2 := bcellT M7.out 2 (by rw [HL4.out]; omega)
            have c3 := bcellT M7.out 3 (by rw [HL4.out]; omega)
            have d0 := bcellT N5.out 0 (by rw [YL.out]; omega)
            have d1 := bcellT N5.out 1 (by rw [YL.out]; omega)
            have d2 := bcellT N5.out 2 (by rw [YL.out]; omega)
            have d3 := bcellT N5.out 3 (by rw [YL.out]; omega)
            rw [show L.getD 0 0 = l0 by rw [LE.out]; rfl] at c0
            rw [show L.getD 1 0 = l1 by rw [LE.out]; rfl] at c1
            rw [show L.getD 2 0 = l2 by rw [LE.out]; rfl] at c2
            rw [show L.getD 3 0 = l3 by rw [LE.out]; rfl] at c3
            rw [show Y.getD 0 0 = y0 by rw [YE.out]; rfl] at d0
            rw [show Y.getD 1 0 = y1 by rw [YE.out]; rfl] at d1
            rw [show Y.getD 2 0 = y2 by rw [YE.out]; rfl] at d2
            rw [show Y.getD 3 0 = y3 by rw [YE.out]; rfl] at d3
            have hzz : WB (i + 1) = WB i ++ [l0 ^^^ y0, l1 ^^^ y1, l2 ^^^ y2, l3 ^^^ y3] := by rw [HST.out, LE.out, YE.out]; rfl
            have x0 := xor8 l0 y0
            have x1 := xor8 l1 y1
            have x2 := xor8 l2 y2
            have x3 := xor8 l3 y3
            generalize l0 ^^^ y0 = z0 at hzz x0
            generalize l1 ^^^ y1 = z1 at hzz x1
            generalize l2 ^^^ y2 = z2 at hzz x2
            generalize l3 ^^^ y3 = z3 at hzz x3
            have hbd := build4 z0 z1 z2 z3
            have HQ6 : Hid (q ≤ W5.heap.size) := Nat.le_trans HQ5.out NB.out.size
            have O66 : Hid (W5.ownsRow q 83 4 (.slice (some ⟨g6, 0, none⟩) s c6) s ((WB i).map bv)) := ka_own_below O65.out NB.out
            obtain ⟨v8, w8, hrun, hown, hgr, hat⟩ := append_elem (P := Try.prog) (W5.alloc (.cells ([z0, z1, z2, z3].map bv).toArray 83)) q 82 uT4 made4B rfl (by omega) (.slice (some ⟨g6, 0, none⟩) s c6) s ((WB i).map bv) (k_alloc O66.out _) W5.heap.size 1 ([z0, z1, z2, z3].map bv) rfl (heap_alloc_new' W5 _) (bv_one _) (by omega) (by simp [maxLen]; omega) (Nat.le_trans HQ6.out (by simp))
            rw [← List.map_append, ← hzz] at hown
            obtain ⟨A8, c8, rfl, _⟩ := own_readN hown
            have O8 := Lib.hid hown
            have B8 : Hid (Below q W0 w8) := BQ5.out.trans ((NB.out.mono HQ5.out).trans (((Below.refl q W5).alloc HQ6.out (.cells ([z0, z1, z2, z3].map bv).toArray 83)).grown hgr (Nat.le_trans HQ6.out (by simp)) (ka_own_ge O66.out (Nat.le_refl _))))
            have HSI2 : Hid (s + 1 = nk + (i + 1)) := by have := HSI.out; show _ = _; omega
            have him : nk + (i + 1) ≤ M := by omega
            have HC2 : Hid (CB (i + 1) = cn1) := HC1.out
            clear hown hgr hat hzz M7 N5 YR5 O65 O66 M5 NB BQ5
            go_wp2_with (first
              | (refine wpList_run (o := ⟨some 142, .build _ _, _, _, _, _⟩) rfl (exec_build rfl (by simp only [List.map_toArray, List.map_cons, List.map_nil]; exact hbd _)) ?_)
              | (refine k_appv (o := ⟨some 144, .call _, _, _, _, _⟩) rfl (.tmp 121) (.tmp 143) 82 82 rfl (v := .slice (some ⟨g6, 0, none⟩) s c6) (v2 := .slice (some ⟨W5.heap.size, 0, none⟩) 1 1) (by rfl) (by rfl) hrun ?_
                 clear hrun)
              | fail)
            go_roundw
            case rel => exact ⟨i + 1, s + 1, A8, c8, him, HSI2, by go_num, by rw [HC2.out], rfl, O8, B8⟩
            case measure => simp [intOf]; omega
        · have q1 : ¬ ((s : Int) < (M : Int)) := by have := HSI.out; omega
          have hsM : s = M := by have := HSI.out; omega
          have hiE : i = 3 * nk + 28 := by have h1 := HSI.out; have h2 := HM7.out; omega
          have HFL : Hid (F.length = 16 * k7) := by show _ = _; rw [← HF.out, HWL.out _ (by have h1 := HM7.out; have h2 := HK.out; omega)]; have := HM7.out; omega
          have O7 : Hid (wr.ownsRow q 83 4 (.slice A6 M c6) M (F.map bv)) := by
            have h := O6.out
            rw [hiE, HF.out, hsM] at h
            exact h
          have HHB : Hid (Value.slice A6 s c6 = .slice A6 M c6) := by show _ = _; rw [hsM]
          clear O6 hsM hiE HHA
          go_wp2_with fail
          rw [HHB.out]
          clear HHB
          obtain ⟨A', c', he, hfl, hrd⟩ := own_readN O7.out
          injection he with he1 he2 he3
          subst he1; subst he3
          obtain ⟨g6, rfl, hg6, hg6w, hcell⟩ := hrd (by have h1 := HM7.out; omega)
          clear he2 hfl hrd
          have HCL := Lib.hid hcell
          obtain ⟨wq, hwq⟩ : ∃ x, x = wr := ⟨_, rfl⟩
          subst hwq
          obtain ⟨q2, hq2⟩ : ∃ g, g = wq.heap.size := ⟨_, rfl⟩
          rw [← hq2] at hg6w
          have HQ2 := Lib.hid hq2
          have HG6 : Hid (g6 < q2) := hg6w
          have hM60 : M ≤ 60 := by have h1 := HM7.out; have h2 := HK.out; omega
          clear hg6 hg6w hcell hq2 hi
          go_loopw [12, 13] (fun v12 v13 wr => ∃ (j j4 : Nat) (A12 : Option Addr) (c12 : Nat), j ≤ k7 ∧ Hid (j4 = 4 * j) ∧ v13 = .int .i64 (j4 : Int) ∧ v12 = .slice A12 j c12 ∧ Hid (wr.ownsRow q2 23 16 (.slice A12 j c12) j ((F.take (16 * j)).map bv)) ∧ Hid (Below q2 wq wr)) (fun _ i _ => M - (intOf i).toNat)
          case atStart => exact ⟨0, 0, none, 0, by omega, rfl, rfl, rfl, by rw [Nat.mul_zero, List.take_zero]; exact World.ownsRow_nil _ _ _ _, Below.refl _ _⟩
          case round =>
            obtain ⟨j, j4, A12, c12, hj, HJ4, rfl, rfl, O12, HB3⟩ := hrel
            by_cases hlt3 : j4 < M
            · have q3 : (j4 : Int) < (M : Int) := by omega
              have hjk : j < k7 := by have h1 := HJ4.out; have h2 := HM7.out; omega
              obtain ⟨G, HGE⟩ : ∃ G, Hid ((F.drop (16 * j)).take 16 = G) := ⟨_, rfl⟩
              have HGL : Hid (G.length = 16) := by show _ = _; rw [← HGE.out]; exact chunk_len F j k7 HFL.out hjk
              have HGN : Hid (F.take (16 * j) ++ G = F.take (16 * (j + 1))) := by show _ = _; rw [← HGE.out]; exact chunk_next F j
              have HGG : Hid (∀ p, p < 16 → G.getD p 0 = F.getD (16 * j + p) 0) := fun p hp => by rw [← HGE.out]; exact chunk_get F j p hp
              clear HGE
              go_wp2_with fail
              generalize hV : wr.alloc _ = W3
              have G0 : Hid (W3.heap[wr.heap.size]? = some (.cells ((FG G (4 * 0)).map bv).toArray 23 (0, 0))) := by show _ = _; rw [Nat.mul_zero, HFG0.out]; exact heap_of_alloc hV
              have GB := Lib.hid (below_of_alloc hV (Nat.le_refl wr.heap.size))
              clear hV
              obtain ⟨wp, hwp⟩ : ∃ x, x = wr := ⟨_, rfl⟩
              subst hwp
              obtain ⟨g14, hg14⟩ : ∃ g, g = wp.heap.size := ⟨_, rfl⟩
              rw [← hg14] at G0 GB ⊢
              have HG14 := Lib.hid hg14
              have HS3 : Hid (q2 ≤ g14) := by show _ ≤ _; rw [hg14, HQ2.out]; exact HB3.out.size
              clear hg14
              have HC3 : Hid (∀ (W : World) (c r : Nat), Below g14 W3 W → c < 4 → r < 4 → W.cell? ⟨g6, (j4 + c) * 4 + r, none⟩ = some (.int .u8 ((G.getD (4 * c + r) 0).toNat : Int))) := fun W c r hW hc hr => by
                have hp : 16 * j + (4 * c + r) < F.length := by have h1 := HFL.out; omega
                have h1 := HCL.out (16 * j + (4 * c + r)) (bv (F[16 * j + (4 * c + r)])) (by rw [List.getElem?_map, List.getElem?_eq_getElem hp]; rfl)
                have h2 := (hW.cell (p := ⟨g6, 16 * j + (4 * c + r), none⟩) (by have h5 := HG6.out; have h6 := HS3.out; show g6 < g14; omega)).trans (((GB.out.cell (p := ⟨g6, 16 * j + (4 * c + r), none⟩) (by have h5 := HG6.out; have h6 := HS3.out; show g6 < g14; omega)).trans ((HB3.out.cell (p := ⟨g6, 16 * j + (4 * c + r), none⟩) HG6.out).trans h1)))
                rw [show (j4 + c) * 4 + r = 16 * j + (4 * c + r) by have h5 := HJ4.out; omega, h2, HGG.out _ (by omega), List.getD_eq_getElem?_getD, List.getElem?_eq_getElem hp]
                rfl
              go_wp2_with fail
              go_loopw [15] (fun vc wr => ∃ (c : Nat), c ≤ 4 ∧ vc = .int .i64 (c : Int) ∧ Hid (wr.heap[g14]? = some (.cells ((FG G (4 * c)).map bv).toArray 23 (0, 0))) ∧ Hid (Below g14 W3 wr)) (fun i _ => 4 - (intOf i).toNat)
              case atStart => exact ⟨0, by omega, rfl, G0, Below.refl _ _⟩
              case round =>
                clear G0
                obtain ⟨c, hc, rfl, H5, HBW⟩ := hrel
                by_cases hlc : c < 4
                · have q4 : (c : Int) < 4 := by omega
                  go_wp2_with fail
                  obtain ⟨wz, hwz⟩ : ∃ x, x = wr := ⟨_, rfl⟩
                  subst hwz
                  go_loopw [16] (fun vr wr => ∃ (r : Nat), r ≤ 4 ∧ vr = .int .i64 (r : Int) ∧ Hid (wr.heap[g14]? = some (.cells ((FG G (4 * c + r)).map bv).toArray 23 (0, 0))) ∧ Hid (Below g14 W3 wr)) (fun i _ => 4 - (intOf i).toNat)
                  case atStart => exact ⟨0, by omega, rfl, H5, HBW⟩
                  case round =>
                    clear H5 HBW
                    obtain ⟨r, hr, rfl, H5, HBW⟩ := hrel
                    by_cases hlr : r < 4
                    · have q5 : (r : Int) < 4 := by omega
                      have hST := HFGS.out G (4 * c + r) HGL.out (by omega)
                      have hln := HFGL.out G (4 * c + r) HGL.out (by omega)
                      have cG := HC3.out wr c r HBW.out hlc hlr
                      generalize G.getD (4 * c + r) 0 = x at hST cG
                      obtain ⟨p, hp⟩ : ∃ p, p = 4 * c + r := ⟨_, rfl⟩
                      rw [← hp] at H5 hST hln
                      have c5 := bcellT H5.out p (by rw [hln]; omega)
                      generalize (FG G p).getD p 0 = old at c5
                      have fz := frozen_of_heap H5.out p
                      obtain ⟨c4, hc4⟩ : ∃ c4, c4 = 4 * c := ⟨_, rfl⟩
                      obtain ⟨e, he⟩ : ∃ e, e = j4 + c := ⟨_, rfl⟩
                      rw [← he] at cG
                      have o1 : 4 * (c : Int) = (c4 : Int) := by omega
                      have o2 : (c4 : Int) + (r : Int) = (p : Int) := by omega
                      have o3 : (j4 : Int) + (c : Int) = (e : Int) := by omega
                      have i1 : (e : Int) < (M : Int) := by have h1 := HJ4.out; have h2 := HM7.out; omega
                      have i2 : (p : Int) < 16 := by omega
                      have hp16 : p < 16 := by omega
                      have HST := Lib.hid hST
                      have HP := Lib.hid hp
                      have heM : e < M := by omega
                      clear hST hln hp hc4 he
                      go_wp2_with fail
                      go_roundw
                      case rel =>
                        refine ⟨r + 1, by omega, by go_num, ?_, HBW.out.setCell (Nat.le_refl _) _⟩
                        have hfin := heap_set H5.out p (bv x)
                        rw [← List.map_set, HST.out] at hfin
                        rw [show 4 * c + (r + 1) = p + 1 by have := HP.out; omega]
                        exact hfin
                      case measure => simp [intOf]; omega
                    · have q5 : ¬ ((r : Int) < 4) := by omega
                      have hr4 : r = 4 := by omega
                      rw [hr4, show 4 * c + 4 = 4 * (c + 1) by omega] at H5
                      clear hr4
                      go_wp2_with fail
                      go_roundw
                      case rel => exact ⟨c + 1, by omega, by go_num, H5, HBW⟩
                      case measure => simp [intOf]; omega
                · have q4 : ¬ ((c : Int) < 4) := by omega
                  have hc4 : c = 4 := by omega
                  rw [hc4, show 4 * 4 = 16 from rfl, HFGE.out G HGL.out] at H5
                  clear hc4
                  have hiG := Lib.hid (r_i16 G HGL.out)
                  have O13 : Hid (wr.ownsRow q2 23 16 (.slice A12 j c12) j ((F.take (16 * j)).map bv)) := ka_own_below O12.out (by rw [← HG14.out]; exact GB.out.trans HBW.out)
                  have HQ13 : Hid (q2 ≤ wr.heap.size) := Nat.le_trans HS3.out (Nat.le_of_lt (lt_of_heap H5.out))
                  have B13 : Hid (Below q2 wq wr) := HB3.out.trans ((GB.out.trans HBW.out).mono HS3.out)
                  obtain ⟨v8, w8, hrun, hown, hgr, hat⟩ := append_elem (P := Try.prog) (wr.alloc (.cells (G.map bv).toArray 23)) q2 51 uT16 made16B zeros16_len (by omega) (.slice A12 j c12) j ((F.take (16 * j)).map bv) (k_alloc O13.out _) wr.heap.size 1 (G.map bv) (by rw [List.length_map]; exact HGL.out) (heap_alloc_new' wr _) (bv_one _) (by have h2 := HM7.out; omega) (by simp [maxLen]; have h2 := HM7.out; omega) (Nat.le_trans HQ13.out (by simp))
                  rw [← List.map_append, HGN.out] at hown
                  obtain ⟨A8, c8, rfl, _⟩ := own_readN hown
                  have O8 := Lib.hid hown
                  have B8 : Hid (Below q2 wq w8) := B13.out.trans (((Below.refl q2 wr).alloc HQ13.out (.cells (G.map bv).toArray 23)).grown hgr (Nat.le_trans HQ13.out (by simp)) (ka_own_ge O13.out (Nat.le_refl _)))
                  have HJ5 : Hid (j4 + 4 = 4 * (j + 1)) := by have := HJ4.out; show _ = _; omega
                  clear hown hgr hat B13 O13
                  go_wp2_with (first
                    | (refine k_ldv (o := ⟨some 173, .load _ _, _, _, _, _⟩) rfl 23 (.tmp 14) rfl (p := .pointer (some ⟨g14, 0, none⟩)) (by rfl) (load_arr arr16B rfl hiG.out H5.out) ?_)
                    | (refine wpList_run (o := ⟨some 174, .buildSlice _ _ _, _, _, _, _⟩) rfl (exec_bsl rfl (by simp only [List.map_toArray, List.map_cons, List.map_nil]; exact bsl16L G HGL.out wr)) ?_)
                    | (refine k_appv (o := ⟨some 175, .call _, _, _, _, _⟩) rfl (.tmp 172) (.tmp 174) 51 51 rfl (v := .slice A12 j c12) (v2 := .slice (some ⟨wr.heap.size, 0, none⟩) 1 1) (by rfl) (by rfl) hrun ?_
                       clear hrun)
                    | fail)
                  go_roundw
                  case rel => exact ⟨j + 1, j4 + 4, A8, c8, by omega, HJ5, by go_num, rfl, O8, B8⟩
                  case measure => simp [intOf]; omega
            · have q3 : ¬ ((j4 : Int) < (M : Int)) := by omega
              have hjk : j = k7 := by have h1 := HJ4.out; have h2 := HM7.out; omega
              have HLE2 : Hid (w.heap.size ≤ q2) := by have h1 := HB.out.size; have h2 := FS.out; have h3 := HQ2.out; have h4 := HQ.out; show _ ≤ _; omega
              have HBE : Hid (Below w.heap.size w wr) := FB.out.trans ((HB.out.mono (by have := HQ.out; omega)).trans (HB3.out.mono HLE2.out))
              have O13 : Hid (wr.ownsRow w.heap.size 23 16 (.slice A12 j c12) k7 (F.map bv)) := by
                have h := ka_own_le O12.out HLE2.out
                rw [hjk, List.take_of_length_le (Nat.le_of_eq HFL.out)] at h
                rw [hjk]
                exact h
              clear hjk
              go_wp2_with fail
              go_ret
              exact ⟨_, rfl, O13.out, HBE.out⟩
end Go.Proofs.Ytjmpbcfbfbjenaa

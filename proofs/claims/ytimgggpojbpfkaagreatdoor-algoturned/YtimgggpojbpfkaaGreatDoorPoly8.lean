/- poly: (*State).Write. -/
import Derived.Test.YtimgggpojbpfkaaGreatDoorPoly7
import Derived.Test.YtimgggpojbpfkaaGreatDoorSha15
namespace Go.Proofs.YtimgggpojbpfkaaGreatDoor
open Go.RowKit
set_option maxRecDepth 100000
set_option linter.unusedVariables false
set_option linter.unusedSimpArgs false
theorem pCells_len (R S H : List Nat) (T : List UInt8) (n : Nat) (hR : R.length = 3) (hS : S.length = 3) (hH : H.length = 3) (hT : T.length = 16) : (pCells R S H T n).length = 26 := by
  simp [pCells, hR, hS, hH, hT]
theorem pset_n (R S H : List Nat) (T : List UInt8) (n n' : Nat) (hR : R.length = 3) (hS : S.length = 3) (hH : H.length = 3) (hT : T.length = 16) : (pCells R S H T n).set 25 (.int .i64 (n' : Int)) = pCells R S H T n' := by
  unfold pCells
  rw [List.set_append_right _ _ (by simp [hR]), List.set_append_right _ _ (by simp [hR, hS]), List.set_append_right _ _ (by simp [hR, hS, hH]), List.set_append_right _ _ (by simp [hR, hS, hH, hT])]
  simp [hR, hS, hH, hT]
theorem psplice_H (R S H H' : List Nat) (T : List UInt8) (n : Nat) (hR : R.length = 3) (hS : S.length = 3) (hl : H'.length = H.length) : splice (pCells R S H T n) 6 (H'.map uv) = pCells R S H' T n := by
  have := splice_split (R.map uv ++ S.map uv) (H.map uv) (T.map bv ++ [Value.int .i64 (n : Int)]) (H'.map uv) (by simpa using hl)
  simp only [List.length_append, List.length_map, hR, hS] at this
  simpa [pCells] using this
theorem psplice_T (R S H : List Nat) (t cs : List UInt8) (n k : Nat) (hR : R.length = 3) (hS : S.length = 3) (hH : H.length = 3) (hk : k + cs.length ≤ t.length) : splice (pCells R S H t n) (9 + k) (cs.map bv) = pCells R S H (splice t k cs) n := by
  have e : t = t.take k ++ (t.drop k).take cs.length ++ t.drop (k + cs.length) := by
    rw [List.append_assoc, ← List.drop_drop, List.take_append_drop, List.take_append_drop]
  have e1 : pCells R S H t n = (R.map uv ++ S.map uv ++ H.map uv ++ (t.take k).map bv) ++ ((t.drop k).take cs.length).map bv ++ ((t.drop (k + cs.length)).map bv ++ [Value.int .i64 (n : Int)]) := by
    unfold pCells
    conv => lhs; rw [e]
    simp
  have hl : (R.map uv ++ S.map uv ++ H.map uv ++ (t.take k).map bv).length = 9 + k := by simp [hR, hS, hH]; omega
  rw [e1, ← hl, splice_split _ _ _ _ (by simp; omega)]
  simp [pCells, splice]
section
variable {w : World} {g : Nat} {R S H : List Nat} {T : List UInt8} {n : Nat} {ty : TypeId} {fr : Nat × Nat}
theorem pcell_n (h : w.heap[g]? = some (.cells (pCells R S H T n).toArray ty fr)) (hR : R.length = 3) (hS : S.length = 3) (hH : H.length = 3) (hT : T.length = 16) : w.cell? ⟨g, 25, none⟩ = some (.int .i64 (n : Int)) := by
  rw [cell_of_heap h, pCells, List.getElem?_append_right (by simp [hR]), List.getElem?_append_right (by simp [hR, hS]), List.getElem?_append_right (by simp [hR, hS, hH]), List.getElem?_append_right (by simp [hR, hS, hH, hT])]
  simp [hR, hS, hH, hT]
theorem prange_R (h : w.heap[g]? = some (.cells (pCells R S H T n).toArray ty fr)) : w.rangeAt g 0 (R.map uv) := fun j v hv => by
  rw [Nat.zero_add, cell_of_heap h, pCells, List.getElem?_append_left (List.getElem?_eq_some_iff.1 hv).1, hv]
theorem prange_S (h : w.heap[g]? = some (.cells (pCells R S H T n).toArray ty fr)) (hR : R.length = 3) : w.rangeAt g 3 (S.map uv) := fun j v hv => by
  have hj := (List.getElem?_eq_some_iff.1 hv).1
  rw [cell_of_heap h, pCells, List.getElem?_append_right (by simp [hR]), List.getElem?_append_left (by simp [hR]; simpa using hj)]
  simpa [hR] using hv
theorem prange_H (h : w.heap[g]? = some (.cells (pCells R S H T n).toArray ty fr)) (hR : R.length = 3) (hS : S.length = 3) : w.rangeAt g 6 (H.map uv) := fun j v hv => by
  have hj := (List.getElem?_eq_some_iff.1 hv).1
  rw [cell_of_heap h, pCells, List.getElem?_append_right (by simp [hR]; omega), List.getElem?_append_right (by simp [hR, hS]; omega), List.getElem?_append_left (by simp [hR, hS]; simp at hj; omega)]
  rw [← hv]; congr 1; simp [hR, hS]; omega
theorem prange_T (h : w.heap[g]? = some (.cells (pCells R S H T n).toArray ty fr)) (hR : R.length = 3) (hS : S.length = 3) (hH : H.length = 3) : w.rangeAt g 9 (T.map bv) := fun j v hv => by
  have hj := (List.getElem?_eq_some_iff.1 hv).1
  rw [cell_of_heap h, pCells, List.getElem?_append_right (by simp [hR]; omega), List.getElem?_append_right (by simp [hR, hS]; omega), List.getElem?_append_right (by simp [hR, hS, hH]; omega), List.getElem?_append_left (by simp [hR, hS, hH]; simp at hj; omega)]
  rw [← hv]; congr 1; simp [hR, hS, hH]; omega
end
theorem sl_range {w : World} {g o c : Nat} {bs : List UInt8} (h : w.rangeAt g o (bs.map bv)) (hg : g < w.heap.size) (hc : bs.length ≤ c) (hm : c ≤ maxLen) : Sl w (some ⟨g, o, none⟩) c bs :=
  ⟨hc, hm, .inr ⟨g, o, rfl, hg, fun j u hu => h j u hu⟩⟩
theorem ptail_len (m : List UInt8) : (ptail m).length = 16 := by simp [ptail]; omega
theorem partsN_app (r h : Nat) (m b : List UInt8) (q : Nat) (hq : 16 * q ≤ m.length) : partsN r h (m ++ b) q = partsN r h m q := by
  induction q with
  | zero => rfl
  | succ q ih =>
    rw [partsN, partsN, ih (by omega), List.drop_append_of_le_length (by omega), List.take_append_of_le_length (by rw [List.length_drop]; omega)]
theorem partsN_add (r h : Nat) (bs : List UInt8) (i j : Nat) : partsN r h bs (i + j) = partsN r (partsN r h bs i) (bs.drop (16 * i)) j := by
  induction j with
  | zero => rfl
  | succ j ih => rw [← Nat.add_assoc, partsN, ih, partsN, List.drop_drop, show 16 * i + 16 * j = 16 * (i + j) by omega]
theorem pwrite_short (m b : List UInt8) (h : m.length % 16 + b.length < 16) : splice (ptail m) (m.length % 16) b = ptail (m ++ b) ∧ (m ++ b).length / 16 = m.length / 16 ∧ (m ++ b).length % 16 = m.length % 16 + b.length := by
  have e0 : (m ++ b).length / 16 = m.length / 16 := by rw [List.length_append]; omega
  have e1 : (m ++ b).length % 16 = m.length % 16 + b.length := by rw [List.length_append]; omega
  refine ⟨?_, e0, e1⟩
  have hd : (m.drop (16 * (m.length / 16))).length = m.length % 16 := by rw [List.length_drop]; omega
  have e2 : ptail m = m.drop (16 * (m.length / 16)) ++ List.replicate b.length 0 ++ List.replicate (16 - (m.length % 16 + b.length)) 0 := by
    rw [ptail, List.append_assoc, List.replicate_append_replicate]; congr 2; omega
  rw [e2, ← hd, splice_split _ _ _ _ (by simp), ptail, e0, e1, List.drop_append_of_le_length (by omega), hd]
theorem pwrite_long (r : Nat) (m b : List UInt8) (t : Nat) (ht : m.length % 16 + t = 16) (hb : t ≤ b.length) :
    splice (ptail m) (m.length % 16) (b.take t) = (((m ++ b).drop (16 * (m.length / 16))).take 16) ∧
    partsN r (stepN r (partsN r 0 m (m.length / 16)) (((m ++ b).drop (16 * (m.length / 16))).take 16)) (b.drop t) ((b.length - t) / 16) = partsN r 0 (m ++ b) ((m ++ b).length / 16) ∧
    splice (List.replicate 16 0) 0 ((b.drop t).drop (16 * ((b.length - t) / 16))) = ptail (m ++ b) ∧ (m ++ b).length % 16 = (b.length - t) % 16 := by
  have hd : (m.drop (16 * (m.length / 16))).length = m.length % 16 := by rw [List.length_drop]; omega
  have eX : ((m ++ b).drop (16 * (m.length / 16))).take 16 = m.drop (16 * (m.length / 16)) ++ b.take t := by
    rw [List.drop_append_of_le_length (by omega), List.take_append, hd, List.take_of_length_le (by omega)]
    congr 2; omega
  have eq1 : (m ++ b).length / 16 = m.length / 16 + (1 + (b.length - t) / 16) := by rw [List.length_append]; omega
  have ed : (m ++ b).drop (16 * (m.length / 16) + 16) = b.drop t := by
    rw [List.drop_append, List.drop_of_length_le (by omega), List.nil_append]; congr 1; omega
  have e4 : (m ++ b).length % 16 = (b.length - t) % 16 := by rw [List.length_append]; omega
  refine ⟨?_, ?_, ?_, e4⟩
  · rw [eX]
    have e2 : ptail m = m.drop (16 * (m.length / 16)) ++ List.replicate (16 - m.length % 16) 0 ++ [] := by rw [ptail, List.append_nil]
    rw [e2]
    have := splice_split (m.drop (16 * (m.length / 16))) (List.replicate (16 - m.length % 16) (0 : UInt8)) [] (b.take t) (by simp; omega)
    rw [hd] at this
    rw [this, List.append_nil]
  · rw [eq1, partsN_add, partsN_add, partsN_app _ _ _ _ _ (by omega), List.drop_drop, show 16 * (m.length / 16) + 16 * 1 = 16 * (m.length / 16) + 16 by omega, ed]
    rfl
  · have e3 : 16 * ((m ++ b).length / 16) = 16 * (m.length / 16) + 16 + 16 * ((b.length - t) / 16) := by rw [eq1]; omega
    rw [ptail, e3, ← List.drop_drop, ed, e4]
    have hr : ((b.drop t).drop (16 * ((b.length - t) / 16))).length = (b.length - t) % 16 := by simp; omega
    generalize (b.drop t).drop (16 * ((b.length - t) / 16)) = r at hr ⊢
    have := splice_first (0 : UInt8) ((b.length - t) % 16) (16 - (b.length - t) % 16) r hr
    rw [show (b.length - t) % 16 + (16 - (b.length - t) % 16) = 16 by omega] at this
    exact this
theorem gr_other {w W W' : World} {g g5 : Nat} {cs : Array Value} (h : w.grownBy W (some g)) (hV : W.setRow g5 cs = W') (hge : w.heap.size ≤ g5) : w.grownBy W' (some g) := by
  subst hV
  refine ⟨h.os, h.tape, h.output, by simpa using h.size, fun i hi hn => ?_⟩
  rw [setRow_other _ _ _ _ (by omega)]; exact h.block i hi hn
/-- the one cell is as it was -/
def KeepC (g o : Nat) (w W : World) : Prop := W.cell? ⟨g, o, none⟩ = w.cell? ⟨g, o, none⟩
instance (g o : Nat) : Pre (KeepC g o) where
  refl _ := rfl
  trans h k := Eq.trans k h
theorem pwrite_nil (A : Option Addr) (n c : Nat) (w : World) : Calls Tryz.prog 81 #[.pointer none, .slice A n c] w fun e w' => (∃ v, e = .returned v) ∧ w = w' := by
  go_enter Tryz.func81, Tryz.ntmps81
  go_wp2
  exact bodyPost_ret (v := .tuple #[]) (by simp [results, Tryz.results81, go_sem]) rfl ⟨⟨_, rfl⟩, rfl⟩
set_option maxHeartbeats 4000000 in
theorem pwrite_any (g r s : Nat) (m : List UInt8) (A : Option Addr) (k c : Nat) (b : List UInt8) (w : World) (hr : r < 21267647932558653966460912964485513216) (hb : b.length = k) (hk : k ≤ 2147000000) (hA : 0 < k → ApartG A g) (hS : Sl w A c b) (H : PAt w g r s m) :
    Calls Tryz.prog 81 #[.pointer (some ⟨g, 0, none⟩), .slice A k c] w fun e w' => (∃ v, e = .returned v) ∧ PAt w' g r s (m ++ b) ∧ w.grownBy w' (some g) := by
  unfold PAt at H ⊢
  obtain ⟨p, hp⟩ : ∃ p, m.length % 16 = p := ⟨_, rfl⟩
  have hp16 : p < 16 := by omega
  have HP := Lib.hid hp; have HBL := Lib.hid hb; have HAP := Lib.hid hA; have HR := Lib.hid hr
  have HSG : Hid (∀ W, w.grownBy W (some g) → Sl W A c b) := by
    intro W hW
    by_cases h0 : 0 < k
    · exact hS.gr hW (hA h0)
    · exact ⟨hS.1, hS.2.1, .inl (by rw [List.eq_nil_of_length_eq_zero (l := b) (by omega)]; rfl)⟩
  obtain ⟨T, hT⟩ : ∃ T, ptail m = T := ⟨_, rfl⟩
  have htl : Hid (T.length = 16) := by show _ = _; rw [← hT]; exact ptail_len m
  have HT := Lib.hid hT
  obtain ⟨x, hx⟩ : ∃ x, partsN r 0 m (m.length / 16) = x := ⟨_, rfl⟩
  have HXX := Lib.hid hx
  have hxl : x < 2722258935367507707706996859454145691648 := by rw [← hx]; exact partsN_lt r 0 m _ (by omega) hr
  have HXL0 := Lib.hid hxl
  rw [hp, hT, hx] at H
  have LR : Hid ((numL r).length = 3) := rfl
  have LS : Hid ((numL s).length = 3) := rfl
  have LX : Hid ((numL x).length = 3) := rfl
  have SA := Lib.hid (fun A c part W hm hS => step_any x r A 16 c part W hm (by omega) hxl hr hS)
  have WA := Lib.hid (fun y A n c bs W hl hy hS => pwhole_any y r A n c bs W hl hy hr hS)
  generalize numL r = NR at H LR SA WA ⊢
  generalize numL s = NS at H LS ⊢
  obtain ⟨NX, HNX⟩ : ∃ NX, Hid (numL x = NX) := ⟨_, rfl⟩
  rw [HNX.out] at H LX SA
  have H0 := Lib.hid H
  clear hb hA hS hT hx H hp hxl hr
  go_enter Tryz.func81, Tryz.ntmps81
  go_upto_region 1 with (fail)
  have sl := arr_from arr16P s8 ⟨g, 9, none⟩ .i64 (p : Int) (by omega) (by omega)
  rw [Int.toNat_natCast, show cutA ⟨g, 9, none⟩ 16 p = ⟨g, 9 + p, none⟩ from by unfold cutA; rw [if_neg (by omega), Addr.add_mid]] at sl
  have C0 : Hid (w.cell? ⟨g, 25, none⟩ = some (.int .i64 (p : Int))) := pcell_n H0.out LR.out LS.out LX.out htl.out
  by_cases hsh : p + k < 16
  · obtain ⟨W5, hrun, hblk, hsz, hgr⟩ := copy_run uT s8 (sT := 22) 3 w.drew g (9 + p) (pCells NR NS NX T p) 157 H0.out (some ⟨g, 9 + p, none⟩) A (16 - p) (16 - p) k c w.heap.size (b.map bv) (by rw [List.length_map, HBL.out]; omega) (fun _ => rfl) (HSG.out w (World.grownBy.refl w _)).2.2 (by rw [List.length_map, HBL.out, pCells_len _ _ _ _ _ LR.out LS.out LX.out htl.out]; omega) (bv_one _)
    rw [List.length_map, HBL.out] at hrun
    have ws := pwrite_short m b (by rw [HP.out, HBL.out]; exact hsh)
    rw [HP.out, HT.out, HBL.out] at ws
    rw [psplice_T _ _ _ _ _ _ _ LR.out LS.out LX.out (by rw [HBL.out, htl.out]; omega), ws.1] at hblk
    have HB5 := Lib.hid hblk
    have HG5 := Lib.hid (gr_trans (gr_drew w g) hgr)
    have HRUN := Lib.hid hrun
    have WS := Lib.hid ws
    obtain ⟨q, hq⟩ : ∃ q, q = p + k := ⟨_, rfl⟩
    have HQ := Lib.hid hq
    have e2 : (p : Int) + (k : Int) = (q : Int) := by omega
    have e3 : (q : Int) < 16 := by omega
    have hTB : Hid ((ptail (m ++ b)).length = 16) := ptail_len _
    have HX : Hid (KeepC g 25 w.drew w.drew) := rfl
    clear hrun hblk hsz hgr ws hq
    refine regS_start (KeepC g 25) (by kernel_rfl) ?_
    try simp only [Act.put, List.setIfInBounds_toArray, List.set_cons_zero, List.set_cons_succ]
    refine regS_take (v := ?_) 0 (some 9) rfl rfl (by kernel_rfl) (by kernel_rfl) (by kernel_rfl) (fun _ _ _ h => h) (by rfl) (fun W hW => ?_) ?_
    rotate_left
    · (go_simp; try rfl)
    simp only [Act.put, List.setIfInBounds_toArray, List.set_cons_zero, List.set_cons_succ]
    refine regS_take (v := ?_) 1 (some 10) rfl rfl (by kernel_rfl) (by kernel_rfl) (by kernel_rfl) (fun _ _ _ h => h) (by rfl) (fun W hW => ?_) ?_
    rotate_left
    · (go_simp; try rfl)
    simp only [Act.put, List.setIfInBounds_toArray, List.set_cons_zero, List.set_cons_succ]
    refine regS_take (v := ?_) 2 (some 11) rfl rfl (by kernel_rfl) (by kernel_rfl) (by kernel_rfl) (fun _ _ _ h => h) (by rfl) (fun W hW => ?_) ?_
    rotate_left
    · (go_simp; try rfl)
    simp only [Act.put, List.setIfInBounds_toArray, List.set_cons_zero, List.set_cons_succ]
    refine regS_take (v := ?_) 3 (some 12) rfl rfl (by kernel_rfl) (by kernel_rfl) (by kernel_rfl) (fun _ _ _ h => h) (by rfl) (fun W hW => ?_) ?_
    rotate_left
    · (go_simp; try rfl)
    simp only [Act.put, List.setIfInBounds_toArray, List.set_cons_zero, List.set_cons_succ]
    refine regS_take (v := ?_) 4 (some 13) rfl rfl (by kernel_rfl) (by kernel_rfl) (by kernel_rfl) (fun _ _ _ h => h) (by rfl) (fun W hW => ?_) ?_
    rotate_left
    · (go_simp; try rfl)
    simp only [Act.put, List.setIfInBounds_toArray, List.set_cons_zero, List.set_cons_succ]
    refine regS_take (v := ?_) 5 (some 14) rfl rfl (by kernel_rfl) (by kernel_rfl) (by kernel_rfl) (fun _ _ _ h => h) (by rfl) (fun W hW => ?_) ?_
    rotate_left
    · (go_simp; try rfl)
    simp only [Act.put, List.setIfInBounds_toArray, List.set_cons_zero, List.set_cons_succ]
    refine regS_load 6 (some 15) (fun W hW => load_cell Tryz.underlying3 (Eq.trans hW (Eq.trans HX.out C0.out))) rfl rfl rfl rfl (by kernel_rfl) (by kernel_rfl) (by kernel_rfl) (fun _ _ _ h => h) (by rfl) ?_
    simp only [Act.put, List.setIfInBounds_toArray, List.set_cons_zero, List.set_cons_succ]
    refine regS_take (v := ?_) 7 (some 16) rfl rfl (by kernel_rfl) (by kernel_rfl) (by kernel_rfl) (fun _ _ _ h => h) (by rfl) (fun W hW => ?_) ?_
    rotate_left
    · (go_simp; try rfl)
    simp only [Act.put, List.setIfInBounds_toArray, List.set_cons_zero, List.set_cons_succ]
    refine regS_take (v := ?_) 8 (some 17) rfl rfl (by kernel_rfl) (by kernel_rfl) (by kernel_rfl) (fun _ _ _ h => h) (by rfl) (fun W hW => ?_) ?_
    rotate_left
    · (go_simp; try rfl)
    simp only [Act.put, List.setIfInBounds_toArray, List.set_cons_zero, List.set_cons_succ]
    refine regS_eff 9 rfl (by kernel_rfl) (fun K hK => ?_)
    refine step_cpy rfl (.tmp 16) (.tmp 17) 22 22 rfl HRUN.out ?_
    have hE : KeepC g 25 w.drew W5 := (pcell_n HB5.out LR.out LS.out LX.out hTB.out).trans C0.out.symm
    refine hK.out _ _ hE ?_
    have HX := Lib.hid (Pre.trans HX.out hE)
    clear hE hK K
    try simp only [Act.put, List.setIfInBounds_toArray, List.set_cons_zero, List.set_cons_succ]
    refine regS_take (v := ?_) 10 (some 4) rfl rfl (by kernel_rfl) (by kernel_rfl) (by kernel_rfl) (fun _ _ _ h => h) (by rfl) (fun W hW => ?_) ?_
    rotate_left
    · (go_simp; try rfl)
    simp only [Act.put, List.setIfInBounds_toArray, List.set_cons_zero, List.set_cons_succ]
    refine regS_done (by kernel_rfl) ?_
    clear HX C0 HRUN
    have c25 := pcell_n HB5.out LR.out LS.out LX.out hTB.out
    have fz := frozen_of_heap HB5.out 25
    go_upto_region 3 with (fail)
    generalize hV : World.setCell _ _ _ = W6
    have H6 : Hid (W6.heap[g]? = some (.cells (pCells NR NS NX (ptail (m ++ b)) q).toArray 157 (0, 0))) := by
      have := heap_set HB5.out 25 (.int .i64 (q : Int))
      rw [pset_n _ _ _ _ _ _ LR.out LS.out LX.out hTB.out] at this
      rw [← hV]; exact this
    have HG6 : Hid (w.grownBy W6 (some g)) := by show w.grownBy _ _; rw [← hV]; exact gr_trans HG5.out (gr_setCell _ _ _ _)
    clear hV c25 fz
    have c25 := pcell_n H6.out LR.out LS.out LX.out hTB.out
    go_wp2
    refine bodyPost_ret (v := .tuple #[]) (by simp [results, Tryz.results81, go_sem]) rfl ⟨⟨_, rfl⟩, ?_, HG6.out⟩
    rw [WS.out.2.1, WS.out.2.2, partsN_app _ _ _ _ _ (by omega), HXX.out, ← HQ.out, HNX.out]
    exact H6.out
  · obtain ⟨t, ht⟩ : ∃ t, t = 16 - p := ⟨_, rfl⟩
    have htk : Hid (t ≤ k) := by show t ≤ k; omega
    have hbt : Hid ((b.take t).length = t) := by show _ = _; rw [List.length_take, HBL.out]; have := htk.out; omega
    have HS0 := Lib.hid (HSG.out w (World.grownBy.refl w _))
    obtain ⟨W5, hrun, hblk, hsz, hgr⟩ := copy_run uT s8 (sT := 22) 3 w.drew g (9 + p) (pCells NR NS NX T p) 157 H0.out (some ⟨g, 9 + p, none⟩) A (16 - p) (16 - p) k c w.heap.size ((b.take t).map bv) (by rw [List.length_map, hbt.out]; omega) (fun _ => rfl) (by have := HS0.out.2.2.take t; rw [← List.map_take] at this; exact this) (by rw [List.length_map, hbt.out, pCells_len _ _ _ _ _ LR.out LS.out LX.out htl.out]; omega) (bv_one _)
    rw [List.length_map, hbt.out] at hrun
    have wl := pwrite_long r m b t (by rw [HP.out]; omega) (by rw [HBL.out]; exact htk.out)
    rw [HP.out, HT.out, HXX.out, HBL.out] at wl
    obtain ⟨X, hX⟩ : ∃ X, ((m ++ b).drop (16 * (m.length / 16))).take 16 = X := ⟨_, rfl⟩
    rw [hX] at wl
    rw [psplice_T _ _ _ _ _ _ _ LR.out LS.out LX.out (by rw [hbt.out, htl.out]; omega), wl.1] at hblk
    have HXL : Hid (X.length = 16) := by show _ = _; rw [← wl.1]; simp [splice, hbt.out, htl.out]; omega
    have HB5 := Lib.hid hblk
    have HG5 := Lib.hid (gr_trans (gr_drew w g) hgr)
    have HRUN := Lib.hid hrun
    have W2 := Lib.hid wl.2.1; have W3 := Lib.hid wl.2.2.1; have W4 := Lib.hid wl.2.2.2
    have e2 : (p : Int) + (t : Int) = 16 := by omega
    have ht16 : t ≤ 16 := by omega
    have HX : Hid (KeepC g 25 w.drew w.drew) := rfl
    have HTT := Lib.hid ht
    clear hrun hblk hsz hgr wl hX ht hsh
    refine regS_start (KeepC g 25) (by kernel_rfl) ?_
    try simp only [Act.put, List.setIfInBounds_toArray, List.set_cons_zero, List.set_cons_succ]
    refine regS_take (v := ?_) 0 (some 9) rfl rfl (by kernel_rfl) (by kernel_rfl) (by kernel_rfl) (fun _ _ _ h => h) (by rfl) (fun W hW => ?_) ?_
    rotate_left
    · (go_simp; try rfl)
    simp only [Act.put, List.setIfInBounds_toArray, List.set_cons_zero, List.set_cons_succ]
    refine regS_take (v := ?_) 1 (some 10) rfl rfl (by kernel_rfl) (by kernel_rfl) (by kernel_rfl) (fun _ _ _ h => h) (by rfl) (fun W hW => ?_) ?_
    rotate_left
    · (go_simp; try rfl)
    simp only [Act.put, List.setIfInBounds_toArray, List.set_cons_zero, List.set_cons_succ]
    refine regS_take (v := ?_) 2 (some 11) rfl rfl (by kernel_rfl) (by kernel_rfl) (by kernel_rfl) (fun _ _ _ h => h) (by rfl) (fun W hW => ?_) ?_
    rotate_left
    · (go_simp; try rfl)
    simp only [Act.put, List.setIfInBounds_toArray, List.set_cons_zero, List.set_cons_succ]
    refine regS_take (v := ?_) 3 (some 12) rfl rfl (by kernel_rfl) (by kernel_rfl) (by kernel_rfl) (fun _ _ _ h => h) (by rfl) (fun W hW => ?_) ?_
    rotate_left
    · (go_simp; try rfl)
    simp only [Act.put, List.setIfInBounds_toArray, List.set_cons_zero, List.set_cons_succ]
    refine regS_take (v := ?_) 4 (some 13) rfl rfl (by kernel_rfl) (by kernel_rfl) (by kernel_rfl) (fun _ _ _ h => h) (by rfl) (fun W hW => ?_) ?_
    rotate_left
    · (go_simp; try rfl)
    simp only [Act.put, List.setIfInBounds_toArray, List.set_cons_zero, List.set_cons_succ]
    refine regS_take (v := ?_) 5 (some 14) rfl rfl (by kernel_rfl) (by kernel_rfl) (by kernel_rfl) (fun _ _ _ h => h) (by rfl) (fun W hW => ?_) ?_
    rotate_left
    · (go_simp; try rfl)
    simp only [Act.put, List.setIfInBounds_toArray, List.set_cons_zero, List.set_cons_succ]
    refine regS_load 6 (some 15) (fun W hW => load_cell Tryz.underlying3 (Eq.trans hW (Eq.trans HX.out C0.out))) rfl rfl rfl rfl (by kernel_rfl) (by kernel_rfl) (by kernel_rfl) (fun _ _ _ h => h) (by rfl) ?_
    simp only [Act.put, List.setIfInBounds_toArray, List.set_cons_zero, List.set_cons_succ]
    refine regS_take (v := ?_) 7 (some 16) rfl rfl (by kernel_rfl) (by kernel_rfl) (by kernel_rfl) (fun _ _ _ h => h) (by rfl) (fun W hW => ?_) ?_
    rotate_left
    · (go_simp; try rfl)
    simp only [Act.put, List.setIfInBounds_toArray, List.set_cons_zero, List.set_cons_succ]
    refine regS_take (v := ?_) 8 (some 17) rfl rfl (by kernel_rfl) (by kernel_rfl) (by kernel_rfl) (fun _ _ _ h => h) (by rfl) (fun W hW => ?_) ?_
    rotate_left
    · (go_simp; try rfl)
    simp only [Act.put, List.setIfInBounds_toArray, List.set_cons_zero, List.set_cons_succ]
    refine regS_eff 9 rfl (by kernel_rfl) (fun K hK => ?_)
    refine step_cpy rfl (.tmp 16) (.tmp 17) 22 22 rfl HRUN.out ?_
    have hE : KeepC g 25 w.drew W5 := (pcell_n HB5.out LR.out LS.out LX.out HXL.out).trans C0.out.symm
    refine hK.out _ _ hE ?_
    have HX := Lib.hid (Pre.trans HX.out hE)
    clear hE hK K
    try simp only [Act.put, List.setIfInBounds_toArray, List.set_cons_zero, List.set_cons_succ]
    refine regS_take (v := ?_) 10 (some 4) rfl rfl (by kernel_rfl) (by kernel_rfl) (by kernel_rfl) (fun _ _ _ h => h) (by rfl) (fun W hW => ?_) ?_
    rotate_left
    · (go_simp; try rfl)
    simp only [Act.put, List.setIfInBounds_toArray, List.set_cons_zero, List.set_cons_succ]
    refine regS_done (by kernel_rfl) ?_
    clear HX C0 HRUN
    have c25 := pcell_n HB5.out LR.out LS.out LX.out HXL.out
    have fz := frozen_of_heap HB5.out 25
    go_upto_region 3 with (fail)
    generalize hV : World.setCell _ _ _ = W6
    have H6 : Hid (W6.heap[g]? = some (.cells (pCells NR NS NX X 16).toArray 157 (0, 0))) := by
      have := heap_set HB5.out 25 (.int .i64 ((16 : Nat) : Int))
      rw [pset_n _ _ _ _ _ _ LR.out LS.out LX.out HXL.out] at this
      rw [← hV]; exact this
    have HG6 : Hid (w.grownBy W6 (some g)) := by show w.grownBy _ _; rw [← hV]; exact gr_trans HG5.out (gr_setCell _ _ _ _)
    clear hV c25 fz HB5 HG5
    have c25 : W6.cell? ⟨g, 25, none⟩ = some (.int .i64 16) := pcell_n H6.out LR.out LS.out LX.out HXL.out
    go_upto_region 4 with (fail)
    clear c25
    have HS6 := Lib.hid (HSG.out _ HG6.out)
    have HAP' : Hid (ApartG A g) := HAP.out (by have h1 := htk.out; have h2 := HTT.out; omega)
    have hgl := Lib.hid (lt_of_heap H6.out)
    have LO : Hid (∀ W, Below W6.heap.size W6 W → W.heap[g]? = some (.cells (pCells NR NS NX X 16).toArray 157 (0, 0))) := fun W hW => (hW.block _ hgl.out).trans H6.out
    have ar := arr_all arr16P s8 ⟨g, 9, none⟩
    have SX := Lib.hid (fun W (hW : Below W6.heap.size W6 W) => SA.out (some ⟨g, 9, none⟩) 16 X W HXL.out (sl_range (prange_T (LO.out W hW) LR.out LS.out LX.out) (lt_of_heap (LO.out W hW)) (by rw [HXL.out]; omega) (by simp [maxLen])))
    obtain ⟨y, hy⟩ : ∃ y, stepN r x X = y := ⟨_, rfl⟩
    have hyl : y < 2722258935367507707706996859454145691648 := by rw [← hy]; exact stepN_lt r x X (by rw [HXL.out]; omega) HXL0.out HR.out
    rw [hy] at SX W2
    have LY : Hid ((numL y).length = 3) := rfl
    have hdl : Hid ((b.drop t).length = k - t) := by show _ = _; rw [List.length_drop, HBL.out]
    have WY := Lib.hid (fun W hS => WA.out y (cutS A c t) (k - t) (c - t) (b.drop t) W hdl.out hyl hS)
    rw [W2.out] at WY
    clear hy hyl W2
    obtain ⟨z, HZ⟩ : ∃ z, Hid (partsN r 0 (m ++ b) ((m ++ b).length / 16) = z) := ⟨_, rfl⟩
    rw [HZ.out] at WY
    have LZ : Hid ((numL z).length = 3) := rfl
    generalize numL y = NY at SX WY LY
    obtain ⟨NZ, HNZ⟩ : ∃ NZ, Hid (numL z = NZ) := ⟨_, rfl⟩
    rw [HNZ.out] at WY LZ
    have hz : ∀ W, (zeroValue 154).run Tryz.prog W = .ok (.agg zeros3.toArray) W := fun W => by kernel_rfl
    have hlz : Hid (zeros3.length = 3) := rfl
    generalize zeros3 = Z3 at hz hlz
    go_cut [5] from 32 to 44 (fun v5 wx => ∃ (g5 : Nat), v5 = .pointer (some ⟨g5, 0, none⟩) ∧ Hid (W6.heap.size ≤ g5) ∧ Hid (Below W6.heap.size W6 wx) ∧ Hid (wx.heap[g5]? = some (.cells (NY.map uv).toArray 154 (0, 0))))
    case first =>
      have HX : Hid (Below W6.heap.size W6 W6.drew) := (Below.refl _ _).drew
      refine regB_start (W6.heap.size) (by kernel_rfl) ?_
      try simp only [Act.put, List.setIfInBounds_toArray, List.set_cons_zero, List.set_cons_succ]
      generalize W6.drew = W7 at HX ⊢
      refine regB_take (v := ?_) 0 (some 32) rfl rfl (by kernel_rfl) (by kernel_rfl) (by kernel_rfl) (fun _ _ _ h => h) (by rfl) (fun W hW => ?_) ?_
      rotate_left
      · (go_simp; try rfl)
      simp only [Act.put, List.setIfInBounds_toArray, List.set_cons_zero, List.set_cons_succ]
      refine regB_take (v := ?_) 1 (some 33) rfl rfl (by kernel_rfl) (by kernel_rfl) (by kernel_rfl) (fun _ _ _ h => h) (by rfl) (fun W hW => ?_) ?_
      rotate_left
      · (go_simp; try rfl)
      simp only [Act.put, List.setIfInBounds_toArray, List.set_cons_zero, List.set_cons_succ]
      refine regB_take (v := ?_) 2 (some 34) rfl rfl (by kernel_rfl) (by kernel_rfl) (by kernel_rfl) (fun _ _ _ h => h) (by rfl) (fun W hW => ?_) ?_
      rotate_left
      · (go_simp; try rfl)
      simp only [Act.put, List.setIfInBounds_toArray, List.set_cons_zero, List.set_cons_succ]
      refine regB_load 3 (some 35) (fun W hW => run_loadAt_mid W g 6 154 (NX.map uv) _ (prange_H (LO.out W (Below.trans HX.out hW)) LR.out LS.out) arr3 rfl (i3l NX LX.out)) rfl rfl rfl rfl (by kernel_rfl) (by kernel_rfl) (by kernel_rfl) (fun _ _ _ h => h) (by rfl) ?_
      simp only [Act.put, List.setIfInBounds_toArray, List.set_cons_zero, List.set_cons_succ]
      refine regB_take (v := ?_) 4 (some 36) rfl rfl (by kernel_rfl) (by kernel_rfl) (by kernel_rfl) (fun _ _ _ h => h) (by rfl) (fun W hW => ?_) ?_
      rotate_left
      · (go_simp; try rfl)
      simp only [Act.put, List.setIfInBounds_toArray, List.set_cons_zero, List.set_cons_succ]
      refine regB_take (v := ?_) 5 (some 37) rfl rfl (by kernel_rfl) (by kernel_rfl) (by kernel_rfl) (fun _ _ _ h => h) (by rfl) (fun W hW => ?_) ?_
      rotate_left
      · (go_simp; try rfl)
      simp only [Act.put, List.setIfInBounds_toArray, List.set_cons_zero, List.set_cons_succ]
      refine regB_take (v := ?_) 6 (some 38) rfl rfl (by kernel_rfl) (by kernel_rfl) (by kernel_rfl) (fun _ _ _ h => h) (by rfl) (fun W hW => ?_) ?_
      rotate_left
      · (go_simp; try rfl)
      simp only [Act.put, List.setIfInBounds_toArray, List.set_cons_zero, List.set_cons_succ]
      refine regB_load 7 (some 39) (fun W hW => run_loadAt_mid W g 0 154 (NR.map uv) _ (prange_R (LO.out W (Below.trans HX.out hW))) arr3 rfl (i3l NR LR.out)) rfl rfl rfl rfl (by kernel_rfl) (by kernel_rfl) (by kernel_rfl) (fun _ _ _ h => h) (by rfl) ?_
      simp only [Act.put, List.setIfInBounds_toArray, List.set_cons_zero, List.set_cons_succ]
      refine regB_take (v := ?_) 8 (some 40) rfl rfl (by kernel_rfl) (by kernel_rfl) (by kernel_rfl) (fun _ _ _ h => h) (by rfl) (fun W hW => ?_) ?_
      rotate_left
      · (go_simp; try rfl)
      simp only [Act.put, List.setIfInBounds_toArray, List.set_cons_zero, List.set_cons_succ]
      refine regB_take (v := ?_) 9 (some 41) rfl rfl (by kernel_rfl) (by kernel_rfl) (by kernel_rfl) (fun _ _ _ h => h) (by rfl) (fun W hW => ?_) ?_
      rotate_left
      · (go_simp; try rfl)
      simp only [Act.put, List.setIfInBounds_toArray, List.set_cons_zero, List.set_cons_succ]
      refine regB_take (v := ?_) 10 (some 42) rfl rfl (by kernel_rfl) (by kernel_rfl) (by kernel_rfl) (fun _ _ _ h => h) (by rfl) (fun W hW => ?_) ?_
      rotate_left
      · (go_simp; try rfl)
      simp only [Act.put, List.setIfInBounds_toArray, List.set_cons_zero, List.set_cons_succ]
      refine regB_take (v := ?_) 11 (some 43) rfl rfl (by kernel_rfl) (by kernel_rfl) (by kernel_rfl) (fun _ _ _ h => h) (by rfl) (fun W hW => ?_) ?_
      rotate_left
      · (go_simp; try rfl)
      simp only [Act.put, List.setIfInBounds_toArray, List.set_cons_zero, List.set_cons_succ]
      refine regB_eff2 12 13 rfl rfl (by kernel_rfl) (fun K hK => ?_) (fun K hK => ?_)
      · skip
        go_simp
        refine (SX.out _ HX.out).mono ?_
        rintro e w3 ⟨rfl, hE0⟩
        try have F6 := Lib.hid ((hE0.block _ (lt_of_heap F6.out)).trans F6.out)
        have hE := RowKit.Below.mono hE0 HX.out.size
        clear hE0
        refine hK.out _ _ hE ?_
        have HX := Lib.hid (Below.trans HX.out hE)
        clear hE hK K
        try simp only [Act.put, List.setIfInBounds_toArray, List.set_cons_zero, List.set_cons_succ]
        refine regB_eff 13 rfl (by kernel_rfl) (fun K hK => ?_)
        go_simp
        generalize hV : World.alloc _ _ = W8
        have F6 := Lib.hid (heap_of_alloc hV)
        have hE := below_of_alloc hV HX.out.size
        have HG7 := Lib.hid HX.out.size
        clear hV
        refine hK.out _ _ hE ?_
        have HX := Lib.hid (Below.trans HX.out hE)
        clear hE hK K
        try simp only [Act.put, List.setIfInBounds_toArray, List.set_cons_zero, List.set_cons_succ]
        refine regB_eff 14 rfl (by kernel_rfl) (fun K hK => ?_)
        refine step_st1 rfl 154 (.tmp 5) (.tmp 44) rfl (store_arr (cs := NY.map uv) (i3l NY LY.out) (uv_one _) (old := Z3) F6.out (by rw [List.length_map, LY.out]; exact hlz.out)) ?_
        generalize hV : World.setRow _ _ _ = W9
        have F7 := Lib.hid (heap_of_setRow hV F6.out)
        have hE := below_of_setRow hV HG7.out HX.out.size
        clear hV
        refine hK.out _ _ hE ?_
        have HX := Lib.hid (Below.trans HX.out hE)
        clear hE hK K
        try simp only [Act.put, List.setIfInBounds_toArray, List.set_cons_zero, List.set_cons_succ]
        refine regB_done (by kernel_rfl) ?_
        go_wp2
        go_meet
        exact ⟨_, rfl, HG7, HX, F7⟩
      · skip
        go_simp
        generalize hV : World.alloc _ _ = W8
        have F6 := Lib.hid (heap_of_alloc hV)
        have hE := below_of_alloc hV HX.out.size
        have HG7 := Lib.hid HX.out.size
        clear hV
        refine hK.out _ _ hE ?_
        have HX := Lib.hid (Below.trans HX.out hE)
        clear hE hK K
        try simp only [Act.put, List.setIfInBounds_toArray, List.set_cons_zero, List.set_cons_succ]
        refine regB_eff 12 rfl (by kernel_rfl) (fun K hK => ?_)
        go_simp
        refine (SX.out _ HX.out).mono ?_
        rintro e w3 ⟨rfl, hE0⟩
        try have F6 := Lib.hid ((hE0.block _ (lt_of_heap F6.out)).trans F6.out)
        have hE := RowKit.Below.mono hE0 HX.out.size
        clear hE0
        refine hK.out _ _ hE ?_
        have HX := Lib.hid (Below.trans HX.out hE)
        clear hE hK K
        try simp only [Act.put, List.setIfInBounds_toArray, List.set_cons_zero, List.set_cons_succ]
        refine regB_eff 14 rfl (by kernel_rfl) (fun K hK => ?_)
        refine step_st1 rfl 154 (.tmp 5) (.tmp 44) rfl (store_arr (cs := NY.map uv) (i3l NY LY.out) (uv_one _) (old := Z3) F6.out (by rw [List.length_map, LY.out]; exact hlz.out)) ?_
        generalize hV : World.setRow _ _ _ = W9
        have F7 := Lib.hid (heap_of_setRow hV F6.out)
        have hE := below_of_setRow hV HG7.out HX.out.size
        clear hV
        refine hK.out _ _ hE ?_
        have HX := Lib.hid (Below.trans HX.out hE)
        clear hE hK K
        try simp only [Act.put, List.setIfInBounds_toArray, List.set_cons_zero, List.set_cons_succ]
        refine regB_done (by kernel_rfl) ?_
        go_wp2
        go_meet
        exact ⟨_, rfl, HG7, HX, F7⟩
    case rest =>
      obtain ⟨g5, rfl, HG7, HBX, F5⟩ := hcut
      have K5 := Lib.hid (LO.out _ HBX.out)
      have KG := Lib.hid (gr_trans HG6.out (gr_of HBX.out))
      have SXX := Lib.hid (HSG.out _ KG.out)
      have hne : Hid (g ≠ g5) := by have h1 := HG7.out; have h2 := hgl.out; show g ≠ g5; omega
      have sl2 := cut_from uT s8 A k c .i64 (t : Int) (by omega) (by have := htk.out; omega)
      rw [Int.toNat_natCast] at sl2
      have SCU : Hid (∀ W, Ext wc W → Sl W (cutS A c t) (c - t) (b.drop t)) := fun W hW => (sl_cut SXX.out (by rw [HBL.out]; exact htk.out)).below hW
      have hRl : Hid (((b.drop t).drop (16 * ((k - t) / 16))).length = (k - t) % 16) := by show _ = _; rw [List.length_drop, hdl.out]; omega
      generalize (b.drop t).drop (16 * ((k - t) / 16)) = R at WY hRl W3
      generalize hq7 : (k - t) % 16 = q7 at WY hRl W4
      have hq16 : q7 < 16 := by omega
      clear hq7
      generalize hk7 : k - t = k7 at WY hdl sl2
      generalize hc7 : c - t = c7 at WY SCU sl2
      clear hk7 hc7
      clear LO SX HBX ar sl
      go_upto_region 5 with (fail)
      have D5 : Hid (wc.drew.heap[g5]? = some (.cells (NY.map uv).toArray 154 (0, 0))) := F5.out
      have DK : Hid (wc.drew.heap[g]? = some (.cells (pCells NR NS NX X 16).toArray 157 (0, 0))) := K5.out
      have DG : Hid (w.grownBy wc.drew (some g)) := gr_trans KG.out (gr_drew _ _)
      have HS : Hid (wc.drew = wc.drew) := rfl
      have hwx : Hid (Ext wc wc.drew) := (Below.refl _ _).drew
      have hA5 : Hid (ApartG (cutS A c t) g5) := by
        refine apart_cut ?_
        intro a ha
        obtain ⟨b1, o1, he, hb1, _⟩ := HS6.out.2.2.at_ (by rw [List.length_map, HBL.out]; have := htk.out; have := HTT.out; omega)
        rw [he] at ha
        injection ha with ha
        rw [← ha]; have := HG7.out; show b1 ≠ g5; omega
      refine regK_start (8) (fun W => W = wc.drew) (by kernel_rfl) ?_
      try simp only [Act.put, List.setIfInBounds_toArray, List.set_cons_zero, List.set_cons_succ]
      refine regK_load 0 (some 46) (fun W hW => load_arr arr3 rfl (i3l NY LY.out) (heap_eq' hW D5.out)) rfl rfl rfl rfl (by kernel_rfl) (by kernel_rfl) (by kernel_rfl) (fun _ _ _ h => h) (by rfl) (by kernel_rfl) HS.out ?_
      simp only [Act.put, List.setIfInBounds_toArray, List.set_cons_zero, List.set_cons_succ]
      refine regK_take (v := ?_) 1 (some 47) rfl rfl (by kernel_rfl) (by kernel_rfl) (by kernel_rfl) (fun _ _ _ h => h) (by rfl) (by kernel_rfl) HS.out (fun W => ?_) ?_
      rotate_left
      · (go_simp; try rfl)
      simp only [Act.put, List.setIfInBounds_toArray, List.set_cons_zero, List.set_cons_succ]
      refine regK_take (v := ?_) 2 (some 48) rfl rfl (by kernel_rfl) (by kernel_rfl) (by kernel_rfl) (fun _ _ _ h => h) (by rfl) (by kernel_rfl) HS.out (fun W => ?_) ?_
      rotate_left
      · (go_simp; try rfl)
      simp only [Act.put, List.setIfInBounds_toArray, List.set_cons_zero, List.set_cons_succ]
      refine regK_take (v := ?_) 3 (some 49) rfl rfl (by kernel_rfl) (by kernel_rfl) (by kernel_rfl) (fun _ _ _ h => h) (by rfl) (by kernel_rfl) HS.out (fun W => ?_) ?_
      rotate_left
      · (go_simp; try rfl)
      simp only [Act.put, List.setIfInBounds_toArray, List.set_cons_zero, List.set_cons_succ]
      refine regK_load 4 (some 50) (fun W hW => run_loadAt_mid W g 0 154 (NR.map uv) _ (prange_R (heap_eq' hW DK.out)) arr3 rfl (i3l NR LR.out)) rfl rfl rfl rfl (by kernel_rfl) (by kernel_rfl) (by kernel_rfl) (fun _ _ _ h => h) (by rfl) (by kernel_rfl) HS.out ?_
      simp only [Act.put, List.setIfInBounds_toArray, List.set_cons_zero, List.set_cons_succ]
      refine regK_take (v := ?_) 5 (some 51) rfl rfl (by kernel_rfl) (by kernel_rfl) (by kernel_rfl) (fun _ _ _ h => h) (by rfl) (by kernel_rfl) HS.out (fun W => ?_) ?_
      rotate_left
      · (go_simp; try rfl)
      simp only [Act.put, List.setIfInBounds_toArray, List.set_cons_zero, List.set_cons_succ]
      refine regK_take (v := ?_) 6 (some 52) rfl rfl (by kernel_rfl) (by kernel_rfl) (by kernel_rfl) (fun _ _ _ h => h) (by rfl) (by kernel_rfl) HS.out (fun W => ?_) ?_
      rotate_left
      · (go_simp; try rfl)
      simp only [Act.put, List.setIfInBounds_toArray, List.set_cons_zero, List.set_cons_succ]
      refine regK_take (v := ?_) 7 (some 53) rfl rfl (by kernel_rfl) (by kernel_rfl) (by kernel_rfl) (fun _ _ _ h => h) (by rfl) (by kernel_rfl) HS.out (fun W => ?_) ?_
      rotate_left
      · (go_simp; try rfl)
      simp only [Act.put, List.setIfInBounds_toArray, List.set_cons_zero, List.set_cons_succ]
      refine regK_bar 8 rfl (by kernel_rfl) (by kernel_rfl) (fun K hK => ?_)
      go_simp
      refine (WY.out _ (SCU.out _ hwx.out)).mono ?_
      rintro e w4 ⟨A7, c8, rfl, hA7, hP7, hE0⟩
      have E5 := Lib.hid ((hE0.block _ (lt_of_heap D5.out)).trans D5.out)
      have EK := Lib.hid ((hE0.block _ (lt_of_heap DK.out)).trans DK.out)
      have EG := Lib.hid (gr_trans DG.out (gr_of hE0))
      have HSR := Lib.hid (hA7.below hE0)
      have HAX : Hid (ApartG A7 g) := hP7 _ (apart_cut HAP'.out)
      have HA5 : Hid (ApartG A7 g5) := hP7 _ hA5.out
      clear hE0 hA7 hP7
      refine hK.out _ _ trivial ?_
      clear hK K
      try simp only [Act.put, List.setIfInBounds_toArray, List.set_cons_zero, List.set_cons_succ]
      refine regS_take (v := ?_) 9 (some 45) rfl rfl (by kernel_rfl) (by kernel_rfl) (by kernel_rfl) (fun _ _ _ h => h) (by rfl) (fun W hW => ?_) ?_
      rotate_left
      · (go_simp; try rfl)
      simp only [Act.put, List.setIfInBounds_toArray, List.set_cons_zero, List.set_cons_succ]
      refine regS_take (v := ?_) 10 (some 55) rfl rfl (by kernel_rfl) (by kernel_rfl) (by kernel_rfl) (fun _ _ _ h => h) (by rfl) (fun W hW => ?_) ?_
      rotate_left
      · (go_simp; try rfl)
      simp only [Act.put, List.setIfInBounds_toArray, List.set_cons_zero, List.set_cons_succ]
      refine regS_take (v := ?_) 11 (some 56) rfl rfl (by kernel_rfl) (by kernel_rfl) (by kernel_rfl) (fun _ _ _ h => h) (by rfl) (fun W hW => ?_) ?_
      rotate_left
      · (go_simp; try rfl)
      simp only [Act.put, List.setIfInBounds_toArray, List.set_cons_zero, List.set_cons_succ]
      refine regS_eff 12 rfl (by kernel_rfl) (fun K hK => ?_)
      refine step_st1 rfl 154 (.tmp 5) (.tmp 55) rfl (store_arr (cs := NZ.map uv) (i3l NZ LZ.out) (uv_one _) E5.out (by rw [List.length_map, List.length_map, LY.out, LZ.out])) ?_
      generalize hV : World.setRow _ _ _ = W9
      have F9 := Lib.hid (heap_of_setRow hV E5.out)
      have K9 := Lib.hid (heap_of_other hV hne.out EK.out)
      have G9 := Lib.hid (fun hge => gr_other EG.out hV hge)
      have HS9 : Hid (Sl W9 A7 c8 R) := by rw [← hV]; exact HSR.out.gr (gr_setRow _ _ _) HA5.out
      clear hV
      refine hK.out _ _ trivial ?_
      clear hK K
      try simp only [Act.put, List.setIfInBounds_toArray, List.set_cons_zero, List.set_cons_succ]
      refine regS_take (v := ?_) 13 (some 6) rfl rfl (by kernel_rfl) (by kernel_rfl) (by kernel_rfl) (fun _ _ _ h => h) (by rfl) (fun W hW => ?_) ?_
      rotate_left
      · (go_simp; try rfl)
      simp only [Act.put, List.setIfInBounds_toArray, List.set_cons_zero, List.set_cons_succ]
      refine regS_done (by kernel_rfl) ?_
      have G10 : Hid (w.grownBy W9 (some g)) := G9.out (Nat.le_trans HG6.out.size HG7.out)
      clear EG EK E5 HSR DG DK D5 KG K5 F5 G9
      have ssH := Lib.hid (psplice_H NR NS NX NZ X 16 LR.out LS.out (by rw [LZ.out, LX.out]))
      have hln : Hid (6 + (NZ.map uv).length ≤ (pCells NR NS NX X 16).length) := by show _ ≤ _; rw [pCells_len _ _ _ _ _ LR.out LS.out LX.out HXL.out, List.length_map, LZ.out]; decide
      have ssT := Lib.hid (psplice_T NR NS NZ X (List.replicate 16 0) 16 0 LR.out LS.out LZ.out (by rw [HXL.out]; simp))
      have hsp : Hid (splice X 0 (List.replicate 16 0) = List.replicate 16 0) := by show _ = _; simp [splice, List.drop_of_length_le, HXL.out]
      rw [hsp.out] at ssT
      have hln2 : Hid (9 + 0 + ((List.replicate 16 (0 : UInt8)).map bv).length ≤ (pCells NR NS NZ X 16).length) := by show _ ≤ _; rw [pCells_len _ _ _ _ _ LR.out LS.out LZ.out HXL.out]; simp
      have hZ : ∀ W, (zeroValue 64).run Tryz.prog W = .ok (.agg ((List.replicate 16 (0 : UInt8)).map bv).toArray) W := fun W => by kernel_rfl
      have l16 : Hid ((List.replicate 16 (0 : UInt8)).length = 16) := List.length_replicate
      clear sl2
      generalize List.replicate 16 (0 : UInt8) = O16 at ssT hln2 hZ l16 W3
      go_upto_region 8 with (first
        | (refine wpList_ld rfl 154 (.tmp 5) rfl (load_arr arr3 rfl (i3l NZ LZ.out) F9.out) ?_)
        | (refine wpList_st rfl 154 (.tmp 60) (.tmp 58) rfl (store_mid (cs := NZ.map uv) (i3l NZ LZ.out) (uv_one _) K9.out hln.out) ?_
           rw [ssH.out]
           generalize hV : World.setRow _ _ _ = W10
           have K10 := Lib.hid (heap_of_setRow hV K9.out)
           have KG10 : Hid (w.grownBy W10 (some g)) := by show w.grownBy _ _; rw [← hV]; exact gr_trans G10.out (gr_setRow _ _ _)
           have HSX10 : Hid (Sl W10 A7 c8 R) := by rw [← hV]; exact HS9.out.gr (gr_setRow _ _ _) HAX.out
           clear hV)
        | (refine wpList_run (o := ⟨some 62, _, _, _, _, _⟩) rfl (v := .agg (O16.map bv).toArray) (w' := W10) (exec_bld rfl (by simp only [List.map_toArray, List.map_nil]; exact (run_build W10 _ _ _ (by kernel_rfl)))) ?_)
        | (refine wpList_st rfl 64 (.tmp 64) (.tmp 62) rfl (store_mid (cs := O16.map bv) (off := 9 + 0) (i16p O16 l16.out) (bv_one _) K10.out hln2.out) ?_
           rw [ssT.out]
           generalize hV : World.setRow _ _ _ = W11
           have K11 := Lib.hid (heap_of_setRow hV K10.out)
           have KG11 : Hid (w.grownBy W11 (some g)) := by show w.grownBy _ _; rw [← hV]; exact gr_trans KG10.out (gr_setRow _ _ _)
           have HSX11 : Hid (Sl W11 A7 c8 R) := by rw [← hV]; exact HSX10.out.gr (gr_setRow _ _ _) HAX.out
           clear hV))
      have ar9 := arr_all arr16P s8 ⟨g, 9, none⟩
      obtain ⟨W12, hrun, hblk, hsz, hgr⟩ := copy_run uT s8 (sT := 22) 3 W11 g (9 + 0) (pCells NR NS NZ O16 16) 157 K11.out (some ⟨g, 9, none⟩) A7 16 16 q7 c8 W11.heap.size (R.map bv) (by rw [List.length_map, hRl.out]; omega) (fun _ => rfl) HSX11.out.2.2 (by rw [List.length_map, hRl.out, pCells_len _ _ _ _ _ LR.out LS.out LZ.out l16.out]; omega) (bv_one _)
      rw [psplice_T _ _ _ _ _ _ _ LR.out LS.out LZ.out (by rw [hRl.out, l16.out]; omega), W3.out] at hblk
      rw [List.length_map, hRl.out] at hrun
      have HB12 := Lib.hid hblk
      have HG12 := Lib.hid (gr_trans KG11.out hgr)
      have HRUN := Lib.hid hrun
      have hTB : Hid ((ptail (m ++ b)).length = 16) := ptail_len _
      have c25 := pcell_n HB12.out LR.out LS.out LZ.out hTB.out
      have fz := frozen_of_heap HB12.out 25
      clear hrun hblk hsz hgr K11 KG11 HSX11 K10 KG10 HSX10
      go_wp2_with (first
        | (refine wpList_cpy rfl (.tmp 69) (.tmp 70) 22 22 rfl HRUN.out ?_)
        | fail)
      refine bodyPost_end (v := .tuple #[]) (by simp [results, Tryz.results81, go_sem]) rfl ⟨⟨_, rfl⟩, ?_, gr_trans HG12.out (gr_setCell _ _ _ _)⟩
      rw [← List.length_append, HZ.out, W4.out, HNZ.out]
      have := heap_set HB12.out 25 (.int .i64 (q7 : Int))
      rw [pset_n _ _ _ _ _ _ LR.out LS.out LZ.out hTB.out] at this
      exact this
end Go.Proofs.YtimgggpojbpfkaaGreatDoor

/- The contract of (*State).Write. -/
import Derived.Test.YtimgggpojbpfkaaGreatDoorSha14
import Derived.Test.YtimgggpojbpfkaaGreatDoorSha7b
import Derived.Deep.CutRange
namespace Go.Proofs.YtimgggpojbpfkaaGreatDoor
open Go.RowKit
set_option maxRecDepth 100000
set_option linter.unusedVariables false
set_option linter.unusedSimpArgs false
variable {RR : List Value} {tyS : TypeId}
theorem gr_trans {a b c : World} {g : Nat} (h : a.grownBy b (some g)) (k : b.grownBy c (some g)) : a.grownBy c (some g) :=
  ⟨k.os.trans h.os, k.tape.trans h.tape, k.output.trans h.output, Nat.le_trans h.size k.size, fun i hi hne => (k.block i (Nat.lt_of_lt_of_le hi h.size) hne).trans (h.block i hi hne)⟩
theorem gr_of {a b : World} {g : Nat} (h : Below a.heap.size a b) : a.grownBy b (some g) := ⟨h.os, h.tape, h.output, h.size, fun k hk _ => h.block k hk⟩
theorem Rnd.gr {w w' : World} {g : Nat} (h : Rnd w) (k : w.grownBy w' (some g)) (hg : g ≠ 0) : Rnd w' := by
  have hb := k.block 0 h.1 (by simpa using hg.symm)
  refine ⟨Nat.lt_of_lt_of_le h.1 k.size, fun i hi => ?_⟩
  have := h.2 i hi
  simpa [World.cell?, hb] using this
theorem Sl.gr {w w' : World} {A : Option Addr} {c g : Nat} {bs : List UInt8} (h : Sl w A c bs) (k : w.grownBy w' (some g)) (hg : ApartG A g) : Sl w' A c bs := by
  refine ⟨h.1, h.2.1, ?_⟩
  rcases h.2.2 with h0 | ⟨b, o, rfl, hb, hc⟩
  · exact .inl h0
  · refine .inr ⟨b, o, rfl, Nat.lt_of_lt_of_le hb k.size, fun j u hu => ?_⟩
    have hq := k.block b hb (by simpa using hg _ rfl)
    have := hc j u hu
    simpa [World.cell?, hq] using this
theorem gr_setRow (w : World) (g : Nat) (cs : Array Value) : w.grownBy (w.setRow g cs) (some g) := grown_setRow w g cs
theorem gr_setCell (w : World) (g o : Nat) (v : Value) : w.grownBy (w.setCell ⟨g, o, none⟩ v) (some g) :=
  ⟨rfl, rfl, rfl, by simp, fun k _ hk => Below.heap_setCell w _ v k (fun h => hk (by rw [h]))⟩
theorem gr_drew (w : World) (g : Nat) : w.grownBy w.drew (some g) := ⟨rfl, rfl, rfl, Nat.le_refl _, fun _ _ _ => rfl⟩
theorem whole_app (m b : List UInt8) (q : Nat) (hq : 64 * q ≤ m.length) : wholeN startL (m ++ b) q = wholeN startL m q := wholeN_app _ _ _ _ hq
/-- a part that does not fill the block -/
theorem write_short (m b : List UInt8) (h : m.length % 64 + b.length < 64) : splice (tailL m) (m.length % 64) b = tailL (m ++ b) ∧ (m ++ b).length / 64 = m.length / 64 := by
  have e0 : (m ++ b).length / 64 = m.length / 64 := by rw [List.length_append]; omega
  have e1 : (m ++ b).length % 64 = m.length % 64 + b.length := by rw [List.length_append]; omega
  refine ⟨?_, e0⟩
  have hd : (m.drop (64 * (m.length / 64))).length = m.length % 64 := by rw [List.length_drop]; omega
  have e2 : tailL m = m.drop (64 * (m.length / 64)) ++ List.replicate b.length 0 ++ List.replicate (64 - (m.length % 64 + b.length)) 0 := by
    rw [tailL, List.append_assoc, List.replicate_append_replicate]; congr 2; omega
  rw [e2, ← hd, splice_split _ _ _ _ (by simp), tailL, e0, e1, List.drop_append_of_le_length (by omega), hd]
/-- a part that fills the block: what it is filled with, and what comes behind -/
theorem write_long (m b : List UInt8) (t : Nat) (ht : m.length % 64 + t = 64) (hb : t ≤ b.length) :
    splice (tailL m) (m.length % 64) (b.take t) = (((m ++ b).drop (64 * (m.length / 64))).take 64) ∧
    wholeN (blockL (wholeN startL m (m.length / 64)) (((m ++ b).drop (64 * (m.length / 64))).take 64)) (b.drop t) ((b.length - t) / 64) = wholeN startL (m ++ b) ((m ++ b).length / 64) ∧
    splice (List.replicate 64 0) 0 ((b.drop t).drop (64 * ((b.length - t) / 64))) = tailL (m ++ b) := by
  have hd : (m.drop (64 * (m.length / 64))).length = m.length % 64 := by rw [List.length_drop]; omega
  have eX : ((m ++ b).drop (64 * (m.length / 64))).take 64 = m.drop (64 * (m.length / 64)) ++ b.take t := by
    rw [List.drop_append_of_le_length (by omega), List.take_append, hd, List.take_of_length_le (by omega)]
    congr 2; omega
  have eq1 : (m ++ b).length / 64 = m.length / 64 + (1 + (b.length - t) / 64) := by rw [List.length_append]; omega
  have ed : (m ++ b).drop (64 * (m.length / 64) + 64) = b.drop t := by
    rw [List.drop_append, List.drop_of_length_le (by omega), List.nil_append]; congr 1; omega
  refine ⟨?_, ?_, ?_⟩
  · rw [eX]
    have e2 : tailL m = m.drop (64 * (m.length / 64)) ++ List.replicate (64 - m.length % 64) 0 ++ [] := by rw [tailL, List.append_nil]
    rw [e2]
    have := splice_split (m.drop (64 * (m.length / 64))) (List.replicate (64 - m.length % 64) (0 : UInt8)) [] (b.take t) (by simp; omega)
    rw [hd] at this
    rw [this, List.append_nil]
  · rw [eq1, wholeN_add, wholeN_add, whole_app _ _ _ (by omega), List.drop_drop, show 64 * (m.length / 64) + 64 * 1 = 64 * (m.length / 64) + 64 by omega, ed]
    rfl
  · have e3 : 64 * ((m ++ b).length / 64) = 64 * (m.length / 64) + 64 + 64 * ((b.length - t) / 64) := by rw [eq1]; omega
    have e4 : (m ++ b).length % 64 = (b.length - t) % 64 := by rw [List.length_append]; omega
    rw [tailL, e3, ← List.drop_drop, ed, e4]
    have hr : ((b.drop t).drop (64 * ((b.length - t) / 64))).length = (b.length - t) % 64 := by simp; omega
    generalize (b.drop t).drop (64 * ((b.length - t) / 64)) = r at hr ⊢
    have := splice_first (0 : UInt8) ((b.length - t) % 64) (64 - (b.length - t) % 64) r hr
    rw [show (b.length - t) % 64 + (64 - (b.length - t) % 64) = 64 by omega] at this
    exact this
theorem write_nil (A : Option Addr) (n c : Nat) (w : World) : Calls Tryz.prog 95 #[.pointer none, .slice A n c] w fun e w' => (∃ v, e = .returned v) ∧ w = w' := by
  go_enter Tryz.func95, Tryz.ntmps95
  go_wp2
  exact bodyPost_ret (v := .tuple #[]) (by simp [results, Tryz.results95, go_sem]) rfl ⟨⟨_, rfl⟩, rfl⟩
set_option maxHeartbeats 4000000 in
theorem write_any (g : Nat) (m : List UInt8) (A : Option Addr) (k c : Nat) (b : List UInt8) (w : World) (hb : b.length = k) (hmk : m.length + k ≤ 2147000000) (hg0 : g ≠ 0) (hA : 0 < k → ApartG A g) (hS : Sl w A c b) (H : StR tyS RR w g m) (hR : Rnd w) :
    Calls Tryz.prog 95 #[.pointer (some ⟨g, 0, none⟩), .slice A k c] w fun e w' => (∃ v, e = .returned v) ∧ StR tyS RR w' g (m ++ b) ∧ w.grownBy w' (some g) := by
  obtain ⟨h, h1, h2, h3⟩ := H
  obtain ⟨n, hn⟩ : ∃ n, m.length = n := ⟨_, rfl⟩
  rw [hn] at h3 hmk
  have htl := Lib.hid (tailL_len m)
  have HN := Lib.hid hn; have HH := Lib.hid h1; have H2 := Lib.hid h2; have H3 := Lib.hid h3; have HBL := Lib.hid hb; have HG0 := Lib.hid hg0; have HAP := Lib.hid hA; have HR := Lib.hid hR
  have HSG : Hid (∀ W, w.grownBy W (some g) → Sl W A c b) := by
    intro W hW
    by_cases h0 : 0 < k
    · exact hS.gr hW (hA h0)
    · exact ⟨hS.1, hS.2.1, .inl (by rw [List.eq_nil_of_length_eq_zero (l := b) (by omega)]; rfl)⟩
  obtain ⟨T, hT⟩ : ∃ T, tailL m = T := ⟨_, rfl⟩
  rw [hT] at htl H3 h3
  have HT := Lib.hid hT
  have c72 := cell_n h3 h1 htl.out
  clear hn h1 h2 hb hg0 hA hS hR hT h3
  obtain ⟨H0, hH0⟩ : ∃ H0, wholeN startL m (n / 64) = H0 := ⟨_, rfl⟩
  have HH0 := Lib.hid hH0
  have HL0 : Hid (H0.length = 8) := by show _ = _; rw [← hH0]; exact wholeN_len _ _ _ rfl
  clear hH0
  go_enter Tryz.func95, Tryz.ntmps95
  go_upto_if 14 with (fail)
  go_cut [4, 14] from 15 to 18 (fun v4 v14 wx => v4 = undef ∧ Hid (w.grownBy wx (some g)) ∧ Hid (wx.heap[g]? = some (.cells (stCells RR H0 T n).toArray tyS (0, 0))))
  case first =>
    by_cases hz : n = 0
    · have e0 : ((n : Int) == 0) = true := by simp [hz]
      have hs0 : Hid (startL = H0) := by show _ = _; rw [← HH0.out, hz]; rfl
      have hH : Hid (splice (stCells RR h T n) 0 (startL.map wv) = stCells RR H0 T n) := by show _ = _; rw [← hs0.out]; exact splice_h _ _ _ _ (by rw [HH.out]; rfl)
      have hln : Hid (0 + (startL.map wv).length ≤ (stCells RR h T n).length) := by show _ ≤ _; rw [stCells_len _ _ _ HH.out htl.out]; simp [startL]; omega
      clear hz
      go_wp2_with fail
      refine (start_any w).mono ?_
      rintro e w1 ⟨rfl, hB1⟩
      have K3 := Lib.hid ((hB1.block _ (lt_of_heap H3.out)).trans H3.out)
      have KG := Lib.hid (gr_of (g := g) hB1)
      clear hB1
      go_wp2_with (first
        | (refine wpList_st rfl 85 (.tmp 18) (.tmp 16) rfl (store_mid (cs := startL.map wv) i8W (wv_one _) K3.out hln.out) ?_
           rw [hH.out]
           generalize hV : World.setRow _ _ _ = W5
           have M0 := Lib.hid (heap_of_setRow hV K3.out)
           have MG : Hid (w.grownBy W5 (some g)) := by show w.grownBy _ _; rw [← hV]; exact gr_trans KG.out (gr_setRow _ _ _)
           clear hV)
        | fail)
      go_meet
      exact ⟨rfl, MG, M0⟩
    · have e0 : ((n : Int) == 0) = false := by simp; omega
      have hh : h = H0 := by
        rw [← HH0.out]
        have := H2.out (by intro h0; have := HN.out; rw [h0] at this; simp at this; omega)
        rw [HN.out] at this; exact this
      go_wp2_with fail
      go_meet
      refine ⟨rfl, World.grownBy.refl w _, ?_⟩
      rw [← hh]; exact H3
  case rest =>
    obtain ⟨rfl, MG, M0⟩ := hcut
    have c72 := cell_n M0.out HL0.out htl.out
    have fz := frozen_of_heap M0.out 72
    obtain ⟨r, hr⟩ : ∃ r, r = n % 64 := ⟨_, rfl⟩
    have e1 : (n : Int) % 64 = (r : Int) := by omega
    obtain ⟨p, hp⟩ : ∃ p, p = n + k := ⟨_, rfl⟩
    have e2 : (n : Int) + (k : Int) = (p : Int) := by omega
    have HP := Lib.hid hp; have HRR := Lib.hid hr
    have hr64 : r < 64 := by omega
    have hsn := Lib.hid (set_n (RR := RR) H0 T n p HL0.out htl.out)
    clear hp hr
    go_upto_region 5 with (fail)
    generalize hV : World.setCell _ _ _ = W4
    have M4 : Hid (W4.heap[g]? = some (.cells (stCells RR H0 T p).toArray tyS (0, 0))) := by
      show _ = _
      rw [← hV]; have := heap_set M0.out 72 (.int .i64 (p : Int)); rw [hsn.out] at this; exact this
    have MG4 : Hid (w.grownBy W4 (some g)) := by show w.grownBy _ _; rw [← hV]; exact gr_trans MG.out (gr_setCell _ _ _ _)
    clear hV M0 MG c72 fz hsn
    have HS4 := Lib.hid (HSG.out _ MG4.out)
    have sl := arr_from arr64B s8 ⟨g, 8, none⟩ .i64 (r : Int) (by omega) (by omega)
    rw [Int.toNat_natCast, show cutA ⟨g, 8, none⟩ 64 r = ⟨g, 8 + r, none⟩ from by unfold cutA; rw [if_neg (by omega), Addr.add_mid]] at sl
    by_cases hsh : r + k < 64
    · obtain ⟨W5, hrun, hblk, hsz, hgr⟩ := copy_run uT s8 (sT := 22) 3 W4 g (8 + r) (stCells RR H0 T p) tyS M4.out (some ⟨g, 8 + r, none⟩) A (64 - r) (64 - r) k c W4.heap.size (b.map bv) (by rw [List.length_map, HBL.out]; omega) (fun _ => rfl) HS4.out.2.2 (by rw [List.length_map, HBL.out, stCells_len _ _ _ HL0.out htl.out]; omega) (bv_one _)
      rw [List.length_map, HBL.out] at hrun
      have ws := write_short m b (by rw [HN.out, ← HRR.out, HBL.out]; exact hsh)
      rw [HN.out, ← HRR.out, HT.out] at ws
      rw [splice_t _ _ _ _ _ HL0.out (by rw [HBL.out, htl.out]; omega), ws.1] at hblk
      have HB5 := Lib.hid hblk
      have HG5 := Lib.hid (gr_trans MG4.out hgr)
      have HRUN := Lib.hid hrun
      have hq : Hid ((m ++ b).length / 64 = n / 64) := ws.2
      have hpl : Hid ((m ++ b).length = p) := by show _ = _; rw [List.length_append, HN.out, HBL.out, HP.out]
      have e3 : (r : Int) + (k : Int) < 64 := by omega
      clear hrun hblk hsz hgr ws
      go_wp2_with (first
        | (refine wpList_cpy rfl (.tmp 37) (.tmp 38) 22 22 rfl HRUN.out ?_)
        | fail)
      refine bodyPost_ret (v := .tuple #[]) (by simp [results, Tryz.results95, go_sem]) rfl ⟨⟨_, rfl⟩, ⟨H0, HL0.out, fun _ => ?_, ?_⟩, HG5.out⟩
      · rw [hq.out, ← HH0.out, whole_app _ _ _ (by rw [HN.out]; omega)]
      · rw [hpl.out]; exact HB5.out
    · obtain ⟨t, ht⟩ : ∃ t, t = 64 - r := ⟨_, rfl⟩
      have htk : Hid (t ≤ k) := by show t ≤ k; omega
      have hbt : Hid ((b.take t).length = t) := by show _ = _; rw [List.length_take, HBL.out]; have := htk.out; omega
      obtain ⟨W5, hrun, hblk, hsz, hgr⟩ := copy_run uT s8 (sT := 22) 3 W4 g (8 + r) (stCells RR H0 T p) tyS M4.out (some ⟨g, 8 + r, none⟩) A (64 - r) (64 - r) k c W4.heap.size ((b.take t).map bv) (by rw [List.length_map, hbt.out]; omega) (fun _ => rfl) (by have := HS4.out.2.2.take t; rw [← List.map_take] at this; exact this) (by rw [List.length_map, hbt.out, stCells_len _ _ _ HL0.out htl.out]; omega) (bv_one _)
      rw [List.length_map, hbt.out] at hrun
      have wl := write_long m b t (by rw [HN.out, ← HRR.out]; omega) (by rw [HBL.out]; exact htk.out)
      rw [HN.out, ← HRR.out, HT.out, HH0.out, HBL.out] at wl
      obtain ⟨X, hX⟩ : ∃ X, ((m ++ b).drop (64 * (n / 64))).take 64 = X := ⟨_, rfl⟩
      rw [hX] at wl
      rw [splice_t _ _ _ _ _ HL0.out (by rw [hbt.out, htl.out]; omega), wl.1] at hblk
      have HXL : Hid (X.length = 64) := by show _ = _; rw [← wl.1]; simp [splice, hbt.out, htl.out]; omega
      have HB5 := Lib.hid hblk
      have HG5 := Lib.hid (gr_trans MG4.out hgr)
      have HRUN := Lib.hid hrun
      have W2 := Lib.hid wl.2.1; have W3 := Lib.hid wl.2.2
      have hpl : Hid ((m ++ b).length = p) := by show _ = _; rw [List.length_append, HN.out, HBL.out, HP.out]
      have hmb : Hid (m ++ b ≠ []) := by intro h0; have := hpl.out; rw [h0] at this; have h1 := HP.out; have h2 := htk.out; simp at this; omega
      have e3 : ¬ ((r : Int) + (t : Int) < 64) := by omega
      have ht1 : t ≤ 64 := by omega
      have HTT := Lib.hid ht
      clear hrun hblk hsz hgr wl hX ht M4 MG4 HS4 hsh
      have HS5 := Lib.hid (HSG.out _ HG5.out)
      have HAP' : Hid (ApartG A g) := HAP.out (by have h1 := htk.out; have h2 := HTT.out; omega)
      have HR5 := Lib.hid (HR.out.gr HG5.out HG0.out)
      go_wp2_with (first
        | (refine wpList_cpy rfl (.tmp 37) (.tmp 38) 22 22 rfl HRUN.out ?_)
        | fail)
      have HAB : Hid (∀ g', W5.heap.size ≤ g' → ApartG A g') := by
        intro g' hg'
        obtain ⟨b1, o1, rfl, hb1, _⟩ := HS5.out.2.2.at_ (by rw [List.length_map, HBL.out]; have := htk.out; have := HTT.out; omega)
        intro a ha
        injection ha with ha
        rw [← ha]; show b1 ≠ g'; omega
      have sl2 := cut_from uT s8 A k c .i64 (t : Int) (by omega) (by have := htk.out; omega)
      rw [Int.toNat_natCast] at sl2
      have hdl : Hid ((b.drop t).length = k - t) := by show _ = _; rw [List.length_drop, HBL.out]
      have HSW : Hid (∀ W, Below W5.heap.size W5 W → Sl W (cutS A c t) (c - t) (b.drop t)) := fun W hW => (sl_cut HS5.out (by rw [HBL.out]; exact htk.out)).below hW
      have HRW : Hid (∀ W, Below W5.heap.size W5 W → Rnd W) := fun W hW => HR5.out.ext hW
      have hi8 : Hid ((Tryz.prog.info? 85).map (·.size) = some (H0.map wv).length) := by show _ = _; rw [List.length_map, HL0.out]; exact i8W
      have hi64 : Hid ((Tryz.prog.info? 109).map (·.size) = some (X.map bv).length) := by show _ = _; rw [List.length_map, HXL.out]; exact i64B
      have G0 : Hid (∀ W, Below W5.heap.size W5 W → (Instr.loadAt 85 (.pointer (some ⟨g, 0, none⟩))).run Tryz.prog W = .ok (.agg (H0.map wv).toArray) W) := fun W hW =>
        run_loadAt_mid W g 0 85 (H0.map wv) _ (range_h ((hW.block _ (lt_of_heap HB5.out)).trans HB5.out)) arr8W rfl hi8.out
      have G1 : Hid (∀ W, Below W5.heap.size W5 W → (Instr.loadAt 109 (.pointer (some ⟨g, 8, none⟩))).run Tryz.prog W = .ok (.agg (X.map bv).toArray) W) := fun W hW =>
        run_loadAt_mid W g 8 109 (X.map bv) _ (range_t ((hW.block _ (lt_of_heap HB5.out)).trans HB5.out) HL0.out) arr64B rfl hi64.out
      have HBA := Lib.hid (fun W hW => block_any H0 X W HL0.out HXL.out hW)
      have hY1 := Lib.hid (blockL_len H0 X HL0.out)
      obtain ⟨Y1, HY1⟩ : ∃ Y, Hid (blockL H0 X = Y) := ⟨_, rfl⟩
      rw [HY1.out] at HBA hY1 W2
      have HWA := Lib.hid (fun W hS hW => whole_ap Y1 (cutS A c t) (k - t) (c - t) (b.drop t) W hY1.out hdl.out hS hW)
      have hY2 := Lib.hid (wholeN_len Y1 (b.drop t) ((k - t) / 64) hY1.out)
      generalize wholeN Y1 (b.drop t) ((k - t) / 64) = Y2 at HWA hY2 W2
      have hRl : Hid (((b.drop t).drop (64 * ((k - t) / 64))).length = (k - t) % 64) := by show _ = _; rw [List.length_drop, hdl.out]; omega
      generalize (b.drop t).drop (64 * ((k - t) / 64)) = R at HWA hRl W3
      generalize hq7 : (k - t) % 64 = q7 at HWA hRl
      have hq64 : q7 < 64 := by omega
      clear hq7
      generalize hk7 : k - t = k7 at HWA hdl sl2
      generalize hc7 : c - t = c7 at HWA HSW sl2
      clear hk7 hc7
      have hi8b : Hid ((Tryz.prog.info? 85).map (·.size) = some (Y2.map wv).length) := by show _ = _; rw [List.length_map, hY2.out]; exact i8W
      have hle : Hid ((List.replicate 8 (Value.int .u32 0)).length = (Y2.map wv).length) := by show _ = _; rw [List.length_map, hY2.out]; rfl
      go_cut [6, 7] from 44 to 59 (fun v6 v7 wx => ∃ (g6 : Nat) (A' : Option Addr) (c' : Nat), v6 = .pointer (some ⟨g6, 0, none⟩) ∧ v7 = .slice A' q7 c' ∧ Hid (W5.heap.size ≤ g6) ∧ Hid (Below W5.heap.size W5 wx) ∧ Hid (wx.heap[g6]? = some (.cells (Y2.map wv).toArray 85 (0, 0))) ∧ Hid (Sl wx A' c' R) ∧ Hid (ApartG A' g))
      case first =>
        have HX : Hid (Below W5.heap.size W5 W5.drew) := (Below.refl _ _).drew
        refine regB_start (W5.heap.size) (by kernel_rfl) ?_
        try simp only [Act.put, List.setIfInBounds_toArray, List.set_cons_zero, List.set_cons_succ]
        generalize W5.drew = W6 at HX ⊢
        refine regB_take (v := ?_) 0 (some 45) rfl rfl (by kernel_rfl) (by kernel_rfl) (by kernel_rfl) (fun _ _ _ h => h) (by rfl) (fun W hW => ?_) ?_
        rotate_left
        · (go_simp; try rfl)
        simp only [Act.put, List.setIfInBounds_toArray, List.set_cons_zero, List.set_cons_succ]
        refine regB_take (v := ?_) 1 (some 46) rfl rfl (by kernel_rfl) (by kernel_rfl) (by kernel_rfl) (fun _ _ _ h => h) (by rfl) (fun W hW => ?_) ?_
        rotate_left
        · (go_simp; try rfl)
        simp only [Act.put, List.setIfInBounds_toArray, List.set_cons_zero, List.set_cons_succ]
        refine regB_take (v := ?_) 2 (some 47) rfl rfl (by kernel_rfl) (by kernel_rfl) (by kernel_rfl) (fun _ _ _ h => h) (by rfl) (fun W hW => ?_) ?_
        rotate_left
        · (go_simp; try rfl)
        simp only [Act.put, List.setIfInBounds_toArray, List.set_cons_zero, List.set_cons_succ]
        refine regB_load 3 (some 48) (fun W hW => G0.out W (Below.trans HX.out hW)) rfl rfl rfl rfl (by kernel_rfl) (by kernel_rfl) (by kernel_rfl) (fun _ _ _ h => h) (by rfl) ?_
        simp only [Act.put, List.setIfInBounds_toArray, List.set_cons_zero, List.set_cons_succ]
        refine regB_take (v := ?_) 4 (some 49) rfl rfl (by kernel_rfl) (by kernel_rfl) (by kernel_rfl) (fun _ _ _ h => h) (by rfl) (fun W hW => ?_) ?_
        rotate_left
        · (go_simp; try rfl)
        simp only [Act.put, List.setIfInBounds_toArray, List.set_cons_zero, List.set_cons_succ]
        refine regB_take (v := ?_) 5 (some 50) rfl rfl (by kernel_rfl) (by kernel_rfl) (by kernel_rfl) (fun _ _ _ h => h) (by rfl) (fun W hW => ?_) ?_
        rotate_left
        · (go_simp; try rfl)
        simp only [Act.put, List.setIfInBounds_toArray, List.set_cons_zero, List.set_cons_succ]
        refine regB_take (v := ?_) 6 (some 51) rfl rfl (by kernel_rfl) (by kernel_rfl) (by kernel_rfl) (fun _ _ _ h => h) (by rfl) (fun W hW => ?_) ?_
        rotate_left
        · (go_simp; try rfl)
        simp only [Act.put, List.setIfInBounds_toArray, List.set_cons_zero, List.set_cons_succ]
        refine regB_load 7 (some 52) (fun W hW => G1.out W (Below.trans HX.out hW)) rfl rfl rfl rfl (by kernel_rfl) (by kernel_rfl) (by kernel_rfl) (fun _ _ _ h => h) (by rfl) ?_
        simp only [Act.put, List.setIfInBounds_toArray, List.set_cons_zero, List.set_cons_succ]
        refine regB_take (v := ?_) 9 (some 54) rfl rfl (by kernel_rfl) (by kernel_rfl) (by kernel_rfl) (fun _ _ _ h => h) (by rfl) (fun W hW => ?_) ?_
        rotate_left
        · (go_simp; try rfl)
        simp only [Act.put, List.setIfInBounds_toArray, List.set_cons_zero, List.set_cons_succ]
        refine regB_take (v := ?_) 10 (some 55) rfl rfl (by kernel_rfl) (by kernel_rfl) (by kernel_rfl) (fun _ _ _ h => h) (by rfl) (fun W hW => ?_) ?_
        rotate_left
        · (go_simp; try rfl)
        simp only [Act.put, List.setIfInBounds_toArray, List.set_cons_zero, List.set_cons_succ]
        refine regB_take (v := ?_) 11 (some 56) rfl rfl (by kernel_rfl) (by kernel_rfl) (by kernel_rfl) (fun _ _ _ h => h) (by rfl) (fun W hW => ?_) ?_
        rotate_left
        · (go_simp; try rfl)
        simp only [Act.put, List.setIfInBounds_toArray, List.set_cons_zero, List.set_cons_succ]
        refine regB_eff2 8 16 rfl rfl (by kernel_rfl) (fun K hK => ?_) (fun K hK => ?_)
        · skip
          go_simp
          refine (HBA.out _ (HRW.out _ HX.out)).mono ?_
          rintro e w3 ⟨rfl, hE0⟩
          try have F6 := Lib.hid ((hE0.block _ (lt_of_heap F6.out)).trans F6.out)
          have hE := RowKit.Below.mono hE0 HX.out.size
          clear hE0
          refine hK.out _ _ hE ?_
          have HX := Lib.hid (Below.trans HX.out hE)
          clear hE hK K
          try simp only [Act.put, List.setIfInBounds_toArray, List.set_cons_zero, List.set_cons_succ]
          refine regB_eff2 12 16 rfl rfl (by kernel_rfl) (fun K hK => ?_) (fun K hK => ?_)
          · skip
            go_simp
            refine (HWA.out _ (HSW.out _ HX.out) (HRW.out _ HX.out)).mono ?_
            rintro e w4 ⟨A7, c8, rfl, hA7, hP7, hE0⟩
            try have F6 := Lib.hid ((hE0.block _ (lt_of_heap F6.out)).trans F6.out)
            have HSR := Lib.hid (hA7.below hE0)
            have HP7 := Lib.hid hP7
            have hE := RowKit.Below.mono hE0 HX.out.size
            clear hE0 hA7 hP7
            refine hK.out _ _ hE ?_
            have HX := Lib.hid (Below.trans HX.out hE)
            clear hE hK K
            try simp only [Act.put, List.setIfInBounds_toArray, List.set_cons_zero, List.set_cons_succ]
            refine regB_take (v := ?_) 13 (some 44) rfl rfl (by kernel_rfl) (by kernel_rfl) (by kernel_rfl) (fun _ _ _ h => h) (by rfl) (fun W hW => ?_) ?_
            rotate_left
            · (go_simp; try rfl)
            simp only [Act.put, List.setIfInBounds_toArray, List.set_cons_zero, List.set_cons_succ]
            refine regB_take (v := ?_) 14 (some 58) rfl rfl (by kernel_rfl) (by kernel_rfl) (by kernel_rfl) (fun _ _ _ h => h) (by rfl) (fun W hW => ?_) ?_
            rotate_left
            · (go_simp; try rfl)
            simp only [Act.put, List.setIfInBounds_toArray, List.set_cons_zero, List.set_cons_succ]
            refine regB_take (v := ?_) 15 (some 59) rfl rfl (by kernel_rfl) (by kernel_rfl) (by kernel_rfl) (fun _ _ _ h => h) (by rfl) (fun W hW => ?_) ?_
            rotate_left
            · (go_simp; try rfl)
            simp only [Act.put, List.setIfInBounds_toArray, List.set_cons_zero, List.set_cons_succ]
            refine regB_eff 16 rfl (by kernel_rfl) (fun K hK => ?_)
            go_simp
            generalize hV : World.alloc _ _ = W7
            have F6 := Lib.hid (heap_of_alloc hV)
            try have HSR := Lib.hid (HSR.out.below (below_of_alloc hV (Nat.le_refl _)))
            have hE := below_of_alloc hV HX.out.size
            have HG6 := Lib.hid HX.out.size
            clear hV
            refine hK.out _ _ hE ?_
            have HX := Lib.hid (Below.trans HX.out hE)
            clear hE hK K
            try simp only [Act.put, List.setIfInBounds_toArray, List.set_cons_zero, List.set_cons_succ]
            refine regB_eff 17 rfl (by kernel_rfl) (fun K hK => ?_)
            refine step_st1 rfl 85 (.tmp 6) (.tmp 58) rfl (store_arr (cs := Y2.map wv) hi8b.out (wv_one _) (old := List.replicate 8 (Value.int .u32 0)) F6.out hle.out) ?_
            generalize hV : World.setRow _ _ _ = W8
            have F7 := Lib.hid (heap_of_setRow hV F6.out)
            have hE := below_of_setRow hV HG6.out HX.out.size
            have HSF : Hid (Sl W8 A7 c8 R) := by rw [← hV]; exact HSR.out.gr (gr_setRow _ _ _) (HP7.out _ (apart_cut (HAB.out _ HG6.out)))
            clear hV
            refine hK.out _ _ hE ?_
            have HX := Lib.hid (Below.trans HX.out hE)
            clear hE hK K
            try simp only [Act.put, List.setIfInBounds_toArray, List.set_cons_zero, List.set_cons_succ]
            refine regB_take (v := ?_) 18 (some 7) rfl rfl (by kernel_rfl) (by kernel_rfl) (by kernel_rfl) (fun _ _ _ h => h) (by rfl) (fun W hW => ?_) ?_
            rotate_left
            · (go_simp; try rfl)
            simp only [Act.put, List.setIfInBounds_toArray, List.set_cons_zero, List.set_cons_succ]
            refine regB_done (by kernel_rfl) ?_
            go_wp2
            go_meet
            exact ⟨_, _, _, rfl, rfl, HG6, HX, F7, HSF, HP7.out _ (apart_cut HAP'.out)⟩
          · skip
            go_simp
            generalize hV : World.alloc _ _ = W7
            have F6 := Lib.hid (heap_of_alloc hV)
            try have HSR := Lib.hid (HSR.out.below (below_of_alloc hV (Nat.le_refl _)))
            have hE := below_of_alloc hV HX.out.size
            have HG6 := Lib.hid HX.out.size
            clear hV
            refine hK.out _ _ hE ?_
            have HX := Lib.hid (Below.trans HX.out hE)
            clear hE hK K
            try simp only [Act.put, List.setIfInBounds_toArray, List.set_cons_zero, List.set_cons_succ]
            refine regB_eff 12 rfl (by kernel_rfl) (fun K hK => ?_)
            go_simp
            refine (HWA.out _ (HSW.out _ HX.out) (HRW.out _ HX.out)).mono ?_
            rintro e w4 ⟨A7, c8, rfl, hA7, hP7, hE0⟩
            try have F6 := Lib.hid ((hE0.block _ (lt_of_heap F6.out)).trans F6.out)
            have HSR := Lib.hid (hA7.below hE0)
            have HP7 := Lib.hid hP7
            have hE := RowKit.Below.mono hE0 HX.out.size
            clear hE0 hA7 hP7
            refine hK.out _ _ hE ?_
            have HX := Lib.hid (Below.trans HX.out hE)
            clear hE hK K
            try simp only [Act.put, List.setIfInBounds_toArray, List.set_cons_zero, List.set_cons_succ]
            refine regB_take (v := ?_) 13 (some 44) rfl rfl (by kernel_rfl) (by kernel_rfl) (by kernel_rfl) (fun _ _ _ h => h) (by rfl) (fun W hW => ?_) ?_
            rotate_left
            · (go_simp; try rfl)
            simp only [Act.put, List.setIfInBounds_toArray, List.set_cons_zero, List.set_cons_succ]
            refine regB_take (v := ?_) 14 (some 58) rfl rfl (by kernel_rfl) (by kernel_rfl) (by kernel_rfl) (fun _ _ _ h => h) (by rfl) (fun W hW => ?_) ?_
            rotate_left
            · (go_simp; try rfl)
            simp only [Act.put, List.setIfInBounds_toArray, List.set_cons_zero, List.set_cons_succ]
            refine regB_take (v := ?_) 15 (some 59) rfl rfl (by kernel_rfl) (by kernel_rfl) (by kernel_rfl) (fun _ _ _ h => h) (by rfl) (fun W hW => ?_) ?_
            rotate_left
            · (go_simp; try rfl)
            simp only [Act.put, List.setIfInBounds_toArray, List.set_cons_zero, List.set_cons_succ]
            refine regB_eff 17 rfl (by kernel_rfl) (fun K hK => ?_)
            refine step_st1 rfl 85 (.tmp 6) (.tmp 58) rfl (store_arr (cs := Y2.map wv) hi8b.out (wv_one _) (old := List.replicate 8 (Value.int .u32 0)) F6.out hle.out) ?_
            generalize hV : World.setRow _ _ _ = W8
            have F7 := Lib.hid (heap_of_setRow hV F6.out)
            have hE := below_of_setRow hV HG6.out HX.out.size
            have HSF : Hid (Sl W8 A7 c8 R) := by rw [← hV]; exact HSR.out.gr (gr_setRow _ _ _) (HP7.out _ (apart_cut (HAB.out _ HG6.out)))
            clear hV
            refine hK.out _ _ hE ?_
            have HX := Lib.hid (Below.trans HX.out hE)
            clear hE hK K
            try simp only [Act.put, List.setIfInBounds_toArray, List.set_cons_zero, List.set_cons_succ]
            refine regB_take (v := ?_) 18 (some 7) rfl rfl (by kernel_rfl) (by kernel_rfl) (by kernel_rfl) (fun _ _ _ h => h) (by rfl) (fun W hW => ?_) ?_
            rotate_left
            · (go_simp; try rfl)
            simp only [Act.put, List.setIfInBounds_toArray, List.set_cons_zero, List.set_cons_succ]
            refine regB_done (by kernel_rfl) ?_
            go_wp2
            go_meet
            exact ⟨_, _, _, rfl, rfl, HG6, HX, F7, HSF, HP7.out _ (apart_cut HAP'.out)⟩
        · skip
          go_simp
          generalize hV : World.alloc _ _ = W7
          have F6 := Lib.hid (heap_of_alloc hV)
          try have HSR := Lib.hid (HSR.out.below (below_of_alloc hV (Nat.le_refl _)))
          have hE := below_of_alloc hV HX.out.size
          have HG6 := Lib.hid HX.out.size
          clear hV
          refine hK.out _ _ hE ?_
          have HX := Lib.hid (Below.trans HX.out hE)
          clear hE hK K
          try simp only [Act.put, List.setIfInBounds_toArray, List.set_cons_zero, List.set_cons_succ]
          refine regB_eff 8 rfl (by kernel_rfl) (fun K hK => ?_)
          go_simp
          refine (HBA.out _ (HRW.out _ HX.out)).mono ?_
          rintro e w3 ⟨rfl, hE0⟩
          try have F6 := Lib.hid ((hE0.block _ (lt_of_heap F6.out)).trans F6.out)
          have hE := RowKit.Below.mono hE0 HX.out.size
          clear hE0
          refine hK.out _ _ hE ?_
          have HX := Lib.hid (Below.trans HX.out hE)
          clear hE hK K
          try simp only [Act.put, List.setIfInBounds_toArray, List.set_cons_zero, List.set_cons_succ]
          refine regB_eff 12 rfl (by kernel_rfl) (fun K hK => ?_)
          go_simp
          refine (HWA.out _ (HSW.out _ HX.out) (HRW.out _ HX.out)).mono ?_
          rintro e w4 ⟨A7, c8, rfl, hA7, hP7, hE0⟩
          try have F6 := Lib.hid ((hE0.block _ (lt_of_heap F6.out)).trans F6.out)
          have HSR := Lib.hid (hA7.below hE0)
          have HP7 := Lib.hid hP7
          have hE := RowKit.Below.mono hE0 HX.out.size
          clear hE0 hA7 hP7
          refine hK.out _ _ hE ?_
          have HX := Lib.hid (Below.trans HX.out hE)
          clear hE hK K
          try simp only [Act.put, List.setIfInBounds_toArray, List.set_cons_zero, List.set_cons_succ]
          refine regB_take (v := ?_) 13 (some 44) rfl rfl (by kernel_rfl) (by kernel_rfl) (by kernel_rfl) (fun _ _ _ h => h) (by rfl) (fun W hW => ?_) ?_
          rotate_left
          · (go_simp; try rfl)
          simp only [Act.put, List.setIfInBounds_toArray, List.set_cons_zero, List.set_cons_succ]
          refine regB_take (v := ?_) 14 (some 58) rfl rfl (by kernel_rfl) (by kernel_rfl) (by kernel_rfl) (fun _ _ _ h => h) (by rfl) (fun W hW => ?_) ?_
          rotate_left
          · (go_simp; try rfl)
          simp only [Act.put, List.setIfInBounds_toArray, List.set_cons_zero, List.set_cons_succ]
          refine regB_take (v := ?_) 15 (some 59) rfl rfl (by kernel_rfl) (by kernel_rfl) (by kernel_rfl) (fun _ _ _ h => h) (by rfl) (fun W hW => ?_) ?_
          rotate_left
          · (go_simp; try rfl)
          simp only [Act.put, List.setIfInBounds_toArray, List.set_cons_zero, List.set_cons_succ]
          refine regB_eff 17 rfl (by kernel_rfl) (fun K hK => ?_)
          refine step_st1 rfl 85 (.tmp 6) (.tmp 58) rfl (store_arr (cs := Y2.map wv) hi8b.out (wv_one _) (old := List.replicate 8 (Value.int .u32 0)) F6.out hle.out) ?_
          generalize hV : World.setRow _ _ _ = W8
          have F7 := Lib.hid (heap_of_setRow hV F6.out)
          have hE := below_of_setRow hV HG6.out HX.out.size
          have HSF : Hid (Sl W8 A7 c8 R) := by rw [← hV]; exact HSR.out.gr (gr_setRow _ _ _) (HP7.out _ (apart_cut (HAB.out _ HG6.out)))
          clear hV
          refine hK.out _ _ hE ?_
          have HX := Lib.hid (Below.trans HX.out hE)
          clear hE hK K
          try simp only [Act.put, List.setIfInBounds_toArray, List.set_cons_zero, List.set_cons_succ]
          refine regB_take (v := ?_) 18 (some 7) rfl rfl (by kernel_rfl) (by kernel_rfl) (by kernel_rfl) (fun _ _ _ h => h) (by rfl) (fun W hW => ?_) ?_
          rotate_left
          · (go_simp; try rfl)
          simp only [Act.put, List.setIfInBounds_toArray, List.set_cons_zero, List.set_cons_succ]
          refine regB_done (by kernel_rfl) ?_
          go_wp2
          go_meet
          exact ⟨_, _, _, rfl, rfl, HG6, HX, F7, HSF, HP7.out _ (apart_cut HAP'.out)⟩
      case rest =>
        obtain ⟨g6, A', c', rfl, rfl, HG6, HBX, F6, HSX, HAX⟩ := hcut
        have K5 := Lib.hid ((HBX.out.block _ (lt_of_heap HB5.out)).trans HB5.out)
        have KG := Lib.hid (gr_trans HG5.out (gr_of HBX.out))
        have hne : Hid (g6 ≠ g) := by have h1 := HG6.out; have h2 := lt_of_heap HB5.out; show g6 ≠ g; omega
        have sh := Lib.hid (splice_h (RR := RR) H0 Y2 X p (by rw [hY2.out, HL0.out]))
        have hln : Hid (0 + (Y2.map wv).length ≤ (stCells RR H0 X p).length) := by show _ ≤ _; rw [stCells_len _ _ _ HL0.out HXL.out, List.length_map, hY2.out]; omega
        have hZ : ∀ W, (zeroValue 109).run Tryz.prog W = .ok (.agg ((List.replicate 64 (0 : UInt8)).map bv).toArray) W := fun W => by kernel_rfl
        have st := Lib.hid (splice_t (RR := RR) Y2 X (List.replicate 64 0) p 0 hY2.out (by rw [HXL.out]; simp))
        have hsp : Hid (splice X 0 (List.replicate 64 0) = List.replicate 64 0) := by show _ = _; simp [splice, List.drop_of_length_le, HXL.out]
        rw [hsp.out] at st
        have hln2 : Hid (8 + 0 + ((List.replicate 64 (0 : UInt8)).map bv).length ≤ (stCells RR Y2 X p).length) := by show _ ≤ _; rw [stCells_len _ _ _ hY2.out HXL.out]; simp; omega
        have hi64z : Hid ((Tryz.prog.info? 109).map (·.size) = some ((List.replicate 64 (0 : UInt8)).map bv).length) := i64B
        clear HB5 HG5 HBX G0 G1 HSW HRW HBA HWA HAB sl sl2
        go_upto_region 10 with (first
          | (refine wpList_ld rfl 85 (.tmp 6) rfl (load_arr arr8W rfl hi8b.out F6.out) ?_)
          | (refine wpList_st rfl 85 (.tmp 63) (.tmp 61) rfl (store_mid (cs := Y2.map wv) hi8b.out (wv_one _) K5.out hln.out) ?_
             rw [sh.out]
             generalize hV : World.setRow _ _ _ = W7
             have K7 := Lib.hid (heap_of_setRow hV K5.out)
             have KG7 : Hid (w.grownBy W7 (some g)) := by show w.grownBy _ _; rw [← hV]; exact gr_trans KG.out (gr_setRow _ _ _)
             have HSX7 : Hid (Sl W7 A' c' R) := by rw [← hV]; exact HSX.out.gr (gr_setRow _ _ _) HAX.out
             clear hV)
          | (refine wpList_st rfl 109 (.tmp 67) (.tmp 65) rfl (store_mid (cs := (List.replicate 64 (0 : UInt8)).map bv) (off := 8 + 0) hi64z.out (bv_one _) K7.out hln2.out) ?_
             rw [st.out]
             generalize hV : World.setRow _ _ _ = W8
             have K8 := Lib.hid (heap_of_setRow hV K7.out)
             have KG8 : Hid (w.grownBy W8 (some g)) := by show w.grownBy _ _; rw [← hV]; exact gr_trans KG7.out (gr_setRow _ _ _)
             have HSX8 : Hid (Sl W8 A' c' R) := by rw [← hV]; exact HSX7.out.gr (gr_setRow _ _ _) HAX.out
             clear hV))
        have sl := arr_all arr64B s8 ⟨g, 8, none⟩
        obtain ⟨W9, hrun, hblk, hsz, hgr⟩ := copy_run uT s8 (sT := 22) 3 W8 g (8 + 0) (stCells RR Y2 (List.replicate 64 0) p) tyS K8.out (some ⟨g, 8, none⟩) A' 64 64 q7 c' W8.heap.size (R.map bv) (by rw [List.length_map, hRl.out]; omega) (fun _ => rfl) HSX8.out.2.2 (by rw [List.length_map, hRl.out, stCells_len _ _ _ hY2.out (by simp)]; omega) (bv_one _)
        rw [splice_t _ _ _ _ _ hY2.out (by rw [hRl.out]; simp; omega), W3.out] at hblk
        have HB9 := Lib.hid hblk
        have HG9 := Lib.hid (gr_trans KG8.out hgr)
        have HRUN9 := Lib.hid hrun
        clear hrun hblk hsz hgr K8 KG8 HSX8 K7 KG7 HSX7
        go_wp2_with (first
          | (refine wpList_cpy rfl (.tmp 71) (.tmp 72) 22 22 rfl HRUN9.out ?_)
          | fail)
        refine bodyPost_end (v := .tuple #[]) (by simp [results, Tryz.results95, go_sem]) rfl ⟨⟨_, rfl⟩, ⟨Y2, hY2.out, fun _ => W2.out, ?_⟩, HG9.out⟩
        rw [hpl.out]; exact HB9.out
end Go.Proofs.YtimgggpojbpfkaaGreatDoor

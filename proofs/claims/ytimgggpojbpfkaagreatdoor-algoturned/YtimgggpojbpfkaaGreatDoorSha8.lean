/- The contracts of sha.finish, sha.Sum. -/
import Derived.Test.YtimgggpojbpfkaaGreatDoorSha7
namespace Go.Proofs.YtimgggpojbpfkaaGreatDoor
open Go.RowKit
set_option maxRecDepth 100000
set_option linter.unusedVariables false
set_option linter.unusedSimpArgs false
/-- the sum of a message of n bytes, of which h has all whole blocks and r the others -/
def finishL (h : List W32) (r : List UInt8) (n : Nat) : List UInt8 := outL (wholeN h (r ++ padL n) ((r.length + (padK n + 8)) / 64))
theorem ne_own (a k : Nat) {n c : Nat} : some a ≠ (Value.slice (some ⟨a + k + 1, 0, none⟩) n c).ownBlock := by
  simp [Value.ownBlock]; omega
theorem ge_own (a k : Nat) {n c : Nat} : ∀ g, (Value.slice (some ⟨a + k, 0, none⟩) n c).ownBlock = some g → a ≤ g := by
  intro g hg; simp [Value.ownBlock] at hg; omega
theorem sl_mk {w : World} {A : Option Addr} {n c : Nat} {bs : List UInt8} (hl : bs.length = n) (h1 : n ≤ c) (h2 : c ≤ maxLen) (hr : RowAt w w.heap.size A (bs.map bv)) : Sl w A c bs := ⟨by omega, h2, hr⟩
theorem own_below {w w' : World} {base : Nat} {e : TypeId} {s : Nat} {v : Value} {n : Nat} {xs : List Value} (h : w.ownsRow base e s v n xs) (hb : Below w.heap.size w w') : w'.ownsRow base e s v n xs := by
  obtain ⟨h0, h | ⟨g, cap, cur, hv, hg, hh, r⟩⟩ := h
  · exact ⟨h0, .inl h⟩
  · exact ⟨h0, .inr ⟨g, cap, cur, hv, hg, (hb.block _ (lt_of_heap hh)).trans hh, r⟩⟩
set_option maxHeartbeats 2000000 in
theorem finish_any (h : List W32) (A : Option Addr) (m c n : Nat) (r : List UInt8) (w : World) (hh : h.length = 8) (hl : r.length = m) (hm : m ≤ 2147000000) (hn : n ≤ 9223372036854775807) (hS : Sl w A c r) (hR : Rnd w) :
    Calls Tryz.prog 60 #[.agg (h.map wv).toArray, .slice A m c, .int .i64 (n : Int)] w fun e w' => e = .returned (.agg ((finishL h r n).map bv).toArray) ∧ Below w.heap.size w w' := by
  have HH := Lib.hid hh; have HL := Lib.hid hl; have HS := Lib.hid hS; have HR := Lib.hid hR; have HN := Lib.hid hn; have HMM := Lib.hid hm
  clear hh hl hS hR hn hm
  go_enter Tryz.func60, Tryz.ntmps60
  have hm31 : 0 + m ≤ 2147483647 := by have := HMM.out; omega
  go_wp2_with (
    at_builtin
    refine wpList_app8 rfl (.tmp 8) (.tmp 9) rfl (w.heap.size + 1 + 1) _ 0 [] rfl ?_ A m c w.heap.size r rfl ?_ ?_ ?_ ?_ ?_
    · exact own_heap (g := w.heap.size + 1 + 1) (heap3 w _ _ _).2.2.1 (Nat.le_refl _) rfl (Nat.zero_le _)
    · exact HS.out.2.2.below (heap3 w _ _ _).2.2.2
    · exact HL.out
    · exact hm31
    · exact Nat.le_of_lt (lt_of_heap (heap3 w _ _ _).2.2.1)
    rintro v1 w1 hown hgr
    have HO1 := Lib.hid hown
    have F0 := Lib.hid ((hgr.block w.heap.size (lt_of_heap (heap3 w _ _ _).1) (ne_own w.heap.size 1)).trans (heap3 w _ _ _).1)
    have F1 := Lib.hid ((hgr.block (w.heap.size + 1) (lt_of_heap (heap3 w _ _ _).2.1) (ne_own (w.heap.size + 1) 0)).trans (heap3 w _ _ _).2.1)
    have FB := Lib.hid ((heap3 w _ _ _).2.2.2.grown hgr (heap3 w _ _ _).2.2.2.size (ge_own w.heap.size 2))
    clear hown hgr)
  refine (pad_any n w1 HN.out).mono ?_
  rintro e w2 ⟨v2, rfl, hO2, hB2⟩
  obtain ⟨A2, c2, rfl, hl2, _, _, hr2⟩ := own_read hO2
  have HO2 := Lib.hid hr2
  have HL2 := Lib.hid hl2
  have HB2 := Lib.hid hB2
  clear hO2 hr2 hl2 hB2
  have HO1' := Lib.hid (own_below HO1.out HB2.out)
  have G0 := Lib.hid ((HB2.out.block _ (lt_of_heap F0.out)).trans F0.out)
  have G1 := Lib.hid ((HB2.out.block _ (lt_of_heap F1.out)).trans F1.out)
  have GB := Lib.hid (FB.out.step HB2.out)
  have hk31 : 0 + m + (padK n + 8) ≤ 2147483647 := by have := HMM.out; have := padK_pos n; omega
  have hb31 : Hid (w.heap.size + 1 + 1 ≤ w2.heap.size) := by have := lt_of_heap G1.out; show _ ≤ _; omega
  clear HO1 F0 F1 FB HB2
  generalize hkk : padK n + 8 = k at HL2 HO2 hk31 ⊢
  have HKK := Lib.hid hkk
  clear hkk
  have hne : Hid (∀ g, g < w.heap.size + 1 + 1 → some g ≠ v1.ownBlock) := fun g hg hq => by have := (HO1'.out.lt g hq.symm).1; omega
  have hge : Hid (∀ g, v1.ownBlock = some g → w.heap.size ≤ g) := fun g hq => by have := (HO1'.out.lt g hq).1; omega
  have hl8 : Hid ((Tryz.prog.info? 85).map (·.size) = some (h.map wv).length) := by show _ = _; rw [List.length_map, HH.out]; exact i8W
  have hlt0 := Lib.hid (lt_of_heap G0.out)
  have hlt1 := Lib.hid (lt_of_heap G1.out)
  have hs0 : Hid (w.heap.size < w.heap.size + 1 + 1) := by show _ < _; omega
  have hs1 : Hid (w.heap.size + 1 < w.heap.size + 1 + 1) := by show _ < _; omega
  go_wp2_with (first
    | (at_builtin
       clear hm31
       refine wpList_app8 rfl (.tmp 10) (.tmp 12) rfl (w.heap.size + 1 + 1) _ (0 + m) ([] ++ r) rfl ?_ A2 k c2 w2.heap.size (padL n) rfl ?_ ?_ ?_ ?_ ?_
       · exact HO1'.out
       · exact HO2.out
       · exact HL2.out
       · exact hk31
       · exact hb31.out
       rintro v3 w3 hown hgr
       have HO3 := Lib.hid hown
       have K0 := Lib.hid ((hgr.block _ hlt0.out (hne.out _ hs0.out)).trans G0.out)
       have K1 := Lib.hid ((hgr.block _ hlt1.out (hne.out _ hs1.out)).trans G1.out)
       have KB := Lib.hid (GB.out.grown hgr GB.out.size hge.out)
       clear hown hgr)
    | (refine wpList_ld rfl 85 (.tmp 3) rfl (load_arr arr8W rfl hl8.out K0.out) ?_))
  obtain ⟨A3, c3, rfl, hl3, h31, h32, hr3⟩ := own_read HO3.out
  obtain ⟨R, hRR⟩ : ∃ R, R = [] ++ r ++ padL n := ⟨_, rfl⟩
  rw [← hRR] at hl3 hr3
  have HS3 := Lib.hid (sl_mk hl3 h31 h32 hr3)
  have HL3 := Lib.hid hl3
  have HRR := Lib.hid hRR
  clear hl3 h31 h32 hr3 hRR HO3
  generalize hN : 0 + m + k = N at HL3 ⊢
  have HN' := Lib.hid hN
  clear hN hk31
  have HR3 : Hid (Rnd w3) := HR.out.ext KB.out
  clear HO1' HO2 HL2 G0 G1 GB hne hge hlt0 hlt1 hs0 hs1 hb31
  have hFL : Hid (finishL h r n = outL (wholeN h R (N / 64))) := by
    show _ = _
    rw [finishL, HRR.out, ← HN'.out, HL.out, HKK.out, List.nil_append, Nat.zero_add]
  have hYl := Lib.hid (wholeN_len h R (N / 64) HH.out)
  refine (whole_any h A3 N c3 R w3 HH.out HL3.out HS3.out HR3.out).mono ?_
  generalize wholeN h R (N / 64) = Y at hFL hYl ⊢
  rintro e w4 ⟨A4, c4, rfl, _, hB4⟩
  have L0 := Lib.hid ((hB4.block _ (lt_of_heap K0.out)).trans K0.out)
  have L1 := Lib.hid ((hB4.block _ (lt_of_heap K1.out)).trans K1.out)
  have LB := Lib.hid (KB.out.step hB4)
  have hi8 : Hid ((Tryz.prog.info? 85).map (·.size) = some (Y.map wv).length) := by show _ = _; rw [List.length_map, hYl.out]; exact i8W
  have hle : Hid ((h.map wv).length = (Y.map wv).length) := by show _ = _; rw [List.length_map, List.length_map, HH.out, hYl.out]
  clear K0 K1 KB hB4 HS3 HL3 HR3
  go_wp2_with (first
    | (refine wpList_st rfl 85 (.tmp 3) (.tmp 18) rfl (store_arr (cs := Y.map wv) hi8.out (wv_one _) L0.out hle.out) ?_
       generalize hV : World.setRow _ _ _ = W5
       have M0 := Lib.hid (heap_of_setRow hV L0.out)
       have M1 := Lib.hid (heap_of_other hV (Nat.succ_ne_self _) L1.out)
       have MB := Lib.hid (LB.out.trans (below_of_setRow hV (Nat.le_refl _) LB.out.size))
       clear hV)
    | (refine wpList_ld rfl 85 (.tmp 3) rfl (load_arr arr8W rfl hi8.out M0.out) ?_))
  refine (out_any Y W5 hYl.out).mono ?_
  have hZl : Hid (((outL Y).map bv).length = 32) := by show _ = _; rw [List.length_map, outL_len, hYl.out]
  generalize outL Y = Z at hZl hFL ⊢
  rintro e w6 ⟨rfl, hB6⟩
  have P1 := Lib.hid ((hB6.block _ (lt_of_heap M1.out)).trans M1.out)
  have PB := Lib.hid (MB.out.step hB6)
  have hi32 : Hid ((Tryz.prog.info? 65).map (·.size) = some (Z.map bv).length) := by show _ = _; rw [hZl.out]; exact i32B
  clear M0 M1 MB hB6 L0 L1 LB
  go_wp2_with (first
    | (refine wpList_st rfl 65 (.tmp 6) (.tmp 21) rfl (store_arr (cs := Z.map bv) (old := List.replicate 32 (Value.int .u8 0)) hi32.out (bv_one _) P1.out (by rw [hZl.out]; simp)) ?_)
    | fail)
  have hres := setRow_heap w6 (w.heap.size + 1) _ (Z.map bv).toArray 65 _ P1.out
  rw [hFL.out]
  exact bodyPost_ret (results_cell_row (P := Tryz.prog) rfl _ _ (w.heap.size + 1) 65 (Z.map bv).toArray (0, 0) _ rfl hres arr32B rfl (by rw [List.size_toArray, hZl.out]; exact i32B)) rfl ⟨rfl, PB.out.trans (grown_below (grown_setRow _ _ _) (by omega) PB.out.size)⟩
end Go.Proofs.YtimgggpojbpfkaaGreatDoor

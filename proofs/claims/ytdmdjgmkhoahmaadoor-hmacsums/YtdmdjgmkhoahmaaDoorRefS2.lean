/- The reference's Out and Padded of layer 2. -/
import Derived.Test.YtdmdjgmkhoahmaaDoorRefS1
import Derived.Test.YtdmdjgmkhoahmaaDoorRef1
import Derived.Test.YtdmdjgmkhoahmaaDoorSha8
import Derived.Lib.SmallJoins
namespace Go.Proofs.YtdmdjgmkhoahmaaDoor
open Go.RowKit
set_option linter.unusedVariables false
set_option linter.unusedSimpArgs false
theorem outL_snoc (h : List W32) (i : Nat) (hi : i < h.length) : outL (h.take (i + 1)) = outL (h.take i) ++ putBig (h.getD i 0).toNat 4 := by
  rw [List.take_succ_eq_append_getElem hi, outL, List.flatMap_append]
  simp [outL, List.getD, hi]
theorem own_ge {w : World} {base : Nat} {e : TypeId} {s : Nat} {v : Value} {n : Nat} {xs : List Value} (h : w.ownsRow base e s v n xs) {B : Nat} (hB : B ≤ base) : ∀ g, v.ownBlock = some g → B ≤ g := fun g hq => Nat.le_trans hB (h.lt g hq).1
theorem own_ne {w : World} {base : Nat} {e : TypeId} {s : Nat} {v : Value} {n : Nat} {xs : List Value} (h : w.ownsRow base e s v n xs) {g : Nat} (hB : g < base) : some g ≠ v.ownBlock := fun hq => by have := (h.lt g hq.symm).1; omega
set_option maxHeartbeats 2000000 in
theorem refOut_any (h : List W32) (w : World) (hh : h.length = 8) :
    Calls Tryd.prog 28 #[.agg (h.map wv).toArray] w fun e w' => ∃ v, e = .returned v ∧ w'.ownsRow w.heap.size 5 1 v 32 ((outL h).map bv) ∧ Below w.heap.size w w' := by
  have HH := Lib.hid hh
  clear hh
  go_enter Tryd.func28, Tryd.ntmps28
  go_wp2_with fail
  generalize hV : w.alloc _ = W0
  have F0 : Hid (W0.heap[w.heap.size]? = some (.cells (h.map wv).toArray 40 (0, 0))) := heap_of_alloc hV
  have FB := Lib.hid (below_of_alloc hV (Nat.le_refl w.heap.size))
  clear hV
  go_loopw [3, 4] (fun vo vi wr => ∃ (i p : Nat), i ≤ 8 ∧ vi = .int .i64 (i : Int) ∧ Hid (p = 4 * i) ∧ Hid (wr.ownsRow (w.heap.size + 1) 5 1 vo p ((outL (h.take i)).map bv)) ∧ Hid (Below w.heap.size w wr) ∧ Hid (wr.heap[w.heap.size]? = some (.cells (h.map wv).toArray 40 (0, 0)))) (fun _ i _ => 8 - (intOf i).toNat)
  case atStart => exact ⟨0, 0, by omega, rfl, rfl, World.ownsRow_nil _ _ _ _, FB, F0⟩
  case round =>
    clear F0 FB
    obtain ⟨i, p, hi, rfl, HP, HO, HB, H0⟩ := hrel
    by_cases hlt : i < 8
    · have e1 : (i : Int) < 8 := by omega
      have c0 := wcell H0.out i (by rw [HH.out]; exact hlt)
      have HS := Lib.hid (outL_snoc h i (by rw [HH.out]; exact hlt))
      generalize h.getD i 0 = x at c0 HS
      have hx : (x.toNat : Int) % 18446744073709551616 = (x.toNat : Int) := by have := x.isLt; omega
      have hxl : Hid (x.toNat < 18446744073709551616) := by have := x.isLt; show _ < _; omega
      go_wp2_with fail
      refine (refPutBig_any x.toNat 4 wr hxl.out (by omega)).mono ?_
      rintro e w1 ⟨v1, rfl, hO1, hB1⟩
      obtain ⟨A1, c1, rfl, hl1, _, _, hr1⟩ := own_read hO1
      have HR1 := Lib.hid hr1; have HL1 := Lib.hid hl1
      have HO' := Lib.hid (own_below HO.out hB1)
      have HB1 := Lib.hid (HB.out.step hB1)
      have H01 := Lib.hid ((hB1.block _ (lt_of_heap H0.out)).trans H0.out)
      have hs1 : Hid (w.heap.size + 1 ≤ w1.heap.size) := by have := lt_of_heap H01.out; show _ ≤ _; omega
      have hp31 : Hid (p + 4 ≤ 2147483647) := by have := HP.out; show _ ≤ _; omega
      clear hO1 hl1 hr1 hB1 HO HB H0
      go_wp2_with (
        at_builtin
        refine wpList_app8 rfl (.tmp 9) (.tmp 14) rfl (w.heap.size + 1) _ p (outL (h.take i)) rfl ?_ A1 4 c1 w1.heap.size (putBig x.toNat 4) rfl ?_ ?_ ?_ ?_ ?_
        · exact HO'.out
        · exact HR1.out
        · exact HL1.out
        · exact hp31.out
        · exact hs1.out
        rintro v2 w2 hown hgr
        rw [← HS.out] at hown
        have HO2 := Lib.hid hown
        have HB2 := Lib.hid (HB1.out.grown hgr HB1.out.size (own_ge HO'.out (Nat.le_succ _)))
        have H02 := Lib.hid ((hgr.block _ (lt_of_heap H01.out) (own_ne HO'.out (Nat.lt_succ_self _))).trans H01.out)
        clear hown hgr)
      go_roundw
      case rel => exact ⟨i + 1, p + 4, by omega, by go_num, (by have := HP.out; show _ = _; omega), HO2, HB2, H02⟩
      case measure => simp [intOf]; omega
    · have hp : p = 32 := by have := HP.out; omega
      have HO' := HO.out
      rw [hp, show i = 8 by omega, List.take_of_length_le (by rw [HH.out]; omega)] at HO'
      have HO2 := Lib.hid HO'
      clear hp HO' HO
      go_wp2
      go_ret
      exact ⟨_, rfl, Joins.ownsRow_le HO2.out (Nat.le_succ _), HB.out⟩

theorem padTail (n : Nat) : padL n = 128 :: (List.replicate (padK n - 1) 0 ++ putBig (8 * n % 18446744073709551616) 8) := rfl
theorem rep_snoc (k : Nat) : List.replicate (k + 1) (0 : UInt8) = List.replicate k 0 ++ [0] := by rw [List.replicate_succ']
theorem one_row (w : World) (b : UInt8) : RowAt (w.alloc (.cells #[.int .u8 (b.toNat : Int)] 5)) (w.heap.size + 1) (some ⟨w.heap.size, 0, none⟩) ([b].map bv) :=
  row_of_heap (t := 5) (fr := (0, 0)) (heap_alloc_new' w _) (Nat.lt_succ_self _)
set_option maxHeartbeats 2000000 in
theorem refPadded_any (A : Option Addr) (n c : Nat) (bs : List UInt8) (w : World) (hl : bs.length = n) (hn : n ≤ 2147000000) (hS : Sl w A c bs) :
    Calls Tryd.prog 25 #[.slice A n c] w fun e w' => ∃ v, e = .returned v ∧ w'.ownsRow w.heap.size 5 1 v (n + (padK n + 8)) ((bs ++ padL n).map bv) ∧ Below w.heap.size w w' := by
  have HL := Lib.hid hl; have HN := Lib.hid hn; have HS := Lib.hid hS
  clear hl hn hS
  have hm31 : 0 + n ≤ 2147483647 := by have := HN.out; omega
  go_enter Tryd.func25, Tryd.ntmps25
  go_wp2_with (first
    | (at_builtin
       refine wpList_app8 (o := ⟨some 6, _, _, _, _, _⟩) rfl (.tmp 4) (.tmp 5) rfl w.heap.size _ 0 [] rfl ?_ A n c w.heap.size bs rfl ?_ ?_ ?_ ?_ ?_
       · exact own_heap (g := w.heap.size) (heap_alloc_new' w _) (Nat.le_refl _) rfl (Nat.zero_le _)
       · exact HS.out.2.2.below ((Below.refl _ _).alloc (Nat.le_refl _) _)
       · exact HL.out
       · exact hm31
       · simp
       rintro v1 w1 hown hgr
       have HO1 := Lib.hid hown
       have FB := Lib.hid (((Below.refl w.heap.size w).alloc (Nat.le_refl _) _).grown hgr (by simp) (ge_own w.heap.size 0))
       have FB1 := Lib.hid (FB.out.alloc FB.out.size (.cells #[.int .u8 128] 5))
       have HO1' := Lib.hid (own_below HO1.out ((Below.refl w1.heap.size w1).alloc (Nat.le_refl _) (.cells #[.int .u8 128] 5)))
       have hs1 : Hid (w.heap.size ≤ w1.heap.size + 1) := Nat.le_succ_of_le FB.out.size
       have hk31 : 0 + n + 1 ≤ 2147483647 := by have := HN.out; omega
       clear hown hgr)
    | (at_builtin
       refine wpList_app8 (o := ⟨some 9, _, _, _, _, _⟩) rfl (.tmp 7) (.tmp 8) rfl w.heap.size _ (0 + n) ([] ++ bs) rfl ?_ (some ⟨w1.heap.size, 0, none⟩) 1 1 (w1.heap.size + 1) [128] rfl ?_ ?_ ?_ ?_ ?_
       · exact HO1'.out
       · exact one_row w1 128
       · rfl
       · exact hk31
       · simp; exact hs1.out
       rintro v2 w2 hown hgr
       have HO2 := Lib.hid hown
       have FB2 := Lib.hid (FB1.out.grown hgr (by simp; exact hs1.out) (own_ge HO1'.out (Nat.le_refl _)))
       clear hown hgr))
  go_loopw [3] (fun vo wr => ∃ (q p : Nat) (A' : Option Addr) (c' : Nat), vo = .slice A' p c' ∧ p ≤ n + 64 ∧ Hid (q + 1 ≤ padK n) ∧ Hid (p = n + 1 + q) ∧ Hid (wr.ownsRow w.heap.size 5 1 (.slice A' p c') p ((bs ++ 128 :: List.replicate q 0).map bv)) ∧ Hid (Below w.heap.size w wr)) (fun v _ => n + 64 - sliceLen v)
  case atStart =>
    obtain ⟨A2, c2, rfl, _, _, _, _⟩ := own_read HO2.out
    refine ⟨0, 0 + n + 1, A2, c2, rfl, by omega, (padK_pos n).1, ?_, ?_, FB2⟩
    · show _ = _; omega
    · have := HO2.out; rw [List.nil_append] at this; exact this
  case round =>
    clear HO2 FB2 HO1' FB1 HO1 FB hs1 hk31 hm31
    obtain ⟨q, p, A', c', rfl, hp, HQ, HP, HO, HB⟩ := hrel
    have hn31 : n ≤ 2147000000 := HN.out
    by_cases hlt : q + 1 < padK n
    · have e1 : ((p : Int) % 64 != 56) = true := by
        have h1 := HP.out
        have h2 := hlt; unfold padK at h2
        simp; omega
      have hp31 : Hid (p + 1 ≤ 2147483647) := by show _ ≤ _; omega
      have hs1 := Lib.hid (HB.out.size)
      have HB1 := Lib.hid (HB.out.alloc HB.out.size (.cells #[.int .u8 0] 5))
      have HO1 := Lib.hid (own_below HO.out ((Below.refl wr.heap.size wr).alloc (Nat.le_refl _) (.cells #[.int .u8 0] 5)))
      go_wp2_with (
        at_builtin
        refine wpList_app8 rfl (.tmp 14) (.tmp 15) rfl w.heap.size _ p (bs ++ 128 :: List.replicate q 0) rfl ?_ (some ⟨wr.heap.size, 0, none⟩) 1 1 (wr.heap.size + 1) [0] rfl ?_ ?_ ?_ ?_ ?_
        · exact HO1.out
        · exact one_row wr 0
        · rfl
        · exact hp31.out
        · simp; exact Nat.le_succ_of_le hs1.out
        rintro v2 w2 hown hgr
        obtain ⟨A2, c2, rfl, _, _, _, _⟩ := own_read hown
        have HO2 := Lib.hid hown
        have FB2 := Lib.hid (HB1.out.grown hgr (by simp; exact Nat.le_succ_of_le hs1.out) (own_ge HO1.out (Nat.le_refl _)))
        clear hown hgr)
      go_roundw
      case rel =>
        refine ⟨q + 1, p + 1, A2, c2, rfl, ?_, hlt, ?_, ?_, FB2⟩
        · have h1 := HP.out; have := padK_pos n; omega
        · have h1 := HP.out; show _ = _; omega
        · have := HO2.out; rw [List.append_assoc, List.cons_append, ← rep_snoc] at this; exact this
      case measure => show n + 64 - (p + 1) < n + 64 - p; have h1 := HP.out; have := padK_pos n; omega
    · have e1 : ((p : Int) % 64 != 56) = false := by
        have h1 := HP.out
        have h2 := hlt; unfold padK at h2
        have h3 := HQ.out; unfold padK at h3
        simp; omega
      have hq : q = padK n - 1 := by have := HQ.out; omega
      obtain ⟨x, hx⟩ : ∃ x, x = 8 * n % 18446744073709551616 := ⟨_, rfl⟩
      have e2 : (n : Int) % 18446744073709551616 = (n : Int) := by omega
      have e3 : (n : Int) * 8 = (x : Int) := by omega
      have hx64 : Hid (x < 18446744073709551616) := by show _ < _; omega
      have hpn : Hid (p + 8 = n + (padK n + 8)) := by have := HP.out; have := HQ.out; show _ = _; omega
      have hfin : Hid (bs ++ 128 :: List.replicate q 0 ++ putBig x 8 = bs ++ padL n) := by
        show _ = _
        rw [padTail, hq, hx, List.append_assoc, List.cons_append]
      have HX := Lib.hid hx
      have hp31 : Hid (p + 8 ≤ 2147483647) := by show _ ≤ _; omega
      clear hq hx
      go_wp2_with fail
      refine (refPutBig_any x 8 wr hx64.out (by omega)).mono ?_
      rintro e w1 ⟨v1, rfl, hO1, hB1⟩
      obtain ⟨A1, c1, rfl, hl1, _, _, hr1⟩ := own_read hO1
      have HR1 := Lib.hid hr1; have HL1 := Lib.hid hl1
      have HO' := Lib.hid (own_below HO.out hB1)
      have HB1 := Lib.hid (HB.out.step hB1)
      clear hO1 hl1 hr1 hB1 HO HB
      go_wp2_with (
        at_builtin
        refine wpList_app8 rfl (.tmp 17) (.tmp 22) rfl w.heap.size _ p (bs ++ 128 :: List.replicate q 0) rfl ?_ A1 8 c1 w1.heap.size (putBig x 8) rfl ?_ ?_ ?_ ?_ ?_
        · exact HO'.out
        · exact HR1.out
        · exact HL1.out
        · exact hp31.out
        · exact HB1.out.size
        rintro v2 w2 hown hgr
        rw [hfin.out, hpn.out] at hown
        have HO2 := Lib.hid hown
        have HB2 := Lib.hid (HB1.out.grown hgr HB1.out.size (own_ge HO'.out (Nat.le_refl _)))
        clear hown hgr)
      go_ret
      exact ⟨_, rfl, HO2.out, HB2.out⟩
end Go.Proofs.YtdmdjgmkhoahmaaDoor

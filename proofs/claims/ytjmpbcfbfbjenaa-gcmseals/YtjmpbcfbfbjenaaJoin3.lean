/- Joined: RefX1 RefX2 RefG4 RefG5 RefX3 Rep Cbc1 RefK2 Cbc2 Cbc3 Cbc4 Cbc5 RefK3 RefX4 RefX5. -/
import Derived.Test.YtjmpbcfbfbjenaaJoin2
import Derived.Test.YtjmpbcfbfbjenaaJoin1
import Derived.Test.YtjmpbcfbfbjenaaBits3
import Derived.Lib.MakeNoZero
import Derived.Test.YtjmpbcfbfbjenaaApp
import Derived.Test.YtjmpbcfbfbjenaaAes10
import Derived.Test.YtjmpbcfbfbjenaaSha7
import Derived.Laws.Cover3
import Derived.RangeFuncNested
import Derived.RangeFuncBound
import Derived.RangeFuncCalls
import Derived.RangeFuncLeaves
import Derived.Shelf.Abstract
import Derived.Shelf.RegionOpen
import Derived.WalkKit
import Derived.OwnWalkIn
import Derived.TacticsInMore
import Derived.LoopNIn
import Derived.LoopIn
import Derived.RangeFuncBox
/- palfreyref10.more. -/
namespace Go.Proofs.Ytjmpbcfbfbjenaa
open Go.RowKit
set_option maxRecDepth 100000
set_option linter.unusedVariables false
set_option linter.unusedSimpArgs false
def morL (c : List UInt8) (t : Nat) : List UInt8 := c.take (16 - t) ++ List.replicate t 0
theorem morL_zero (c : List UInt8) (h : c.length = 16) : morL c 0 = c := by simp [morL, List.take_of_length_le, h]
theorem morL_len (c : List UInt8) (t : Nat) (h : c.length = 16) (ht : t ≤ 16) : (morL c t).length = 16 := by simp [morL, h]; omega
theorem morL_get (c : List UInt8) (t p : Nat) (h : c.length = 16) (hp : p + t < 16) : (morL c t).getD p 0 = c.getD p 0 := by
  rw [morL, List.getD_eq_getElem?_getD, List.getElem?_append_left (by rw [List.length_take]; omega), List.getElem?_take_of_lt (by omega), List.getD_eq_getElem?_getD]
theorem morL_next (c : List UInt8) (t p : Nat) (h : c.length = 16) (hp : p + t = 15) : (morL c t).set p 0 = morL c (t + 1) := by
  have hl : (c.take p).length = p := by rw [List.length_take]; omega
  unfold morL
  rw [show 16 - t = p + 1 by omega, show 16 - (t + 1) = p by omega, List.take_succ_eq_append_getElem (by omega), List.append_assoc, List.set_append_right _ _ (by omega), hl, Nat.sub_self]
  rfl
theorem byteAt_eqX (n i : Nat) (x : UInt8) (h : n / 256 ^ i % 256 = x.toNat) : byteAt n i = x := by
  unfold byteAt
  apply UInt8.toNat_inj.1
  rw [UInt8.toNat_ofNat']
  exact h
theorem big_four (a b c d : UInt8) : big [a, b, c, d] = ((a.toNat * 256 + b.toNat) * 256 + c.toNat) * 256 + d.toNat := by
  simp [big, bigN]
theorem put_four (n : Nat) : putBig n 4 = [byteAt n 3, byteAt n 2, byteAt n 1, byteAt n 0] := rfl
theorem u8_succ (x y : UInt8) (h : y = x + 1) : y.toNat = (x.toNat + 1) % 256 := by rw [h, UInt8.toNat_add]; rfl
theorem more_put (c : List UInt8) (hc : c.length = 16) (t p : Nat) (y : UInt8) (ht : t < 4) (hp : p + t = 15) (h255 : ∀ i, p < i → i < 16 → c.getD i 0 = 255) (hy : y = c.getD p 0 + 1) (hne : y ≠ 0) : (morL c t).set p y = cntG c 1 := by
  obtain ⟨a, d, rfl, ha, hd⟩ : ∃ a d, c = a ++ d ∧ a.length = 12 ∧ d.length = 4 := ⟨c.take 12, c.drop 12, (List.take_append_drop 12 c).symm, by rw [List.length_take]; omega, by rw [List.length_drop]; omega⟩
  obtain ⟨b0, b1, b2, b3, rfl⟩ := list4 hd
  have hz : y.toNat ≠ 0 := fun h => hne (UInt8.toNat_inj.1 h)
  have g : ∀ i, (a ++ [b0, b1, b2, b3]).getD (12 + i) 0 = [b0, b1, b2, b3].getD i 0 := fun i => by
    rw [List.getD_eq_getElem?_getD, List.getElem?_append_right (by omega), ha, Nat.add_sub_cancel_left, List.getD_eq_getElem?_getD]
  have l0 := b0.toNat_lt; have l1 := b1.toNat_lt; have l2 := b2.toNat_lt; have l3 := b3.toNat_lt
  have ly := u8_succ _ _ hy
  unfold cntG
  rw [List.take_left' ha, List.drop_left' ha, big_four, put_four]
  have n255 : (255 : UInt8).toNat = 255 := rfl
  rcases (by omega : t = 0 ∨ t = 1 ∨ t = 2 ∨ t = 3) with rfl | rfl | rfl | rfl
  · obtain rfl : p = 15 := by omega
    have e : (a ++ [b0, b1, b2, b3]).getD 15 0 = b3 := g 3
    rw [e] at ly
    have e1 : (morL (a ++ [b0, b1, b2, b3]) 0).set 15 y = a ++ [b0, b1, b2, y] := by
      rw [morL_zero _ hc, List.set_append_right _ _ (by omega), ha]; rfl
    rw [e1]
    congr 1
    rw [byteAt_eqX _ 3 b0 (by first | (simp; done) | (simp; omega)), byteAt_eqX _ 2 b1 (by first | (simp; done) | (simp; omega)), byteAt_eqX _ 1 b2 (by first | (simp; done) | (simp; omega)), byteAt_eqX _ 0 y (by first | (simp; done) | (simp; omega))]
  · obtain rfl : p = 14 := by omega
    have e : (a ++ [b0, b1, b2, b3]).getD 14 0 = b2 := g 2
    have h3 : b3 = 255 := (g 3).symm.trans (h255 15 (by omega) (by omega))
    rw [e] at ly
    subst h3
    have e1 : (morL (a ++ [b0, b1, b2, 255]) 1).set 14 y = a ++ [b0, b1, y, 0] := by
      unfold morL
      rw [(by rw [List.take_append, ha, List.take_of_length_le (by omega)] : (a ++ [b0, b1, b2, 255]).take (16 - 1) = a ++ [b0, b1, b2, (255 : UInt8)].take 3), List.append_assoc, List.set_append_right _ _ (by omega), ha]; rfl
    rw [e1]
    congr 1
    rw [byteAt_eqX _ 3 b0 (by first | (simp; done) | (simp; omega)), byteAt_eqX _ 2 b1 (by first | (simp; done) | (simp; omega)), byteAt_eqX _ 1 y (by first | (simp; done) | (simp; omega)), byteAt_eqX _ 0 0 (by first | (simp; done) | (simp; omega))]
  · obtain rfl : p = 13 := by omega
    have e : (a ++ [b0, b1, b2, b3]).getD 13 0 = b1 := g 1
    have h3 : b3 = 255 := (g 3).symm.trans (h255 15 (by omega) (by omega))
    have h2 : b2 = 255 := (g 2).symm.trans (h255 14 (by omega) (by omega))
    rw [e] at ly
    subst h3; subst h2
    have e1 : (morL (a ++ [b0, b1, 255, 255]) 2).set 13 y = a ++ [b0, y, 0, 0] := by
      unfold morL
      rw [(by rw [List.take_append, ha, List.take_of_length_le (by omega)] : (a ++ [b0, b1, 255, 255]).take (16 - 2) = a ++ [b0, b1, (255 : UInt8), 255].take 2), List.append_assoc, List.set_append_right _ _ (by omega), ha]; rfl
    rw [e1]
    congr 1
    rw [byteAt_eqX _ 3 b0 (by first | (simp; done) | (simp; omega)), byteAt_eqX _ 2 y (by first | (simp; done) | (simp; omega)), byteAt_eqX _ 1 0 (by first | (simp; done) | (simp; omega)), byteAt_eqX _ 0 0 (by first | (simp; done) | (simp; omega))]
  · obtain rfl : p = 12 := by omega
    have e : (a ++ [b0, b1, b2, b3]).getD 12 0 = b0 := g 0
    have h3 : b3 = 255 := (g 3).symm.trans (h255 15 (by omega) (by omega))
    have h2 : b2 = 255 := (g 2).symm.trans (h255 14 (by omega) (by omega))
    have h1 : b1 = 255 := (g 1).symm.trans (h255 13 (by omega) (by omega))
    rw [e] at ly
    subst h3; subst h2; subst h1
    have e1 : (morL (a ++ [b0, 255, 255, 255]) 3).set 12 y = a ++ [y, 0, 0, 0] := by
      unfold morL
      rw [(by rw [List.take_append, ha, List.take_of_length_le (by omega)] : (a ++ [b0, 255, 255, 255]).take (16 - 3) = a ++ [b0, (255 : UInt8), 255, 255].take 1), List.append_assoc, List.set_append_right _ _ (by omega), ha]; rfl
    rw [e1]
    congr 1
    rw [byteAt_eqX _ 3 y (by first | (simp; done) | (simp; omega)), byteAt_eqX _ 2 0 (by first | (simp; done) | (simp; omega)), byteAt_eqX _ 1 0 (by first | (simp; done) | (simp; omega)), byteAt_eqX _ 0 0 (by first | (simp; done) | (simp; omega))]
theorem more_all (c : List UInt8) (hc : c.length = 16) (h255 : ∀ i, 11 < i → i < 16 → c.getD i 0 = 255) : morL c 4 = cntG c 1 := by
  obtain ⟨a, d, rfl, ha, hd⟩ : ∃ a d, c = a ++ d ∧ a.length = 12 ∧ d.length = 4 := ⟨c.take 12, c.drop 12, (List.take_append_drop 12 c).symm, by rw [List.length_take]; omega, by rw [List.length_drop]; omega⟩
  obtain ⟨b0, b1, b2, b3, rfl⟩ := list4 hd
  have g : ∀ i, (a ++ [b0, b1, b2, b3]).getD (12 + i) 0 = [b0, b1, b2, b3].getD i 0 := fun i => by
    rw [List.getD_eq_getElem?_getD, List.getElem?_append_right (by omega), ha, Nat.add_sub_cancel_left, List.getD_eq_getElem?_getD]
  have h3 : b3 = 255 := (g 3).symm.trans (h255 15 (by omega) (by omega))
  have h2 : b2 = 255 := (g 2).symm.trans (h255 14 (by omega) (by omega))
  have h1 : b1 = 255 := (g 1).symm.trans (h255 13 (by omega) (by omega))
  have h0 : b0 = 255 := (g 0).symm.trans (h255 12 (by omega) (by omega))
  subst h3; subst h2; subst h1; subst h0
  unfold cntG morL
  rw [List.take_left' ha, List.drop_left' ha]
  congr 1
theorem cnt_more (F : List UInt8) (k : Nat) (hF : F.length = 16) : cntG (cntG F k) 1 = cntG F (k + 1) := by
  have h2 : (F.take 12).length = 12 := by rw [List.length_take, hF]; rfl
  have hp : (putBig (big (F.drop 12) + k) 4).length = 4 := putBig_len _ _
  unfold cntG
  rw [List.take_left' h2, List.drop_left' h2, big_put _ _ (by omega)]
  congr 1
  generalize big (F.drop 12) = x
  rw [put_four, put_four]
  have e : ∀ i, i < 4 → byteAt ((x + k) % 256 ^ 4 + 1) i = byteAt (x + (k + 1)) i := fun i hi => by
    apply byteAt_eqX
    unfold byteAt
    rw [UInt8.toNat_ofNat']
    rcases (by omega : i = 0 ∨ i = 1 ∨ i = 2 ∨ i = 3) with rfl | rfl | rfl | rfl <;> simp <;> omega
  rw [e 3 (by omega), e 2 (by omega), e 1 (by omega), e 0 (by omega)]
theorem cnt_zero (F : List UInt8) (hF : F.length = 16) : cntG F 0 = F := by
  have h3 : (F.drop 12).length = 4 := by rw [List.length_drop, hF]
  unfold cntG
  obtain ⟨b0, b1, b2, b3, hd⟩ := list4 h3
  rw [Nat.add_zero, hd, big_four, put_four]
  have l0 := b0.toNat_lt; have l1 := b1.toNat_lt; have l2 := b2.toNat_lt; have l3 := b3.toNat_lt
  rw [byteAt_eqX _ 3 b0 (by first | (simp; done) | (simp; omega)), byteAt_eqX _ 2 b1 (by first | (simp; done) | (simp; omega)), byteAt_eqX _ 1 b2 (by first | (simp; done) | (simp; omega)), byteAt_eqX _ 0 b3 (by first | (simp; done) | (simp; omega)), ← hd, List.take_append_drop]
set_option maxHeartbeats 4000000 in
theorem refMore_any (c : List UInt8) (w : World) (hc : c.length = 16) :
    Calls Try.prog 88 #[.agg (c.map bv).toArray] w fun e w' => e = .returned (.agg ((cntG c 1).map bv).toArray) ∧ Below w.heap.size w w' := by
  have hz16 : ∀ W, (zeroValue 23).run Try.prog W = .ok (.agg zeros16.toArray) W := fun W => by kernel_rfl
  have HZL := Lib.hid zeros16_len
  have H0 := Lib.hid (morL_zero c hc)
  have HL := Lib.hid (fun t ht => morL_len c t hc ht)
  have HG := Lib.hid (fun t p hp => morL_get c t p hc hp)
  have HN := Lib.hid (fun t p hp => morL_next c t p hc hp)
  have HP := Lib.hid (fun t p y ht hp h2 hy hne => more_put c hc t p y ht hp h2 hy hne)
  have HA := Lib.hid (more_all c hc)
  have HXL := Lib.hid (cntG_len c 1 hc)
  generalize zeros16 = Z at hz16 HZL
  generalize morL c = ML at H0 HL HG HN HP HA
  generalize cntG c 1 = X at HP HA HXL ⊢
  clear hc
  go_enter Try.func88, Try.ntmps88
  go_wp2_with fail
  generalize hV : (w.alloc _).alloc _ = W0
  have F1 : Hid (W0.heap[w.heap.size]? = some (.cells ((ML 0).map bv).toArray 23 (0, 0))) := by show _ = _; rw [H0.out, ← hV]; exact (heap2 w _ _).1
  have F2 : Hid (W0.heap[w.heap.size + 1]? = some (.cells Z.toArray 23 (0, 0))) := by rw [← hV]; exact (heap2 w _ _).2.1
  have FB : Hid (Below w.heap.size w W0) := by rw [← hV]; exact (heap2 w _ _).2.2
  clear hV
  go_loopw [3] (fun vi wr => ∃ (t p : Nat), Hid (p + t = 15) ∧ t ≤ 4 ∧ vi = .int .i64 (p : Int) ∧ Hid (∀ i, p < i → i < 16 → c.getD i 0 = 255) ∧ Hid (wr.heap[w.heap.size]? = some (.cells ((ML t).map bv).toArray 23 (0, 0))) ∧ Hid (wr.heap[w.heap.size + 1]? = some (.cells Z.toArray 23 (0, 0))) ∧ Hid (Below w.heap.size w wr)) (fun i _ => (intOf i).toNat)
  case atStart => exact ⟨0, 15, rfl, by omega, rfl, fun i h1 h2 => by omega, F1, F2, FB⟩
  case round =>
    clear F1 F2 FB
    obtain ⟨t, p, HPT, ht, rfl, H255, G1, G2, GB⟩ := hrel
    by_cases hlt : 12 ≤ p
    · have q1 : (12 : Int) ≤ (p : Int) := by omega
      have hpt := HPT.out
      have i16 : (p : Int) < 16 := by omega
      have hp16 : p < 16 := by omega
      have ht4 : t < 4 := by have := HPT.out; omega
      have c1 := bcellT G1.out p (by rw [HL.out t (by omega)]; exact hp16)
      rw [HG.out t p (by have := HPT.out; omega)] at c1
      have HPp := Lib.hid (fun y => HP.out t p y ht4 HPT.out H255.out)
      have HNp := Lib.hid (HN.out t p HPT.out)
      obtain ⟨x, hx⟩ : ∃ x, c.getD p 0 = x := ⟨_, rfl⟩
      rw [hx] at c1 HPp
      have HX := Lib.hid hx
      obtain ⟨y, hy⟩ : ∃ y, y = x + 1 := ⟨_, rfl⟩
      have hy1 : ((x.toNat : Int) + 1) % 256 = (y.toNat : Int) := by have := u8_succ _ _ hy; omega
      have hy2 : IntKind.u8.wrap ((x.toNat : Int) + 1) = (y.toNat : Int) := by rw [IntKind.wrap_u8]; exact hy1
      have HY := Lib.hid hy
      have HLt := Lib.hid (HL.out t (by omega))
      have fz := frozen_of_heap G1.out p
      have bx : x.toNat < 256 := x.toNat_lt
      have bY : y.toNat < 256 := y.toNat_lt
      clear hx hy hpt
      go_upto_region 5 with (fail)
      generalize hV : wr.setCell _ _ = W5
      have H5 : Hid (W5.heap[w.heap.size]? = some (.cells (((ML t).set p y).map bv).toArray 23 (0, 0))) := by
        have h := heap_set G1.out p (bv y)
        rw [← List.map_set] at h
        rw [← hV]; exact h
      have H2 : Hid (W5.heap[w.heap.size + 1]? = some (.cells Z.toArray 23 (0, 0))) := by rw [← hV]; exact (Below.heap_setCell wr _ _ _ (show w.heap.size + 1 ≠ w.heap.size by omega)).trans G2.out
      have B5 : Hid (Below w.heap.size w W5) := by rw [← hV]; exact GB.out.setCell (Nat.le_refl _) _
      clear hV c1 fz hy1 hy2 G1 G2 GB
      have hsl : ((ML t).set p y).length = 16 := by rw [List.length_set]; exact HLt.out
      have c5 := bcellT H5.out p (by rw [hsl]; exact hp16)
      rw [show ((ML t).set p y).getD p 0 = y by rw [List.getD_eq_getElem?_getD, List.getElem?_set_self (by rw [HLt.out]; exact hp16)]; rfl] at c5
      clear hsl
      by_cases hy0 : y = 0
      · subst hy0
        rw [HNp.out] at H5
        have hx255 : Hid (x = 255) := by
          show x = 255
          have h1 := congrArg UInt8.toNat HY.out
          have h2 := u8_succ x (x + 1) rfl
          rw [← h1] at h2
          apply UInt8.toNat_inj.1
          have h3 : (0 : UInt8).toNat = 0 := rfl
          have h4 : (255 : UInt8).toNat = 255 := rfl
          omega
        have e0 : (((0 : UInt8).toNat : Int) != 0) = false := by decide
        have e1 : ((0 : UInt8).toNat : Int) = 0 := by decide
        rw [e1] at c5
        go_wp2_with fail
        go_roundw
        case rel =>
          obtain ⟨p1, hp1⟩ : ∃ p1, p = p1 + 1 := ⟨p - 1, by omega⟩
          refine ⟨t + 1, p1, by have := HPT.out; show _ = _; omega, by omega, by rw [hp1]; go_num, fun i h1 h2 => ?_, H5, H2, B5⟩
          by_cases hip : i = p
          · rw [hip, HX.out, hx255.out]
          · exact H255.out i (by omega) h2
        case measure => simp [intOf]; omega
      · have hyn : (((y.toNat : Int)) != 0) = true := by
          simp
          exact fun h => hy0 (UInt8.toNat_inj.1 h)
        have hyn2 : ¬ (y.toNat : Int) = 0 := by simpa using hyn
        have hXX : Hid ((ML t).set p y = X) := HPp.out y HY.out hy0
        rw [hXX.out] at H5
        have hiX := Lib.hid (r_i16 X HXL.out)
        clear hy0
        go_wp2_with (first
          | (refine wpList_ld rfl 23 (.tmp 1) rfl (load_arr arr16B rfl hiX.out H5.out) ?_)
          | (refine wpList_st rfl 23 (.tmp 2) (.tmp 17) rfl (store_arr (cs := X.map bv) (old := Z) hiX.out (bv_one _) H2.out (by rw [List.length_map, HXL.out, HZL.out])) ?_)
          | fail)
        have hres := setRow_heap W5 (w.heap.size + 1) _ (X.map bv).toArray 23 _ H2.out
        exact bodyPost_ret (results_cell_row (P := Try.prog) rfl _ _ (w.heap.size + 1) 23 (X.map bv).toArray (0, 0) _ rfl hres arr16B rfl (by rw [List.size_toArray]; exact hiX.out)) rfl ⟨rfl, B5.out.trans (grown_below (grown_setRow _ _ _) (by omega) B5.out.size)⟩
    · have q1 : ¬ ((12 : Int) ≤ (p : Int)) := by omega
      have ht4 : t = 4 := by have := HPT.out; omega
      have hp11 : p = 11 := by have := HPT.out; omega
      have hXX : Hid (ML 4 = X) := HA.out (fun i h1 h2 => H255.out i (by omega) h2)
      rw [ht4, hXX.out] at G1
      have hiX := Lib.hid (r_i16 X HXL.out)
      clear ht4 hp11
      go_wp2_with (first
        | (refine wpList_ld rfl 23 (.tmp 1) rfl (load_arr arr16B rfl hiX.out G1.out) ?_)
        | (refine wpList_st rfl 23 (.tmp 2) (.tmp 18) rfl (store_arr (cs := X.map bv) (old := Z) hiX.out (bv_one _) G2.out (by rw [List.length_map, HXL.out, HZL.out])) ?_)
        | fail)
      have hres := setRow_heap wr (w.heap.size + 1) _ (X.map bv).toArray 23 _ G2.out
      exact bodyPost_ret (results_cell_row (P := Try.prog) rfl _ _ (w.heap.size + 1) 23 (X.map bv).toArray (0, 0) _ rfl hres arr16B rfl (by rw [List.size_toArray]; exact hiX.out)) rfl ⟨rfl, GB.out.trans (grown_below (grown_setRow _ _ _) (by omega) GB.out.size)⟩
end Go.Proofs.Ytjmpbcfbfbjenaa

/- palfreyref10.Crypt, block. -/
namespace Go.Proofs.Ytjmpbcfbfbjenaa
open Go.RowKit
set_option maxRecDepth 100000
set_option linter.unusedVariables false
set_option linter.unusedSimpArgs false
theorem gcf_at (E : List UInt8 → List UInt8) (F : List UInt8) (i : Nat) : gcF E F i = (E (cntG F (i / 16 + 1))).getD (i % 16) 0 := rfl
theorem own_growX {w W : World} {g base : Nat} {e : TypeId} {s : Nat} {v : Value} {n : Nat} {xs : List Value} (h : w.ownsRow base e s v n xs) (hg : GrowA g w W) (hb : g < base) : W.ownsRow base e s v n xs := by
  obtain ⟨h0, h | ⟨k, cap, cur, hv, hk, hh, rr⟩⟩ := h
  · exact ⟨h0, .inl h⟩
  · exact ⟨h0, .inr ⟨k, cap, cur, hv, hk, hg.heap (by omega) hh, rr⟩⟩
set_option maxHeartbeats 8000000 in
theorem refGc_any (key : List UInt8) (nk : Nat) (A : Option Addr) (cc : Nat) (F : List UInt8) (Ab : Option Addr) (m cb : Nat) (b : List UInt8) (w : World) (hk : nk = 4 ∨ nk = 8) (hl : key.length = 4 * nk) (hF : F.length = 16) (hm : b.length = m) (hm31 : m ≤ 100000) (hA : KeysAt w A (nk + 7) (rkB (expandL key))) (hSb : Sl w Ab cb b) :
    Calls Try.prog 59 #[.agg (sboxL.map bv).toArray, .slice A (nk + 7) cc, .agg (F.map bv).toArray, .slice Ab m cb] w fun e w' => ∃ v, e = .returned v ∧ w'.ownsRow w.heap.size 5 1 v m ((gcL (encL (expandL key) (nk + 6)) F b).map bv) ∧ Below w.heap.size w w' := by
  have HF := Lib.hid hF; have HM := Lib.hid hm; have HSb := Lib.hid hSb; have HKA := Lib.hid hA
  have HRE := Lib.hid (fun x A cc W hx hA => refEncK_any key nk x A cc W hk hl hx hA)
  have hwl : (expandL key).length = 60 := expandL_len key (by omega)
  have HEL : Hid (∀ x, x.length = 16 → (encL (expandL key) (nk + 6) x).length = 16) := fun x hx => by rw [encL, encT, outL_len, addW_len _ _ _ (shiftW_len _ _) (by omega)]
  have HCL := Lib.hid (fun k => cntG_len F k hF)
  have HC0 := Lib.hid (cnt_zero F hF)
  have HCM := Lib.hid (fun k => cnt_more F k hF)
  have HMO : Hid (∀ k W, Calls Try.prog 88 #[.agg ((cntG F k).map bv).toArray] W fun e w' => e = .returned (.agg ((cntG F (k + 1)).map bv).toArray) ∧ Below W.heap.size W w') := fun k W => by
    have h := refMore_any (cntG F k) W (HCL.out k)
    rw [HCM.out] at h
    exact h
  have HSA := Lib.hid (fun i => gcf_at (encL (expandL key) (nk + 6)) F i)
  have hz16 : ∀ W, (zeroValue 23).run Try.prog W = .ok (.agg zeros16.toArray) W := fun W => by kernel_rfl
  have HTL : Hid ((sboxL.map bv).length = 256) := by show _ = _; rw [List.length_map, sboxL_len]
  have HI : Hid ((Try.prog.info? 48).map (·.size) = some (sboxL.map bv).length) := by show _ = _; rw [HTL.out]; exact i256B
  have HZ16 : Hid (zeros16 = (List.replicate 16 (0 : UInt8)).map bv) := rfl
  have HR16 : Hid ((List.replicate 16 (0 : UInt8)).length = 16) := rfl
  unfold gcL
  have HB0 : Hid (ctrL (gcF (encL (expandL key) (nk + 6)) F) 0 (b.take 0) = []) := by show _ = _; rw [List.take_zero]; rfl
  have HBE : Hid (ctrL (gcF (encL (expandL key) (nk + 6)) F) 0 (b.take m) = ctrL (gcF (encL (expandL key) (nk + 6)) F) 0 b) := by show _ = _; rw [List.take_of_length_le (by omega)]
  have HST := Lib.hid (fun i (hi : i < b.length) => ctr_take_step (gcF (encL (expandL key) (nk + 6)) F) b i hi)
  obtain ⟨CT, HCT⟩ : ∃ CT : Nat → List UInt8, Hid (∀ i, ctrL (gcF (encL (expandL key) (nk + 6)) F) 0 (b.take i) = CT i) := ⟨fun i => _, fun _ => rfl⟩
  rw [HCT.out] at HB0 HBE
  rw [← HBE.out]
  have HST : Hid (∀ i, i < m → CT (i + 1) = CT i ++ [b.getD i 0 ^^^ gcF (encL (expandL key) (nk + 6)) F i]) := fun i hi => by rw [← HCT.out, ← HCT.out]; exact HST.out i (by rw [hm]; exact hi)
  clear HCT HBE HCM
  generalize gcF (encL (expandL key) (nk + 6)) F = SF at HST HSA
  generalize encL (expandL key) (nk + 6) = E at HRE HEL HSA
  generalize cntG F = CI at HCL HSA HMO HC0
  generalize rkB (expandL key) = RK at HRE HKA
  generalize zeros16 = Z16 at hz16 HZ16
  generalize sboxL.map bv = TB at HRE HTL HI ⊢
  obtain ⟨r7, hr7⟩ : ∃ r7, r7 = nk + 7 := ⟨_, rfl⟩
  rw [← hr7] at HRE HKA ⊢
  obtain ⟨XR, HXR⟩ : ∃ X, Hid (CT m = X) := ⟨_, rfl⟩
  rw [HXR.out]
  clear hl hk hF hm hA hSb hr7 hwl
  go_enter Try.func59, Try.ntmps59
  go_upto_region 3 with (fail)
  generalize hV : ((w.alloc _).alloc _).alloc _ = W0
  have F4 : Hid (W0.heap[w.heap.size]? = some (.cells TB.toArray 48 (0, 0))) := by rw [← hV]; exact (heap3 w _ _ _).1
  have F6 : Hid (W0.heap[w.heap.size + 1]? = some (.cells ((CI 0).map bv).toArray 23 (0, 0))) := by show _ = _; rw [HC0.out, ← hV]; exact (heap3 w _ _ _).2.1
  have F10 : Hid (W0.heap[w.heap.size + 2]? = some (.cells Z16.toArray 23 (0, 0))) := by rw [← hV]; exact (heap3 w _ _ _).2.2.1
  have FB : Hid (Below w.heap.size w W0) := by rw [← hV]; exact (heap3 w _ _ _).2.2.2
  have FS : Hid (W0.heap.size = w.heap.size + 3) := by show _ = _; rw [← hV]; simp
  clear hV
  obtain ⟨g6, hg6⟩ : ∃ g, w.heap.size + 1 = g := ⟨_, rfl⟩
  obtain ⟨g10, hg10⟩ : ∃ g, g6 + 1 = g := ⟨_, rfl⟩
  have F10 : Hid (W0.heap[g10]? = some (.cells ((List.replicate 16 (0 : UInt8)).map bv).toArray 23 (0, 0))) := by
    have h := F10.out
    rw [HZ16.out, show w.heap.size + 2 = g10 by omega] at h
    exact h
  rw [hg6] at F6 ⊢
  rw [hg10]
  obtain ⟨q, hq⟩ : ∃ q, q = W0.heap.size := ⟨_, rfl⟩
  have HQ := Lib.hid hq
  have L0 : Hid (w.heap.size < g6 ∧ g6 < g10 ∧ g10 < q) := by have := FS.out; show _ ∧ _; omega
  clear hg6 hg10 hq HZ16 FS
  go_wp2_with fail
  go_loopw [9, 11] (fun s9 vi wr => ∃ (i k : Nat) (X : List UInt8) (v9 : Value), i ≤ m ∧ v9 = s9 ∧ vi = .int .i64 (i : Int) ∧ Hid (k = (i + 15) / 16) ∧ Hid (X.length = 16) ∧ Hid (¬ i % 16 = 0 → X = E (CI (i / 16 + 1))) ∧ Hid (wr.heap[g6]? = some (.cells ((CI k).map bv).toArray 23 (0, 0))) ∧ Hid (wr.heap[g10]? = some (.cells (X.map bv).toArray 23 (0, 0))) ∧ Hid (wr.ownsRow q 5 1 v9 i ((CT i).map bv)) ∧ Hid (Below g6 W0 wr)) (fun _ i _ => m - (intOf i).toNat)
  case atStart => exact ⟨0, 0, _, _, by omega, rfl, rfl, rfl, HR16, fun h => absurd rfl h, F6, F10, by show World.ownsRow _ _ _ _ _ _ _; rw [HB0.out]; exact World.ownsRow_nil _ _ _ _, Below.refl _ _⟩
  case round =>
    clear F6 F10
    obtain ⟨i, k0, X, v9, hi, rfl, rfl, HK0, HXL, HXE, G6, G10, HO, HBW⟩ := hrel
    by_cases hlt : i < m
    · have e1 : (i : Int) < (m : Int) := by omega
      obtain ⟨r, hr⟩ : ∃ r, r = i % 16 := ⟨_, rfl⟩
      obtain ⟨k, hk⟩ : ∃ k, k = i / 16 + 1 := ⟨_, rfl⟩
      have u0 : (i : Int) % 16 = (r : Int) := by omega
      have u3 : (i : Int).tmod 16 = (r : Int) := by rw [Int.tmod_eq_emod_of_nonneg (by omega)]; exact u0
      have r16 : (r : Int) < 16 := by omega
      have hr16 : r < 16 := by omega
      have u8 : IntKind.i64.wrap (r : Int) = (r : Int) := by rw [IntKind.wrap_i64]; omega
      have hnx : Hid (¬ (i + 1) % 16 = 0 → (i + 1) / 16 + 1 = k) := by intro h; omega
      have hnk : Hid (k = (i + 1 + 15) / 16) := by show _ = _; omega
      have hk01 : Hid (r = 0 → k = k0 + 1) := fun h => by have := HK0.out; omega
      have hk02 : Hid (¬ r = 0 → k0 = k) := fun h => by have := HK0.out; omega
      have HSi := HST.out i hlt
      rw [HSA.out, ← hr, ← hk] at HSi
      rw [← hr, ← hk] at HXE
      have HIM : Hid (i < m ∧ m ≤ 100000) := ⟨hlt, hm31⟩
      obtain ⟨Y, HY⟩ : ∃ Y, Hid (E (CI k) = Y) := ⟨_, rfl⟩
      have HYL : Hid (Y.length = 16) := by rw [← HY.out]; exact HEL.out _ (HCL.out k)
      rw [HY.out] at HSi HXE
      replace HSi := Lib.hid HSi
      clear hr hk
      have LSW : Hid (q ≤ wr.heap.size) := by have h1 := HBW.out.size; have h2 := HQ.out; show _ ≤ _; omega
      go_upto_if 20 with (fail)
      go_cut [20] from 21 to 26 (fun v20 wx => Hid (wx.heap[g6]? = some (.cells ((CI k).map bv).toArray 23 (0, 0))) ∧ Hid (wx.heap[g10]? = some (.cells (Y.map bv).toArray 23 (0, 0))) ∧ Hid (wx.ownsRow q 5 1 v9 i ((CT i).map bv)) ∧ Hid (Below g6 W0 wx))
      case first =>
        by_cases h0 : r = 0
        · have q2 : ((r : Int) == 0) = true := by simp [h0]
          have hkk := hk01.out h0
          clear h0 hk02
          have MO := Lib.hid (fun W => HMO.out k0 W)
          rw [← hkk] at MO
          have hiC0 := Lib.hid (r_i16 _ (HCL.out k0))
          have hiC := Lib.hid (r_i16 _ (HCL.out k))
          have hlC : Hid (((CI k0).map bv).length = ((CI k).map bv).length) := by show _ = _; rw [List.length_map, List.length_map, HCL.out, HCL.out]
          have RE := Lib.hid (fun A cc W hA => HRE.out (CI k) A cc W (HCL.out k) hA)
          rw [HY.out] at RE
          have hiY := Lib.hid (r_i16 Y HYL.out)
          clear hkk
          generalize CI k0 = C0 at G6 MO hiC0 hlC
          obtain ⟨C1, HC1⟩ : ∃ C, Hid (CI k = C) := ⟨_, rfl⟩
          rw [HC1.out] at MO hiC hlC RE HY
          go_wp2_with (first
            | (refine wpList_ld rfl 23 (.tmp 6) rfl (load_arr arr16B rfl hiC0.out G6.out) ?_)
            | fail)
          refine (MO.out wr).mono ?_
          rintro e w5 ⟨rfl, hb⟩
          have P6 := Lib.hid ((hb.block _ (lt_of_heap G6.out)).trans G6.out)
          have P10 := Lib.hid ((hb.block _ (lt_of_heap G10.out)).trans G10.out)
          have PO := Lib.hid (ka_own_below HO.out hb)
          have PB : Hid (Below g6 W0 w5) := HBW.out.trans (hb.mono (Nat.le_of_lt (lt_of_heap G6.out)))
          have PL : Hid (q ≤ w5.heap.size) := Nat.le_trans LSW.out hb.size
          clear hb
          go_upto_region 8 with (first
            | (refine wpList_st rfl 23 (.tmp 6) (.tmp 22) rfl (store_arr (cs := C1.map bv) (old := C0.map bv) hiC.out (bv_one _) P6.out hlC.out) ?_
               generalize hV : World.setRow _ _ _ = W7
               have N6 := Lib.hid (heap_of_setRow hV P6.out)
               have X7 : Hid (GrowA g6 w5 W7) := by rw [← hV]; exact GrowA.setRow _ _ _
               clear hV)
            | fail)
          have N10 := Lib.hid (X7.out.heap (by have := L0.out; omega) P10.out)
          have NO := Lib.hid (own_growX PO.out X7.out (by have := L0.out; omega))
          have NB : Hid (Below g6 W0 W7) := PB.out.trans (X7.out.below (Nat.le_refl _) (by have := L0.out; have := PL.out; omega))
          have NL : Hid (q ≤ W7.heap.size) := Nat.le_trans PL.out X7.out.size
          have N4 : Hid (W7.heap[w.heap.size]? = some (.cells TB.toArray 48 (0, 0))) := (NB.out.block _ L0.out.1).trans F4.out
          have NK := Lib.hid (HKA.out.below (FB.out.trans (NB.out.mono (Nat.le_of_lt L0.out.1))))
          clear P6 P10 PO PB X7
          go_wp2_with (first
            | (refine wpList_ld rfl 48 (.tmp 4) rfl (load_arr arr256B rfl HI.out N4.out) ?_)
            | (refine wpList_ld rfl 23 (.tmp 6) rfl (load_arr arr16B rfl hiC.out N6.out) ?_)
            | fail)
          refine (RE.out _ cc W7 NK.out).mono ?_
          rintro e w8 ⟨rfl, hb⟩
          have Q6 := Lib.hid ((hb.block _ (lt_of_heap N6.out)).trans N6.out)
          have Q10 := Lib.hid ((hb.block _ (lt_of_heap N10.out)).trans N10.out)
          have QO := Lib.hid (ka_own_below NO.out hb)
          have QB : Hid (Below g6 W0 w8) := NB.out.trans (hb.mono (Nat.le_of_lt (lt_of_heap N6.out)))
          have QL : Hid (q ≤ w8.heap.size) := Nat.le_trans NL.out hb.size
          clear hb N6 N10 NO NB NK N4
          go_wp2_with (first
            | (refine wpList_st rfl 23 (.tmp 10) (.tmp 26) rfl (store_arr (cs := Y.map bv) (old := X.map bv) hiY.out (bv_one _) Q10.out (by rw [List.length_map, List.length_map, HXL.out, HYL.out])) ?_
               generalize hV : World.setRow _ _ _ = W9
               have R10 := Lib.hid (heap_of_setRow hV Q10.out)
               have X9 : Hid (GrowA g10 w8 W9) := by rw [← hV]; exact GrowA.setRow _ _ _
               clear hV)
            | fail)
          go_meet
          exact ⟨by show _ = _; rw [HC1.out]; exact X9.out.heap (by have := L0.out; omega) Q6.out, R10.out, own_growX QO.out X9.out (by have := L0.out; omega), QB.out.trans (X9.out.below (by have := L0.out; omega) (by have := L0.out; have := QL.out; omega))⟩
        · have q2 : ((r : Int) == 0) = false := by simp; omega
          have hXY : Hid (X = Y) := HXE.out h0
          have hkk := Lib.hid (hk02.out h0)
          clear h0 hk01 hk02
          go_wp2_with fail
          go_meet
          exact ⟨by rw [← hkk.out]; exact G6.out, by rw [← hXY.out]; exact G10.out, HO.out, HBW.out⟩
      case rest =>
        obtain ⟨G6', G5, O5, R5⟩ := hcut
        have BW : Hid (Below w.heap.size w wc) := FB.out.trans (R5.out.mono (Nat.le_of_lt L0.out.1))
        obtain ⟨pb, ob, rfl, hpb, cx⟩ := ta_sl_cell (HSb.out.below BW.out) (i := i) (by rw [HM.out]; exact hlt)
        have cy := bcellT G5.out r (by rw [HYL.out]; exact hr16)
        generalize b.getD i 0 = x at cx HSi
        generalize Y.getD r 0 = y at cy HSi
        obtain ⟨z, hz⟩ : ∃ z, z = x ^^^ y := ⟨_, rfl⟩
        have hzz : bits .xor .u8 (x.toNat : Int) (y.toNat : Int) = (z.toNat : Int) := by rw [hz]; exact xor8 x y
        rw [← hz] at HSi
        have hi31 : i + 1 ≤ 2147483647 := by omega
        have LS : Hid (q ≤ wc.heap.size) := by have h1 := R5.out.size; have h2 := HQ.out; show _ ≤ _; omega
        clear hz hpb BW G6 G10 HO HBW LSW
        go_upto_region 9 with (fail)
        have HS : Hid (wc.drew = wc.drew) := rfl
        have CX : Hid (wc.drew.cell? ⟨pb, ob + i, none⟩ = _) := cx
        have CY : Hid (wc.drew.cell? ⟨g10, r, none⟩ = _) := cy
        clear cx cy
        refine regK_start (9) (fun W => W = wc.drew) (by kernel_rfl) ?_
        try simp only [Act.put, List.setIfInBounds_toArray, List.set_cons_zero, List.set_cons_succ]
        refine regK_take (v := ?_) 0 (some 27) rfl rfl (by kernel_rfl) (by kernel_rfl) (by kernel_rfl) (fun _ _ _ h => h) (by rfl) (by kernel_rfl) HS.out (fun W => ?_) ?_
        rotate_left
        · (go_simp; try rfl)
        simp only [Act.put, List.setIfInBounds_toArray, List.set_cons_zero, List.set_cons_succ]
        refine regK_take (v := ?_) 1 (some 28) rfl rfl (by kernel_rfl) (by kernel_rfl) (by kernel_rfl) (fun _ _ _ h => h) (by rfl) (by kernel_rfl) HS.out (fun W => ?_) ?_
        rotate_left
        · (go_simp; try rfl)
        simp only [Act.put, List.setIfInBounds_toArray, List.set_cons_zero, List.set_cons_succ]
        refine regK_take (v := ?_) 2 (some 29) rfl rfl (by kernel_rfl) (by kernel_rfl) (by kernel_rfl) (fun _ _ _ h => h) (by rfl) (by kernel_rfl) HS.out (fun W => ?_) ?_
        rotate_left
        · (go_simp; try rfl)
        simp only [Act.put, List.setIfInBounds_toArray, List.set_cons_zero, List.set_cons_succ]
        refine regK_take (v := ?_) 3 (some 30) rfl rfl (by kernel_rfl) (by kernel_rfl) (by kernel_rfl) (fun _ _ _ h => h) (by rfl) (by kernel_rfl) HS.out (fun W => ?_) ?_
        rotate_left
        · (go_simp; try rfl)
        simp only [Act.put, List.setIfInBounds_toArray, List.set_cons_zero, List.set_cons_succ]
        refine regK_load 4 (some 31) (fun W hW => load_cell Try.underlying5 (cell_eqA hW CX.out)) rfl rfl rfl rfl (by kernel_rfl) (by kernel_rfl) (by kernel_rfl) (fun _ _ _ h => h) (by rfl) (by kernel_rfl) HS.out ?_
        simp only [Act.put, List.setIfInBounds_toArray, List.set_cons_zero, List.set_cons_succ]
        refine regK_take (v := ?_) 5 (some 32) rfl rfl (by kernel_rfl) (by kernel_rfl) (by kernel_rfl) (fun _ _ _ h => h) (by rfl) (by kernel_rfl) HS.out (fun W => ?_) ?_
        rotate_left
        · (go_simp; try rfl)
        simp only [Act.put, List.setIfInBounds_toArray, List.set_cons_zero, List.set_cons_succ]
        refine regK_take (v := ?_) 6 (some 33) rfl rfl (by kernel_rfl) (by kernel_rfl) (by kernel_rfl) (fun _ _ _ h => h) (by rfl) (by kernel_rfl) HS.out (fun W => ?_) ?_
        rotate_left
        · (go_simp; try rfl)
        simp only [Act.put, List.setIfInBounds_toArray, List.set_cons_zero, List.set_cons_succ]
        refine regK_take (v := ?_) 7 (some 34) rfl rfl (by kernel_rfl) (by kernel_rfl) (by kernel_rfl) (fun _ _ _ h => h) (by rfl) (by kernel_rfl) HS.out (fun W => ?_) ?_
        rotate_left
        · (go_simp; try rfl)
        simp only [Act.put, List.setIfInBounds_toArray, List.set_cons_zero, List.set_cons_succ]
        refine regK_load 8 (some 35) (fun W hW => load_cell Try.underlying5 (cell_eqA hW CY.out)) rfl rfl rfl rfl (by kernel_rfl) (by kernel_rfl) (by kernel_rfl) (fun _ _ _ h => h) (by rfl) (by kernel_rfl) HS.out ?_
        simp only [Act.put, List.setIfInBounds_toArray, List.set_cons_zero, List.set_cons_succ]
        refine regK_bar 9 rfl (by kernel_rfl) (by kernel_rfl) (fun K hK => ?_)
        go_simp
        refine hK.out _ _ trivial ?_
        clear hK K
        try simp only [Act.put, List.setIfInBounds_toArray, List.set_cons_zero, List.set_cons_succ]
        refine regS_eff 10 rfl (by kernel_rfl) (fun K hK => ?_)
        go_simp
        refine hK.out _ _ trivial ?_
        clear hK K
        try simp only [Act.put, List.setIfInBounds_toArray, List.set_cons_zero, List.set_cons_succ]
        refine regS_eff 11 rfl (by kernel_rfl) (fun K hK => ?_)
        obtain ⟨v6, w6, hrun, hown, hgr, _⟩ := append_row_at (P := Try.prog) (wc.drew.alloc (.cells ([z].map bv).toArray 5)) q 26 uT made8 rfl v9 i ((CT i).map bv) (k_alloc O5.out.drew _) (wc.heap.size + 1) (some ⟨wc.heap.size, 0, none⟩) 1 1 ([z].map bv) (row_of_heap (bs := [z]) (heap_alloc_new' wc.drew (.cells ([z].map bv).toArray 5)) (Nat.lt_succ_self _)) rfl (bv_one _) (by omega) (by simp [maxLen]; omega) (Nat.le_trans LS.out (by simp))
        rw [← List.map_append, ← HSi.out] at hown
        have O6 := Lib.hid hown
        have L6 : Hid (g6 < wc.heap.size) := by have h1 := L0.out; have h2 := LS.out; show _ < _; omega
        have L10 : Hid (g10 < wc.heap.size) := by have h1 := L0.out; have h2 := LS.out; show _ < _; omega
        have BA : Hid (Below wc.heap.size wc (wc.drew.alloc (.cells ([z].map bv).toArray 5))) := ((Below.refl _ _).drew).alloc (Nat.le_refl _) _
        have R6 : Hid (Below g6 W0 w6) := R5.out.trans ((BA.out.mono (Nat.le_of_lt L6.out)).trans (Below.grown (Below.refl _ _) hgr (Nat.le_trans (Nat.le_of_lt L6.out) (by simp)) (ka_own_ge O5.out (by have := L0.out; omega))))
        have G66 : Hid (w6.heap[g6]? = some (.cells ((CI k).map bv).toArray 23 (0, 0))) := (hgr.block g6 (Nat.lt_of_lt_of_le L6.out (by simp)) (fun e => absurd (ka_own_ge O5.out (Nat.le_refl _) g6 e.symm) (by have := L0.out; omega))).trans ((BA.out.block g6 L6.out).trans G6'.out)
        have G610 : Hid (w6.heap[g10]? = some (.cells (Y.map bv).toArray 23 (0, 0))) := (hgr.block g10 (Nat.lt_of_lt_of_le L10.out (by simp)) (fun e => absurd (ka_own_ge O5.out (Nat.le_refl _) g10 e.symm) (by have := L0.out; omega))).trans ((BA.out.block g10 L10.out).trans G5.out)
        refine step_app rfl (.tmp 27) (.tmp 37) 26 26 rfl hrun ?_
        clear hrun hown hgr BA
        refine hK.out _ _ trivial ?_
        clear hK K
        try simp only [Act.put, List.setIfInBounds_toArray, List.set_cons_zero, List.set_cons_succ]
        refine regS_take (v := ?_) 12 (some 9) rfl rfl (by kernel_rfl) (by kernel_rfl) (by kernel_rfl) (fun _ _ _ h => h) (by rfl) (fun W hW => ?_) ?_
        rotate_left
        · (go_simp; try rfl)
        simp only [Act.put, List.setIfInBounds_toArray, List.set_cons_zero, List.set_cons_succ]
        refine regS_done (by kernel_rfl) ?_
        go_wp2
        go_roundw
        case rel => exact ⟨i + 1, k, Y, _, HIM.out.1, rfl, by go_num, hnk, HYL, fun h => by rw [hnx.out h]; exact HY.out.symm, G66, G610, O6, R6⟩
        case measure => simp [intOf]; omega
    · have e1 : ¬ ((i : Int) < (m : Int)) := by omega
      have him : i = m := by omega
      rw [him, HXR.out] at HO
      have BW : Hid (Below w.heap.size w wr) := FB.out.trans (HBW.out.mono (Nat.le_of_lt L0.out.1))
      have O9 : Hid (wr.ownsRow w.heap.size 5 1 v9 m (XR.map bv)) := ka_own_le HO.out (by have h1 := L0.out; omega)
      clear him
      go_wp2_with fail
      go_ret
      exact ⟨_, rfl, O9.out, BW.out⟩
end Go.Proofs.Ytjmpbcfbfbjenaa

/- palfreyref06.Padded, Sum. -/
namespace Go.Proofs.Ytjmpbcfbfbjenaa
open Go.RowKit
set_option maxRecDepth 100000
set_option linter.unusedVariables false
set_option linter.unusedSimpArgs false
theorem g_own_alloc {w : World} {base : Nat} {e : TypeId} {s : Nat} {v : Value} {n : Nat} {xs : List Value} (h : w.ownsRow base e s v n xs) (o : Obj) : (w.alloc o).ownsRow base e s v n xs := g_own_below h ((Below.refl _ _).alloc (Nat.le_refl _) o)
theorem pad_rep (bs : List UInt8) (j : Nat) : (bs ++ List.replicate j (0 : UInt8)) ++ [0] = bs ++ List.replicate (j + 1) 0 := by rw [List.append_assoc, List.replicate_succ']
set_option maxHeartbeats 2000000 in
theorem refGpad_any (A : Option Addr) (n c : Nat) (bs : List UInt8) (w : World) (hl : bs.length = n) (hn : n ≤ 2147000000) (hS : Sl w A c bs) :
    Calls Try.prog 56 #[.slice A n c] w fun e w' => ∃ v, e = .returned v ∧ w'.ownsRow w.heap.size 5 1 v (n + padN n) ((bs ++ List.replicate (padN n) 0).map bv) ∧ Below w.heap.size w w' := by
  have HL := Lib.hid hl; have HS := Lib.hid hS
  have HPD : Hid (padN n ≤ 15 ∧ (n + padN n) % 16 = 0 ∧ ∀ j, j < padN n → (n + j) % 16 ≠ 0) := by
    show _ ∧ _ ∧ _
    unfold padN
    exact ⟨by omega, by omega, fun j hj => by omega⟩
  generalize padN n = d at HPD ⊢
  have hn31 : 0 + n ≤ 2147483647 := by omega
  clear hl hS
  go_enter Try.func56, Try.ntmps56
  go_wp2_with (
    at_builtin
    refine wpList_app8 rfl (.tmp 4) (.tmp 5) rfl w.heap.size _ 0 [] rfl ?_ A n c w.heap.size bs rfl ?_ ?_ ?_ ?_ ?_
    · exact own_heap (g := w.heap.size) (heap_alloc_new' w _) (Nat.le_refl _) rfl (Nat.zero_le _)
    · exact HS.out.2.2.below ((Below.refl _ _).alloc (Nat.le_refl _) _)
    · exact HL.out
    · exact hn31
    · simp
    rintro v1 w1 hown hgr
    have HB1 := Lib.hid (((Below.refl w.heap.size w).alloc (Nat.le_refl _) _).grown hgr (by simp) (ge_own w.heap.size 0))
    rw [List.nil_append, Nat.zero_add] at hown
    obtain ⟨A1, c1, rfl, _⟩ := own_read hown
    have HO1 := Lib.hid hown
    clear hgr hown)
  go_loopw [3] (fun v3 wr => ∃ (j m : Nat) (A' : Option Addr) (c' : Nat), j ≤ d ∧ Hid (m = n + j) ∧ v3 = .slice A' m c' ∧ Hid (wr.ownsRow w.heap.size 5 1 (.slice A' m c') m ((bs ++ List.replicate j 0).map bv)) ∧ Hid (Below w.heap.size w wr)) (fun v3 _ => n + d - sliceLen v3)
  case atStart => exact ⟨0, n, A1, c1, Nat.zero_le _, rfl, rfl, by rw [List.replicate_zero, List.append_nil]; exact HO1, HB1⟩
  case round =>
    clear HO1 HB1
    obtain ⟨j, m, A', c', hj, HM, rfl, HO, HB⟩ := hrel
    have hm31 : m + 1 ≤ 2147483647 := by have h1 := HM.out; have h2 := HPD.out; omega
    by_cases hlt : j < d
    · obtain ⟨r, hr⟩ : ∃ r, r = m % 16 := ⟨_, rfl⟩
      have e1 : (m : Int) % 16 = (r : Int) := by omega
      have e2 : ((r : Int) != 0) = true := by have := HPD.out.2.2 j hlt; have := HM.out; simp; omega
      obtain ⟨m2, hm2⟩ : ∃ m2, m2 = m + 1 := ⟨_, rfl⟩
      have HM2 := Lib.hid hm2
      clear hr hm2
      go_wp2_with (
        at_builtin
        refine wpList_app8 rfl (.tmp 11) (.tmp 12) rfl w.heap.size _ m (bs ++ List.replicate j 0) rfl ?_ (some ⟨wr.heap.size, 0, none⟩) 1 1 (wr.heap.size + 1) [0] rfl ?_ rfl hm31 ?_ ?_
        · exact g_own_alloc HO.out _
        · exact row_of_heap (bs := [0]) (heap_alloc_new' wr (.cells (([0] : List UInt8).map bv).toArray 5)) (Nat.lt_succ_self _)
        · simp; have := HB.out.size; omega
        rintro v2 w2 hown hgr
        rw [pad_rep, ← HM2.out] at hown
        obtain ⟨A2, c2, rfl, _⟩ := own_read hown
        have O2 := Lib.hid hown
        have B2 := Lib.hid ((HB.out.alloc HB.out.size (.cells (([0] : List UInt8).map bv).toArray 5)).grown hgr (by simp; have := HB.out.size; omega) (g_own_ge HO.out (Nat.le_refl _)))
        clear hown hgr)
      go_roundw
      case rel => exact ⟨j + 1, m2, A2, c2, hlt, by have h1 := HM.out; have h2 := HM2.out; show _ = _; omega, rfl, O2, B2⟩
      case measure => have h1 := HM.out; have h2 := HM2.out; simp [sliceLen]; omega
    · obtain ⟨r, hr⟩ : ∃ r, r = m % 16 := ⟨_, rfl⟩
      have hjd : j = d := by omega
      have e1 : (m : Int) % 16 = (r : Int) := by omega
      have e2 : ((r : Int) != 0) = false := by have := HPD.out.2.1; have := HM.out; simp; omega
      have HJ := Lib.hid hjd
      clear hr hjd
      go_wp2
      go_ret
      exact ⟨_, rfl, by have h := HO.out; rw [HM.out, HJ.out] at h; rw [HM.out, HJ.out]; exact h, HB.out⟩
/-- a block so far: the first k bytes mixed -/
def mixK (S : List UInt8) (f : Nat → UInt8) (k : Nat) : List UInt8 := (mixF S f).take k ++ S.drop k
theorem mixK_len (S : List UInt8) (f : Nat → UInt8) (k : Nat) (hS : S.length = 16) (hk : k ≤ 16) : (mixK S f k).length = 16 := by simp [mixK, mixF_len, hS]; omega
theorem mixK_get (S : List UInt8) (f : Nat → UInt8) (k : Nat) (hS : S.length = 16) (hk : k < 16) : (mixK S f k).getD k 0 = S.getD k 0 := by
  have hl : ((mixF S f).take k).length = k := by rw [List.length_take, mixF_len]; omega
  rw [mixK, List.getD_eq_getElem?_getD, List.getElem?_append_right (by omega), hl, List.getElem?_drop, List.getD_eq_getElem?_getD]; simp
theorem mixK_step (S : List UInt8) (f : Nat → UInt8) (k : Nat) (hS : S.length = 16) (hk : k < 16) : (mixK S f k).set k (S.getD k 0 ^^^ f k) = mixK S f (k + 1) := by
  have hl : ((mixF S f).take k).length = k := by rw [List.length_take, mixF_len]; omega
  have ha : k < (mixF S f).length := by rw [mixF_len]; exact hk
  unfold mixK
  rw [List.set_append_right _ _ (by omega), hl, Nat.sub_self, List.drop_eq_getElem_cons (by omega), List.set_cons_zero, List.take_succ_eq_append_getElem ha, List.append_assoc]
  congr 1
  simp [mixF]
theorem mixK_zero (S : List UInt8) (f : Nat → UInt8) : mixK S f 0 = S := by simp [mixK]
theorem mixK_end (S : List UInt8) (f : Nat → UInt8) (hS : S.length = 16) : mixK S f 16 = mixF S f := by
  rw [mixK, List.take_of_length_le (by rw [mixF_len]; omega), List.drop_of_length_le (by omega), List.append_nil]
theorem byteF_padded (bs : List UInt8) (d i : Nat) : (bs ++ List.replicate d 0).getD i 0 = byteF bs i := by
  unfold byteF
  rw [List.getD_eq_getElem?_getD, List.getD_eq_getElem?_getD]
  by_cases h : i < bs.length
  · rw [List.getElem?_append_left h]
  · rw [List.getElem?_append_right (by omega), List.getElem?_replicate, List.getElem?_eq_none (by omega : bs.length ≤ i)]
    split <;> rfl
end Go.Proofs.Ytjmpbcfbfbjenaa

/- palfreyref06.Sum. -/
namespace Go.Proofs.Ytjmpbcfbfbjenaa
open Go.RowKit
set_option maxRecDepth 100000
set_option linter.unusedVariables false
set_option linter.unusedSimpArgs false
theorem g_sl_cell {w : World} {A : Option Addr} {c i : Nat} {bs : List UInt8} (h : Sl w A c bs) (hi : i < bs.length) : ∃ b o, A = some ⟨b, o, none⟩ ∧ b < w.heap.size ∧ w.cell? ⟨b, o + i, none⟩ = some (.int .u8 ((bs.getD i 0).toNat : Int)) := by
  obtain ⟨b, o, rfl, hb, hc⟩ := h.2.2.at_ (by rw [List.length_map]; omega)
  refine ⟨b, o, rfl, hb, ?_⟩
  have := hc i (bv bs[i]) (by simp [hi])
  rw [this]; simp [List.getD, hi, bv]
theorem gsF_next (h y : List UInt8) (f : Nat → UInt8) (j : Nat) : gmulL (mixF (gsF h y f j) fun k => f (16 * j + k)) h = gsF h y f (j + 1) := rfl
set_option maxHeartbeats 4000000 in
theorem refGsum_any (h : List UInt8) (A : Option Addr) (n c : Nat) (bs : List UInt8) (w : World) (hh : h.length = 16) (hl : bs.length = n) (hn : n ≤ 2147000000) (hS : Sl w A c bs) :
    Calls Try.prog 55 #[.agg (h.map bv).toArray, .slice A n c] w fun e w' => e = .returned (.agg ((gsumL h bs).map bv).toArray) ∧ Below w.heap.size w w' := by
  have HH := Lib.hid hh; have HL := Lib.hid hl; have HS := Lib.hid hS
  have PA := Lib.hid (fun W hS => refGpad_any A n c bs W hl hn hS)
  have hnp : (n + padN n) = 16 * ((n + 15) / 16) := by unfold padN; omega
  have HPL : Hid ((bs ++ List.replicate (padN n) (0 : UInt8)).length = 16 * ((n + 15) / 16)) := by show _ = _; rw [List.length_append, List.length_replicate, hl]; exact hnp
  rw [hnp] at PA
  have HPG : Hid (∀ i, (bs ++ List.replicate (padN n) (0 : UInt8)).getD i 0 = byteF bs i) := fun i => byteF_padded bs _ i
  have HRS : Hid (gsumL h bs = gsF h zerB (byteF bs) ((n + 15) / 16)) := by show _ = _; rw [gsumL, hl]
  have hi16h : Hid ((Try.prog.info? 23).map (·.size) = some (h.map bv).length) := i16l h hh
  have hz16 : ∀ W, (zeroValue 23).run Try.prog W = .ok (.agg (zerB.map bv).toArray) W := fun W => by kernel_rfl
  have HZ0 : Hid (zerB.length = 16) := rfl
  obtain ⟨N, hN⟩ : ∃ N, N = (n + 15) / 16 := ⟨_, rfl⟩
  rw [← hN] at PA HPL HRS
  have hN31 : 16 * N ≤ 2147000015 := by omega
  rw [HRS.out]
  have HGL := Lib.hid (fun j => gsF_len h zerB (byteF bs) j rfl)
  have HGN := Lib.hid (fun j => gsF_next h zerB (byteF bs) j)
  have HG0 : Hid (gsF h zerB (byteF bs) 0 = zerB) := rfl
  generalize gsF h zerB (byteF bs) = G at HGL HGN HG0 ⊢
  generalize zerB = Z at hz16 HZ0 HG0
  generalize bs ++ List.replicate (padN n) (0 : UInt8) = P at PA HPL HPG
  obtain ⟨M, hM⟩ : ∃ M, M = 16 * N := ⟨_, rfl⟩
  rw [← hM] at PA HPL hN31
  have HMN := Lib.hid hM
  obtain ⟨GN, HGE⟩ : ∃ GN, Hid (G N = GN) := ⟨_, rfl⟩
  rw [HGE.out]
  clear hh hl hS hn hnp hN hM HRS
  go_enter Try.func55, Try.ntmps55
  go_wp2_with fail
  generalize hV : (w.alloc _).alloc _ = W0
  have F2 : Hid (W0.heap[w.heap.size]? = some (.cells (h.map bv).toArray 23 (0, 0))) := by rw [← hV]; exact (heap2 w _ _).1
  have F4 : Hid (W0.heap[w.heap.size + 1]? = some (.cells (Z.map bv).toArray 23 (0, 0))) := by rw [← hV]; exact (heap2 w _ _).2.1
  have FB : Hid (Below w.heap.size w W0) := by rw [← hV]; exact (heap2 w _ _).2.2
  clear hV
  refine (PA.out W0 (HS.out.below FB.out)).mono ?_
  rintro e w1 ⟨v1, rfl, hO1, hb1⟩
  obtain ⟨A1, c1, rfl, hl1, h11, h12, hr1⟩ := own_read hO1
  have S1 : Hid (Sl w1 A1 c1 P) := ⟨by omega, h12, hr1⟩
  have P2 := Lib.hid ((hb1.block _ (lt_of_heap F2.out)).trans F2.out)
  have P4 := Lib.hid ((hb1.block _ (lt_of_heap F4.out)).trans F4.out)
  have PB := Lib.hid (FB.out.step hb1)
  clear hO1 hl1 h11 h12 hr1 hb1 F2 F4 FB PA
  go_wp2_with fail
  generalize hV : w1.alloc _ = W6
  have M6 : Hid (W6.heap[w1.heap.size]? = some (.cells ((G 0).map bv).toArray 23 (0, 0))) := by show _ = _; rw [HG0.out]; exact heap_of_alloc hV
  have X6 := below_of_alloc hV (Nat.le_refl w1.heap.size)
  have M2 := Lib.hid ((X6.block _ (lt_of_heap P2.out)).trans P2.out)
  have M4 := Lib.hid ((X6.block _ (lt_of_heap P4.out)).trans P4.out)
  have MB := Lib.hid (PB.out.step X6)
  have S6 := Lib.hid (S1.out.below X6)
  have L2 := Lib.hid (lt_of_heap P2.out)
  have L4 := Lib.hid (lt_of_heap P4.out)
  have LR := Lib.hid (fun (hp : 0 < P.length) => S1.out.2.2.at_ (by rw [List.length_map]; exact hp))
  have LW := Lib.hid PB.out.size
  clear hV X6 P2 P4 PB S1
  obtain ⟨g6, hg6⟩ : ∃ g, w1.heap.size = g := ⟨_, rfl⟩
  rw [hg6] at M6 L2 L4 LW LR ⊢
  clear hg6
  go_loopw [7] (fun vi wr => ∃ (j i : Nat), j ≤ N ∧ Hid (i = 16 * j) ∧ vi = .int .i64 (i : Int) ∧ Hid (wr.heap[g6]? = some (.cells ((G j).map bv).toArray 23 (0, 0))) ∧ Hid (Below g6 W6 wr)) (fun i _ => 16 * N - (intOf i).toNat)
  case atStart => exact ⟨0, 0, Nat.zero_le _, rfl, rfl, M6, Below.refl _ _⟩
  case round =>
    clear M6
    obtain ⟨j, i, hj, HI, rfl, H6, HB⟩ := hrel
    by_cases hlt : j < N
    · have q1 : (i : Int) < (M : Int) := by have h1 := HI.out; have h2 := HMN.out; omega
      have hi31 : i + 16 ≤ M := by have h1 := HI.out; have h2 := HMN.out; omega
      obtain ⟨S, HSG⟩ : ∃ S, Hid (G j = S) := ⟨_, rfl⟩
      have HSL : Hid (S.length = 16) := by show _ = _; rw [← HSG.out]; exact HGL.out j
      rw [HSG.out] at H6
      have HNX := HGN.out j
      rw [HSG.out, ← HI.out] at HNX
      have HFX : Hid (∀ k, P.getD (i + k) 0 = (fun k => byteF bs (i + k)) k) := fun k => HPG.out (i + k)
      generalize (fun k => byteF bs (i + k)) = f at HNX HFX
      have HNX := Lib.hid HNX
      go_wp2_with fail
      obtain ⟨wo, hwo⟩ : ∃ x, x = wr := ⟨_, rfl⟩
      subst hwo
      go_loopw [8] (fun vk wr => ∃ (k : Nat), k ≤ 16 ∧ vk = .int .i64 (k : Int) ∧ Hid (wr.heap[g6]? = some (.cells ((mixK S f k).map bv).toArray 23 (0, 0))) ∧ Hid (Below g6 W6 wr)) (fun k _ => 16 - (intOf k).toNat)
      case atStart => exact ⟨0, Nat.zero_le _, rfl, by show _ = _; rw [mixK_zero]; exact H6, HB⟩
      case round =>
        clear H6 HB
        obtain ⟨k, hk, rfl, H6, HB⟩ := hrel
        by_cases hltk : k < 16
        · have q2 : (k : Int) < 16 := by omega
          obtain ⟨q, hq⟩ : ∃ q, q = i + k := ⟨_, rfl⟩
          have o1 : IntKind.i64.wrap ((i : Int) + (k : Int)) = (q : Int) := by rw [IntKind.wrap_i64]; omega
          have q3 : (q : Int) < (M : Int) := by omega
          have hqP : q < P.length := by rw [HPL.out]; omega
          obtain ⟨b0, o0, hA, hb0, hc0⟩ := g_sl_cell S6.out (i := q) hqP
          obtain ⟨b1, o1', hA', hb1, _⟩ := LR.out (by omega)
          rw [hA] at hA'
          injection hA' with hA'
          injection hA' with e1 e2
          subst e1; subst e2
          have HFK := HFX.out k
          rw [← hq] at HFK
          rw [HFK] at hc0
          have HST := mixK_step S f k HSL.out hltk
          obtain ⟨x, hx⟩ : ∃ x, S.getD k 0 = x := ⟨_, rfl⟩
          generalize f k = y at hc0 HST
          rw [hx] at HST
          obtain ⟨z, hz⟩ : ∃ z : UInt8, z = x ^^^ y := ⟨_, rfl⟩
          rw [← hz] at HST
          have hzz : bits .xor .u8 (x.toNat : Int) (y.toNat : Int) = (z.toNat : Int) := by rw [hz]; exact xor8 x y
          have HST := Lib.hid HST
          have c6 : wr.cell? ⟨g6, k, none⟩ = some (.int .u8 (x.toNat : Int)) := by
            rw [cell_of_heap H6.out, List.getElem?_map, List.getElem?_eq_getElem (by rw [mixK_len S f k HSL.out hk]; exact hltk)]
            have hg := mixK_get S f k HSL.out hltk
            rw [hx, List.getD_eq_getElem?_getD, List.getElem?_eq_getElem (by rw [mixK_len S f k HSL.out hk]; exact hltk)] at hg
            simp at hg
            simp [bv, hg]
          have C6 : Hid (wr.drew.cell? ⟨g6, k, none⟩ = some (.int .u8 (x.toNat : Int))) := c6
          have K6 : Hid (wr.drew.heap[g6]? = _) := H6.out
          have KB : Hid (Below g6 W6 wr.drew) := HB.out.drew
          have C9 : Hid (wr.drew.cell? ⟨b0, o0 + q, none⟩ = some (.int .u8 (y.toNat : Int))) := (KB.out.cell hb1).trans hc0
          have hne : Hid (b0 ≠ g6 ∧ b0 < wr.drew.heap.size) := ⟨by omega, Nat.lt_of_lt_of_le hb0 KB.out.size⟩
          have HX : Hid (But g6 k wr.drew wr.drew) := Pre.refl _
          clear c6 hc0 hx hz hq HFK hb0 hb1 H6 HB hqP
          subst hA
          go_upto_region 9 with (fail)
          refine regS_start (But g6 k) (by kernel_rfl) ?_
          try simp only [Act.put, List.setIfInBounds_toArray, List.set_cons_zero, List.set_cons_succ]
          generalize wr.drew = W1 at C6 K6 KB C9 hne HX ⊢
          have c6 := C6.out
          refine regS_take (v := ?_) 0 (some 21) rfl rfl (by kernel_rfl) (by kernel_rfl) (by kernel_rfl) (fun _ _ _ h => h) (by rfl) (fun W hW => ?_) ?_
          rotate_left
          · (go_simp; try rfl)
          simp only [Act.put, List.setIfInBounds_toArray, List.set_cons_zero, List.set_cons_succ]
          refine regS_take (v := ?_) 1 (some 22) rfl rfl (by kernel_rfl) (by kernel_rfl) (by kernel_rfl) (fun _ _ _ h => h) (by rfl) (fun W hW => ?_) ?_
          rotate_left
          · (go_simp; try rfl)
          simp only [Act.put, List.setIfInBounds_toArray, List.set_cons_zero, List.set_cons_succ]
          refine regS_take (v := ?_) 2 (some 23) rfl rfl (by kernel_rfl) (by kernel_rfl) (by kernel_rfl) (fun _ _ _ h => h) (by rfl) (fun W hW => ?_) ?_
          rotate_left
          · (go_simp; try rfl)
          simp only [Act.put, List.setIfInBounds_toArray, List.set_cons_zero, List.set_cons_succ]
          refine regS_take (v := ?_) 4 (some 25) rfl rfl (by kernel_rfl) (by kernel_rfl) (by kernel_rfl) (fun _ _ _ h => h) (by rfl) (fun W hW => ?_) ?_
          rotate_left
          · (go_simp; try rfl)
          simp only [Act.put, List.setIfInBounds_toArray, List.set_cons_zero, List.set_cons_succ]
          refine regS_take (v := ?_) 5 (some 26) rfl rfl (by kernel_rfl) (by kernel_rfl) (by kernel_rfl) (fun _ _ _ h => h) (by rfl) (fun W hW => ?_) ?_
          rotate_left
          · (go_simp; try rfl)
          simp only [Act.put, List.setIfInBounds_toArray, List.set_cons_zero, List.set_cons_succ]
          refine regS_take (v := ?_) 6 (some 27) rfl rfl (by kernel_rfl) (by kernel_rfl) (by kernel_rfl) (fun _ _ _ h => h) (by rfl) (fun W hW => ?_) ?_
          rotate_left
          · (go_simp; try rfl)
          simp only [Act.put, List.setIfInBounds_toArray, List.set_cons_zero, List.set_cons_succ]
          refine regS_take (v := ?_) 7 (some 28) rfl rfl (by kernel_rfl) (by kernel_rfl) (by kernel_rfl) (fun _ _ _ h => h) (by rfl) (fun W hW => ?_) ?_
          rotate_left
          · (go_simp; try rfl)
          simp only [Act.put, List.setIfInBounds_toArray, List.set_cons_zero, List.set_cons_succ]
          refine regS_take (v := ?_) 8 (some 29) rfl rfl (by kernel_rfl) (by kernel_rfl) (by kernel_rfl) (fun _ _ _ h => h) (by rfl) (fun W hW => ?_) ?_
          rotate_left
          · (go_simp; try rfl)
          simp only [Act.put, List.setIfInBounds_toArray, List.set_cons_zero, List.set_cons_succ]
          refine regS_load 9 (some 30) (fun W hW => load_cell Try.underlying5 ((hW.2 _ _ hne.out.2 (fun e => hne.out.1 e.1)).trans C9.out)) rfl rfl rfl rfl (by kernel_rfl) (by kernel_rfl) (by kernel_rfl) (fun _ _ _ h => h) (by rfl) ?_
          simp only [Act.put, List.setIfInBounds_toArray, List.set_cons_zero, List.set_cons_succ]
          refine regS_eff 3 rfl (by kernel_rfl) (fun K hK => ?_)
          go_simp
          refine hK.out _ _ (Pre.refl _) ?_
          clear hK K
          try simp only [Act.put, List.setIfInBounds_toArray, List.set_cons_zero, List.set_cons_succ]
          refine regS_take (v := ?_) 10 (some 31) rfl rfl (by kernel_rfl) (by kernel_rfl) (by kernel_rfl) (fun _ _ _ h => h) (by rfl) (fun W hW => ?_) ?_
          rotate_left
          · (go_simp; try rfl)
          simp only [Act.put, List.setIfInBounds_toArray, List.set_cons_zero, List.set_cons_succ]
          refine regS_take (v := ?_) 11 (some 32) rfl rfl (by kernel_rfl) (by kernel_rfl) (by kernel_rfl) (fun _ _ _ h => h) (by rfl) (fun W hW => ?_) ?_
          rotate_left
          · (go_simp; try rfl)
          simp only [Act.put, List.setIfInBounds_toArray, List.set_cons_zero, List.set_cons_succ]
          refine regS_eff 12 rfl (by kernel_rfl) (fun K hK => ?_)
          refine step_st1 rfl 5 (.tmp 32) (.tmp 31) rfl (store_cell (k := .u8) Try.underlying5 s8 (w := W1) C6.out (frozen_of_heap (w := W1) K6.out _)) ?_
          have hE : But g6 k W1 (W1.setCell ⟨g6, k, none⟩ (.int .u8 (z.toNat : Int))) := But.set _
          refine hK.out _ _ hE ?_
          have HX := Lib.hid (Pre.trans HX.out hE)
          clear hE hK K
          try simp only [Act.put, List.setIfInBounds_toArray, List.set_cons_zero, List.set_cons_succ]
          refine regS_done (by kernel_rfl) ?_
          go_wp2
          go_roundw
          case rel =>
            refine ⟨k + 1, by omega, by go_num, ?_, KB.out.setCell (Nat.le_refl _) _⟩
            have := heap_set K6.out k (bv z)
            rw [← List.map_set, HST.out] at this
            exact this
          case measure => simp [intOf]; omega
        · have q2 : ¬ ((k : Int) < 16) := by omega
          have hk16 : k = 16 := by omega
          have HME := mixK_end S f HSL.out
          rw [hk16, HME] at H6
          have HML := Lib.hid (mixF_len S f)
          have K2 : Hid (wr.heap[w.heap.size]? = _) := (HB.out.block _ L2.out).trans M2.out
          have HMI := Lib.hid (i16l (mixF S f) HML.out)
          have GM := Lib.hid (fun W => refGmul_any (mixF S f) h W HML.out HH.out)
          rw [HNX.out] at GM
          have HYL := Lib.hid (HGL.out (j + 1))
          obtain ⟨Y, HYG⟩ : ∃ Y, Hid (G (j + 1) = Y) := ⟨_, rfl⟩
          rw [HYG.out] at GM HYL
          have HYI := Lib.hid (i16l Y HYL.out)
          generalize mixF S f = MX at H6 HML HMI GM
          clear hk16 hk HME HNX hltk
          go_wp2_with (first
            | (refine wpList_ld rfl 23 (.tmp 6) rfl (load_arr arr16B rfl HMI.out H6.out) ?_)
            | (refine wpList_ld rfl 23 (.tmp 2) rfl (load_arr arr16B rfl hi16h.out K2.out) ?_)
            | fail)
          refine (GM.out wr).mono ?_
          rintro e w5 ⟨rfl, hb5⟩
          have H7 := Lib.hid ((hb5.block _ (lt_of_heap H6.out)).trans H6.out)
          have HB7 : Hid (Below g6 W6 w5) := HB.out.trans (hb5.mono (Nat.le_of_lt (lt_of_heap H6.out)))
          clear hb5 H6 HB
          go_wp2_with (first
            | (refine wpList_st rfl 23 (.tmp 6) (.tmp 35) rfl (store_arr (cs := Y.map bv) HYI.out (bv_one _) (old := MX.map bv) H7.out (by rw [List.length_map, List.length_map, HYL.out, HML.out])) ?_
               generalize hV : World.setRow _ _ _ = W8
               have H8 := Lib.hid (heap_of_setRow hV H7.out)
               have HB8 : Hid (Below g6 W6 W8) := by rw [← hV]; exact HB7.out.trans (grown_below (grown_setRow _ _ _) (Nat.le_refl _) (Nat.le_of_lt (lt_of_heap H7.out)))
               clear hV)
            | fail)
          go_roundw
          case rel => exact ⟨j + 1, i + 16, by omega, by have := HI.out; show _ = _; omega, by go_num, by rw [HYG.out]; exact H8, HB8⟩
          case measure => have h1 := HI.out; simp [intOf]; omega
    · have q1 : ¬ ((i : Int) < (M : Int)) := by have h1 := HI.out; have h2 := HMN.out; omega
      have hjN : j = N := by omega
      rw [hjN, HGE.out] at H6
      have HYL : Hid (GN.length = 16) := by show _ = _; rw [← HGE.out]; exact HGL.out N
      have HYI := Lib.hid (i16l GN HYL.out)
      have K4 : Hid (wr.heap[w.heap.size + 1]? = _) := (HB.out.block _ L4.out).trans M4.out
      have KB : Hid (Below w.heap.size w wr) := MB.out.trans (HB.out.mono LW.out)
      clear hjN
      go_wp2_with (first
        | (refine wpList_ld rfl 23 (.tmp 6) rfl (load_arr arr16B rfl HYI.out H6.out) ?_)
        | (refine wpList_st rfl 23 (.tmp 4) (.tmp 36) rfl (store_arr (cs := GN.map bv) HYI.out (bv_one _) (old := Z.map bv) K4.out (by rw [List.length_map, List.length_map, HYL.out, HZ0.out])) ?_)
        | fail)
      have hres := setRow_heap wr (w.heap.size + 1) _ (GN.map bv).toArray 23 _ K4.out
      exact bodyPost_ret (results_cell_row (P := Try.prog) rfl _ _ (w.heap.size + 1) 23 (GN.map bv).toArray (0, 0) _ rfl hres arr16B rfl (by rw [List.size_toArray, List.length_map, HYL.out]; exact i16B)) rfl ⟨rfl, KB.out.trans (grown_below (grown_setRow _ _ _) (by omega) KB.out.size)⟩
end Go.Proofs.Ytjmpbcfbfbjenaa

/- palfreyref10.block, First. -/
namespace Go.Proofs.Ytjmpbcfbfbjenaa
open Go.RowKit
set_option maxRecDepth 100000
set_option linter.unusedVariables false
set_option linter.unusedSimpArgs false
/-- blocks below B, but for g, are as they were -/
def GrowB (B g : Nat) (w W : World) : Prop := W.os = w.os ∧ W.tape = w.tape ∧ W.output = w.output ∧ w.heap.size ≤ W.heap.size ∧ ∀ k, k < B → k ≠ g → W.heap[k]? = w.heap[k]?
instance (B g : Nat) : Pre (GrowB B g) where
  refl w := ⟨rfl, rfl, rfl, Nat.le_refl _, fun _ _ _ => rfl⟩
  trans h k := ⟨k.1.trans h.1, k.2.1.trans h.2.1, k.2.2.1.trans h.2.2.1, Nat.le_trans h.2.2.2.1 k.2.2.2.1, fun i hi hn => (k.2.2.2.2 i hi hn).trans (h.2.2.2.2 i hi hn)⟩
theorem GrowB.trans {B g : Nat} {a b c : World} (h : GrowB B g a b) (k : GrowB B g b c) : GrowB B g a c := Pre.trans h k
theorem GrowB.of_below {B g : Nat} {w W : World} (h : Below B w W) : GrowB B g w W := ⟨h.os, h.tape, h.output, h.size, fun k hk _ => h.block k hk⟩
theorem GrowB.heap {B g b : Nat} {w W : World} {o : Obj} (h : GrowB B g w W) (hb : b < B) (hn : b ≠ g) (hc : w.heap[b]? = some o) : W.heap[b]? = some o := (h.2.2.2.2 b hb hn).trans hc
theorem GrowB.setRow (B g : Nat) (W : World) (cs : Array Value) : GrowB B g W (W.setRow g cs) := by
  have h := grown_setRow W g cs
  refine ⟨h.os, h.tape, h.output, h.size, fun k hk hn => ?_⟩
  by_cases hl : k < W.heap.size
  · exact h.block k hl (fun e => hn (by injection e))
  · have hs : (W.setRow g cs).heap.size = W.heap.size := by simp
    rw [Array.getElem?_eq_none (by omega), Array.getElem?_eq_none (by omega)]
theorem GrowB.below {B g C : Nat} {w W : World} (h : GrowB B g w W) (h1 : C ≤ g) (h2 : C ≤ B) : Below C w W := ⟨h.1, h.2.1, h.2.2.1, h.2.2.2.1, fun k hk => h.2.2.2.2 k (by omega) (by omega)⟩
set_option maxHeartbeats 4000000 in
theorem refBlockX_any (A : Option Addr) (n c : Nat) (x : List UInt8) (w : World) (hn : n = 16) (hx : x.length = 16) (hS : Sl w A c x) :
    Calls Try.prog 54 #[.slice A n c] w fun e w' => e = .returned (.agg (x.map bv).toArray) ∧ Below w.heap.size w w' := by
  subst hn
  have HX := Lib.hid hx; have HS := Lib.hid hS
  have hz16 : ∀ W, (zeroValue 23).run Try.prog W = .ok (.agg zeros16.toArray) W := fun W => by kernel_rfl
  have HZL := Lib.hid zeros16_len
  have HFG0 := Lib.hid (filG_zero x)
  have HFGL := Lib.hid (fun p hp => filG_len x p hx hp)
  have HFGE := Lib.hid (filG_end x hx)
  have HFGS := Lib.hid (fun p hp => filG_step x p hx hp)
  generalize zeros16 = Z at hz16 HFG0 HZL
  generalize filG x = FG at HFG0 HFGL HFGE HFGS
  clear hx hS
  go_enter Try.func54, Try.ntmps54
  go_wp2_with fail
  generalize hV : (w.alloc _).alloc _ = W0
  have F2 : Hid (W0.heap[w.heap.size]? = some (.cells Z.toArray 23 (0, 0))) := by rw [← hV]; exact (heap2 w _ _).1
  have F3 : Hid (W0.heap[w.heap.size + 1]? = some (.cells ((FG 0).map bv).toArray 23 (0, 0))) := by show _ = _; rw [HFG0.out, ← hV]; exact (heap2 w _ _).2.1
  have FB : Hid (Below w.heap.size w W0) := by rw [← hV]; exact (heap2 w _ _).2.2
  clear hV
  obtain ⟨g3, hg3⟩ : ∃ g, w.heap.size + 1 = g := ⟨_, rfl⟩
  rw [hg3] at F3 ⊢
  have HG3 := Lib.hid hg3
  clear hg3
  go_loopw [4] (fun vi wr => ∃ (i : Nat), i ≤ 16 ∧ vi = .int .i64 (i : Int) ∧ Hid (wr.heap[g3]? = some (.cells ((FG i).map bv).toArray 23 (0, 0))) ∧ Hid (Below g3 W0 wr)) (fun i _ => 16 - (intOf i).toNat)
  case atStart => exact ⟨0, by omega, rfl, F3, Below.refl _ _⟩
  case round =>
    clear F3
    obtain ⟨i, hi, rfl, H3, HB⟩ := hrel
    have BW : Hid (Below w.heap.size w wr) := FB.out.trans (HB.out.mono (by have := HG3.out; omega))
    by_cases hlt : i < 16
    · have q1 : (i : Int) < 16 := by omega
      obtain ⟨pb, ob, rfl, hpb, cx⟩ := ta_sl_cell (HS.out.below BW.out) (i := i) (by rw [HX.out]; exact hlt)
      have HST := HFGS.out i hlt
      generalize x.getD i 0 = y at cx HST
      have c5 := bcellT H3.out i (by rw [HFGL.out i hi]; exact hlt)
      generalize (FG i).getD i 0 = old at c5
      have fz := frozen_of_heap H3.out i
      replace HST := Lib.hid HST
      clear hpb
      go_wp2_with fail
      go_roundw
      case rel =>
        refine ⟨i + 1, by omega, by go_num, ?_, HB.out.setCell (Nat.le_refl _) _⟩
        have hfin := heap_set H3.out i (bv y)
        rw [← List.map_set, HST.out] at hfin
        exact hfin
      case measure => simp [intOf]; omega
    · have q1 : ¬ ((i : Int) < 16) := by omega
      have hi16 : i = 16 := by omega
      rw [hi16, HFGE.out] at H3
      have hiX := Lib.hid (r_i16 x HX.out)
      have K2 : Hid (wr.heap[w.heap.size]? = _) := (HB.out.block _ (by have := HG3.out; omega)).trans F2.out
      clear hi16
      go_wp2_with (first
        | (refine wpList_ld rfl 23 (.tmp 3) rfl (load_arr arr16B rfl hiX.out H3.out) ?_)
        | (refine wpList_st rfl 23 (.tmp 2) (.tmp 15) rfl (store_arr (cs := x.map bv) (old := Z) hiX.out (bv_one _) K2.out (by rw [List.length_map, HX.out, HZL.out])) ?_)
        | fail)
      have hres := setRow_heap wr w.heap.size _ (x.map bv).toArray 23 _ K2.out
      exact bodyPost_ret (results_cell_row (P := Try.prog) rfl _ _ w.heap.size 23 (x.map bv).toArray (0, 0) _ rfl hres arr16B rfl (by rw [List.size_toArray]; exact hiX.out)) rfl ⟨rfl, BW.out.trans (grown_below (grown_setRow _ _ _) (Nat.le_refl _) BW.out.size)⟩
theorem zerB_cells : zeros16 = zerB.map bv := rfl
set_option maxHeartbeats 8000000 in
theorem refFirst_any (key : List UInt8) (nk : Nat) (A : Option Addr) (cc : Nat) (iv : List UInt8) (Ai : Option Addr) (n ic : Nat) (w : World) (hk : nk = 4 ∨ nk = 8) (hl : key.length = 4 * nk) (hi : iv.length = n) (hn : n ≤ 100000) (hA : KeysAt w A (nk + 7) (rkB (expandL key))) (hS : Sl w Ai ic iv) :
    Calls Try.prog 26 #[.agg (sboxL.map bv).toArray, .slice A (nk + 7) cc, .slice Ai n ic] w fun e w' => e = .returned (.agg ((firstG (encL (expandL key) (nk + 6)) iv).map bv).toArray) ∧ Below w.heap.size w w' := by
  have HIL := Lib.hid hi; have HS := Lib.hid hS; have HKA := Lib.hid hA
  have RE0 := Lib.hid (fun A cc W hA => refEncK_any key nk zerB A cc W hk hl rfl hA)
  have hwl : (expandL key).length = 60 := expandL_len key (by omega)
  have HHL : Hid ((encL (expandL key) (nk + 6) zerB).length = 16) := by show _ = _; rw [encL, encT, outL_len, addW_len _ _ _ (shiftW_len _ _) (by omega)]
  have HFL := Lib.hid (firstG_len (encL (expandL key) (nk + 6)) iv)
  have HF12 : Hid (n = 12 → iv ++ [0, 0, 0, 1] = firstG (encL (expandL key) (nk + 6)) iv) := fun h => by rw [firstG, if_pos (hi.trans h)]
  have HFN : Hid (¬ n = 12 → gsumL (encL (expandL key) (nk + 6) zerB) (whG iv ++ lenL 0 (n : Int)) = firstG (encL (expandL key) (nk + 6)) iv) := fun h => by rw [firstG, if_neg (by rw [hi]; exact h), hi]
  have HPD := Lib.hid (fun W hS => refGpad_any Ai n ic iv W hi (by omega) hS)
  have HWH : Hid (iv ++ List.replicate (padN n) 0 = whG iv) := by show _ = _; rw [whG, hi]
  have hpn : padN n ≤ 15 := by unfold padN; omega
  have hz16 : ∀ W, (zeroValue 23).run Try.prog W = .ok (.agg zeros16.toArray) W := fun W => by kernel_rfl
  have hb0 : ∀ W, (Instr.build 23 #[]).run Try.prog W = .ok (.agg (zerB.map bv).toArray) W := fun W => by kernel_rfl
  have HB0 := Lib.hid hb0
  have HZL := Lib.hid zeros16_len
  have HTL : Hid ((sboxL.map bv).length = 256) := by show _ = _; rw [List.length_map, sboxL_len]
  have HI : Hid ((Try.prog.info? 48).map (·.size) = some (sboxL.map bv).length) := by show _ = _; rw [HTL.out]; exact i256B
  rw [HWH.out] at HPD
  generalize firstG (encL (expandL key) (nk + 6)) iv = X at HFL HF12 HFN ⊢
  generalize encL (expandL key) (nk + 6) zerB = H at RE0 HHL HFN
  generalize rkB (expandL key) = RK at RE0 HKA
  generalize sboxL.map bv = TB at RE0 HTL HI ⊢
  generalize zeros16 = Z at hz16 HZL
  generalize zerB.map bv = ZC at RE0 HB0
  obtain ⟨r7, hr7⟩ : ∃ r7, r7 = nk + 7 := ⟨_, rfl⟩
  rw [← hr7] at RE0 HKA ⊢
  have hiX := Lib.hid (r_i16 X HFL.out)
  clear hl hk hi hA hS hr7 hwl hb0 HWH
  go_enter Try.func26, Try.ntmps26
  go_upto_region 1 with (fail)
  generalize hV : (w.alloc _).alloc _ = W0
  have F3 : Hid (W0.heap[w.heap.size]? = some (.cells TB.toArray 48 (0, 0))) := by rw [← hV]; exact (heap2 w _ _).1
  have F6 : Hid (W0.heap[w.heap.size + 1]? = some (.cells Z.toArray 23 (0, 0))) := by rw [← hV]; exact (heap2 w _ _).2.1
  have FB : Hid (Below w.heap.size w W0) := by rw [← hV]; exact (heap2 w _ _).2.2
  clear hV
  obtain ⟨gR, hgR⟩ : ∃ g, w.heap.size + 1 = g := ⟨_, rfl⟩
  rw [hgR] at F6 ⊢
  have HGR := Lib.hid hgR
  have LR : Hid (w.heap.size < gR) := by show _ < _; omega
  clear hgR
  have S0 := Lib.hid (HS.out.below FB.out)
  have K0 := Lib.hid (HKA.out.below FB.out)
  by_cases h12 : n = 12
  · have q1 : ((n : Int) == 12) = true := by simp [h12]
    have q2 : (n : Int) = 12 := by omega
    have HX1 := Lib.hid (HF12.out h12)
    have hn31 : 0 + n ≤ 2147483647 := by omega
    have hn314 : n + 4 ≤ 2147483647 := by omega
    have HN := Lib.hid h12
    have LX : Hid ((iv ++ [0, 0, 0, 1]).length = 16) := by show _ = _; rw [HX1.out]; exact HFL.out
    clear h12 HF12 HFN q2 hpn
    go_wp2_with (first
      | (at_builtin
         refine wpList_app8 rfl (.tmp 11) (.tmp 12) rfl W0.heap.size _ 0 [] rfl ?_ Ai n ic W0.heap.size iv rfl ?_ ?_ ?_ ?_ ?_
         · exact own_heap (g := W0.heap.size) (heap_alloc_new' W0 _) (Nat.le_refl _) rfl (Nat.zero_le _)
         · exact S0.out.2.2.below ((Below.refl _ _).alloc (Nat.le_refl _) _)
         · exact HIL.out
         · exact hn31
         · simp
         rintro v1 w1 hown hgr
         have HB1 := Lib.hid (((Below.refl W0.heap.size W0).alloc (Nat.le_refl _) _).grown hgr (by simp) (ge_own W0.heap.size 0))
         rw [List.nil_append, Nat.zero_add] at hown
         have O1 := Lib.hid hown
         clear hgr hown)
      | (at_builtin
         refine wpList_app8 rfl (.tmp 13) (.tmp 14) rfl W0.heap.size _ n iv rfl ?_ (some ⟨w1.heap.size, 0, none⟩) 4 4 (w1.heap.size + 1) [0, 0, 0, 1] rfl ?_ rfl ?_ ?_ ?_
         · exact k_alloc O1.out _
         · exact row_of_heap (bs := [0, 0, 0, 1]) (heap_alloc_new' w1 (.cells (([0, 0, 0, 1] : List UInt8).map bv).toArray 5)) (Nat.lt_succ_self _)
         · exact hn314
         · exact Nat.le_trans HB1.out.size (by simp)
         rintro v2 w2 hown hgr
         have HB2 := Lib.hid ((HB1.out.alloc HB1.out.size (.cells (([0, 0, 0, 1] : List UInt8).map bv).toArray 5)).grown hgr (Nat.le_trans HB1.out.size (by simp)) (ka_own_ge O1.out (Nat.le_refl _)))
         have O2 := Lib.hid hown
         clear hgr hown)
      | fail)
    obtain ⟨A2, c2, rfl, hl2, h21, h22, hr2⟩ := own_read O2.out
    have S2 : Hid (Sl w2 A2 c2 (iv ++ [0, 0, 0, 1])) := ⟨by omega, h22, hr2⟩
    refine (refBlockX_any A2 (n + 4) c2 (iv ++ [0, 0, 0, 1]) w2 (by have := HN.out; omega) LX.out S2.out).mono ?_
    rw [HX1.out]
    rintro e w3 ⟨rfl, hb3⟩
    have BX : Hid (Below W0.heap.size W0 w3) := HB2.out.trans (hb3.mono HB2.out.size)
    have G6 := Lib.hid ((BX.out.block _ (lt_of_heap F6.out)).trans F6.out)
    have BW : Hid (Below w.heap.size w w3) := FB.out.step BX.out
    clear hb3 BX HB2 HB1 S2 O2 O1 hl2 h21 h22 hr2
    go_wp2_with (first
      | (refine wpList_st rfl 23 (.tmp 6) (.tmp 16) rfl (store_arr (cs := X.map bv) (old := Z) hiX.out (bv_one _) G6.out (by rw [List.length_map, HFL.out, HZL.out])) ?_)
      | fail)
    have hres := setRow_heap w3 gR _ (X.map bv).toArray 23 _ G6.out
    exact bodyPost_ret (results_cell_row (P := Try.prog) rfl _ _ gR 23 (X.map bv).toArray (0, 0) _ rfl hres arr16B rfl (by rw [List.size_toArray]; exact hiX.out)) rfl ⟨rfl, BW.out.trans (grown_below (grown_setRow _ _ _) (Nat.le_of_lt LR.out) BW.out.size)⟩
  · have q1 : ((n : Int) == 12) = false := by simp; omega
    have q2 : ¬ (n : Int) = 12 := by omega
    have HX1 := Lib.hid (HFN.out h12)
    have hiH := Lib.hid (r_i16 H HHL.out)
    clear h12 HF12 HFN
    go_wp2_with (first
      | (refine wpList_ld rfl 48 (.tmp 3) rfl (load_arr arr256B rfl HI.out F3.out) ?_)
      | (refine wpList_run (o := ⟨some 19, .build _ _, _, _, _, _⟩) rfl (exec_build rfl (by simp only [List.map_toArray, List.map_nil]; exact HB0.out _)) ?_)
      | fail)
    refine (RE0.out _ cc W0 K0.out).mono ?_
    rintro e w1 ⟨rfl, hb1⟩
    have G6 := Lib.hid ((hb1.block _ (lt_of_heap F6.out)).trans F6.out)
    have B1 := Lib.hid (FB.out.step hb1)
    have S1 := Lib.hid (S0.out.below hb1)
    have LG : Hid (gR < w1.heap.size) := lt_of_heap G6.out
    clear hb1 S0 K0 F3 F6 FB
    go_upto_region 4 with (first
      | (refine wpList_st rfl 23 (.tmp 7) (.tmp 20) rfl (store_arr (cs := H.map bv) (old := Z) hiH.out (bv_one _) (heap_alloc_new' w1 _) (by rw [List.length_map, HHL.out, HZL.out])) ?_
         generalize hV : World.setRow _ _ _ = W2
         have M7 := Lib.hid (heap_of_setRow hV (heap_alloc_new' w1 _))
         have X2 := Lib.hid (((Below.refl w1.heap.size w1).alloc (Nat.le_refl _) _).trans (below_of_setRow hV (Nat.le_refl w1.heap.size) (by simp)))
         clear hV)
      | fail)
    have H6 := Lib.hid ((X2.out.block _ LG.out).trans G6.out)
    have B2 := Lib.hid (B1.out.step X2.out)
    have S2 := Lib.hid (S1.out.below X2.out)
    have L7 : Hid (w1.heap.size < W2.heap.size ∧ gR < w1.heap.size) := ⟨lt_of_heap M7.out, LG.out⟩
    obtain ⟨g7, hg7⟩ : ∃ g, w1.heap.size = g := ⟨_, rfl⟩
    rw [hg7] at M7 L7 ⊢
    obtain ⟨q, hq⟩ : ∃ q, q = W2.heap.size := ⟨_, rfl⟩
    rw [← hq] at L7
    have HQ := Lib.hid hq
    clear hg7 G6 B1 S1 X2 LG hq
    have HX : Hid (GrowB q gR W2 W2.drew) := GrowB.of_below ((Below.refl _ _).drew)
    have LN := Lib.hid (fun W => refLen_any 0 (n : Int) W)
    have LL : Hid ((whG iv ++ lenL 0 (n : Int)).length = n + padN n + 16) := by show _ = _; rw [List.length_append, lenL_len, whG, List.length_append, List.length_replicate, HIL.out]
    have GS := Lib.hid (fun A c W hS => refGsum_any H A (n + padN n + 16) c (whG iv ++ lenL 0 (n : Int)) W HHL.out LL.out (by omega) hS)
    rw [HX1.out] at GS
    generalize lenL 0 (n : Int) = LE at LN GS
    generalize whG iv = WI at HPD GS
    obtain ⟨np, hnp⟩ : ∃ np, np = n + padN n := ⟨_, rfl⟩
    have hnp2 : np ≤ 100015 := by omega
    rw [← hnp] at HPD GS
    clear hnp LL hpn
    refine regS_start (GrowB q gR) (by kernel_rfl) ?_
    try simp only [Act.put, List.setIfInBounds_toArray, List.set_cons_zero, List.set_cons_succ]
    refine regS_load 0 (some 21) (fun W hW => load_arr arr16B rfl hiH.out (hW.heap L7.out.1 (by have := L7.out; omega) (HX.out.heap L7.out.1 (by have := L7.out; omega) M7.out))) rfl rfl rfl rfl (by kernel_rfl) (by kernel_rfl) (by kernel_rfl) (fun _ _ _ h => h) (by rfl) ?_
    simp only [Act.put, List.setIfInBounds_toArray, List.set_cons_zero, List.set_cons_succ]
    refine regS_take (v := ?_) 1 (some 22) rfl rfl (by kernel_rfl) (by kernel_rfl) (by kernel_rfl) (fun _ _ _ h => h) (by rfl) (fun W hW => ?_) ?_
    rotate_left
    · (go_simp; try rfl)
    simp only [Act.put, List.setIfInBounds_toArray, List.set_cons_zero, List.set_cons_succ]
    refine regS_take (v := ?_) 3 (some 24) rfl rfl (by kernel_rfl) (by kernel_rfl) (by kernel_rfl) (fun _ _ _ h => h) (by rfl) (fun W hW => ?_) ?_
    rotate_left
    · (go_simp; try rfl)
    simp only [Act.put, List.setIfInBounds_toArray, List.set_cons_zero, List.set_cons_succ]
    refine regS_take (v := ?_) 4 (some 25) rfl rfl (by kernel_rfl) (by kernel_rfl) (by kernel_rfl) (fun _ _ _ h => h) (by rfl) (fun W hW => ?_) ?_
    rotate_left
    · (go_simp; try rfl)
    simp only [Act.put, List.setIfInBounds_toArray, List.set_cons_zero, List.set_cons_succ]
    refine regS_eff 2 rfl (by kernel_rfl) (fun K hK => ?_)
    go_simp
    refine (HPD.out _ (S2.out.below (Below.refl _ _).drew)).mono ?_
    rintro e w3 ⟨v3, rfl, hO3, hb⟩
    have O3 := Lib.hid hO3
    have X3 : Hid (Below q W2 w3) := by show Below _ _ _; rw [HQ.out]; exact (Below.refl _ _).drew.trans hb
    have hE : GrowB q gR W2.drew w3 := GrowB.of_below (by rw [HQ.out]; exact hb)
    clear hO3 hb
    refine hK.out _ _ hE ?_
    have HX := Lib.hid (Pre.trans HX.out hE)
    clear hE hK K
    try simp only [Act.put, List.setIfInBounds_toArray, List.set_cons_zero, List.set_cons_succ]
    refine regS_eff 5 rfl (by kernel_rfl) (fun K hK => ?_)
    go_simp
    refine (LN.out _).mono ?_
    rintro e w4 ⟨v4, rfl, hO4, hb⟩
    have O4 := Lib.hid hO4
    have X4 : Hid (Below q w3 w4) := hb.mono (by have h1 := X3.out.size; have h2 := HQ.out; omega)
    have O34 := Lib.hid (ka_own_below O3.out hb)
    have L34 : Hid (q ≤ w4.heap.size ∧ W2.heap.size ≤ w3.heap.size ∧ w3.heap.size ≤ w4.heap.size) := by have h1 := X3.out.size; have h2 := HQ.out; have h3 := hb.size; show _ ∧ _; omega
    have hE : GrowB q gR w3 w4 := GrowB.of_below X4.out
    clear hO4 hb
    refine hK.out _ _ hE ?_
    have HX := Lib.hid (Pre.trans HX.out hE)
    clear hE hK K
    try simp only [Act.put, List.setIfInBounds_toArray, List.set_cons_zero, List.set_cons_succ]
    refine regS_eff 6 rfl (by kernel_rfl) (fun K hK => ?_)
    obtain ⟨A4, c4, rfl, hl4, h41, h42, hr4⟩ := own_read O4.out
    obtain ⟨v5, w5, hrun, hown, hgr, _⟩ := append_row_at (P := Try.prog) w4 q 26 uT made8 rfl v3 np (WI.map bv) (ka_own_le O34.out (by have := HQ.out; show q ≤ W2.heap.size; omega)) w4.heap.size A4 16 c4 (LE.map bv) hr4 (by rw [List.length_map]; exact hl4) (bv_one _) (by omega) (by simp [maxLen]; omega) L34.out.1
    rw [← List.map_append] at hown
    have O5 := Lib.hid hown
    have X5 : Hid (Below q w4 w5) := Below.grown (Below.refl _ _) hgr L34.out.1 (ka_own_ge O34.out (by have := HQ.out; show q ≤ W2.heap.size; omega))
    have hE : GrowB q gR w4 w5 := GrowB.of_below X5.out
    have L5 : Hid (q ≤ w5.heap.size) := Nat.le_trans L34.out.1 X5.out.size
    refine step_app rfl (.tmp 23) (.tmp 26) 26 26 rfl hrun ?_
    clear hrun hown hgr hl4 h41 h42 hr4
    refine hK.out _ _ hE ?_
    have HX := Lib.hid (Pre.trans HX.out hE)
    clear hE hK K
    try simp only [Act.put, List.setIfInBounds_toArray, List.set_cons_zero, List.set_cons_succ]
    refine regS_eff 7 rfl (by kernel_rfl) (fun K hK => ?_)
    go_simp
    obtain ⟨A5, c5, rfl, hl5, h51, h52, hr5⟩ := own_read O5.out
    refine (GS.out A5 c5 _ ⟨by omega, h52, hr5⟩).mono ?_
    rintro e w6 ⟨rfl, hb⟩
    have X6 : Hid (Below q w5 w6) := hb.mono L5.out
    have hE : GrowB q gR w5 w6 := GrowB.of_below X6.out
    have P6 : Hid (w6.heap[gR]? = some (.cells Z.toArray 23 (0, 0))) := (((X3.out.trans X4.out).trans (X5.out.trans X6.out)).block _ (by have := L7.out; omega)).trans H6.out
    clear hb hl5 h51 h52 hr5
    refine hK.out _ _ hE ?_
    have HX := Lib.hid (Pre.trans HX.out hE)
    clear hE hK K
    try simp only [Act.put, List.setIfInBounds_toArray, List.set_cons_zero, List.set_cons_succ]
    refine regS_eff 8 rfl (by kernel_rfl) (fun K hK => ?_)
    refine step_st1 rfl 23 (.tmp 6) (.tmp 28) rfl (store_arr (cs := X.map bv) (old := Z) hiX.out (bv_one _) P6.out (by rw [List.length_map, HFL.out, HZL.out])) ?_
    generalize hV : World.setRow _ _ _ = W7
    have hres := Lib.hid (heap_of_setRow hV P6.out)
    have hE : GrowB q gR w6 W7 := by rw [← hV]; exact GrowB.setRow _ _ _ _
    clear hV
    refine hK.out _ _ hE ?_
    have HX := Lib.hid (Pre.trans HX.out hE)
    clear hE hK K
    try simp only [Act.put, List.setIfInBounds_toArray, List.set_cons_zero, List.set_cons_succ]
    refine regS_done (by kernel_rfl) ?_
    go_wp2
    exact bodyPost_ret (results_cell_row (P := Try.prog) rfl _ _ gR 23 (X.map bv).toArray (0, 0) _ rfl hres.out arr16B rfl (by rw [List.size_toArray]; exact hiX.out)) rfl ⟨rfl, B2.out.trans (HX.out.below (Nat.le_of_lt LR.out) (by have h1 := L7.out; have h2 := LR.out; omega))⟩
end Go.Proofs.Ytjmpbcfbfbjenaa

/- The library's bytes.Repeat of one byte; math/bits.Mul. -/
namespace Go.Proofs.Ytjmpbcfbfbjenaa
open Go.RowKit
set_option linter.unusedVariables false
set_option maxRecDepth 100000
set_option linter.unusedSimpArgs false
theorem mul_any (x y : Nat) (w : World) (hx : x < 18446744073709551616) (hy : y < 18446744073709551616) :
    Calls Try.prog 97 #[.int .u64 (x : Int), .int .u64 (y : Int)] w fun e w' =>
      e = .returned (.tuple #[.int .u64 ((x * y / 18446744073709551616 : Nat) : Int), .int .u64 ((x * y % 18446744073709551616 : Nat) : Int)]) ∧ w = w' := by
  have H := Lib.hid (mul64_any x y w hx hy)
  generalize x * y / 18446744073709551616 = p at H ⊢
  generalize x * y % 18446744073709551616 = q at H ⊢
  go_enter Try.func97, Try.ntmps97
  go_wp2_with fail
  refine H.out.mono ?_
  rintro e w1 ⟨rfl, rfl⟩
  go_wp2
  exact bodyPost_ret (results_tmp2 rfl _ _ _) rfl ⟨rfl, rfl⟩
theorem splice_get {L cs : List Value} {k j : Nat} {v : Value} (hk : k + cs.length ≤ L.length) (h1 : ∀ i, i < k → L[i]? = some v) (h2 : ∀ u ∈ cs, u = v) (hj : j < k + cs.length) : (splice L k cs)[j]? = some v := by
  unfold splice
  by_cases hjk : j < k
  · rw [List.getElem?_append_left (by rw [List.length_take]; omega), List.getElem?_take_of_lt hjk]; exact h1 j hjk
  · rw [List.getElem?_append_right (by rw [List.length_take]; omega), List.length_take, Nat.min_eq_left (by omega), List.getElem?_append_left (by omega), List.getElem?_eq_getElem (by omega)]
    rw [h2 _ (List.getElem_mem _)]
theorem splice_length' {α : Type} (L cs : List α) (k : Nat) (hk : k + cs.length ≤ L.length) : (splice L k cs).length = L.length := by
  simp [splice]; omega
set_option maxHeartbeats 2000000 in
theorem rep_any (A : Option Addr) (c : Nat) (x : UInt8) (n : Nat) (w : World) (hn : 1 ≤ n) (hn2 : n ≤ 8192) (hS : Sl w A c [x]) :
    Calls Try.prog 78 #[.slice A 1 c, .int .i64 (n : Int)] w fun e w' => e = .returned (.slice (some ⟨w.heap.size, 0, none⟩) n n) ∧ Sl w' (some ⟨w.heap.size, 0, none⟩) n (List.replicate n x) ∧ Below w.heap.size w w' := by
  obtain ⟨cs, hrun, hle, hmax⟩ := Lib.run_makeNoZero (P := Try.prog) w #[3] 26 5 uT n (by omega)
  have hmx : n ≤ maxLen := by simp [maxLen]; omega
  have hcall : (callFunc 98 #[.int .i64 (n : Int)]).run Try.prog w = .ok (.value (.slice (some ⟨w.heap.size, 0, none⟩) n cs.size)) (w.drew.drew.alloc (.cells cs 5)) := by
    rw [run_callFunc_extern (P := Try.prog) (e := Extern.BytealgMakeNoZero.makeNoZero #[3] #[26]) Try.func98 (by kernel_rfl) (by kernel_rfl) (by kernel_rfl) (by kernel_rfl), hrun]
    rfl
  have HM : Hid (Calls Try.prog 97 #[.int .u64 1, .int .u64 (n : Int)] w fun e w' => e = .returned (.tuple #[.int .u64 0, .int .u64 (n : Int)]) ∧ w = w') := by
    have := mul_any 1 n w (by omega) (by omega)
    rw [Nat.one_mul, Nat.div_eq_of_lt (by omega), Nat.mod_eq_of_lt (by omega)] at this
    exact this
  obtain ⟨CL, hCL⟩ : ∃ L : List Value, cs = L.toArray := ⟨cs.toList, rfl⟩
  have hsz : cs.size = CL.length := by rw [hCL]; simp
  have F0 : Hid ((w.drew.drew.alloc (.cells cs 5)).heap[w.heap.size]? = some (.cells CL.toArray 5 (0, 0))) := by rw [hCL]; exact heap_alloc_new' w.drew.drew _
  have B0 : Hid (Below w.heap.size w (w.drew.drew.alloc (.cells cs 5))) := (Below.refl _ w).drew.drew.alloc (Nat.le_refl _) _
  generalize w.drew.drew.alloc (.cells cs 5) = W1 at hcall F0 B0
  rw [hsz] at hcall hle
  have HK : Hid (n ≤ CL.length) := hle
  have HS := Lib.hid hS
  generalize hKK : CL.length = K at hcall HK
  have HKL : Hid (CL.length = K) := hKK
  have u1 : IntKind.u64.wrap (n : Int) = (n : Int) := by rw [IntKind.wrap_u64]; omega
  have u2 : IntKind.i64.wrap (n : Int) = (n : Int) := by rw [IntKind.wrap_i64]; omega
  have e1 : ((n : Int) == 0) = false := by simp; omega
  have e2 : ¬ ((n : Int) < 0) := by omega
  have e3 : ¬ ((9223372036854775807 : Int) < (n : Int)) := by omega
  have e4 : ¬ ((8192 : Int) < (n : Int)) := by omega
  obtain ⟨q, hq⟩ : ∃ q, w.heap.size = q := ⟨_, rfl⟩
  rw [hq] at hcall F0
  have HQ := Lib.hid hq
  have hnK : n ≤ K := by have := HK.out; omega
  clear hrun hle hmax hsz hCL hKK hS hq
  go_enter Try.func78, Try.ntmps78
  go_wp2_with fail
  refine HM.out.mono ?_
  rintro e w1 ⟨rfl, rfl⟩
  go_upto_region 17 with (fail)
  have HR0 := Lib.hid (HS.out.2.2.below B0.out)
  obtain ⟨W2, hrun, hblk, hsz, hgr⟩ := copy_run uT s8 (sT := 26) 3 W1 q 0 CL 5 F0.out (some ⟨q, 0, none⟩) A n n 1 c w.heap.size ([x].map bv) (by simp; omega) (fun _ => rfl) HR0.out (by rw [HKL.out]; simp; omega) (bv_one _)
  simp only [List.length_map, List.length_cons, List.length_nil, Nat.zero_add] at hrun
  have HG : ∀ j, j < 1 → (splice CL 0 ([x].map bv))[j]? = some (bv x) := fun j hj => splice_get (by rw [HKL.out]; simp; omega) (fun i hi => absurd hi (Nat.not_lt_zero i)) (fun u hu => by simpa using hu) (by simpa using hj)
  have HGL : (splice CL 0 ([x].map bv)).length = K := by rw [splice_length' _ _ _ (by rw [HKL.out]; simp; omega), HKL.out]
  have F2 := Lib.hid hblk
  have G2 := Lib.hid HG
  have GL2 := Lib.hid HGL
  have HRUN := Lib.hid hrun
  have B2 : Hid (Below w.heap.size w W2) := B0.out.trans (grown_below hgr (Nat.le_of_eq HQ.out) B0.out.size)
  clear hrun hblk hsz hgr HG HGL F0 HR0 B0
  generalize splice CL 0 ([x].map bv) = L2 at F2 G2 GL2
  go_upto_region 18 with (first
    | (refine wpList_cpy rfl (.tmp 58) (.tmp 59) 26 26 rfl HRUN.out ?_)
    | fail)
  go_loopw [10, 11] (fun v10 v11 wr => ∃ (b : Nat) (L : List Value), 1 ≤ b ∧ b ≤ n ∧ v10 = .int .i64 (b : Int) ∧ Hid (L.length = K) ∧ Hid (∀ j, j < b → L[j]? = some (bv x)) ∧ Hid (wr.heap[q]? = some (.cells L.toArray 5 (0, 0))) ∧ Hid (Below w.heap.size w wr)) (fun v10 _ _ => n - (intOf v10).toNat)
  case atStart => exact ⟨1, L2, by omega, hn, rfl, GL2, G2, F2, B2⟩
  case round =>
    clear F2 G2 GL2 B2 HRUN hcall
    obtain ⟨b, L, hb1, hbn, rfl, LK, LX, FL, BL⟩ := hrel
    by_cases hlt : b < n
    · have q1 : (b : Int) < (n : Int) := by omega
      have q2 : ¬ ((n : Int) < (b : Int)) := by omega
      have q3 : (b : Int) ≤ (n : Int) := by omega
      obtain ⟨m, hm⟩ : ∃ m, m = min b (n - b) := ⟨_, rfl⟩
      obtain ⟨b2, hb2⟩ : ∃ b2, b2 = b + m := ⟨_, rfl⟩
      have u3 : IntKind.i64.wrap ((b : Int) + (m : Int)) = (b2 : Int) := by rw [IntKind.wrap_i64]; omega
      have sl1 := cut_from uT s8 (some ⟨q, 0, none⟩) n n .i64 (b : Int) (by omega) (by omega)
      rw [Int.toNat_natCast, show cutS (some ⟨q, 0, none⟩) n b = some ⟨q, b, none⟩ from by unfold cutS; rw [if_neg (by omega)]; simp [Addr.add]; omega] at sl1
      have sl2 := cut_to uT s8 (some ⟨q, 0, none⟩) n n .i64 (b : Int) (by omega) (by omega)
      rw [Int.toNat_natCast] at sl2
      have hml : ((List.replicate m x).map bv).length = m := by simp
      have hfit : b + ((List.replicate m x).map bv).length ≤ L.length := by rw [hml, LK.out]; omega
      have hsrc : RowAt wr.drew wr.heap.size (some ⟨q, 0, none⟩) ((List.replicate m x).map bv) := .inr ⟨q, 0, rfl, lt_of_heap FL.out, fun j u hu => by
        have hj : j < m := by have := (List.getElem?_eq_some_iff.1 hu).1; rw [hml] at this; exact this
        have hc : wr.drew.cell? ⟨q, 0 + j, none⟩ = L[0 + j]? := cell_of_heap FL.out (0 + j)
        rw [hc, Nat.zero_add, LX.out j (by omega), ← hu]; simp [hj, bv]⟩
      obtain ⟨w5, hrun, hblk, hsz, hgr⟩ := copy_run uT s8 (sT := 26) 3 wr.drew q b L 5 FL.out (some ⟨q, b, none⟩) (some ⟨q, 0, none⟩) (n - b) (n - b) b n wr.heap.size ((List.replicate m x).map bv) (by rw [hml]; exact hm) (fun _ => rfl) hsrc hfit (bv_one _)
      rw [hml] at hrun
      have F5 := Lib.hid hblk
      have L5 : Hid ((splice L b ((List.replicate m x).map bv)).length = K) := by show _ = _; rw [splice_length' _ _ _ hfit, LK.out]
      have X5 : Hid (∀ j, j < b2 → (splice L b ((List.replicate m x).map bv))[j]? = some (bv x)) := fun j hj => splice_get hfit (fun i hi => LX.out i hi) (fun u hu => by simp at hu; exact hu.2) (by rw [hml]; omega)
      have E5 : Hid (Below w.heap.size wr.drew w5) := grown_below hgr (Nat.le_of_eq HQ.out) BL.out.size
      have HRUN := Lib.hid hrun
      have hbb : Hid (b < b2 ∧ b2 ≤ n ∧ 1 ≤ b2) := by show _ ∧ _ ∧ _; omega
      generalize splice L b ((List.replicate m x).map bv) = L6 at F5 L5 X5
      clear hrun hblk hsz hgr hml hfit hsrc hm hb2
      go_upto_region 20 with (fail)
      have HX : Hid (Below w.heap.size wr wr.drew) := (Below.refl _ _).drew
      refine regB_start (w.heap.size) (by kernel_rfl) ?_
      try simp only [Act.put, List.setIfInBounds_toArray, List.set_cons_zero, List.set_cons_succ]
      refine regB_take (v := ?_) 0 (some 67) rfl rfl (by kernel_rfl) (by kernel_rfl) (by kernel_rfl) (fun _ _ _ h => h) (by rfl) (fun W hW => ?_) ?_
      rotate_left
      · (go_simp; try rfl)
      simp only [Act.put, List.setIfInBounds_toArray, List.set_cons_zero, List.set_cons_succ]
      refine regB_take (v := ?_) 1 (some 68) rfl rfl (by kernel_rfl) (by kernel_rfl) (by kernel_rfl) (fun _ _ _ h => h) (by rfl) (fun W hW => ?_) ?_
      rotate_left
      · (go_simp; try rfl)
      simp only [Act.put, List.setIfInBounds_toArray, List.set_cons_zero, List.set_cons_succ]
      refine regB_take (v := ?_) 2 (some 69) rfl rfl (by kernel_rfl) (by kernel_rfl) (by kernel_rfl) (fun _ _ _ h => h) (by rfl) (fun W hW => ?_) ?_
      rotate_left
      · (go_simp; try rfl)
      simp only [Act.put, List.setIfInBounds_toArray, List.set_cons_zero, List.set_cons_succ]
      refine regB_take (v := ?_) 3 (some 70) rfl rfl (by kernel_rfl) (by kernel_rfl) (by kernel_rfl) (fun _ _ _ h => h) (by rfl) (fun W hW => ?_) ?_
      rotate_left
      · (go_simp; try rfl)
      simp only [Act.put, List.setIfInBounds_toArray, List.set_cons_zero, List.set_cons_succ]
      refine regB_take (v := ?_) 4 (some 71) rfl rfl (by kernel_rfl) (by kernel_rfl) (by kernel_rfl) (fun _ _ _ h => h) (by rfl) (fun W hW => ?_) ?_
      rotate_left
      · (go_simp; try rfl)
      simp only [Act.put, List.setIfInBounds_toArray, List.set_cons_zero, List.set_cons_succ]
      refine regB_take (v := ?_) 5 (some 72) rfl rfl (by kernel_rfl) (by kernel_rfl) (by kernel_rfl) (fun _ _ _ h => h) (by rfl) (fun W hW => ?_) ?_
      rotate_left
      · (go_simp; try rfl)
      simp only [Act.put, List.setIfInBounds_toArray, List.set_cons_zero, List.set_cons_succ]
      refine regB_take (v := ?_) 6 (some 73) rfl rfl (by kernel_rfl) (by kernel_rfl) (by kernel_rfl) (fun _ _ _ h => h) (by rfl) (fun W hW => ?_) ?_
      rotate_left
      · (go_simp; try rfl)
      simp only [Act.put, List.setIfInBounds_toArray, List.set_cons_zero, List.set_cons_succ]
      refine regB_eff 7 rfl (by kernel_rfl) (fun K hK => ?_)
      refine step_cpy rfl (.tmp 70) (.tmp 73) 26 26 rfl HRUN.out ?_
      have hE : Below w.heap.size wr.drew w5 := E5.out
      refine hK.out _ _ hE ?_
      have HX := Lib.hid (Below.trans HX.out hE)
      clear hE hK K
      try simp only [Act.put, List.setIfInBounds_toArray, List.set_cons_zero, List.set_cons_succ]
      refine regB_take (v := ?_) 8 (some 75) rfl rfl (by kernel_rfl) (by kernel_rfl) (by kernel_rfl) (fun _ _ _ h => h) (by rfl) (fun W hW => ?_) ?_
      rotate_left
      · (go_simp; try rfl)
      simp only [Act.put, List.setIfInBounds_toArray, List.set_cons_zero, List.set_cons_succ]
      refine regB_take (v := ?_) 9 (some 10) rfl rfl (by kernel_rfl) (by kernel_rfl) (by kernel_rfl) (fun _ _ _ h => h) (by rfl) (fun W hW => ?_) ?_
      rotate_left
      · (go_simp; try rfl)
      simp only [Act.put, List.setIfInBounds_toArray, List.set_cons_zero, List.set_cons_succ]
      refine regB_done (by kernel_rfl) ?_
      go_wp2
      go_roundw
      case rel => exact ⟨b2, hbb.out.2.2, hbb.out.2.1, rfl, L6, L5, X5, F5, BL.out.trans HX.out⟩
      case measure => have := hbb.out; simp [intOf]; omega
    · have q1 : ¬ ((b : Int) < (n : Int)) := by omega
      have hbe : b = n := by omega
      have LX' : Hid (∀ j, j < n → L[j]? = some (bv x)) := by show ∀ j, _; rw [← hbe]; exact LX.out
      go_wp2
      go_ret
      refine ⟨by rw [HQ.out]; rfl, ⟨by simp, hmx, .inr ⟨q, 0, by rw [HQ.out], lt_of_heap FL.out, fun j u hu => ?_⟩⟩, BL.out⟩
      have hj : j < n := by have := (List.getElem?_eq_some_iff.1 hu).1; simpa using this
      rw [cell_of_heap FL.out, Nat.zero_add, LX'.out j hj, ← hu]; simp [hj, bv]
end Go.Proofs.Ytjmpbcfbfbjenaa

/- Package cbc: Pad, Unpad; the law file's own awake (layer 9). -/
namespace Go.Proofs.Ytjmpbcfbfbjenaa
open Go.RowKit
set_option linter.unusedVariables false
set_option linter.unusedSimpArgs false
set_option maxRecDepth 100000
theorem Sl.extb {w w' : World} {A : Option Addr} {c : Nat} {bs : List UInt8} (h : Sl w A c bs) (hb : Ext w w') : Sl w' A c bs := h.below hb
/-- how many bytes are put behind m bytes -/
def padK9 (m : Nat) : Nat := 16 - m % 16
theorem padK9_le (m : Nat) : 1 ≤ padK9 m ∧ padK9 m ≤ 16 := by unfold padK9; omega
/-- what is put behind m bytes -/
def padB (m : Nat) : List UInt8 := List.replicate (padK9 m) (UInt8.ofNat (padK9 m))
theorem padB_len (m : Nat) : (padB m).length = padK9 m := List.length_replicate
set_option maxHeartbeats 1000000 in
theorem cpad_any (m : Nat) (w : World) (hm : m ≤ 9223372036854775807) :
    Calls Try.prog 38 #[.int .i64 (m : Int)] w fun e w' => ∃ g, w.heap.size ≤ g ∧ e = .returned (.slice (some ⟨g, 0, none⟩) (padK9 m) (padK9 m)) ∧ Sl w' (some ⟨g, 0, none⟩) (padK9 m) (padB m) ∧ Below w.heap.size w w' := by
  have hk := padK9_le m
  have hkd : padK9 m = 16 - m % 16 := rfl
  have RP := Lib.hid (fun A c W (hS : Sl W A c [UInt8.ofNat (padK9 m)]) => rep_any A c (UInt8.ofNat (padK9 m)) (padK9 m) W hk.1 (by omega) hS)
  change Hid (∀ A c W (hS : Sl W A c [UInt8.ofNat (padK9 m)]), Calls _ _ _ _ fun e w' => e = _ ∧ Sl w' _ _ (padB m) ∧ _) at RP
  have hxk : Hid (((UInt8.ofNat (padK9 m)).toNat : Int) = (padK9 m : Int)) := by show _ = _; rw [UInt8.toNat_ofNat', Nat.mod_eq_of_lt (by omega)]
  generalize padB m = PB at RP ⊢
  generalize UInt8.ofNat (padK9 m) = x at RP hxk
  obtain ⟨r, hr⟩ : ∃ r, r = m % 16 := ⟨_, rfl⟩
  generalize padK9 m = k at RP hk hkd hxk ⊢
  have u1 : (m : Int) % 16 = (r : Int) := by omega
  have u2 : 16 - (r : Int) = (k : Int) := by omega
  have u3 : (k : Int) % 256 = (k : Int) := by omega
  have u4 : IntKind.u8.wrap (k : Int) = (k : Int) := by rw [IntKind.wrap_u8]; omega
  have e1 : ¬ ((m : Int) < 0) := by omega
  clear hr hkd
  go_enter Try.func38, Try.ntmps38
  go_wp2_with fail
  have S0 : Hid (Sl (w.alloc (.cells #[.int .u8 (k : Int)] 5)) (some ⟨w.heap.size, 0, none⟩) 1 [x]) := by
    have h := sl_row (W := w.alloc (.cells #[.int .u8 (k : Int)] 5)) (g := w.heap.size) (t := 5) (fr := (0, 0)) (bs := [x]) (n := 1) rfl (by omega) (by rw [heap_alloc_new' w _]; simp [bv, hxk.out])
    exact h
  generalize hV : w.alloc _ = W0 at S0 ⊢
  have FB := Lib.hid (below_of_alloc hV (Nat.le_refl w.heap.size))
  clear hV
  refine (RP.out _ _ W0 S0.out).mono ?_
  rintro e w1 ⟨rfl, hS1, hb1⟩
  have S1 := Lib.hid hS1; have B1 := Lib.hid (FB.out.step hb1)
  have HG : Hid (w.heap.size ≤ W0.heap.size) := FB.out.size
  clear hS1 hb1
  go_wp2
  go_ret
  exact ⟨_, HG.out, rfl, S1.out, B1.out⟩
theorem cpad_neg (m : Int) (w : World) (hm : m < 0) : Calls Try.prog 38 #[.int .i64 m] w fun e w' => e = .returned (.slice none 0 0) ∧ w = w' := by
  go_enter Try.func38, Try.ntmps38
  go_wp2
  go_ret
  exact ⟨rfl, rfl⟩
set_option maxHeartbeats 1000000 in
theorem awake9_any (w : World) : Calls Try.prog 17 #[] w fun e w' => e = .returned (.bool true) ∧ Below w.heap.size w w' := by
  have P14 : Hid (∀ W, Calls Try.prog 38 #[.int .i64 14] W fun e w' => ∃ g, W.heap.size ≤ g ∧ e = .returned (.slice (some ⟨g, 0, none⟩) 2 2) ∧ Sl w' (some ⟨g, 0, none⟩) 2 [2, 2] ∧ Below W.heap.size W w') := fun W => cpad_any 14 W (by omega)
  have P16 : Hid (∀ W, Calls Try.prog 38 #[.int .i64 16] W fun e w' => ∃ g, W.heap.size ≤ g ∧ e = .returned (.slice (some ⟨g, 0, none⟩) 16 16) ∧ Sl w' (some ⟨g, 0, none⟩) 16 (padB 16) ∧ Below W.heap.size W w') := fun W => cpad_any 16 W (by omega)
  go_enter Try.func17, Try.ntmps17
  go_wp2_with fail
  refine (P14.out w).mono ?_
  rintro e w1 ⟨g1, hg1, rfl, hS1, hb1⟩
  have B1 := Lib.hid hb1
  have cv := conv_string w1 (some ⟨g1, 0, none⟩) 2 2 [2, 2] rfl hS1
  have hq : ((strOf [2, 2]).toList == [2, 2]) = true := by rw [show (strOf [2, 2]).toList = [2, 2] from by rw [ByteArray.toList_eq]; rfl]; rfl
  generalize strOf [2, 2] = s at cv hq
  clear hb1 hS1 hg1
  go_wp2_with fail
  refine (P16.out w1).mono ?_
  rintro e w2 ⟨g2, hg2, rfl, hS2, hb2⟩
  have B2 := Lib.hid (B1.out.step hb2)
  clear hb2 hS2 hg2
  go_wp2
  go_ret
  exact ⟨rfl, B2.out⟩
/-- where a padding begins, if there is one -/
def upO (b : List UInt8) : Option Nat :=
  if b.length = 0 ∨ b.length % 16 ≠ 0 then none
  else if (b.getD (b.length - 1) 0).toNat ≤ b.length ∧ b.drop (b.length - (b.getD (b.length - 1) 0).toNat) = padB (b.length - (b.getD (b.length - 1) 0).toNat) then some (b.length - (b.getD (b.length - 1) 0).toNat) else none
def upE : Option Nat → Int
  | none => 16
  | some _ => 0
def cupV : Option Nat → Int
  | none => 0
  | some k => (k : Int)
def upR : Option Nat → Int
  | none => -1
  | some k => (k : Int)
theorem c_sl_cell {w : World} {A : Option Addr} {c i : Nat} {bs : List UInt8} (h : Sl w A c bs) (hi : i < bs.length) : ∃ b o, A = some ⟨b, o, none⟩ ∧ b < w.heap.size ∧ ∀ j, j < bs.length → w.cell? ⟨b, o + j, none⟩ = some (.int .u8 ((bs.getD j 0).toNat : Int)) := by
  obtain ⟨b, o, rfl, hb, hc⟩ := h.2.2.at_ (by rw [List.length_map]; omega)
  refine ⟨b, o, rfl, hb, fun j hj => ?_⟩
  have := hc j (bv bs[j]) (by simp [hj])
  rw [this]; simp [List.getD, hj, bv]
theorem c_cut_ge {w : World} {A : Option Addr} {c k : Nat} {l : List UInt8} (h : Sl w A c l) (hk : k ≤ l.length) : Sl w (cutS A c k) (c - k) (l.drop k) := sl_cut h hk
set_option maxHeartbeats 2000000 in
theorem unpad_any (A : Option Addr) (n c : Nat) (b : List UInt8) (w : World) (hl : b.length = n) (hn : n ≤ 2147483647) (hS : Sl w A c b) :
    Calls Try.prog 43 #[.slice A n c] w fun e w' => e = .returned (.tuple #[.int .i64 (cupV (upO b)), .int .i64 (upE (upO b))]) ∧ Below w.heap.size w w' := by
  by_cases h0 : n = 0
  · have HU : Hid (upO b = none) := by show _ = _; rw [upO, if_pos (.inl (hl.trans h0))]
    rw [HU.out]
    have e1 : ((n : Int) == 0) = true := by simp [h0]
    clear hl hS h0
    go_enter Try.func43, Try.ntmps43
    go_wp2
    go_ret2
    exact ⟨rfl, Below.refl _ _⟩
  have e1 : ((n : Int) == 0) = false := by simp; omega
  obtain ⟨r, hr⟩ : ∃ r, r = n % 16 := ⟨_, rfl⟩
  have e2 : (n : Int) % 16 = (r : Int) := by omega
  by_cases hr0 : r = 0
  · have e3 : ((r : Int) != 0) = false := by simp [hr0]
    obtain ⟨z, hz⟩ : ∃ z, b.getD (n - 1) 0 = z := ⟨_, rfl⟩
    have HU : Hid (upO b = if z.toNat ≤ n ∧ b.drop (n - z.toNat) = padB (n - z.toNat) then some (n - z.toNat) else none) := by show _ = _; rw [upO, if_neg (by rw [hl]; omega), hl, hz]
    rw [HU.out]
    obtain ⟨b0, o0, hA, _, hcell⟩ := c_sl_cell hS (i := n - 1) (by omega)
    have c1 := hcell (n - 1) (by omega)
    rw [hz] at c1
    obtain ⟨n1, hn1⟩ : ∃ n1, n1 = n - 1 := ⟨_, rfl⟩
    rw [← hn1] at c1
    have e4 : (n : Int) - 1 = (n1 : Int) := by omega
    have e5 : (n1 : Int) < (n : Int) := by omega
    have HS := Lib.hid hS; have HL := Lib.hid hl; have HA := Lib.hid hA
    have hz8 := z.toNat_lt
    clear hcell hr hr0 hl hS hn1
    by_cases hzn : z.toNat ≤ n
    · obtain ⟨m, hm⟩ : ∃ m, m = n - z.toNat := ⟨_, rfl⟩
      have e6 : (n : Int) - (z.toNat : Int) = (m : Int) := by omega
      have e7 : ¬ ((m : Int) < 0) := by omega
      have e8 : (m : Int) ≤ (n : Int) := by omega
      rw [← hm]
      have HMN : Hid (m ≤ n) := by show _ ≤ _; omega
      have sl := cut_from uT s8 A n c .i64 (m : Int) (by omega) (by omega)
      rw [Int.toNat_natCast] at sl
      have HP := Lib.hid (fun W => cpad_any m W (by omega))
      have hpk := padK9_le m
      have hpl := padB_len m
      have HE := Lib.hid (fun A' c' W hS hS' => equal_n (cutS A c m) A' (n - m) (padK9 m) (c - m) c' (b.drop m) (padB m) W (by rw [List.length_drop, HL.out]) hpl hS hS' (by omega) (by omega))
      generalize padB m = PB at HP HE HU ⊢
      generalize padK9 m = k at HP HE hpk
      have HX : Hid (Ext w w.drew) := (Below.refl _ _).drew
      have HEW := Lib.hid hA
      subst hA
      clear hm hz hpl
      by_cases hq : b.drop m = PB
      · rw [if_pos ⟨hzn, hq⟩]
        rw [decide_eq_true hq] at HE
        clear hq
        go_enter Try.func43, Try.ntmps43
        go_upto_region 4 with (fail)
        refine reg_start (by kernel_rfl) ?_
        try simp only [Act.put, List.setIfInBounds_toArray, List.set_cons_zero, List.set_cons_succ]
        refine reg_take (v := ?_) 0 (some 24) rfl rfl (by kernel_rfl) (by kernel_rfl) (by kernel_rfl) (fun _ _ _ h => h) (by rfl) (fun W hW => ?_) ?_
        rotate_left
        · (go_simp; try rfl)
        simp only [Act.put, List.setIfInBounds_toArray, List.set_cons_zero, List.set_cons_succ]
        refine reg_take (v := ?_) 1 (some 25) rfl rfl (by kernel_rfl) (by kernel_rfl) (by kernel_rfl) (fun _ _ _ h => h) (by rfl) (fun W hW => ?_) ?_
        rotate_left
        · (go_simp; try rfl)
        simp only [Act.put, List.setIfInBounds_toArray, List.set_cons_zero, List.set_cons_succ]
        refine reg_take (v := ?_) 2 (some 26) rfl rfl (by kernel_rfl) (by kernel_rfl) (by kernel_rfl) (fun _ _ _ h => h) (by rfl) (fun W hW => ?_) ?_
        rotate_left
        · (go_simp; try rfl)
        simp only [Act.put, List.setIfInBounds_toArray, List.set_cons_zero, List.set_cons_succ]
        refine reg_take (v := ?_) 3 (some 27) rfl rfl (by kernel_rfl) (by kernel_rfl) (by kernel_rfl) (fun _ _ _ h => h) (by rfl) (fun W hW => ?_) ?_
        rotate_left
        · (go_simp; try rfl)
        simp only [Act.put, List.setIfInBounds_toArray, List.set_cons_zero, List.set_cons_succ]
        refine reg_take (v := ?_) 4 (some 28) rfl rfl (by kernel_rfl) (by kernel_rfl) (by kernel_rfl) (fun _ _ _ h => h) (by rfl) (fun W hW => ?_) ?_
        rotate_left
        · (go_simp; try rfl)
        simp only [Act.put, List.setIfInBounds_toArray, List.set_cons_zero, List.set_cons_succ]
        refine reg_take (v := ?_) 5 (some 29) rfl rfl (by kernel_rfl) (by kernel_rfl) (by kernel_rfl) (fun _ _ _ h => h) (by rfl) (fun W hW => ?_) ?_
        rotate_left
        · (go_simp; try rfl)
        simp only [Act.put, List.setIfInBounds_toArray, List.set_cons_zero, List.set_cons_succ]
        refine reg_take (v := ?_) 6 (some 30) rfl rfl (by kernel_rfl) (by kernel_rfl) (by kernel_rfl) (fun _ _ _ h => h) (by rfl) (fun W hW => ?_) ?_
        rotate_left
        · (go_simp; try rfl)
        simp only [Act.put, List.setIfInBounds_toArray, List.set_cons_zero, List.set_cons_succ]
        refine reg_eff 7 rfl (by kernel_rfl) (fun K hK => ?_)
        go_simp
        refine (HP.out _).mono ?_
        rintro e w1 ⟨g1, hg1, rfl, hS1, hE⟩
        have S1 := Lib.hid hS1
        clear hS1 hg1
        refine hK.out _ _ hE ?_
        have HX := Lib.hid (Ext.trans HX.out hE)
        clear hE hK K
        try simp only [Act.put, List.setIfInBounds_toArray, List.set_cons_zero, List.set_cons_succ]
        refine reg_eff 8 rfl (by kernel_rfl) (fun K hK => ?_)
        go_simp
        refine (HE.out _ _ _ (sl_cut (HS.out.below HX.out) (by rw [HL.out]; exact HMN.out)) S1.out).mono ?_
        rintro e w2 ⟨rfl, hE⟩
        refine hK.out _ _ hE ?_
        have HX := Lib.hid (Ext.trans HX.out hE)
        clear hE hK K
        try simp only [Act.put, List.setIfInBounds_toArray, List.set_cons_zero, List.set_cons_succ]
        refine reg_take (v := ?_) 9 (some 33) rfl rfl (by kernel_rfl) (by kernel_rfl) (by kernel_rfl) (fun _ _ _ h => h) (by rfl) (fun W hW => ?_) ?_
        rotate_left
        · (go_simp; try rfl)
        simp only [Act.put, List.setIfInBounds_toArray, List.set_cons_zero, List.set_cons_succ]
        refine reg_take (v := ?_) 10 (some 34) rfl rfl (by kernel_rfl) (by kernel_rfl) (by kernel_rfl) (fun _ _ _ h => h) (by rfl) (fun W hW => ?_) ?_
        rotate_left
        · (go_simp; try rfl)
        simp only [Act.put, List.setIfInBounds_toArray, List.set_cons_zero, List.set_cons_succ]
        refine reg_done (by kernel_rfl) ?_
        go_wp2
        go_ret2
        exact ⟨rfl, HX.out⟩
      · rw [if_neg (fun h => hq h.2)]
        rw [decide_eq_false hq] at HE
        clear hq
        go_enter Try.func43, Try.ntmps43
        go_upto_region 4 with (fail)
        refine reg_start (by kernel_rfl) ?_
        try simp only [Act.put, List.setIfInBounds_toArray, List.set_cons_zero, List.set_cons_succ]
        refine reg_take (v := ?_) 0 (some 24) rfl rfl (by kernel_rfl) (by kernel_rfl) (by kernel_rfl) (fun _ _ _ h => h) (by rfl) (fun W hW => ?_) ?_
        rotate_left
        · (go_simp; try rfl)
        simp only [Act.put, List.setIfInBounds_toArray, List.set_cons_zero, List.set_cons_succ]
        refine reg_take (v := ?_) 1 (some 25) rfl rfl (by kernel_rfl) (by kernel_rfl) (by kernel_rfl) (fun _ _ _ h => h) (by rfl) (fun W hW => ?_) ?_
        rotate_left
        · (go_simp; try rfl)
        simp only [Act.put, List.setIfInBounds_toArray, List.set_cons_zero, List.set_cons_succ]
        refine reg_take (v := ?_) 2 (some 26) rfl rfl (by kernel_rfl) (by kernel_rfl) (by kernel_rfl) (fun _ _ _ h => h) (by rfl) (fun W hW => ?_) ?_
        rotate_left
        · (go_simp; try rfl)
        simp only [Act.put, List.setIfInBounds_toArray, List.set_cons_zero, List.set_cons_succ]
        refine reg_take (v := ?_) 3 (some 27) rfl rfl (by kernel_rfl) (by kernel_rfl) (by kernel_rfl) (fun _ _ _ h => h) (by rfl) (fun W hW => ?_) ?_
        rotate_left
        · (go_simp; try rfl)
        simp only [Act.put, List.setIfInBounds_toArray, List.set_cons_zero, List.set_cons_succ]
        refine reg_take (v := ?_) 4 (some 28) rfl rfl (by kernel_rfl) (by kernel_rfl) (by kernel_rfl) (fun _ _ _ h => h) (by rfl) (fun W hW => ?_) ?_
        rotate_left
        · (go_simp; try rfl)
        simp only [Act.put, List.setIfInBounds_toArray, List.set_cons_zero, List.set_cons_succ]
        refine reg_take (v := ?_) 5 (some 29) rfl rfl (by kernel_rfl) (by kernel_rfl) (by kernel_rfl) (fun _ _ _ h => h) (by rfl) (fun W hW => ?_) ?_
        rotate_left
        · (go_simp; try rfl)
        simp only [Act.put, List.setIfInBounds_toArray, List.set_cons_zero, List.set_cons_succ]
        refine reg_take (v := ?_) 6 (some 30) rfl rfl (by kernel_rfl) (by kernel_rfl) (by kernel_rfl) (fun _ _ _ h => h) (by rfl) (fun W hW => ?_) ?_
        rotate_left
        · (go_simp; try rfl)
        simp only [Act.put, List.setIfInBounds_toArray, List.set_cons_zero, List.set_cons_succ]
        refine reg_eff 7 rfl (by kernel_rfl) (fun K hK => ?_)
        go_simp
        refine (HP.out _).mono ?_
        rintro e w1 ⟨g1, hg1, rfl, hS1, hE⟩
        have S1 := Lib.hid hS1
        clear hS1 hg1
        refine hK.out _ _ hE ?_
        have HX := Lib.hid (Ext.trans HX.out hE)
        clear hE hK K
        try simp only [Act.put, List.setIfInBounds_toArray, List.set_cons_zero, List.set_cons_succ]
        refine reg_eff 8 rfl (by kernel_rfl) (fun K hK => ?_)
        go_simp
        refine (HE.out _ _ _ (sl_cut (HS.out.below HX.out) (by rw [HL.out]; exact HMN.out)) S1.out).mono ?_
        rintro e w2 ⟨rfl, hE⟩
        refine hK.out _ _ hE ?_
        have HX := Lib.hid (Ext.trans HX.out hE)
        clear hE hK K
        try simp only [Act.put, List.setIfInBounds_toArray, List.set_cons_zero, List.set_cons_succ]
        refine reg_take (v := ?_) 9 (some 33) rfl rfl (by kernel_rfl) (by kernel_rfl) (by kernel_rfl) (fun _ _ _ h => h) (by rfl) (fun W hW => ?_) ?_
        rotate_left
        · (go_simp; try rfl)
        simp only [Act.put, List.setIfInBounds_toArray, List.set_cons_zero, List.set_cons_succ]
        refine reg_take (v := ?_) 10 (some 34) rfl rfl (by kernel_rfl) (by kernel_rfl) (by kernel_rfl) (fun _ _ _ h => h) (by rfl) (fun W hW => ?_) ?_
        rotate_left
        · (go_simp; try rfl)
        simp only [Act.put, List.setIfInBounds_toArray, List.set_cons_zero, List.set_cons_succ]
        refine reg_done (by kernel_rfl) ?_
        go_wp2
        go_ret2
        exact ⟨rfl, HX.out⟩
    · have e7 : ((n : Int) - (z.toNat : Int) < 0) := by omega
      rw [if_neg (fun h => hzn h.1)]
      have HX : Hid (Ext w w.drew) := (Below.refl _ _).drew
      subst hA
      clear hz
      go_enter Try.func43, Try.ntmps43
      go_upto_region 4 with (fail)
      refine reg_start (by kernel_rfl) ?_
      try simp only [Act.put, List.setIfInBounds_toArray, List.set_cons_zero, List.set_cons_succ]
      refine reg_take (v := ?_) 0 (some 24) rfl rfl (by kernel_rfl) (by kernel_rfl) (by kernel_rfl) (fun _ _ _ h => h) (by rfl) (fun W hW => ?_) ?_
      rotate_left
      · (go_simp; try rfl)
      simp only [Act.put, List.setIfInBounds_toArray, List.set_cons_zero, List.set_cons_succ]
      refine reg_take (v := ?_) 1 (some 25) rfl rfl (by kernel_rfl) (by kernel_rfl) (by kernel_rfl) (fun _ _ _ h => h) (by rfl) (fun W hW => ?_) ?_
      rotate_left
      · (go_simp; try rfl)
      simp only [Act.put, List.setIfInBounds_toArray, List.set_cons_zero, List.set_cons_succ]
      refine reg_take (v := ?_) 2 (some 26) rfl rfl (by kernel_rfl) (by kernel_rfl) (by kernel_rfl) (fun _ _ _ h => h) (by rfl) (fun W hW => ?_) ?_
      rotate_left
      · (go_simp; try rfl)
      simp only [Act.put, List.setIfInBounds_toArray, List.set_cons_zero, List.set_cons_succ]
      refine reg_skip 3 (some 27) rfl rfl (by kernel_rfl) (by kernel_rfl) (by kernel_rfl) (fun _ _ _ h => h) (by rfl) ?_
      simp only [Act.put, List.setIfInBounds_toArray, List.set_cons_zero, List.set_cons_succ]
      refine reg_skip 4 (some 28) rfl rfl (by kernel_rfl) (by kernel_rfl) (by kernel_rfl) (fun _ _ _ h => h) (by rfl) ?_
      simp only [Act.put, List.setIfInBounds_toArray, List.set_cons_zero, List.set_cons_succ]
      refine reg_skip 5 (some 29) rfl rfl (by kernel_rfl) (by kernel_rfl) (by kernel_rfl) (fun _ _ _ h => h) (by rfl) ?_
      simp only [Act.put, List.setIfInBounds_toArray, List.set_cons_zero, List.set_cons_succ]
      refine reg_skip 6 (some 30) rfl rfl (by kernel_rfl) (by kernel_rfl) (by kernel_rfl) (fun _ _ _ h => h) (by rfl) ?_
      simp only [Act.put, List.setIfInBounds_toArray, List.set_cons_zero, List.set_cons_succ]
      refine reg_eff 7 rfl (by kernel_rfl) (fun K hK => ?_)
      go_simp
      refine hK.out _ _ (Ext.refl _) ?_
      clear hK K
      try simp only [Act.put, List.setIfInBounds_toArray, List.set_cons_zero, List.set_cons_succ]
      refine reg_eff 8 rfl (by kernel_rfl) (fun K hK => ?_)
      go_simp
      refine hK.out _ _ (Ext.refl _) ?_
      clear hK K
      try simp only [Act.put, List.setIfInBounds_toArray, List.set_cons_zero, List.set_cons_succ]
      refine reg_skip 9 (some 33) rfl rfl (by kernel_rfl) (by kernel_rfl) (by kernel_rfl) (fun _ _ _ h => h) (by rfl) ?_
      simp only [Act.put, List.setIfInBounds_toArray, List.set_cons_zero, List.set_cons_succ]
      refine reg_take (v := ?_) 10 (some 34) rfl rfl (by kernel_rfl) (by kernel_rfl) (by kernel_rfl) (fun _ _ _ h => h) (by rfl) (fun W hW => ?_) ?_
      rotate_left
      · (go_simp; try rfl)
      simp only [Act.put, List.setIfInBounds_toArray, List.set_cons_zero, List.set_cons_succ]
      refine reg_done (by kernel_rfl) ?_
      go_wp2
      go_ret2
      exact ⟨rfl, HX.out⟩
  · have e3 : ((r : Int) != 0) = true := by simpa using hr0
    have HU : Hid (upO b = none) := by show _ = _; rw [upO, if_pos (.inr (by rw [hl]; omega))]
    rw [HU.out]
    clear hl hS hr
    go_enter Try.func43, Try.ntmps43
    go_wp2
    go_ret2
    exact ⟨rfl, Below.refl _ _⟩
end Go.Proofs.Ytjmpbcfbfbjenaa

/- palfreyref09.Padded. -/
namespace Go.Proofs.Ytjmpbcfbfbjenaa
open Go.RowKit
set_option linter.unusedVariables false
set_option linter.unusedSimpArgs false
set_option maxRecDepth 100000
theorem k_own_below {w w' : World} {base : Nat} {e : TypeId} {s : Nat} {v : Value} {n : Nat} {xs : List Value} (h : w.ownsRow base e s v n xs) (hb : Below w.heap.size w w') : w'.ownsRow base e s v n xs := by
  obtain ⟨h0, h | ⟨g, cap, cur, hv, hg, hh, r⟩⟩ := h
  · exact ⟨h0, .inl h⟩
  · exact ⟨h0, .inr ⟨g, cap, cur, hv, hg, (hb.block _ (lt_of_heap hh)).trans hh, r⟩⟩
theorem k_own_ge {w : World} {base : Nat} {e : TypeId} {s : Nat} {v : Value} {n : Nat} {xs : List Value} (h : w.ownsRow base e s v n xs) {B : Nat} (hB : B ≤ base) : ∀ g, v.ownBlock = some g → B ≤ g := fun g hq => Nat.le_trans hB (h.lt g hq).1
theorem k_own_alloc {w : World} {base : Nat} {e : TypeId} {s : Nat} {v : Value} {n : Nat} {xs : List Value} (h : w.ownsRow base e s v n xs) (o : Obj) : (w.alloc o).ownsRow base e s v n xs := k_own_below h ((Below.refl _ _).alloc (Nat.le_refl _) o)
theorem rep_snoc (bs : List UInt8) (x : UInt8) (j : Nat) : (bs ++ List.replicate j x) ++ [x] = bs ++ List.replicate (j + 1) x := by rw [List.append_assoc, List.replicate_succ']
theorem row_byte (W : World) (x : UInt8) (d : Int) (hx : ((x.toNat : Int)) = d) : RowAt (W.alloc (.cells #[.int .u8 d] 5)) (W.heap.size + 1) (some ⟨W.heap.size, 0, none⟩) (([x] : List UInt8).map bv) := by
  subst hx
  exact row_of_heap (bs := [x]) (heap_alloc_new' W (.cells (([x] : List UInt8).map bv).toArray 5)) (Nat.lt_succ_self _)
set_option maxHeartbeats 2000000 in
theorem refPadK_any (A : Option Addr) (n c : Nat) (bs : List UInt8) (w : World) (hl : bs.length = n) (hn : n ≤ 2147000000) (hS : Sl w A c bs) :
    Calls Try.prog 41 #[.slice A n c] w fun e w' => ∃ v, e = .returned v ∧ w'.ownsRow w.heap.size 5 1 v (n + padK9 n) ((bs ++ padB n).map bv) ∧ Below w.heap.size w w' := by
  have HL := Lib.hid hl; have HS := Lib.hid hS
  have hk := padK9_le n
  have hkd : padK9 n = 16 - n % 16 := rfl
  have hPB : padB n = List.replicate (padK9 n) (UInt8.ofNat (padK9 n)) := rfl
  have hxk : Hid (((UInt8.ofNat (padK9 n)).toNat : Int) = (padK9 n : Int)) := by show _ = _; rw [UInt8.toNat_ofNat', Nat.mod_eq_of_lt (by omega)]
  rw [hPB]
  generalize UInt8.ofNat (padK9 n) = x at hxk ⊢
  obtain ⟨d, hd⟩ : ∃ d, padK9 n = d := ⟨_, rfl⟩
  rw [hd] at hk hkd hxk ⊢
  have u2 : 16 - (n : Int) % 16 = (d : Int) := by omega
  have u3 : (d : Int) % 256 = (d : Int) := by omega
  have u4 : IntKind.u8.wrap (d : Int) = (d : Int) := by rw [IntKind.wrap_u8]; omega
  have hn31 : 0 + n ≤ 2147483647 := by omega
  obtain ⟨L, HLL⟩ : ∃ L, Hid (bs ++ List.replicate d x = L) := ⟨_, rfl⟩
  rw [HLL.out]
  clear hl hS hkd hd hPB
  go_enter Try.func41, Try.ntmps41
  go_wp2_with (
    at_builtin
    refine wpList_app8 rfl (.tmp 6) (.tmp 7) rfl w.heap.size _ 0 [] rfl ?_ A n c w.heap.size bs rfl ?_ ?_ ?_ ?_ ?_
    · exact own_heap (g := w.heap.size) (heap_alloc_new' w _) (Nat.le_refl _) rfl (Nat.zero_le _)
    · exact HS.out.2.2.below ((Below.refl _ _).alloc (Nat.le_refl _) _)
    · exact HL.out
    · exact hn31
    · simp
    rintro v1 w1 hown hgr
    have HB1 := Lib.hid (((Below.refl w.heap.size w).alloc (Nat.le_refl _) _).grown hgr (by simp) (ge_own w.heap.size 0))
    rw [List.nil_append, Nat.zero_add] at hown
    obtain ⟨A1, c1, rfl, _⟩ := own_read hown
    have HO1 := Lib.hid hown
    clear hgr hown)
  go_loopw [3, 5] (fun v3 v5 wr => ∃ (j m : Nat) (A' : Option Addr) (c' : Nat), j ≤ d ∧ Hid (m = n + j) ∧ v3 = .slice A' m c' ∧ v5 = .int .i64 (j : Int) ∧ Hid (wr.ownsRow w.heap.size 5 1 (.slice A' m c') m ((bs ++ List.replicate j x).map bv)) ∧ Hid (Below w.heap.size w wr)) (fun v3 v5 _ => d - (intOf v5).toNat)
  case atStart => exact ⟨0, n, A1, c1, Nat.zero_le _, rfl, rfl, rfl, by rw [List.replicate_zero, List.append_nil]; exact HO1, HB1⟩
  case round =>
    clear HO1 HB1
    obtain ⟨j, m, A', c', hj, HM, rfl, rfl, HO, HB⟩ := hrel
    have hm31 : m + 1 ≤ 2147483647 := by have h1 := HM.out; omega
    by_cases hlt : j < d
    · have q1 : (j : Int) < (d : Int) := by omega
      obtain ⟨m2, hm2⟩ : ∃ m2, m2 = m + 1 := ⟨_, rfl⟩
      have HM2 := Lib.hid hm2
      have HR := Lib.hid (row_byte wr x (d : Int) hxk.out)
      clear hm2
      go_wp2_with (
        at_builtin
        refine wpList_app8 rfl (.tmp 18) (.tmp 21) rfl w.heap.size _ m (bs ++ List.replicate j x) rfl ?_ (some ⟨wr.heap.size, 0, none⟩) 1 1 (wr.heap.size + 1) [x] rfl ?_ rfl hm31 ?_ ?_
        · exact k_own_alloc HO.out _
        · exact HR.out
        · simp; have := HB.out.size; omega
        rintro v2 w2 hown hgr
        rw [rep_snoc, ← HM2.out] at hown
        obtain ⟨A2, c2, rfl, _⟩ := own_read hown
        have O2 := Lib.hid hown
        have B2 := Lib.hid ((HB.out.alloc HB.out.size (.cells #[.int .u8 (d : Int)] 5)).grown hgr (by simp; have := HB.out.size; omega) (k_own_ge HO.out (Nat.le_refl _)))
        clear hown hgr)
      go_roundw
      case rel => exact ⟨j + 1, m2, A2, c2, hlt, by have h1 := HM.out; have h2 := HM2.out; show _ = _; omega, rfl, by go_num, O2, B2⟩
      case measure => simp [intOf]; omega
    · have q1 : ¬ ((j : Int) < (d : Int)) := by omega
      have HJ : Hid (j = d) := by show _ = _; omega
      go_wp2
      go_ret
      have HO2 : Hid (wr.ownsRow w.heap.size 5 1 (.slice A' (n + d) c') (n + d) (L.map bv)) := by
        have h := HO.out
        rw [HM.out, HJ.out, HLL.out] at h
        exact h
      have hm := HM.out
      rw [HJ.out] at hm
      exact ⟨_, rfl, by subst hm; exact HO2.out, HB.out⟩
end Go.Proofs.Ytjmpbcfbfbjenaa

/- bytes.Clone and cbc.xor. -/
namespace Go.Proofs.Ytjmpbcfbfbjenaa
open Go.RowKit
set_option linter.unusedVariables false
set_option linter.unusedSimpArgs false
set_option maxRecDepth 100000
/-- a slice of 16 bytes or more taken as an array: a pointer to its first -/
theorem arr_ptr16 (A : Option Addr) (n c : Nat) (hn : 16 ≤ n) (W : World) : (Instr.arrayAt 23 (.slice A n c)).run Try.prog W = .ok (.pointer A) W :=
  run_arrayAt W _ _ _ A n c arr16B hn
theorem eql_nil8 (A : Option Addr) (n c : Nat) (W : World) : (binOp .eql 26 (.slice A n c) (.slice none 0 0)).run Try.prog W = .ok (.bool A.isNone) W :=
  Lib.run_eql_slice_nil W _ _ A n c 0 0 uT
theorem own_none (w : World) (base : Nat) : w.ownsRow base 5 1 (.slice none 0 0) 0 (([] : List UInt8).map bv) := World.ownsRow_nil _ _ _ _
set_option maxHeartbeats 1000000 in
theorem clone_any (A : Option Addr) (n c : Nat) (bs : List UInt8) (w : World) (hl : bs.length = n) (hn : n ≤ 2147000000) (hS : Sl w A c bs) :
    Calls Try.prog 37 #[.slice A n c] w fun e w' => ∃ v, e = .returned v ∧ w'.ownsRow w.heap.size 5 1 v n (bs.map bv) ∧ Below w.heap.size w w' := by
  have HS := Lib.hid hS; have HL := Lib.hid hl
  have q := eql_nil8 A n c
  have hn31 : 0 + n ≤ 2147483647 := by omega
  cases A with
  | none =>
    have hb : bs = [] := by
      rcases hS.2.2 with h | ⟨b, o, h, _⟩
      · simpa using h
      · cases h
    subst hb
    obtain rfl : n = 0 := hl.symm
    rw [show Option.isNone (none : Option Addr) = true from rfl] at q
    clear hS hl
    go_enter Try.func37, Try.ntmps37
    go_wp2
    go_ret
    exact ⟨_, rfl, own_none _ _, Below.refl _ _⟩
  | some a =>
    rw [show Option.isNone (some a) = false from rfl] at q
    clear hS hl
    go_enter Try.func37, Try.ntmps37
    go_wp2_with (
      at_builtin
      refine wpList_app8 rfl (.tmp 5) (.tmp 6) rfl w.heap.size _ 0 [] rfl ?_ (some a) n c w.heap.size bs rfl ?_ ?_ ?_ ?_ ?_
      · exact own_heap (g := w.heap.size) (heap_alloc_new' w _) (Nat.le_refl _) rfl (Nat.zero_le _)
      · exact HS.out.2.2.below ((Below.refl _ _).alloc (Nat.le_refl _) _)
      · exact HL.out
      · exact hn31
      · simp
      rintro v1 w1 hown hgr
      have HB1 := Lib.hid (((Below.refl w.heap.size w).alloc (Nat.le_refl _) _).grown hgr (by simp) (ge_own w.heap.size 0))
      rw [List.nil_append, Nat.zero_add] at hown
      have HO1 := Lib.hid hown
      clear hgr hown)
    go_ret
    exact ⟨_, rfl, HO1.out, HB1.out⟩
set_option maxHeartbeats 2000000 in
theorem cxor_any (a b : List UInt8) (w : World) (ha : a.length = 16) (hb : b.length = 16) :
    Calls Try.prog 40 #[.agg (a.map bv).toArray, .agg (b.map bv).toArray] w fun e w' => e = .returned (.agg ((xorL a b).map bv).toArray) ∧ Below w.heap.size w w' := by
  have HA := Lib.hid ha; have HB := Lib.hid hb
  have hz : ∀ W, (zeroValue 23).run Try.prog W = .ok (.agg zeros16.toArray) W := fun W => by kernel_rfl
  have HX16 : Hid ((xorL a b).length = 16) := by show _ = _; rw [xorL_len, ha, hb]; rfl
  have XC := Lib.hid (fun A B W hS hS' => xor_n A B 16 16 16 16 16 a b W ha hb rfl hS hS' (by omega) (by omega))
  generalize xorL a b = X at XC HX16 ⊢
  have sl1 := arr_all arr16B s8 ⟨w.heap.size, 0, none⟩
  have sl2 := arr_all arr16B s8 ⟨w.heap.size + 1, 0, none⟩
  have hres0 : Hid (∃ Z : List Value, Z = zeros16 ∧ Z.length = 16) := ⟨_, rfl, rfl⟩
  clear ha hb
  go_enter Try.func40, Try.ntmps40
  go_upto_region 1 with (fail)
  have HH := heap3 w (.cells (a.map bv).toArray 23) (.cells (b.map bv).toArray 23) (.cells zeros16.toArray 23)
  have hsz : Hid ((((w.alloc (.cells (a.map bv).toArray 23)).alloc (.cells (b.map bv).toArray 23)).alloc (.cells zeros16.toArray 23)).heap.size = w.heap.size + 3) := by show _ = _; simp
  generalize hV : ((w.alloc _).alloc _).alloc _ = W0 at HH hsz ⊢
  have N0 := Lib.hid HH.1; have N1 := Lib.hid HH.2.1; have N2 := Lib.hid HH.2.2.1; have NB := Lib.hid HH.2.2.2
  clear hV HH
  have N0 : Hid (W0.drew.heap[w.heap.size]? = _) := N0.out
  have N1 : Hid (W0.drew.heap[w.heap.size + 1]? = _) := N1.out
  have N2 : Hid (W0.drew.heap[w.heap.size + 2]? = _) := N2.out
  have NB : Hid (Below w.heap.size w W0.drew) := NB.out.drew
  refine regS_start (AnyR) (by kernel_rfl) ?_
  try simp only [Act.put, List.setIfInBounds_toArray, List.set_cons_zero, List.set_cons_succ]
  generalize W0.drew = W3 at N0 N1 N2 NB ⊢
  have HX : Hid (AnyR W3 W3) := trivial
  refine regS_take (v := ?_) 0 (some 5) rfl rfl (by kernel_rfl) (by kernel_rfl) (by kernel_rfl) (fun _ _ _ h => h) (by rfl) (fun W hW => ?_) ?_
  rotate_left
  · (go_simp; try rfl)
  simp only [Act.put, List.setIfInBounds_toArray, List.set_cons_zero, List.set_cons_succ]
  refine regS_take (v := ?_) 1 (some 6) rfl rfl (by kernel_rfl) (by kernel_rfl) (by kernel_rfl) (fun _ _ _ h => h) (by rfl) (fun W hW => ?_) ?_
  rotate_left
  · (go_simp; try rfl)
  simp only [Act.put, List.setIfInBounds_toArray, List.set_cons_zero, List.set_cons_succ]
  refine regS_eff 2 rfl (by kernel_rfl) (fun K hK => ?_)
  go_simp
  refine (XC.out (some ⟨w.heap.size, 0, none⟩) (some ⟨w.heap.size + 1, 0, none⟩) W3 (sl_row HA.out (by omega) N0.out) (sl_row HB.out (by omega) N1.out)).mono ?_
  rintro e w4 ⟨g3, hg3, rfl, hk3, hE0⟩
  have L2 := Lib.hid ((hE0.block _ (lt_of_heap N2.out)).trans N2.out)
  have LB := Lib.hid (NB.out.step hE0)
  have K3 := Lib.hid hk3
  have ap := arr_ptr16 (some ⟨g3, 0, none⟩) 16 16 (Nat.le_refl _)
  have hE : AnyR W3 w4 := trivial
  clear hE0 hk3 hg3
  refine hK.out _ _ hE ?_
  have HX := Lib.hid (Pre.trans HX.out hE)
  clear hE hK K
  try simp only [Act.put, List.setIfInBounds_toArray, List.set_cons_zero, List.set_cons_succ]
  refine regS_take (v := ?_) 3 (some 8) rfl rfl (by kernel_rfl) (by kernel_rfl) (by kernel_rfl) (fun _ _ _ h => h) (by rfl) (fun W hW => ?_) ?_
  rotate_left
  · (go_simp; try rfl)
  simp only [Act.put, List.setIfInBounds_toArray, List.set_cons_zero, List.set_cons_succ]
  refine regS_eff 4 rfl (by kernel_rfl) (fun K hK => ?_)
  refine step_ld rfl 23 (.tmp 8) rfl (load_arr arr16B rfl (i16z X HX16.out) K3.out) ?_
  have hE : AnyR w4 w4 := trivial
  refine hK.out _ _ hE ?_
  have HX := Lib.hid (Pre.trans HX.out hE)
  clear hE hK K
  try simp only [Act.put, List.setIfInBounds_toArray, List.set_cons_zero, List.set_cons_succ]
  refine regS_eff 5 rfl (by kernel_rfl) (fun K hK => ?_)
  refine step_st1 rfl 23 (.tmp 4) (.tmp 9) rfl (store_arr (cs := X.map bv) (i16z X HX16.out) (bv_one _) L2.out (by rw [List.length_map, HX16.out]; rfl)) ?_
  generalize hV : World.setRow _ _ _ = W7
  have M2 := Lib.hid (heap_of_setRow hV L2.out)
  have MB := Lib.hid (LB.out.trans (below_of_setRow hV (by omega) LB.out.size))
  have hE : AnyR w4 W7 := trivial
  clear hV
  refine hK.out _ _ hE ?_
  have HX := Lib.hid (Pre.trans HX.out hE)
  clear hE hK K
  try simp only [Act.put, List.setIfInBounds_toArray, List.set_cons_zero, List.set_cons_succ]
  refine regS_done (by kernel_rfl) ?_
  simp only [List.getElem_toArray, List.getElem_cons_succ, List.getElem_cons_zero, List.set_cons_zero, List.set_cons_succ]
  go_wp2_with fail
  exact bodyPost_ret (results_cell_row (P := Try.prog) rfl _ _ (w.heap.size + 2) 23 (X.map bv).toArray (0, 0) _ rfl M2.out arr16B rfl (by rw [List.size_toArray]; exact i16z X HX16.out)) rfl ⟨rfl, MB.out⟩
end Go.Proofs.Ytjmpbcfbfbjenaa

/- cbc.blocks: the iterator's contract. -/
namespace Go.Proofs.Ytjmpbcfbfbjenaa
open Go.RowKit Go.Shelf
set_option linter.unusedVariables false
set_option linter.unusedSimpArgs false
set_option maxRecDepth 100000
attribute [local go_sem] Oper.semAt_some
/-- a load in a round, by its run -/
theorem wpListIn_ld {P : Program} {F : Fence} {nF : Nat} {w : World} {ops : Array Oper} {rest : List Oper} {o : Oper} {a : Act} {Q : Exit → Act → World → Prop} (hg : o.guard = none) (ty : TypeId) (x : Operand) (ho : o.op = .load ty x) {p v : Value} (hx : a.eval x = p)
    (hrun : (Instr.loadAt ty p).run P w = .ok v w) (h : wpListIn F nF P ops Q rest (a.put o.dst v) w) : wpListIn F nF P ops Q (o :: rest) a w := by
  refine wpListIn_plain hg fun K' hK' => ?_
  unfold Oper.wpIn
  refine ⟨by simp [Oper.about, ho], ?_⟩
  rw [Oper.semAt_plain F _ _ (by rw [ho]; intro c hc'; cases hc')]
  unfold execOp
  simp only [ho, hx, Sem.run_bind, hrun, Result.andThen_ok]
  exact hK' _ _ h
/-- a block: 16 bytes -/
abbrev Blk := { l : List UInt8 // l.length = 16 }
def blkAt (bs : List UInt8) (k : Nat) : Blk := ⟨(List.range 16).map (fun j => bs.getD (16 * k + j) 0), by simp⟩
def blkUp (bs : List UInt8) (k : Nat) : List Blk := (List.range k).map (blkAt bs)
theorem blkUp_succ (bs : List UInt8) (k : Nat) : blkUp bs (k + 1) = blkUp bs k ++ [blkAt bs k] := by simp [blkUp, List.range_succ]
theorem blkUp_len (bs : List UInt8) (k : Nat) : (blkUp bs k).length = k := by simp [blkUp]
theorem blk_range {w : World} {b off len k : Nat} {bs : List UInt8} (hc : ∀ j, j < len → w.cell? ⟨b, off + j, none⟩ = some (.int .u8 ((bs.getD j 0).toNat : Int))) (hk : 16 * k + 16 ≤ len) : w.rangeAt b (off + 16 * k) ((blkAt bs k).1.map bv) := fun j v hv => by
  have hj : j < 16 := by
    have := (List.getElem?_eq_some_iff.1 hv).1
    simpa [blkAt] using this
  have hv' : v = bv (bs.getD (16 * k + j) 0) := by
    simp only [blkAt, List.map_map, List.getElem?_map, List.getElem?_range hj, Option.map_some, Function.comp, Option.some.injEq] at hv
    exact hv.symm
  rw [hv', Nat.add_assoc]
  exact hc _ (by omega)
theorem cut16 (b off n c p : Nat) (hp : p + 16 ≤ n) (hn : n ≤ c) (W : World) :
    (Instr.sliceAt 26 (.slice (some ⟨b, off, none⟩) n c) (some (.int .i64 (p : Int))) (some (.int .i64 ((p : Int) + 16))) none).run Try.prog W = .ok (.slice (some ⟨b, off + p, none⟩) 16 (c - p)) W := by
  have h := cut_mid (P := Try.prog) uT s8 (some ⟨b, off, none⟩) n c .i64 .i64 (p : Int) ((p : Int) + 16) (by omega) (by omega) (by omega) W
  rw [h, Int.toNat_natCast, show ((p : Int) + 16).toNat - p = 16 by omega, cutS, if_neg (by omega)]
  simp [Addr.add_mid]
/-- what a round that goes on keeps: all that lay below n₀, and the iterator's own box -/
def KpB (n₀ Bs : Nat) (W W' : World) : Prop := Below n₀ W W' ∧ W'.cell? ⟨Bs, 0, none⟩ = W.cell? ⟨Bs, 0, none⟩
theorem KpB.refl (n₀ Bs : Nat) (W : World) : KpB n₀ Bs W W := ⟨Below.refl _ _, rfl⟩
theorem KpB.trans {n₀ Bs : Nat} {A B C : World} (h : KpB n₀ Bs A B) (h' : KpB n₀ Bs B C) : KpB n₀ Bs A C := ⟨h.1.trans h'.1, h'.2.trans h.2⟩
set_option maxHeartbeats 2000000 in
/-- the closure: for i := range len(b) / 16 { if !yield(block) { return } } -/
theorem blocks1_in (F : Fence) (n : Nat) (hf : F.fn 79) (hro : F.round = none) (hn : 1 ≤ n) (l Bs n₀ b off len cap m : Nat) (bs : List UInt8) (hm : m = len / 16) (h31 : len ≤ 2147483647) (hcap : len ≤ cap) (hb : b < n₀) (J Jx : List Blk → World → Prop)
    (hY : ∀ pre (x : Blk) W, J pre W → pre.length < m → YieldAt F (n - 1) Try.prog l #[.agg (x.1.map bv).toArray] W fun e W' =>
      (e = .returned (.bool true) ∧ J (pre ++ [x]) W' ∧ KpB n₀ Bs W W') ∨ (e = .returned (.bool false) ∧ Jx (pre ++ [x]) W'))
    (W : World) (hBs : W.cell? ⟨Bs, 0, none⟩ = some (.slice (some ⟨b, off, none⟩) len cap)) (hc : ∀ j, j < len → W.cell? ⟨b, off + j, none⟩ = some (.int .u8 ((bs.getD j 0).toNat : Int))) (h0 : J [] W) :
    CallsIn F n Try.prog 79 #[.func (.yield l) #[] #[], .pointer (some ⟨Bs, 0, none⟩)] W fun e W' => (∃ v, e = .returned v) ∧
      ((∃ ys, ys = blkUp bs m ∧ J ys W') ∨ (∃ pre, (∃ k, k ≤ m ∧ pre = blkUp bs k) ∧ Jx pre W')) := by
  have e1 : (len : Int) / 16 = (m : Int) := by omega
  have HC := Lib.hid hc
  have HM : Hid (16 * m ≤ len) := by show _ ≤ _; omega
  clear hc hm
  refine callsIn_of_wp Try.func79 rfl hf ?_ hro
  simp only [Try.ntmps79, List.size_toArray, List.length_cons, List.length_nil, Nat.reduceAdd, Nat.reduceSub, Array.replicate_succ, Array.replicate_zero, List.push_toArray, List.append_toArray, List.nil_append, List.cons_append]
  gi_wp2
  gi_loopw [7] (fun i wr => ∃ k : Nat, k ≤ m ∧ i = .int .i64 (k : Int) ∧ J (blkUp bs k) wr ∧ KpB n₀ Bs W wr)
    (fun i _ => m - (intOf i).toNat)
  case atStart => exact ⟨0, Nat.zero_le _, rfl, h0, KpB.refl _ _ _⟩
  case round =>
    obtain ⟨k, hk, rfl, hJs, hnx⟩ := hrel
    have hbx := hnx.2.trans hBs
    by_cases hlt : k < m
    · have q1 : (k : Int) < (m : Int) := by omega
      have hr := blk_range (w := wr) (k := k) (fun j hj => (hnx.1.cell (p := ⟨b, off + j, none⟩) hb).trans (HC.out j hj)) (by have := HM.out; omega)
      have hld := run_loadAt_mid wr b (off + 16 * k) 23 _ _ hr arr16B rfl (i16z _ (blkAt bs k).2)
      obtain ⟨fn, tmps, assign, body, hy, hR⟩ := hY _ (blkAt bs k) wr hJs (by rw [blkUp_len]; exact hlt)
      have HS := Lib.hid (blkUp_succ bs k)
      generalize blkAt bs k = x at hld hy hR HS
      obtain ⟨p, hp⟩ : ∃ p, p = 16 * k := ⟨_, rfl⟩
      have u1 : 16 * (k : Int) = (p : Int) := by omega
      have sl := cut16 b off len cap p (by have := HM.out; omega) hcap
      have ap := arr_ptr16 (some ⟨b, off + p, none⟩) 16 (cap - p) (Nat.le_refl _)
      have hp31 : (p : Int) + 16 ≤ 2147483647 := by have := HM.out; omega
      rw [← hp] at hld
      clear hr hp
      generalize (x.1.map bv).toArray = V at hld hy
      clear hY h0 hBs
      gi_wp2_with (refine wpListIn_ld rfl 23 (.tmp 18) rfl rfl hld ?_)
      clear hld
      gi_wp2
      refine hR.mono ?_
      rintro e W3 (⟨rfl, hJ3, hk3⟩ | ⟨rfl, hJx3⟩)
      · gi_wp2
        go_roundw
        case rel => exact ⟨k + 1, by omega, by go_num, by rw [HS.out]; exact hJ3, hnx.trans hk3⟩
        case measure => simp [intOf]; omega
      · gi_wp2
        refine bodyPost_ret (results_none rfl _ _ _) rfl ?_
        exact ⟨⟨_, rfl⟩, .inr ⟨_, ⟨k + 1, by omega, HS.out.symm⟩, hJx3⟩⟩
    · obtain rfl : k = m := by omega
      have q1 : ¬ ((k : Int) < (k : Int)) := by omega
      gi_wp2
      go_end0
      exact ⟨⟨_, rfl⟩, .inl hJs⟩
end Go.Proofs.Ytjmpbcfbfbjenaa

/- cbc.blocks: what a range over it may count on. -/
namespace Go.Proofs.Ytjmpbcfbfbjenaa
open Go.RowKit Go.Shelf
set_option linter.unusedVariables false
set_option linter.unusedSimpArgs false
set_option maxRecDepth 100000
attribute [local go_sem] Oper.semAt_some
set_option maxHeartbeats 1000000 in
/-- the closure where there is no block -/
theorem blocks1_nil_in (F : Fence) (n : Nat) (hf : F.fn 79) (hro : F.round = none) (l Bs cap len : Nat) (A : Option Addr) (hlen : len < 16) (J : List Blk → World → Prop) (W : World) (hBs : W.cell? ⟨Bs, 0, none⟩ = some (.slice A len cap)) (h0 : J [] W) :
    CallsIn F n Try.prog 79 #[.func (.yield l) #[] #[], .pointer (some ⟨Bs, 0, none⟩)] W fun e W' => (∃ v, e = .returned v) ∧ J [] W' := by
  have e1 : (len : Int) / 16 = 0 := by omega
  refine callsIn_of_wp Try.func79 rfl hf ?_ hro
  simp only [Try.ntmps79, List.size_toArray, List.length_cons, List.length_nil, Nat.reduceAdd, Nat.reduceSub, Array.replicate_succ, Array.replicate_zero, List.push_toArray, List.append_toArray, List.nil_append, List.cons_append]
  gi_wp2
  gi_loopw [7] (fun i wr => i = .int .i64 0 ∧ J [] wr) (fun _ _ => 0)
  case atStart => exact ⟨rfl, h0⟩
  case round =>
    obtain ⟨rfl, hJs⟩ := hrel
    gi_wp2
    go_end0
    exact ⟨⟨_, rfl⟩, hJs⟩
set_option maxHeartbeats 1000000 in
/-- cbc.blocks: the slice is boxed, the closure holds the box -/
theorem blocks_in (F : Fence) (n : Nat) (hf : F.fn 39) (hro : F.round = none) (A : Option Addr) (len cap : Nat) (w : World) :
    CallsIn F n Try.prog 39 #[.slice A len cap] w fun e w' => e = .returned (.func (.func 79) #[] #[.pointer (some ⟨w.heap.size, 0, none⟩)]) ∧ w' = w.alloc (.cells #[.slice A len cap] 26) := by
  refine callsIn_of_wp Try.func39 rfl hf ?_ hro
  simp only [Try.ntmps39, List.size_toArray, List.length_cons, List.length_nil, Nat.reduceAdd, Nat.reduceSub, Array.replicate_succ, Array.replicate_zero, List.push_toArray, List.append_toArray, List.nil_append, List.cons_append]
  gi_wp2
  go_ret
  exact ⟨rfl, rfl⟩
theorem blkUp_prefix (bs : List UInt8) {k m : Nat} (h : k ≤ m) : blkUp bs k <+: blkUp bs m := by
  obtain ⟨d, rfl⟩ : ∃ d, m = k + d := ⟨m - k, by omega⟩
  induction d with
  | zero => exact List.prefix_refl _
  | succ d ih => rw [← Nat.add_assoc, blkUp_succ]; exact (ih (by omega)).trans (List.prefix_append _ _)
/-- what comes out of blocks(b): the whole blocks of b in their order, or a part of them, a round having said 'no more' -/
theorem blocks_stops (F : Fence) (n : Nat) (hf : F.fn 79) (hro : F.round = none) (hn : 1 ≤ n) (Bs n₀ len cap : Nat) (A : Option Addr) (bs : List UInt8) (hl : bs.length = len) (h31 : len ≤ 2147483647) (w : World) (hBs : Bs < w.heap.size)
    (hc : w.cell? ⟨Bs, 0, none⟩ = some (.slice A len cap)) (hS : Sl w A cap bs) (hA : 16 ≤ len → ∀ b o x, A = some ⟨b, o, x⟩ → b < n₀) :
    SeqStopsK F n Try.prog 79 #[.pointer (some ⟨Bs, 0, none⟩)] (fun x : Blk => #[Value.agg (x.1.map bv).toArray]) (KpB n₀ Bs) (fun ys => ys = blkUp bs (len / 16)) (fun pre => pre <+: blkUp bs (len / 16)) (len / 16) w := fun l J Jx W hW _ _ hY h0 => by
  have hc' := (hW.cell (p := ⟨Bs, 0, none⟩) hBs).trans hc
  by_cases hlt : len < 16
  · have h16 : len / 16 = 0 := by omega
    rw [h16]
    exact (blocks1_nil_in F n hf hro l Bs cap len A hlt J W hc' h0).mono fun e W' ⟨he, hj⟩ => ⟨he, .inl ⟨_, rfl, hj⟩⟩
  · obtain ⟨b, o, rfl, hbw, hcell⟩ := c_sl_cell (hS.below hW) (i := 0) (by omega)
    refine (blocks1_in F n hf hro hn l Bs n₀ b o len cap (len / 16) bs rfl h31 (by have := hS.1; omega) (hA (by omega) _ _ _ rfl) J Jx hY W hc' (fun j hj => hcell j (by omega)) h0).mono ?_
    rintro e W' ⟨he, ⟨ys, rfl, hj⟩ | ⟨pre, ⟨k, hk, rfl⟩, hj⟩⟩
    · exact ⟨he, .inl ⟨_, rfl, hj⟩⟩
    · exact ⟨he, .inr ⟨_, blkUp_prefix bs hk, hj⟩⟩
theorem kpB_b {w : World} {n₀ Bs : Nat} (hn : n₀ ≤ w.heap.size) (hB : Bs < w.heap.size) (W : World) (l : Nat) (o o' : Obj) (hl : w.heap.size ≤ l) (hg : W.heap[l]? = some o) (h1 : o.isCells = false) (h2 : o.isWalk = false) : KpB n₀ Bs W (W.putObj l o') :=
  ⟨belowK_b (w := w) hn W l o o' hl hg h1 h2, (belowK_b (w := w) (n₀ := w.heap.size) (Nat.le_refl _) W l o o' hl hg h1 h2).cell (p := ⟨Bs, 0, none⟩) hB⟩
end Go.Proofs.Ytjmpbcfbfbjenaa

/- Chained mode: the mathematics of there and back. -/
namespace Go.Proofs.Ytjmpbcfbfbjenaa
set_option linter.unusedVariables false
set_option linter.unusedSimpArgs false
/-- m pieces, one behind the other -/
def flat16 (f : Nat → List UInt8) : Nat → List UInt8
  | 0 => []
  | m + 1 => flat16 f m ++ f m
theorem flat16_len (f : Nat → List UInt8) (hf : ∀ i, (f i).length = 16) (m : Nat) : (flat16 f m).length = 16 * m := by
  induction m with
  | zero => rfl
  | succ m ih => rw [flat16, List.length_append, ih, hf]; omega
theorem flat16_get (f : Nat → List UInt8) (hf : ∀ i, (f i).length = 16) (m k j : Nat) (hk : k < m) (hj : j < 16) : (flat16 f m).getD (16 * k + j) 0 = (f k).getD j 0 := by
  induction m with
  | zero => omega
  | succ m ih =>
    have hl := flat16_len f hf m
    rw [flat16, List.getD_eq_getElem?_getD, List.getD_eq_getElem?_getD]
    by_cases h : k = m
    · subst h
      rw [List.getElem?_append_right (by omega), hl, show 16 * k + j - 16 * k = j by omega]
    · rw [List.getElem?_append_left (by omega)]
      have := ih (by omega)
      rw [List.getD_eq_getElem?_getD, List.getD_eq_getElem?_getD] at this
      exact this
theorem list16_eq (l : List UInt8) (h : l.length = 16) : (List.range 16).map (fun j => l.getD j 0) = l := by
  apply List.ext_getElem
  · simp [h]
  · intro i h1 h2
    simp [List.getD, h2]
theorem blkAt_flat (f : Nat → List UInt8) (hf : ∀ i, (f i).length = 16) (m k : Nat) (hk : k < m) : (blkAt (flat16 f m) k).1 = f k := by
  have h : (blkAt (flat16 f m) k).1 = (List.range 16).map (fun j => (f k).getD j 0) := by
    show (List.range 16).map (fun j => (flat16 f m).getD (16 * k + j) 0) = _
    apply List.map_congr_left
    intro j hj
    exact flat16_get f hf m k j hk (by simpa using hj)
  rw [h, list16_eq _ (hf k)]
theorem blkAt_drop (b : List UInt8) (k : Nat) (h : 16 * k + 16 ≤ b.length) : (blkAt b k).1 = (b.drop (16 * k)).take 16 := by
  apply List.ext_getElem
  · simp [blkAt]; omega
  · intro i h1 h2
    have hi : i < 16 := by simpa [blkAt] using h1
    have hb : 16 * k + i < b.length := by omega
    simp [blkAt, List.getD, hb]
theorem flat_blk (b : List UInt8) (m : Nat) (h : 16 * m ≤ b.length) : flat16 (fun i => (blkAt b i).1) m = b.take (16 * m) := by
  induction m with
  | zero => simp [flat16]
  | succ m ih => rw [flat16, ih (by omega), show 16 * (m + 1) = 16 * m + 16 by omega, List.take_add, blkAt_drop b m (by omega)]
theorem flat_congr (f g : Nat → List UInt8) (m : Nat) (h : ∀ i, i < m → f i = g i) : flat16 f m = flat16 g m := by
  induction m with
  | zero => rfl
  | succ m ih => rw [flat16, flat16, ih (fun i hi => h i (by omega)), h m (by omega)]
theorem xorL_twice (a c : List UInt8) (h : a.length = c.length) : xorL (xorL a c) c = a := by
  apply List.ext_getElem
  · simp [xorL, h]
  · intro i h1 h2
    simp [xorL, UInt8.xor_assoc]
/-- the block put ahead of block i: the iv, then what was enciphered -/
def cN (E : List UInt8 → List UInt8) (iv b : List UInt8) : Nat → List UInt8
  | 0 => iv
  | i + 1 => E (xorL (blkAt b i).1 (cN E iv b i))
theorem cN_len (E : List UInt8 → List UInt8) (iv b : List UInt8) (hiv : iv.length = 16) (hE : ∀ x, x.length = 16 → (E x).length = 16) (i : Nat) : (cN E iv b i).length = 16 := by
  induction i with
  | zero => exact hiv
  | succ i ih => exact hE _ (by rw [xorL_len, (blkAt b i).2, ih]; rfl)
def chainL (E : List UInt8 → List UInt8) (iv b : List UInt8) (m : Nat) : List UInt8 := flat16 (fun i => cN E iv b (i + 1)) m
/-- what is ahead of block i of what is opened -/
def aheadN (iv b : List UInt8) : Nat → List UInt8
  | 0 => iv
  | i + 1 => (blkAt b i).1
def unchL (D : List UInt8 → List UInt8) (iv b : List UInt8) (m : Nat) : List UInt8 := flat16 (fun i => xorL (D (blkAt b i).1) (aheadN iv b i)) m
theorem unch_chain (E D : List UInt8 → List UInt8) (iv b : List UInt8) (m : Nat) (hb : b.length = 16 * m) (hiv : iv.length = 16) (hE : ∀ x, x.length = 16 → (E x).length = 16) (hDE : ∀ x, x.length = 16 → D (E x) = x) :
    unchL D iv (chainL E iv b m) m = b := by
  have hc := cN_len E iv b hiv hE
  have hA : ∀ i, i < m → (blkAt (chainL E iv b m) i).1 = cN E iv b (i + 1) := fun i hi => blkAt_flat _ (fun i => hc (i + 1)) m i hi
  have hH : ∀ i, i < m → aheadN iv (chainL E iv b m) i = cN E iv b i := fun i hi => by
    cases i with
    | zero => rfl
    | succ i => exact hA i (by omega)
  unfold unchL
  rw [flat_congr _ (fun i => (blkAt b i).1) m, flat_blk b m (by omega), ← hb, List.take_length]
  intro i hi
  show xorL (D (blkAt (chainL E iv b m) i).1) (aheadN iv (chainL E iv b m) i) = _
  rw [hA i hi, hH i hi, cN, hDE _ (by rw [xorL_len, (blkAt b i).2, hc]; rfl), xorL_twice _ _ (by rw [(blkAt b i).2, hc])]
/-- the same block by block: what is ahead, and what has come out -/
def chB (E : List UInt8 → List UInt8) (iv : List UInt8) (pre : List Blk) : List UInt8 × List UInt8 := pre.foldl (fun s x => (E (xorL x.1 s.1), s.2 ++ E (xorL x.1 s.1))) (iv, [])
theorem chB_snoc (E : List UInt8 → List UInt8) (iv : List UInt8) (pre : List Blk) (x : Blk) : chB E iv (pre ++ [x]) = (E (xorL x.1 (chB E iv pre).1), (chB E iv pre).2 ++ E (xorL x.1 (chB E iv pre).1)) := by simp [chB]
theorem chB_up (E : List UInt8 → List UInt8) (iv b : List UInt8) (m : Nat) : chB E iv (blkUp b m) = (cN E iv b m, chainL E iv b m) := by
  induction m with
  | zero => rfl
  | succ m ih => rw [blkUp_succ, chB_snoc, ih]; rfl
theorem chB_len (E : List UInt8 → List UInt8) (iv : List UInt8) (hiv : iv.length = 16) (hE : ∀ x, x.length = 16 → (E x).length = 16) : ∀ (k : Nat) (pre : List Blk), pre.length = k → (chB E iv pre).1.length = 16 ∧ (chB E iv pre).2.length = 16 * k
  | 0, pre, h => by
    obtain rfl := List.eq_nil_of_length_eq_zero h
    exact ⟨hiv, rfl⟩
  | k + 1, pre, h => by
    rcases List.eq_nil_or_concat pre with rfl | ⟨q, x, rfl⟩
    · simp at h
    · rw [List.concat_eq_append] at h ⊢
      have ih := chB_len E iv hiv hE k q (by simpa using h)
      have h := hE (xorL x.1 (chB E iv q).1) (by rw [xorL_len, x.2, ih.1]; rfl)
      rw [chB_snoc]
      refine ⟨h, ?_⟩
      simp only [List.length_append, h, ih.2]
      omega
/-- and opened -/
def unB (D : List UInt8 → List UInt8) (iv : List UInt8) (pre : List Blk) : List UInt8 × List UInt8 := pre.foldl (fun s x => (x.1, s.2 ++ xorL (D x.1) s.1)) (iv, [])
theorem unB_snoc (D : List UInt8 → List UInt8) (iv : List UInt8) (pre : List Blk) (x : Blk) : unB D iv (pre ++ [x]) = (x.1, (unB D iv pre).2 ++ xorL (D x.1) (unB D iv pre).1) := by simp [unB]
theorem unB_up (D : List UInt8 → List UInt8) (iv b : List UInt8) (m : Nat) : unB D iv (blkUp b m) = (aheadN iv b m, unchL D iv b m) := by
  induction m with
  | zero => rfl
  | succ m ih => rw [blkUp_succ, unB_snoc, ih]; rfl
theorem up_pad (bs : List UInt8) : upO (bs ++ padB bs.length) = some bs.length := by
  have hk := padK9_le bs.length
  have hl : (bs ++ padB bs.length).length = bs.length + padK9 bs.length := by rw [List.length_append, padB_len]
  have hz : (bs ++ padB bs.length).getD (bs.length + padK9 bs.length - 1) 0 = UInt8.ofNat (padK9 bs.length) := by
    rw [List.getD_eq_getElem?_getD, List.getElem?_append_right (by omega), padB, List.getElem?_replicate, if_pos (by omega)]; rfl
  have hm : (bs.length + padK9 bs.length) % 16 = 0 := by unfold padK9; omega
  rw [upO, hl, if_neg (by omega), hz, UInt8.toNat_ofNat', Nat.mod_eq_of_lt (by omega), show bs.length + padK9 bs.length - padK9 bs.length = bs.length by omega, List.drop_left, if_pos ⟨by omega, rfl⟩]
end Go.Proofs.Ytjmpbcfbfbjenaa

/- palfreyref09.Seal. -/
namespace Go.Proofs.Ytjmpbcfbfbjenaa
open Go.RowKit
set_option maxRecDepth 100000
set_option linter.unusedVariables false
set_option linter.unusedSimpArgs false
theorem own_growA {w W : World} {g base : Nat} {e : TypeId} {s : Nat} {v : Value} {n : Nat} {xs : List Value} (h : w.ownsRow base e s v n xs) (hg : GrowA g w W) (hb : g < base) : W.ownsRow base e s v n xs := by
  obtain ⟨h0, h | ⟨k, cap, cur, hv, hk, hh, rr⟩⟩ := h
  · exact ⟨h0, .inl h⟩
  · exact ⟨h0, .inr ⟨k, cap, cur, hv, hk, hg.heap (by omega) hh, rr⟩⟩
theorem GrowA.cell {g b o : Nat} {w W : World} (h : GrowA g w W) (hb : b ≠ g) (hl : b < w.heap.size) : W.cell? ⟨b, o, none⟩ = w.cell? ⟨b, o, none⟩ := by
  have := h.block b hl (fun e => hb (by injection e))
  simp [World.cell?, this]
theorem GrowA.set {g : Nat} (w : World) (j : Nat) (v : Value) : GrowA g w (w.setCell ⟨g, j, none⟩ v) :=
  ⟨rfl, rfl, rfl, by simp, fun k _ hk => by rw [Below.heap_setCell w _ _ _ (fun e => hk (by rw [e]))]⟩
theorem xorL_commA (a b : List UInt8) : xorL a b = xorL b a := by
  unfold xorL; exact List.zipWith_comm_of_comm (fun a b => UInt8.xor_comm a b)
theorem blk_get (b : List UInt8) (j k : Nat) (hk : k < 16) : (blkAt b j).1.getD k 0 = b.getD (16 * j + k) 0 := by
  show ((List.range 16).map (fun r => b.getD (16 * j + r) 0)).getD k 0 = _
  rw [List.getD_eq_getElem?_getD, List.getElem?_map, List.getElem?_range hk]; rfl
theorem chain_step (E : List UInt8 → List UInt8) (iv p : List UInt8) (j : Nat) : chainL E iv p (j + 1) = chainL E iv p j ++ E (xorL (cN E iv p j) (blkAt p j).1) := by
  rw [xorL_commA]; rfl
theorem cN_step (E : List UInt8 → List UInt8) (iv p : List UInt8) (j : Nat) : cN E iv p (j + 1) = E (xorL (cN E iv p j) (blkAt p j).1) := by
  rw [xorL_commA]; rfl
theorem pad_pos (n : Nat) : 0 < n + padK9 n ∧ (n + padK9 n) % 16 = 0 ∧ n + padK9 n ≤ n + 16 := by unfold padK9; omega
theorem take_snocK (Y : List UInt8) (k : Nat) (hk : k < Y.length) : Y.take (k + 1) = Y.take k ++ [Y.getD k 0] := by
  rw [List.take_succ_eq_append_getElem hk, List.getD_eq_getElem?_getD, List.getElem?_eq_getElem hk]; rfl
set_option maxHeartbeats 1000000 in
theorem refKeys_low (A : Option Addr) (n c nk : Nat) (key : List UInt8) (w : World) (hl : key.length = n) (hn : n = 4 * nk) (hk : nk = 4 ∨ nk = 8) (hS : Sl w A c key) :
    Calls Try.prog 27 #[.agg (sboxL.map bv).toArray, .slice A n c] w fun e w' => ∃ g c', e = .returned (.slice (some ⟨g, 0, none⟩) (nk + 7) c') ∧ w.heap.size ≤ g ∧ g < w'.heap.size ∧ (∀ r, r < nk + 7 → w'.rangeAt g (r * 16) ((rkB (expandL key) r).map bv)) ∧ Below w.heap.size w w' := by
  refine (refKeys_any sboxL A n c nk key w sboxL_len hl hn hk hS).mono ?_
  rintro e w' ⟨v, rfl, hO, hb⟩
  obtain ⟨A1, c1, he, _, hc⟩ := own_readN hO
  obtain ⟨g, rfl, hg, hgw, _⟩ := hc (by omega)
  obtain ⟨A2, c2, rfl, hK⟩ := keysAt_own hO (by omega) (fun r hr => keys_row nk key (hl.trans hn) hk r hr)
  obtain ⟨g2, rfl, _, hr⟩ := hK
  injection he with e1 e2 e3
  injection e1 with e1
  injection e1 with e1 e4
  subst e1
  exact ⟨_, c2, rfl, hg, hgw, hr, hb⟩
set_option maxHeartbeats 8000000 in
theorem refSeal_any (key : List UInt8) (nk : Nat) (A : Option Addr) (n c : Nat) (iv : List UInt8) (Ab : Option Addr) (m cb : Nat) (b : List UInt8) (w : World) (hl : key.length = n) (hn : n = 4 * nk) (hk : nk = 4 ∨ nk = 8) (hiv : iv.length = 16) (hm : b.length = m) (hm31 : m ≤ 100000) (hS : Sl w A c key) (hSb : Sl w Ab cb b) :
    Calls Try.prog 15 #[.slice A n c, .agg (iv.map bv).toArray, .slice Ab m cb] w fun e w' => ∃ v, e = .returned v ∧ w'.ownsRow w.heap.size 5 1 v (m + padK9 m) ((chainL (encL (expandL key) (nk + 6)) iv (b ++ padB m) ((m + padK9 m) / 16)).map bv) ∧ Below w.heap.size w w' := by
  obtain ⟨hp0, hp16, hp17⟩ := pad_pos m
  have HIV := Lib.hid hiv; have HM := Lib.hid hm; have HS := Lib.hid hS; have HSb := Lib.hid hSb
  have HRK := Lib.hid (fun A c W hS => refKeys_low A n c nk key W hl hn hk hS)
  have HRE := Lib.hid (fun x A cc W hx hA => refEncK_any key nk x A cc W hk (hl.trans hn) hx hA)
  have HRT := Lib.hid (fun W => refTable_any W)
  have HRP := Lib.hid (fun W hS => refPadK_any Ab m cb b W hm (by omega) hS)
  have hwl : (expandL key).length = 60 := expandL_len key (by omega)
  have HEL : Hid (∀ x, x.length = 16 → (encL (expandL key) (nk + 6) x).length = 16) := fun x hx => by rw [encL, encT, outL_len, addW_len _ _ _ (shiftW_len _ _) (by omega)]
  have hz := zero256B
  have HZL := Lib.hid zeros256_len
  have HTL : Hid ((sboxL.map bv).length = 256) := by show _ = _; rw [List.length_map, sboxL_len]
  have HI : Hid ((Try.prog.info? 48).map (·.size) = some (sboxL.map bv).length) := by show _ = _; rw [HTL.out]; exact i256B
  have hone : Hid (∀ v ∈ sboxL.map bv, v.oneCell' = true) := bv_one _
  generalize encL (expandL key) (nk + 6) = E at HRE HEL ⊢
  generalize rkB (expandL key) = RK at HRK HRE
  generalize zeros256 = Z at hz HZL
  generalize sboxL.map bv = TB at HRK HRE HRT HTL HI hone
  obtain ⟨r7, hr7⟩ : ∃ r7, r7 = nk + 7 := ⟨_, rfl⟩
  rw [← hr7] at HRK HRE
  obtain ⟨N, hN⟩ : ∃ N, N = m + padK9 m := ⟨_, rfl⟩
  obtain ⟨M, hM⟩ : ∃ M, M = N / 16 := ⟨_, rfl⟩
  rw [← hN] at HRP hp0 hp16 hp17 ⊢
  rw [← hM]
  have HNM : Hid (N = 16 * M) := by show _ = _; omega
  have hpl : (b ++ padB m).length = N := by rw [List.length_append, padB_len, hm, hN]
  generalize b ++ padB m = P at HRP hpl ⊢
  have HPL := Lib.hid hpl
  have hN31 : N ≤ 100016 := by omega
  have HCL := Lib.hid (cN_len E iv P hiv HEL.out)
  have HC0 : Hid (cN E iv P 0 = iv) := rfl
  have HCS := Lib.hid (cN_step E iv P)
  have HH0 : Hid (chainL E iv P 0 = []) := rfl
  have HHS : Hid (∀ j, chainL E iv P (j + 1) = chainL E iv P j ++ cN E iv P (j + 1)) := fun j => by rw [cN_step]; exact chain_step E iv P j
  have HBG := Lib.hid (blk_get P)
  have HBL : Hid (∀ j, (blkAt P j).1.length = 16) := fun j => (blkAt P j).2
  generalize cN E iv P = CN at HCL HC0 HCS HHS
  generalize chainL E iv P = CH at HH0 HHS ⊢
  obtain ⟨BK, HBK⟩ : ∃ BK : Nat → List UInt8, Hid (∀ j, (blkAt P j).1 = BK j) := ⟨fun j => _, fun _ => rfl⟩
  have HBG2 : Hid (∀ j k, k < 16 → (BK j).getD k 0 = P.getD (16 * j + k) 0) := fun j k hk => by rw [← HBK.out]; exact HBG.out j k hk
  have HBL2 : Hid (∀ j, (BK j).length = 16) := fun j => by rw [← HBK.out]; exact HBL.out j
  have HCS2 : Hid (∀ j, CN (j + 1) = E (xorL (CN j) (BK j))) := fun j => by rw [← HBK.out]; exact HCS.out j
  clear HBG HBL HCS HBK
  obtain ⟨XR, HXR⟩ : ∃ X, Hid (CH M = X) := ⟨_, rfl⟩
  rw [HXR.out]
  clear hl hn hk hiv hm hS hSb hr7 hwl hN hM hpl hp16
  go_enter Try.func15, Try.ntmps15
  go_upto_region 1 with (fail)
  generalize hV : w.alloc _ = W0
  have F0 : Hid (W0.heap[w.heap.size]? = some (.cells (iv.map bv).toArray 23 (0, 0))) := heap_of_alloc hV
  have FB := Lib.hid (below_of_alloc hV (Nat.le_refl w.heap.size))
  clear hV
  go_wp2_with fail
  refine (HRT.out W0).mono ?_
  rintro e w1 ⟨rfl, hb1⟩
  have F1 := Lib.hid ((hb1.block _ (lt_of_heap F0.out)).trans F0.out)
  have B1 := Lib.hid (FB.out.step hb1)
  clear hb1 F0 FB
  go_upto_region 2 with (first
    | (refine wpList_st rfl 48 (.tmp 7) (.tmp 14) rfl (store_arr (cs := TB) (old := Z) HI.out hone.out (heap_alloc_new' w1 _) (by rw [HZL.out, HTL.out])) ?_
       generalize hV : World.setRow _ _ _ = W2
       have M2 := Lib.hid (heap_of_setRow hV (heap_alloc_new' w1 _))
       have MB := Lib.hid (((Below.refl w1.heap.size w1).alloc (Nat.le_refl _) _).trans (below_of_setRow hV (Nat.le_refl w1.heap.size) (by simp)))
       clear hV)
    | fail)
  have F2 := Lib.hid ((MB.out.block _ (lt_of_heap F1.out)).trans F1.out)
  have B2 := Lib.hid (B1.out.step MB.out)
  have S2 := Lib.hid (HS.out.below B2.out)
  obtain ⟨g7, hg7⟩ : ∃ g, w1.heap.size = g := ⟨_, rfl⟩
  have N7 : Hid (g7 ≠ w.heap.size) := by have := lt_of_heap F1.out; show _ ≠ _; omega
  rw [hg7] at M2 ⊢
  clear F1 B1 MB hg7
  go_wp2_with (first
    | (refine wpList_ld rfl 48 (.tmp 7) rfl (load_arr arr256B rfl HI.out M2.out) ?_)
    | fail)
  refine (HRK.out A c W2 S2.out).mono ?_
  rintro e w3 ⟨gk, c8, rfl, hgk0, hgk, hkr, hb3⟩
  have NK : Hid (gk ≠ w.heap.size) := by have := lt_of_heap F2.out; show _ ≠ _; omega
  have F3 := Lib.hid ((hb3.block _ (lt_of_heap F2.out)).trans F2.out)
  have M3 := Lib.hid ((hb3.block _ (lt_of_heap M2.out)).trans M2.out)
  have B3 := Lib.hid (B2.out.step hb3)
  have S3 := Lib.hid (HSb.out.below B3.out)
  have HGK := Lib.hid hgk; have HKR := Lib.hid hkr
  clear hb3 F2 M2 B2 S2 hgk hkr hgk0
  go_wp2_with fail
  refine (HRP.out w3 S3.out).mono ?_
  rintro e w4 ⟨v9, rfl, hO9, hb4⟩
  obtain ⟨A9, c9, rfl, _, hrd⟩ := own_readN hO9
  obtain ⟨g9, rfl, hg9, hgw9, hcell⟩ := hrd hp0
  have N9 : Hid (g9 ≠ w.heap.size) := by have := lt_of_heap F3.out; show _ ≠ _; omega
  have F4 := Lib.hid ((hb4.block _ (lt_of_heap F3.out)).trans F3.out)
  have M4 := Lib.hid ((hb4.block _ (lt_of_heap M3.out)).trans M3.out)
  have B4 := Lib.hid (B3.out.step hb4)
  have KR4 : Hid (∀ r, r < r7 → w4.rangeAt gk (r * 16) ((RK r).map bv)) := fun r hr => range_heap (hb4.block _ HGK.out) (HKR.out r hr)
  have KL4 : Hid (gk < w4.heap.size) := Nat.lt_of_lt_of_le HGK.out hb4.size
  have PC4 : Hid (∀ i, i < N → w4.cell? ⟨g9, i, none⟩ = some (.int .u8 ((P.getD i 0).toNat : Int))) := fun i hi => by
    have h := hcell i (bv (P[i]'(by rw [HPL.out]; exact hi))) (by rw [List.getElem?_map, List.getElem?_eq_getElem (by rw [HPL.out]; exact hi)]; rfl)
    rw [h, List.getD_eq_getElem?_getD, List.getElem?_eq_getElem (by rw [HPL.out]; exact hi)]; rfl
  have PL4 : Hid (g9 < w4.heap.size) := hgw9
  have LV4 : Hid (w.heap.size < w4.heap.size) := lt_of_heap F4.out
  clear hO9 hb4 hrd hg9 hgw9 hcell F3 M3 B3 S3 HGK HKR hp0
  obtain ⟨g4, hg4⟩ : ∃ g, w.heap.size = g := ⟨_, rfl⟩
  have HG4 := Lib.hid hg4
  rw [hg4] at F4 N7 NK N9 LV4 ⊢
  clear hg4
  obtain ⟨q, hq⟩ : ∃ q, q = w4.heap.size := ⟨_, rfl⟩
  have HQ := Lib.hid hq
  have HQ4 : Hid (g4 < q) := by rw [hq]; exact LV4.out
  clear hq
  go_wp2_with fail
  go_loopw [10, 11] (fun s10 vi wr => ∃ (j i : Nat) (v10 : Value), j ≤ M ∧ v10 = s10 ∧ Hid (i = 16 * j) ∧ vi = .int .i64 (i : Int) ∧ Hid (wr.heap[g4]? = some (.cells ((CN j).map bv).toArray 23 (0, 0))) ∧ Hid (wr.ownsRow q 5 1 v10 i ((CH j).map bv)) ∧ Hid (GrowA g4 w4 wr)) (fun _ i _ => N - (intOf i).toNat)
  case atStart => exact ⟨0, 0, _, by omega, rfl, rfl, rfl, by show _ = _; rw [HC0.out]; exact F4.out, by show World.ownsRow _ _ _ _ _ _ _; rw [HH0.out]; exact World.ownsRow_nil _ _ _ _, Pre.refl _⟩
  case round =>
    obtain ⟨j, i, v10, hj, rfl, HIJ, rfl, HG, HO, HGR⟩ := hrel
    by_cases hlt : i < N
    · have e1 : (i : Int) < (N : Int) := by omega
      have hjM : j < M := by have h1 := HIJ.out; have h2 := HNM.out; omega
      have hiN : i + 16 ≤ N := by have h1 := HIJ.out; have h2 := HNM.out; omega
      have HCj := Lib.hid (HCL.out j); have HBj := Lib.hid (HBL2.out j)
      have HCn := HCS2.out j
      have HHn := HHS.out j
      have HBv : Hid (∀ k, k < 16 → (BK j).getD k 0 = P.getD (i + k) 0) := fun k hk => by rw [HIJ.out]; exact HBG2.out j k hk
      have HYL := HEL.out (xorL (CN j) (BK j)) (by rw [xorL_len, HCj.out, HBj.out]; rfl)
      obtain ⟨Y, HY⟩ : ∃ Y, Hid (CN (j + 1) = Y) := ⟨_, rfl⟩
      rw [HY.out] at HCn HHn
      rw [← HCn] at HYL
      generalize CN j = C at HG HCj HCn
      generalize BK j = B at HBj HBv HCn
      replace HCn := Lib.hid HCn; replace HHn := Lib.hid HHn; replace HYL := Lib.hid HYL
      go_wp2_with fail
      obtain ⟨wp, hwp⟩ : ∃ x, x = wr := ⟨_, rfl⟩
      subst hwp
      go_loopw [12] (fun vk wr => ∃ (k : Nat), k ≤ 16 ∧ vk = .int .i64 (k : Int) ∧ Hid (wr.heap[g4]? = some (.cells ((plN C B k).map bv).toArray 23 (0, 0))) ∧ Hid (GrowA g4 wp wr)) (fun k _ => 16 - (intOf k).toNat)
      case atStart => exact ⟨0, by omega, rfl, by show _ = _; rw [show plN C B 0 = C by simp [plN]]; exact HG, Pre.refl _⟩
      case round =>
        clear HG
        obtain ⟨k, hk, rfl, HGk, HW⟩ := hrel
        by_cases hltk : k < 16
        · have q2 : (k : Int) < 16 := by omega
          obtain ⟨e, he⟩ : ∃ e, e = i + k := ⟨_, rfl⟩
          have o1 : IntKind.i64.wrap ((i : Int) + (k : Int)) = (e : Int) := by rw [IntKind.wrap_i64]; omega
          have o3 : (e : Int) < (N : Int) := by omega
          have c4 := bcellT HGk.out k (by rw [plN_len C B k HCj.out HBj.out hk]; exact hltk)
          rw [plN_get C B k HCj.out HBj.out hltk] at c4
          have cp := (HW.out.cell (o := e) N9.out (Nat.lt_of_lt_of_le PL4.out HGR.out.size)).trans ((HGR.out.cell N9.out PL4.out).trans (PC4.out e (by omega)))
          have hbv := HBv.out k hltk
          rw [← he] at hbv
          rw [← hbv] at cp
          have HST := plN_step C B k HCj.out HBj.out hltk
          generalize C.getD k 0 = x at c4 HST
          generalize B.getD k 0 = y at cp HST
          obtain ⟨z, hz'⟩ : ∃ z : UInt8, z = x ^^^ y := ⟨_, rfl⟩
          have hzz : bits .xor .u8 (x.toNat : Int) (y.toNat : Int) = (z.toNat : Int) := by rw [hz']; exact xor8 x y
          rw [← hz'] at HST
          have HST := Lib.hid HST
          have fz := frozen_of_heap HGk.out k
          have heN : e < N := by omega
          clear hz' he hbv
          go_upto_region 11 with (fail)
          go_still_tail 12, (by kernel_rfl)
          change wpList _ _ _ _ _ wr.drew
          go_wp2
          go_roundw
          case rel =>
            refine ⟨k + 1, by omega, by go_num, ?_, HW.out.trans ((GrowA.drew _ _).trans (GrowA.set _ _ _))⟩
            have hfin := heap_set (w := wr.drew) HGk.out k (bv z)
            rw [← List.map_set, HST.out] at hfin
            first | exact hfin | (rw [hzz]; exact hfin)
          case measure => simp [intOf]; omega
        · have q2 : ¬ ((k : Int) < 16) := by omega
          have hk16 : k = 16 := by omega
          rw [hk16, plN_end C B HCj.out HBj.out] at HGk
          clear hk16
          have HXL : Hid ((xorL C B).length = 16) := by show _ = _; rw [xorL_len, HCj.out, HBj.out]; rfl
          have RE := Lib.hid (fun A cc W hA => HRE.out (xorL C B) A cc W HXL.out hA)
          rw [← HCn.out] at RE
          generalize xorL C B = X at HGk HXL RE
          have hiX := Lib.hid (r_i16 X HXL.out)
          have hiY := Lib.hid (r_i16 Y HYL.out)
          have HWr : Hid (GrowA g4 w4 wr) := HGR.out.trans HW.out
          have M5 := Lib.hid (HWr.out.heap N7.out M4.out)
          have OWr := Lib.hid (own_growA HO.out HW.out HQ4.out)
          clear HW HGR HO HCn
          go_wp2_with (first
            | (refine wpList_ld rfl 48 (.tmp 7) rfl (load_arr arr256B rfl HI.out M5.out) ?_)
            | (refine wpList_ld rfl 23 (.tmp 4) rfl (load_arr arr16B rfl hiX.out HGk.out) ?_)
            | fail)
          refine (RE.out _ c8 wr (KeysAt.grow (g := g4) KR4.out KL4.out NK.out HWr.out)).mono ?_
          rintro e w6 ⟨rfl, hb6⟩
          have H6 := Lib.hid ((hb6.block _ (lt_of_heap HGk.out)).trans HGk.out)
          have G6 : Hid (GrowA g4 w4 w6) := HWr.out.trans (GrowA.of_ext hb6)
          have O6 := Lib.hid (ka_own_below OWr.out hb6)
          clear hb6 HGk HWr OWr M5 RE
          go_upto_region 13 with (first
            | (refine wpList_st rfl 23 (.tmp 4) (.tmp 45) rfl (store_arr (cs := Y.map bv) hiY.out (bv_one _) H6.out (by rw [List.length_map, List.length_map, HXL.out, HYL.out])) ?_
               generalize hV : World.setRow _ _ _ = W7
               have H7 := Lib.hid (heap_of_setRow hV H6.out)
               have X7 : Hid (GrowA g4 w6 W7) := by rw [← hV]; exact GrowA.setRow _ _ _
               clear hV)
            | fail)
          have G7 : Hid (GrowA g4 w4 W7) := G6.out.trans X7.out
          have O7 := Lib.hid (own_growA O6.out X7.out HQ4.out)
          clear G6 O6 X7 H6
          go_wp2_with fail
          go_loopw [10, 13] (fun s10 vk wr => ∃ (k s : Nat) (v10 : Value), k ≤ 16 ∧ v10 = s10 ∧ Hid (s = i + k) ∧ vk = .int .i64 (k : Int) ∧ Hid (wr.heap[g4]? = some (.cells (Y.map bv).toArray 23 (0, 0))) ∧ Hid (wr.ownsRow q 5 1 v10 s ((CH j ++ Y.take k).map bv)) ∧ Hid (GrowA g4 w4 wr)) (fun _ k _ => 16 - (intOf k).toNat)
          case atStart => exact ⟨0, i, _, by omega, rfl, rfl, rfl, H7, by show World.ownsRow _ _ _ _ _ _ _; rw [List.take_zero, List.append_nil]; exact O7.out, G7⟩
          case round =>
            clear H7 O7 G7
            obtain ⟨k, s, v10, hk, rfl, HSK, rfl, H7, O7, G7⟩ := hrel
            by_cases hltk : k < 16
            · have q2 : (k : Int) < 16 := by omega
              have cy := bcellT H7.out k (by rw [HYL.out]; exact hltk)
              have HTS := take_snocK Y k (by rw [HYL.out]; exact hltk)
              generalize Y.getD k 0 = z at cy HTS
              have HTS := Lib.hid HTS
              have hs31 : s + 1 ≤ 2147483647 := by have := HSK.out; omega
              have LS : Hid (q ≤ wr.heap.size) := by have h1 := G7.out.size; have h2 := HQ.out; show _ ≤ _; omega
              go_wp2_with (first
                | (at_builtin
                   refine wpList_app8 rfl (.tmp 50) (.tmp 54) rfl q _ s (CH j ++ Y.take k) rfl ?_ (some ⟨wr.heap.size, 0, none⟩) 1 1 (wr.heap.size + 1) [z] rfl ?_ rfl hs31 ?_ ?_
                   · exact k_alloc O7.out _
                   · exact row_of_heap (bs := [z]) (heap_alloc_new' wr (.cells ([z].map bv).toArray 5)) (Nat.lt_succ_self _)
                   · exact Nat.le_trans LS.out (by simp)
                   rintro v6 w6 hown hgr
                   rw [List.append_assoc, ← HTS.out] at hown
                   have O8 := Lib.hid hown
                   have R8 : Hid (GrowA g4 w4 w6) := (G7.out.trans (GrowA.of_ext ((Below.refl _ _).alloc (Nat.le_refl _) _))).app hgr (ka_own_ge O7.out (by have := HQ.out; omega))
                   have H8 : Hid (w6.heap[g4]? = some (.cells (Y.map bv).toArray 23 (0, 0))) := (hgr.block g4 (Nat.lt_of_lt_of_le (Nat.lt_of_lt_of_le HQ4.out LS.out) (by simp)) (fun e => absurd (ka_own_ge O7.out (Nat.le_refl _) g4 e.symm) (by have := HQ4.out; omega))).trans ((((Below.refl wr.heap.size wr).alloc (Nat.le_refl _) (.cells ([z].map bv).toArray 5)).block g4 (Nat.lt_of_lt_of_le HQ4.out LS.out)).trans H7.out)
                   clear hown hgr)
                | fail)
              go_roundw
              case rel => exact ⟨k + 1, s + 1, _, by omega, rfl, by have := HSK.out; show _ = _; omega, by go_num, H8, O8, R8⟩
              case measure => simp [intOf]; omega
            · have q2 : ¬ ((k : Int) < 16) := by omega
              have hk16 : k = 16 := by omega
              rw [hk16, List.take_of_length_le (Nat.le_of_eq HYL.out), ← HHn.out] at O7
              have hs16 : s = i + 16 := by have := HSK.out; omega
              rw [hs16] at O7
              clear hk16 hs16
              go_wp2_with fail
              go_roundw
              case rel => exact ⟨j + 1, i + 16, _, by omega, rfl, by have := HIJ.out; show _ = _; omega, by go_num, by rw [HY.out]; exact H7, O7, G7⟩
              case measure => simp [intOf]; omega
    · have e1 : ¬ ((i : Int) < (N : Int)) := by omega
      have hjM : j = M := by have h1 := HIJ.out; have h2 := HNM.out; omega
      have hiN : i = N := by have h1 := HIJ.out; have h2 := HNM.out; omega
      rw [hjM, HXR.out, hiN] at HO
      have BW : Hid (Below w.heap.size w wr) := B4.out.trans (HGR.out.below (by have := HG4.out; omega) B4.out.size)
      have O9 : Hid (wr.ownsRow w.heap.size 5 1 v10 N (XR.map bv)) := ka_own_le HO.out (by have h1 := HQ.out; have h2 := B4.out.size; omega)
      clear hjM hiN
      go_wp2_with fail
      go_ret
      exact ⟨_, rfl, O9.out, BW.out⟩
end Go.Proofs.Ytjmpbcfbfbjenaa

/- palfreyref10.Tag. -/
namespace Go.Proofs.Ytjmpbcfbfbjenaa
open Go.RowKit
set_option maxRecDepth 100000
set_option linter.unusedVariables false
set_option linter.unusedSimpArgs false
theorem whG_len (b : List UInt8) (n : Nat) (h : b.length = n) : (whG b).length = n + padN n := by rw [whG, List.length_append, List.length_replicate, h]
set_option maxHeartbeats 8000000 in
theorem refTagX_any (key : List UInt8) (nk : Nat) (A : Option Addr) (cc : Nat) (F aad x : List UInt8) (Aa : Option Addr) (an ac : Nat) (Ax : Option Addr) (n cx : Nat) (w : World) (hk : nk = 4 ∨ nk = 8) (hl : key.length = 4 * nk) (hF : F.length = 16) (ha : aad.length = an) (hx : x.length = n) (ha2 : an ≤ 100000) (hn : n ≤ 100000) (hA : KeysAt w A (nk + 7) (rkB (expandL key))) (hS1 : Sl w Aa ac aad) (hS2 : Sl w Ax cx x) :
    Calls Try.prog 60 #[.agg (sboxL.map bv).toArray, .slice A (nk + 7) cc, .agg (F.map bv).toArray, .slice Aa an ac, .slice Ax n cx] w fun e w' => ∃ v, e = .returned v ∧ w'.ownsRow w.heap.size 5 1 v 16 ((tagG (encL (expandL key) (nk + 6)) F aad x).map bv) ∧ Below w.heap.size w w' := by
  have HF := Lib.hid hF; have HS1 := Lib.hid hS1; have HS2 := Lib.hid hS2; have HKA := Lib.hid hA
  have RE0 := Lib.hid (fun A cc W hA => refEncK_any key nk zerB A cc W hk hl rfl hA)
  have REF := Lib.hid (fun A cc W hA => refEncK_any key nk F A cc W hk hl hF hA)
  have hwl : (expandL key).length = 60 := expandL_len key (by omega)
  have HEL : ∀ y, y.length = 16 → (encL (expandL key) (nk + 6) y).length = 16 := fun y hy => by rw [encL, encT, outL_len, addW_len _ _ _ (shiftW_len _ _) (by omega)]
  have HHL := Lib.hid (HEL zerB rfl)
  have HYL := Lib.hid (HEL F hF)
  have HTG : Hid (tagG (encL (expandL key) (nk + 6)) F aad x = xorL (gsumL (encL (expandL key) (nk + 6) zerB) (whG aad ++ whG x ++ lenL (an : Int) (n : Int))) (encL (expandL key) (nk + 6) F)) := by show _ = _; rw [tagG, ha, hx]
  have HP1 : Hid (∀ W, Sl W Aa ac aad → Calls Try.prog 56 #[.slice Aa an ac] W fun e w' => ∃ v, e = .returned v ∧ w'.ownsRow W.heap.size 5 1 v (an + padN an) ((whG aad).map bv) ∧ Below W.heap.size W w') := fun W hS => by have h := refGpad_any Aa an ac aad W ha (by omega) hS; rw [whG, ha]; exact h
  have HP2 : Hid (∀ W, Sl W Ax cx x → Calls Try.prog 56 #[.slice Ax n cx] W fun e w' => ∃ v, e = .returned v ∧ w'.ownsRow W.heap.size 5 1 v (n + padN n) ((whG x).map bv) ∧ Below W.heap.size W w') := fun W hS => by have h := refGpad_any Ax n cx x W hx (by omega) hS; rw [whG, hx]; exact h
  have h1 : padN an ≤ 15 := by unfold padN; omega
  have h2 : padN n ≤ 15 := by unfold padN; omega
  have W1L := Lib.hid (whG_len aad an ha); have W2L := Lib.hid (whG_len x n hx)
  have hz16 : ∀ W, (zeroValue 23).run Try.prog W = .ok (.agg zeros16.toArray) W := fun W => by kernel_rfl
  have hb0 : ∀ W, (Instr.build 23 #[]).run Try.prog W = .ok (.agg (zerB.map bv).toArray) W := fun W => by kernel_rfl
  have HB0 := Lib.hid hb0
  have HZL := Lib.hid zeros16_len
  have HTL : Hid ((sboxL.map bv).length = 256) := by show _ = _; rw [List.length_map, sboxL_len]
  have HI : Hid ((Try.prog.info? 48).map (·.size) = some (sboxL.map bv).length) := by show _ = _; rw [HTL.out]; exact i256B
  obtain ⟨n1, hn1⟩ : ∃ n1, n1 = an + padN an := ⟨_, rfl⟩
  obtain ⟨n2, hn2⟩ : ∃ n2, n2 = n + padN n := ⟨_, rfl⟩
  rw [← hn1] at HP1 W1L
  rw [← hn2] at HP2 W2L
  have hn12 : n1 + n2 ≤ 200100 := by omega
  rw [HTG.out]
  clear HTG HEL
  generalize encL (expandL key) (nk + 6) zerB = H at RE0 HHL ⊢
  generalize encL (expandL key) (nk + 6) F = Y at REF HYL ⊢
  have GS := Lib.hid (fun L (hL : L.length = 16) A c W hS => refGsum_any H A (n1 + n2 + 16) c (whG aad ++ whG x ++ L) W HHL.out (by rw [List.length_append, List.length_append, W1L.out, W2L.out, hL]) (by omega) hS)
  have LN := Lib.hid (fun W => refLen_any (an : Int) (n : Int) W)
  have GS := Lib.hid (GS.out _ (lenL_len (an : Int) (n : Int)))
  generalize lenL (an : Int) (n : Int) = LE at LN GS ⊢
  generalize whG aad = P1 at HP1 W1L GS ⊢
  generalize whG x = P2 at HP2 W2L GS ⊢
  have HSL : Hid ((gsumL H (P1 ++ P2 ++ LE)).length = 16) := gsumL_len _ _
  generalize gsumL H (P1 ++ P2 ++ LE) = S at GS HSL ⊢
  have HXY : Hid ((xorL S Y).length = 16) := by show _ = _; rw [xorL_len, HSL.out, HYL.out]; rfl
  have HXG : Hid (∀ k, k < 16 → (xorL S Y).getD k 0 = S.getD k 0 ^^^ Y.getD k 0) := fun k hk => by
    have h1 := HSL.out; have h2 := HYL.out
    simp [xorL, List.getD, h1, h2, hk]
  generalize xorL S Y = XY at HXY HXG ⊢
  generalize rkB (expandL key) = RK at RE0 REF HKA
  generalize sboxL.map bv = TB at RE0 REF HTL HI ⊢
  generalize zeros16 = Z at hz16 HZL
  generalize zerB.map bv = ZC at RE0 HB0
  obtain ⟨r7, hr7⟩ : ∃ r7, r7 = nk + 7 := ⟨_, rfl⟩
  rw [← hr7] at RE0 REF HKA ⊢
  have hiH := Lib.hid (r_i16 H HHL.out); have hiY := Lib.hid (r_i16 Y HYL.out); have hiS := Lib.hid (r_i16 S HSL.out); have hiF := Lib.hid (r_i16 F HF.out)
  clear hl hk hF ha hx hA hS1 hS2 hr7 hwl hb0 hn1 hn2 h1 h2
  go_enter Try.func60, Try.ntmps60
  go_upto_region 1 with (fail)
  generalize hV : (w.alloc _).alloc _ = W0
  have F5 : Hid (W0.heap[w.heap.size]? = some (.cells TB.toArray 48 (0, 0))) := by rw [← hV]; exact (heap2 w _ _).1
  have F7 : Hid (W0.heap[w.heap.size + 1]? = some (.cells (F.map bv).toArray 23 (0, 0))) := by rw [← hV]; exact (heap2 w _ _).2.1
  have FB : Hid (Below w.heap.size w W0) := by rw [← hV]; exact (heap2 w _ _).2.2
  clear hV
  obtain ⟨g7, hg7⟩ : ∃ g, w.heap.size + 1 = g := ⟨_, rfl⟩
  rw [hg7] at F7 ⊢
  clear hg7
  have K0 := Lib.hid (HKA.out.below FB.out)
  go_wp2_with (first
    | (refine wpList_ld rfl 48 (.tmp 5) rfl (load_arr arr256B rfl HI.out F5.out) ?_)
    | (refine wpList_run (o := ⟨some 19, .build _ _, _, _, _, _⟩) rfl (exec_build rfl (by simp only [List.map_toArray, List.map_nil]; exact HB0.out _)) ?_)
    | fail)
  refine (RE0.out _ cc W0 K0.out).mono ?_
  rintro e w1 ⟨rfl, hb1⟩
  have F51 := Lib.hid ((hb1.block _ (lt_of_heap F5.out)).trans F5.out)
  have F71 := Lib.hid ((hb1.block _ (lt_of_heap F7.out)).trans F7.out)
  have B1 := Lib.hid (FB.out.step hb1)
  have K1 := Lib.hid (K0.out.below hb1)
  clear hb1 F5 F7 FB K0 RE0
  go_upto_region 2 with (first
    | (refine wpList_st rfl 23 (.tmp 11) (.tmp 20) rfl (store_arr (cs := H.map bv) (old := Z) hiH.out (bv_one _) (heap_alloc_new' w1 _) (by rw [List.length_map, HHL.out, HZL.out])) ?_
       generalize hV : World.setRow _ _ _ = W2
       have M11 := Lib.hid (heap_of_setRow hV (heap_alloc_new' w1 _))
       have X2 : Hid (Ext w1 W2) := ((Below.refl w1.heap.size w1).alloc (Nat.le_refl _) _).trans (below_of_setRow hV (Nat.le_refl w1.heap.size) (by simp))
       clear hV)
    | fail)
  have F52 := Lib.hid ((X2.out.block _ (lt_of_heap F51.out)).trans F51.out)
  have F72 := Lib.hid ((X2.out.block _ (lt_of_heap F71.out)).trans F71.out)
  have B2 := Lib.hid (B1.out.step X2.out)
  have K2 := Lib.hid (K1.out.below X2.out)
  clear F51 F71 B1 K1 X2
  obtain ⟨g11, hg11⟩ : ∃ g, w1.heap.size = g := ⟨_, rfl⟩
  rw [hg11] at M11 ⊢
  obtain ⟨q, hq⟩ : ∃ q, q = W2.heap.size := ⟨_, rfl⟩
  have HQ := Lib.hid hq
  have L5 : Hid (w.heap.size < q) := by rw [hq]; exact lt_of_heap F52.out
  have L7 : Hid (g7 < q) := by rw [hq]; exact lt_of_heap F72.out
  have L11 : Hid (g11 < q) := by rw [hq]; exact lt_of_heap M11.out
  clear hg11 hq
  go_wp2_with fail
  refine (HP1.out W2 (HS1.out.below B2.out)).mono ?_
  rintro e w3 ⟨v3, rfl, hO3, hb3⟩
  have X3 : Hid (Below q W2 w3) := by show Below _ _ _; rw [HQ.out]; exact hb3
  have O3 : Hid (w3.ownsRow q 5 1 v3 n1 (P1.map bv)) := by rw [HQ.out]; exact hO3
  have B3 := Lib.hid (B2.out.step hb3)
  clear hO3 hb3
  go_wp2_with fail
  refine (HP2.out w3 (HS2.out.below B3.out)).mono ?_
  rintro e w4 ⟨v4, rfl, hO4, hb4⟩
  obtain ⟨A4, c4, rfl, hl4, h41, h42, hr4⟩ := own_read hO4
  have S4 : Hid (Sl w4 A4 c4 P2) := ⟨by omega, h42, hr4⟩
  have O34 := Lib.hid (ka_own_below O3.out hb4)
  have X4 : Hid (Below q W2 w4) := X3.out.trans (hb4.mono (by have h1 := X3.out.size; have h2 := HQ.out; omega))
  have hl4' := Lib.hid hl4
  have LQ4 : Hid (q ≤ w4.heap.size) := by have h1 := X4.out.size; have h2 := HQ.out; show _ ≤ _; omega
  clear hO4 hb4 hl4 h41 h42 hr4 X3 O3 B3
  have hn31 : n1 + n2 ≤ 2147483647 := by omega
  go_upto_region 3 with (first
    | (at_builtin
       refine wpList_app8 rfl (.tmp 22) (.tmp 24) rfl q _ n1 P1 rfl O34.out A4 n2 c4 w4.heap.size P2 rfl S4.out.2.2 hl4'.out hn31 LQ4.out ?_
       rintro v5 W3 hown hgr
       have O12 := Lib.hid hown
       have X5 : Hid (Below q W2 W3) := X4.out.trans (Below.grown (Below.refl _ _) hgr LQ4.out (ka_own_ge O34.out (Nat.le_refl _)))
       clear hown hgr)
    | fail)
  have LQ : Hid (q ≤ W3.heap.size) := by have h1 := X5.out.size; have h2 := HQ.out; show _ ≤ _; omega
  have M3 : Hid (W3.heap[g11]? = some (.cells (H.map bv).toArray 23 (0, 0))) := (X5.out.block _ L11.out).trans M11.out
  clear S4 O34 X4 LQ4 hl4' M11
  obtain ⟨n12, hn12'⟩ : ∃ n12, n12 = n1 + n2 := ⟨_, rfl⟩
  rw [← hn12'] at O12 GS hn12
  clear hn12' hn31
  have hnz : n12 + 16 ≤ 2147483647 := by omega
  go_cut [13] from 26 to 34 (fun v13 wx => ∃ g13 : Nat, v13 = .pointer (some ⟨g13, 0, none⟩) ∧ Hid (q ≤ g13) ∧ Hid (wx.heap[g13]? = some (.cells (S.map bv).toArray 23 (0, 0))) ∧ Hid (Below q W3 wx))
  case first =>
    have HX : Hid (Below q W3 W3.drew) := (Below.refl _ _).drew
    have O12w := O12
    have O12 : Hid (W3.drew.ownsRow q 5 1 v5 n12 ((P1 ++ P2).map bv)) := O12.out
    have LQ : Hid (q ≤ W3.drew.heap.size) := LQ.out
    refine regB_start (q) (by kernel_rfl) ?_
    try simp only [Act.put, List.setIfInBounds_toArray, List.set_cons_zero, List.set_cons_succ]
    refine regB_load 0 (some 26) (fun W hW => load_arr arr16B rfl hiH.out (((HX.out.trans hW).block _ L11.out).trans M3.out)) rfl rfl rfl rfl (by kernel_rfl) (by kernel_rfl) (by kernel_rfl) (fun _ _ _ h => h) (by rfl) ?_
    simp only [Act.put, List.setIfInBounds_toArray, List.set_cons_zero, List.set_cons_succ]
    refine regB_take (v := ?_) 1 (some 27) rfl rfl (by kernel_rfl) (by kernel_rfl) (by kernel_rfl) (fun _ _ _ h => h) (by rfl) (fun W hW => ?_) ?_
    rotate_left
    · (go_simp; try rfl)
    simp only [Act.put, List.setIfInBounds_toArray, List.set_cons_zero, List.set_cons_succ]
    refine regB_take (v := ?_) 2 (some 28) rfl rfl (by kernel_rfl) (by kernel_rfl) (by kernel_rfl) (fun _ _ _ h => h) (by rfl) (fun W hW => ?_) ?_
    rotate_left
    · (go_simp; try rfl)
    simp only [Act.put, List.setIfInBounds_toArray, List.set_cons_zero, List.set_cons_succ]
    refine regB_take (v := ?_) 3 (some 29) rfl rfl (by kernel_rfl) (by kernel_rfl) (by kernel_rfl) (fun _ _ _ h => h) (by rfl) (fun W hW => ?_) ?_
    rotate_left
    · (go_simp; try rfl)
    simp only [Act.put, List.setIfInBounds_toArray, List.set_cons_zero, List.set_cons_succ]
    refine regB_take (v := ?_) 4 (some 30) rfl rfl (by kernel_rfl) (by kernel_rfl) (by kernel_rfl) (fun _ _ _ h => h) (by rfl) (fun W hW => ?_) ?_
    rotate_left
    · (go_simp; try rfl)
    simp only [Act.put, List.setIfInBounds_toArray, List.set_cons_zero, List.set_cons_succ]
    refine regB_take (v := ?_) 5 (some 31) rfl rfl (by kernel_rfl) (by kernel_rfl) (by kernel_rfl) (fun _ _ _ h => h) (by rfl) (fun W hW => ?_) ?_
    rotate_left
    · (go_simp; try rfl)
    simp only [Act.put, List.setIfInBounds_toArray, List.set_cons_zero, List.set_cons_succ]
    refine regB_eff2 6 9 rfl rfl (by kernel_rfl) (fun K hK => ?_) (fun K hK => ?_)
    · skip
      go_simp
      refine (LN.out _).mono ?_
      rintro e w6 ⟨v6, rfl, hO6, hb⟩
      have O6 := Lib.hid hO6
      have O12 := Lib.hid (ka_own_below O12.out hb)
      try have A13 := Lib.hid ((hb.block _ (lt_of_heap A13.out)).trans A13.out)
      have hE := hb.mono LQ.out
      have LQ := Lib.hid (Nat.le_trans LQ.out hb.size)
      clear hO6 hb
      refine hK.out _ _ hE ?_
      have HX := Lib.hid (Below.trans HX.out hE)
      clear hE hK K
      try simp only [Act.put, List.setIfInBounds_toArray, List.set_cons_zero, List.set_cons_succ]
      refine regB_eff2 7 9 rfl rfl (by kernel_rfl) (fun K hK => ?_) (fun K hK => ?_)
      · skip
        obtain ⟨A6, c6, rfl, hl6, h61, h62, hr6⟩ := own_read O6.out
        obtain ⟨v7, w7, hrun, hown, hgr, _⟩ := append_row_at (P := Try.prog) _ q 26 uT made8 rfl v5 n12 ((P1 ++ P2).map bv) O12.out _ A6 16 c6 (LE.map bv) hr6 (by rw [List.length_map]; exact hl6) (bv_one _) (by omega) (by simp [maxLen]; omega) LQ.out
        rw [← List.map_append] at hown
        have O7 := Lib.hid hown
        try have A13 := Lib.hid ((hgr.block _ (lt_of_heap A13.out) (fun e => absurd (NB13.out _ e.symm) (Nat.lt_irrefl _))).trans A13.out)
        have hE := Below.grown (Below.refl _ _) hgr LQ.out (ka_own_ge O12.out (Nat.le_refl _))
        have LQ := Lib.hid (Nat.le_trans LQ.out hE.size)
        refine step_app rfl (.tmp 27) (.tmp 32) 26 26 rfl hrun ?_
        clear hrun hown hgr hl6 h61 h62 hr6
        refine hK.out _ _ hE ?_
        have HX := Lib.hid (Below.trans HX.out hE)
        clear hE hK K
        try simp only [Act.put, List.setIfInBounds_toArray, List.set_cons_zero, List.set_cons_succ]
        refine regB_eff2 8 9 rfl rfl (by kernel_rfl) (fun K hK => ?_) (fun K hK => ?_)
        · skip
          go_simp
          obtain ⟨A7, c7, rfl, hl7, h71, h72, hr7⟩ := own_read O7.out
          refine (GS.out A7 c7 _ ⟨by omega, h72, hr7⟩).mono ?_
          rintro e w8 ⟨rfl, hb⟩
          try have A13 := Lib.hid ((hb.block _ (lt_of_heap A13.out)).trans A13.out)
          have hE := hb.mono LQ.out
          have LQ := Lib.hid (Nat.le_trans LQ.out hb.size)
          clear hb hl7 h71 h72 hr7
          refine hK.out _ _ hE ?_
          have HX := Lib.hid (Below.trans HX.out hE)
          clear hE hK K
          try simp only [Act.put, List.setIfInBounds_toArray, List.set_cons_zero, List.set_cons_succ]
          refine regB_eff 9 rfl (by kernel_rfl) (fun K hK => ?_)
          go_simp
          first | (have hO6z := O6; generalize hV : World.alloc _ _ = WA; clear hO6z) | (generalize hV0 : World.drew (World.alloc W3 _) = WA; have hV : W3.drew.alloc (.cells Z.toArray 23) = WA := hV0; clear hV0)
          have A13 := Lib.hid (heap_of_alloc hV)
          have hb := below_of_alloc hV (Nat.le_refl _)
          have NB13 := Lib.hid (fun x hx => own_blk_lt O12.out (x := x) hx)
          have hG13 := LQ
          try have O7 := Lib.hid (ka_own_below O7.out hb)
          try have O6 := Lib.hid (ka_own_below O6.out hb)
          first | (have O12 := Lib.hid (ka_own_below O12.out hb)) | (have O12 := Lib.hid (ka_own_below O12w.out hb)) | skip
          have hE := hb.mono LQ.out
          have LQ := Lib.hid (Nat.le_trans LQ.out hb.size)
          clear hV hb
          refine hK.out _ _ hE ?_
          have HX := Lib.hid (Below.trans HX.out hE)
          clear hE hK K
          try simp only [Act.put, List.setIfInBounds_toArray, List.set_cons_zero, List.set_cons_succ]
          refine regB_eff 10 rfl (by kernel_rfl) (fun K hK => ?_)
          refine step_st1 rfl 23 (.tmp 13) (.tmp 34) rfl (store_arr (cs := S.map bv) (old := Z) hiS.out (bv_one _) A13.out (by rw [List.length_map, HSL.out, HZL.out])) ?_
          generalize hV : World.setRow _ _ _ = WB
          have R13 := Lib.hid (heap_of_setRow hV A13.out)
          have hE := below_of_setRow hV hG13.out LQ.out
          clear hV
          refine hK.out _ _ hE ?_
          have HX := Lib.hid (Below.trans HX.out hE)
          clear hE hK K
          try simp only [Act.put, List.setIfInBounds_toArray, List.set_cons_zero, List.set_cons_succ]
          refine regB_done (by kernel_rfl) ?_
          go_wp2
          go_meet
          exact ⟨_, rfl, hG13, R13, HX⟩
        · skip
          go_simp
          first | (have hO6z := O6; generalize hV : World.alloc _ _ = WA; clear hO6z) | (generalize hV0 : World.drew (World.alloc W3 _) = WA; have hV : W3.drew.alloc (.cells Z.toArray 23) = WA := hV0; clear hV0)
          have A13 := Lib.hid (heap_of_alloc hV)
          have hb := below_of_alloc hV (Nat.le_refl _)
          have NB13 := Lib.hid (fun x hx => own_blk_lt O12.out (x := x) hx)
          have hG13 := LQ
          try have O7 := Lib.hid (ka_own_below O7.out hb)
          try have O6 := Lib.hid (ka_own_below O6.out hb)
          first | (have O12 := Lib.hid (ka_own_below O12.out hb)) | (have O12 := Lib.hid (ka_own_below O12w.out hb)) | skip
          have hE := hb.mono LQ.out
          have LQ := Lib.hid (Nat.le_trans LQ.out hb.size)
          clear hV hb
          refine hK.out _ _ hE ?_
          have HX := Lib.hid (Below.trans HX.out hE)
          clear hE hK K
          try simp only [Act.put, List.setIfInBounds_toArray, List.set_cons_zero, List.set_cons_succ]
          refine regB_eff 8 rfl (by kernel_rfl) (fun K hK => ?_)
          go_simp
          obtain ⟨A7, c7, rfl, hl7, h71, h72, hr7⟩ := own_read O7.out
          refine (GS.out A7 c7 _ ⟨by omega, h72, hr7⟩).mono ?_
          rintro e w8 ⟨rfl, hb⟩
          try have A13 := Lib.hid ((hb.block _ (lt_of_heap A13.out)).trans A13.out)
          have hE := hb.mono LQ.out
          have LQ := Lib.hid (Nat.le_trans LQ.out hb.size)
          clear hb hl7 h71 h72 hr7
          refine hK.out _ _ hE ?_
          have HX := Lib.hid (Below.trans HX.out hE)
          clear hE hK K
          try simp only [Act.put, List.setIfInBounds_toArray, List.set_cons_zero, List.set_cons_succ]
          refine regB_eff 10 rfl (by kernel_rfl) (fun K hK => ?_)
          refine step_st1 rfl 23 (.tmp 13) (.tmp 34) rfl (store_arr (cs := S.map bv) (old := Z) hiS.out (bv_one _) A13.out (by rw [List.length_map, HSL.out, HZL.out])) ?_
          generalize hV : World.setRow _ _ _ = WB
          have R13 := Lib.hid (heap_of_setRow hV A13.out)
          have hE := below_of_setRow hV hG13.out LQ.out
          clear hV
          refine hK.out _ _ hE ?_
          have HX := Lib.hid (Below.trans HX.out hE)
          clear hE hK K
          try simp only [Act.put, List.setIfInBounds_toArray, List.set_cons_zero, List.set_cons_succ]
          refine regB_done (by kernel_rfl) ?_
          go_wp2
          go_meet
          exact ⟨_, rfl, hG13, R13, HX⟩
      · skip
        go_simp
        first | (have hO6z := O6; generalize hV : World.alloc _ _ = WA; clear hO6z) | (generalize hV0 : World.drew (World.alloc W3 _) = WA; have hV : W3.drew.alloc (.cells Z.toArray 23) = WA := hV0; clear hV0)
        have A13 := Lib.hid (heap_of_alloc hV)
        have hb := below_of_alloc hV (Nat.le_refl _)
        have NB13 := Lib.hid (fun x hx => own_blk_lt O12.out (x := x) hx)
        have hG13 := LQ
        try have O7 := Lib.hid (ka_own_below O7.out hb)
        try have O6 := Lib.hid (ka_own_below O6.out hb)
        first | (have O12 := Lib.hid (ka_own_below O12.out hb)) | (have O12 := Lib.hid (ka_own_below O12w.out hb)) | skip
        have hE := hb.mono LQ.out
        have LQ := Lib.hid (Nat.le_trans LQ.out hb.size)
        clear hV hb
        refine hK.out _ _ hE ?_
        have HX := Lib.hid (Below.trans HX.out hE)
        clear hE hK K
        try simp only [Act.put, List.setIfInBounds_toArray, List.set_cons_zero, List.set_cons_succ]
        refine regB_eff 7 rfl (by kernel_rfl) (fun K hK => ?_)
        obtain ⟨A6, c6, rfl, hl6, h61, h62, hr6⟩ := own_read O6.out
        obtain ⟨v7, w7, hrun, hown, hgr, _⟩ := append_row_at (P := Try.prog) _ q 26 uT made8 rfl v5 n12 ((P1 ++ P2).map bv) O12.out _ A6 16 c6 (LE.map bv) hr6 (by rw [List.length_map]; exact hl6) (bv_one _) (by omega) (by simp [maxLen]; omega) LQ.out
        rw [← List.map_append] at hown
        have O7 := Lib.hid hown
        try have A13 := Lib.hid ((hgr.block _ (lt_of_heap A13.out) (fun e => absurd (NB13.out _ e.symm) (Nat.lt_irrefl _))).trans A13.out)
        have hE := Below.grown (Below.refl _ _) hgr LQ.out (ka_own_ge O12.out (Nat.le_refl _))
        have LQ := Lib.hid (Nat.le_trans LQ.out hE.size)
        refine step_app rfl (.tmp 27) (.tmp 32) 26 26 rfl hrun ?_
        clear hrun hown hgr hl6 h61 h62 hr6
        refine hK.out _ _ hE ?_
        have HX := Lib.hid (Below.trans HX.out hE)
        clear hE hK K
        try simp only [Act.put, List.setIfInBounds_toArray, List.set_cons_zero, List.set_cons_succ]
        refine regB_eff 8 rfl (by kernel_rfl) (fun K hK => ?_)
        go_simp
        obtain ⟨A7, c7, rfl, hl7, h71, h72, hr7⟩ := own_read O7.out
        refine (GS.out A7 c7 _ ⟨by omega, h72, hr7⟩).mono ?_
        rintro e w8 ⟨rfl, hb⟩
        try have A13 := Lib.hid ((hb.block _ (lt_of_heap A13.out)).trans A13.out)
        have hE := hb.mono LQ.out
        have LQ := Lib.hid (Nat.le_trans LQ.out hb.size)
        clear hb hl7 h71 h72 hr7
        refine hK.out _ _ hE ?_
        have HX := Lib.hid (Below.trans HX.out hE)
        clear hE hK K
        try simp only [Act.put, List.setIfInBounds_toArray, List.set_cons_zero, List.set_cons_succ]
        refine regB_eff 10 rfl (by kernel_rfl) (fun K hK => ?_)
        refine step_st1 rfl 23 (.tmp 13) (.tmp 34) rfl (store_arr (cs := S.map bv) (old := Z) hiS.out (bv_one _) A13.out (by rw [List.length_map, HSL.out, HZL.out])) ?_
        generalize hV : World.setRow _ _ _ = WB
        have R13 := Lib.hid (heap_of_setRow hV A13.out)
        have hE := below_of_setRow hV hG13.out LQ.out
        clear hV
        refine hK.out _ _ hE ?_
        have HX := Lib.hid (Below.trans HX.out hE)
        clear hE hK K
        try simp only [Act.put, List.setIfInBounds_toArray, List.set_cons_zero, List.set_cons_succ]
        refine regB_done (by kernel_rfl) ?_
        go_wp2
        go_meet
        exact ⟨_, rfl, hG13, R13, HX⟩
    · skip
      go_simp
      first | (have hO6z := O6; generalize hV : World.alloc _ _ = WA; clear hO6z) | (generalize hV0 : World.drew (World.alloc W3 _) = WA; have hV : W3.drew.alloc (.cells Z.toArray 23) = WA := hV0; clear hV0)
      have A13 := Lib.hid (heap_of_alloc hV)
      have hb := below_of_alloc hV (Nat.le_refl _)
      have NB13 := Lib.hid (fun x hx => own_blk_lt O12.out (x := x) hx)
      have hG13 := LQ
      try have O7 := Lib.hid (ka_own_below O7.out hb)
      try have O6 := Lib.hid (ka_own_below O6.out hb)
      first | (have O12 := Lib.hid (ka_own_below O12.out hb)) | (have O12 := Lib.hid (ka_own_below O12w.out hb)) | skip
      have hE := hb.mono LQ.out
      have LQ := Lib.hid (Nat.le_trans LQ.out hb.size)
      clear hV hb
      refine hK.out _ _ hE ?_
      have HX := Lib.hid (Below.trans HX.out hE)
      clear hE hK K
      try simp only [Act.put, List.setIfInBounds_toArray, List.set_cons_zero, List.set_cons_succ]
      refine regB_eff 6 rfl (by kernel_rfl) (fun K hK => ?_)
      go_simp
      refine (LN.out _).mono ?_
      rintro e w6 ⟨v6, rfl, hO6, hb⟩
      have O6 := Lib.hid hO6
      have O12 := Lib.hid (ka_own_below O12.out hb)
      try have A13 := Lib.hid ((hb.block _ (lt_of_heap A13.out)).trans A13.out)
      have hE := hb.mono LQ.out
      have LQ := Lib.hid (Nat.le_trans LQ.out hb.size)
      clear hO6 hb
      refine hK.out _ _ hE ?_
      have HX := Lib.hid (Below.trans HX.out hE)
      clear hE hK K
      try simp only [Act.put, List.setIfInBounds_toArray, List.set_cons_zero, List.set_cons_succ]
      refine regB_eff 7 rfl (by kernel_rfl) (fun K hK => ?_)
      obtain ⟨A6, c6, rfl, hl6, h61, h62, hr6⟩ := own_read O6.out
      obtain ⟨v7, w7, hrun, hown, hgr, _⟩ := append_row_at (P := Try.prog) _ q 26 uT made8 rfl v5 n12 ((P1 ++ P2).map bv) O12.out _ A6 16 c6 (LE.map bv) hr6 (by rw [List.length_map]; exact hl6) (bv_one _) (by omega) (by simp [maxLen]; omega) LQ.out
      rw [← List.map_append] at hown
      have O7 := Lib.hid hown
      try have A13 := Lib.hid ((hgr.block _ (lt_of_heap A13.out) (fun e => absurd (NB13.out _ e.symm) (Nat.lt_irrefl _))).trans A13.out)
      have hE := Below.grown (Below.refl _ _) hgr LQ.out (ka_own_ge O12.out (Nat.le_refl _))
      have LQ := Lib.hid (Nat.le_trans LQ.out hE.size)
      refine step_app rfl (.tmp 27) (.tmp 32) 26 26 rfl hrun ?_
      clear hrun hown hgr hl6 h61 h62 hr6
      refine hK.out _ _ hE ?_
      have HX := Lib.hid (Below.trans HX.out hE)
      clear hE hK K
      try simp only [Act.put, List.setIfInBounds_toArray, List.set_cons_zero, List.set_cons_succ]
      refine regB_eff 8 rfl (by kernel_rfl) (fun K hK => ?_)
      go_simp
      obtain ⟨A7, c7, rfl, hl7, h71, h72, hr7⟩ := own_read O7.out
      refine (GS.out A7 c7 _ ⟨by omega, h72, hr7⟩).mono ?_
      rintro e w8 ⟨rfl, hb⟩
      try have A13 := Lib.hid ((hb.block _ (lt_of_heap A13.out)).trans A13.out)
      have hE := hb.mono LQ.out
      have LQ := Lib.hid (Nat.le_trans LQ.out hb.size)
      clear hb hl7 h71 h72 hr7
      refine hK.out _ _ hE ?_
      have HX := Lib.hid (Below.trans HX.out hE)
      clear hE hK K
      try simp only [Act.put, List.setIfInBounds_toArray, List.set_cons_zero, List.set_cons_succ]
      refine regB_eff 10 rfl (by kernel_rfl) (fun K hK => ?_)
      refine step_st1 rfl 23 (.tmp 13) (.tmp 34) rfl (store_arr (cs := S.map bv) (old := Z) hiS.out (bv_one _) A13.out (by rw [List.length_map, HSL.out, HZL.out])) ?_
      generalize hV : World.setRow _ _ _ = WB
      have R13 := Lib.hid (heap_of_setRow hV A13.out)
      have hE := below_of_setRow hV hG13.out LQ.out
      clear hV
      refine hK.out _ _ hE ?_
      have HX := Lib.hid (Below.trans HX.out hE)
      clear hE hK K
      try simp only [Act.put, List.setIfInBounds_toArray, List.set_cons_zero, List.set_cons_succ]
      refine regB_done (by kernel_rfl) ?_
      go_wp2
      go_meet
      exact ⟨_, rfl, hG13, R13, HX⟩
  case rest =>
    obtain ⟨g13, rfl, HG13, N13, X6⟩ := hcut
    have XW : Hid (Below q W2 wc) := X5.out.trans X6.out
    have F5c : Hid (wc.heap[w.heap.size]? = some (.cells TB.toArray 48 (0, 0))) := (XW.out.block _ L5.out).trans F52.out
    have F7c : Hid (wc.heap[g7]? = some (.cells (F.map bv).toArray 23 (0, 0))) := (XW.out.block _ L7.out).trans F72.out
    have XE : Hid (Below W2.heap.size W2 wc) := by show Below _ _ _; rw [← HQ.out]; exact XW.out
    have Kc := Lib.hid (K2.out.below XE.out)
    have Bc := Lib.hid (B2.out.step XE.out)
    clear X5 X6 XW F52 F72 K2 B2 XE O12 M3
    go_wp2_with (first
      | (refine wpList_ld rfl 48 (.tmp 5) rfl (load_arr arr256B rfl HI.out F5c.out) ?_)
      | (refine wpList_ld rfl 23 (.tmp 7) rfl (load_arr arr16B rfl hiF.out F7c.out) ?_)
      | fail)
    refine (REF.out _ cc wc Kc.out).mono ?_
    rintro e w8 ⟨rfl, hb8⟩
    have N8 := Lib.hid ((hb8.block _ (lt_of_heap N13.out)).trans N13.out)
    have B8 := Lib.hid (Bc.out.step hb8)
    clear hb8 N13 Bc F5c F7c Kc
    go_upto_region 5 with (first
      | (refine wpList_st rfl 23 (.tmp 14) (.tmp 38) rfl (store_arr (cs := Y.map bv) (old := Z) hiY.out (bv_one _) (heap_alloc_new' w8 _) (by rw [List.length_map, HYL.out, HZL.out])) ?_
         generalize hV : World.setRow _ _ _ = W9
         have M14 := Lib.hid (heap_of_setRow hV (heap_alloc_new' w8 _))
         have X9 : Hid (Ext w8 W9) := ((Below.refl w8.heap.size w8).alloc (Nat.le_refl _) _).trans (below_of_setRow hV (Nat.le_refl w8.heap.size) (by simp))
         clear hV)
      | fail)
    have N9 := Lib.hid ((X9.out.block _ (lt_of_heap N8.out)).trans N8.out)
    have B9 := Lib.hid (B8.out.step X9.out)
    clear N8 B8 X9
    obtain ⟨g14, hg14⟩ : ∃ g, w8.heap.size = g := ⟨_, rfl⟩
    rw [hg14] at M14 ⊢
    obtain ⟨q2, hq2⟩ : ∃ q, q = W9.heap.size := ⟨_, rfl⟩
    have HQ2 := Lib.hid hq2
    have L13 : Hid (g13 < q2) := by rw [hq2]; exact lt_of_heap N9.out
    have L14 : Hid (g14 < q2) := by rw [hq2]; exact lt_of_heap M14.out
    clear hg14 hq2
    go_wp2_with fail
    go_loopw [15, 16] (fun s15 vk wr => ∃ (k : Nat) (v15 : Value), k ≤ 16 ∧ v15 = s15 ∧ vk = .int .i64 (k : Int) ∧ Hid (wr.ownsRow q2 5 1 v15 k ((XY.take k).map bv)) ∧ Hid (Below q2 W9 wr)) (fun _ k _ => 16 - (intOf k).toNat)
    case atStart => exact ⟨0, _, by omega, rfl, rfl, by rw [List.take_zero]; exact World.ownsRow_nil _ _ _ _, Below.refl _ _⟩
    case round =>
      obtain ⟨k, v15, hk, rfl, rfl, O7, HB⟩ := hrel
      by_cases hltk : k < 16
      · have q2' : (k : Int) < 16 := by omega
        have cs := bcellT ((HB.out.block _ L13.out).trans N9.out) k (by rw [HSL.out]; exact hltk)
        have cy := bcellT ((HB.out.block _ L14.out).trans M14.out) k (by rw [HYL.out]; exact hltk)
        have HTS := take_snocK XY k (by rw [HXY.out]; exact hltk)
        rw [HXG.out k hltk] at HTS
        generalize S.getD k 0 = x at cs HTS
        generalize Y.getD k 0 = y at cy HTS
        obtain ⟨z, hz'⟩ : ∃ z : UInt8, z = x ^^^ y := ⟨_, rfl⟩
        have hzz : bits .xor .u8 (x.toNat : Int) (y.toNat : Int) = (z.toNat : Int) := by rw [hz']; exact xor8 x y
        rw [← hz'] at HTS
        replace HTS := Lib.hid HTS
        have LS : Hid (q2 ≤ wr.heap.size) := by have h1 := HB.out.size; have h2 := HQ2.out; show _ ≤ _; omega
        clear hz'
        go_upto_region 9 with (fail)
        have HS : Hid (wr.drew = wr.drew) := rfl
        have CX : Hid (wr.drew.cell? ⟨g13, k, none⟩ = _) := cs
        have CY : Hid (wr.drew.cell? ⟨g14, k, none⟩ = _) := cy
        clear cs cy
        refine regK_start (7) (fun W => W = wr.drew) (by kernel_rfl) ?_
        try simp only [Act.put, List.setIfInBounds_toArray, List.set_cons_zero, List.set_cons_succ]
        refine regK_take (v := ?_) 0 (some 43) rfl rfl (by kernel_rfl) (by kernel_rfl) (by kernel_rfl) (fun _ _ _ h => h) (by rfl) (by kernel_rfl) HS.out (fun W => ?_) ?_
        rotate_left
        · (go_simp; try rfl)
        simp only [Act.put, List.setIfInBounds_toArray, List.set_cons_zero, List.set_cons_succ]
        refine regK_take (v := ?_) 1 (some 44) rfl rfl (by kernel_rfl) (by kernel_rfl) (by kernel_rfl) (fun _ _ _ h => h) (by rfl) (by kernel_rfl) HS.out (fun W => ?_) ?_
        rotate_left
        · (go_simp; try rfl)
        simp only [Act.put, List.setIfInBounds_toArray, List.set_cons_zero, List.set_cons_succ]
        refine regK_take (v := ?_) 2 (some 45) rfl rfl (by kernel_rfl) (by kernel_rfl) (by kernel_rfl) (fun _ _ _ h => h) (by rfl) (by kernel_rfl) HS.out (fun W => ?_) ?_
        rotate_left
        · (go_simp; try rfl)
        simp only [Act.put, List.setIfInBounds_toArray, List.set_cons_zero, List.set_cons_succ]
        refine regK_load 3 (some 46) (fun W hW => load_cell Try.underlying5 (cell_eqA hW CX.out)) rfl rfl rfl rfl (by kernel_rfl) (by kernel_rfl) (by kernel_rfl) (fun _ _ _ h => h) (by rfl) (by kernel_rfl) HS.out ?_
        simp only [Act.put, List.setIfInBounds_toArray, List.set_cons_zero, List.set_cons_succ]
        refine regK_take (v := ?_) 4 (some 47) rfl rfl (by kernel_rfl) (by kernel_rfl) (by kernel_rfl) (fun _ _ _ h => h) (by rfl) (by kernel_rfl) HS.out (fun W => ?_) ?_
        rotate_left
        · (go_simp; try rfl)
        simp only [Act.put, List.setIfInBounds_toArray, List.set_cons_zero, List.set_cons_succ]
        refine regK_take (v := ?_) 5 (some 48) rfl rfl (by kernel_rfl) (by kernel_rfl) (by kernel_rfl) (fun _ _ _ h => h) (by rfl) (by kernel_rfl) HS.out (fun W => ?_) ?_
        rotate_left
        · (go_simp; try rfl)
        simp only [Act.put, List.setIfInBounds_toArray, List.set_cons_zero, List.set_cons_succ]
        refine regK_load 6 (some 49) (fun W hW => load_cell Try.underlying5 (cell_eqA hW CY.out)) rfl rfl rfl rfl (by kernel_rfl) (by kernel_rfl) (by kernel_rfl) (fun _ _ _ h => h) (by rfl) (by kernel_rfl) HS.out ?_
        simp only [Act.put, List.setIfInBounds_toArray, List.set_cons_zero, List.set_cons_succ]
        refine regK_bar 7 rfl (by kernel_rfl) (by kernel_rfl) (fun K hK => ?_)
        go_simp
        refine hK.out _ _ trivial ?_
        clear hK K
        try simp only [Act.put, List.setIfInBounds_toArray, List.set_cons_zero, List.set_cons_succ]
        refine regS_eff 8 rfl (by kernel_rfl) (fun K hK => ?_)
        go_simp
        refine hK.out _ _ trivial ?_
        clear hK K
        try simp only [Act.put, List.setIfInBounds_toArray, List.set_cons_zero, List.set_cons_succ]
        refine regS_eff 9 rfl (by kernel_rfl) (fun K hK => ?_)
        obtain ⟨v6, w6, hrun, hown, hgr, _⟩ := append_row_at (P := Try.prog) (wr.drew.alloc (.cells ([z].map bv).toArray 5)) q2 26 uT made8 rfl v15 k ((XY.take k).map bv) (k_alloc O7.out.drew _) (wr.heap.size + 1) (some ⟨wr.heap.size, 0, none⟩) 1 1 ([z].map bv) (row_of_heap (bs := [z]) (heap_alloc_new' wr.drew (.cells ([z].map bv).toArray 5)) (Nat.lt_succ_self _)) rfl (bv_one _) (by omega) (by simp [maxLen]; omega) (Nat.le_trans LS.out (by simp))
        rw [← List.map_append, ← HTS.out] at hown
        have O8 := Lib.hid hown
        have R8 : Hid (Below q2 W9 w6) := HB.out.trans ((((Below.refl q2 wr).drew).alloc LS.out _).grown hgr (Nat.le_trans LS.out (by simp)) (ka_own_ge O7.out (Nat.le_refl _)))
        refine step_app rfl (.tmp 43) (.tmp 51) 26 26 rfl hrun ?_
        clear hrun hown hgr
        refine hK.out _ _ trivial ?_
        clear hK K
        try simp only [Act.put, List.setIfInBounds_toArray, List.set_cons_zero, List.set_cons_succ]
        refine regS_take (v := ?_) 10 (some 15) rfl rfl (by kernel_rfl) (by kernel_rfl) (by kernel_rfl) (fun _ _ _ h => h) (by rfl) (fun W hW => ?_) ?_
        rotate_left
        · (go_simp; try rfl)
        simp only [Act.put, List.setIfInBounds_toArray, List.set_cons_zero, List.set_cons_succ]
        refine regS_done (by kernel_rfl) ?_
        go_wp2
        go_roundw
        case rel => exact ⟨k + 1, _, by omega, rfl, by go_num, O8, R8⟩
        case measure => simp [intOf]; omega
      · have q2' : ¬ ((k : Int) < 16) := by omega
        have hk16 : k = 16 := by omega
        rw [hk16, List.take_of_length_le (Nat.le_of_eq HXY.out)] at O7
        have BW : Hid (Below w.heap.size w wr) := B9.out.trans (HB.out.mono (by have h1 := B9.out.size; have h2 := HQ2.out; omega))
        have O9 := Lib.hid (ka_own_le O7.out (show w.heap.size ≤ q2 by have h1 := B9.out.size; have h2 := HQ2.out; omega))
        clear hk16
        go_wp2_with fail
        go_ret
        exact ⟨_, rfl, O9.out, BW.out⟩
end Go.Proofs.Ytjmpbcfbfbjenaa

/- palfreyref10.Seal, Open. -/
namespace Go.Proofs.Ytjmpbcfbfbjenaa
open Go.RowKit
set_option maxRecDepth 100000
set_option linter.unusedVariables false
set_option linter.unusedSimpArgs false
/-- what the document's Open comes to -/
def RefOG (w0 : World) (E : List UInt8 → List UInt8) (F aad b : List UInt8) (m : Nat) (v : Value) (ok : Bool) (w' : World) : Prop :=
  if tagG E F aad (b.take m) = b.drop m then ok = true ∧ w'.ownsRow w0.heap.size 5 1 v m ((gcL E F (b.take m)).map bv) else v = .slice none 0 0 ∧ ok = false
set_option maxHeartbeats 8000000 in
theorem refSealX_any (key : List UInt8) (nk : Nat) (A : Option Addr) (n c : Nat) (iv aad b : List UInt8) (Ai : Option Addr) (vn ic : Nat) (Aa : Option Addr) (an ac : Nat) (Ab : Option Addr) (m cb : Nat) (w : World) (hk : nk = 4 ∨ nk = 8) (hl : key.length = n) (hn : n = 4 * nk) (hi : iv.length = vn) (ha : aad.length = an) (hm : b.length = m) (hv2 : vn ≤ 1000) (ha2 : an ≤ 1000) (hm2 : m ≤ 1000) (hS : Sl w A c key) (hSi : Sl w Ai ic iv) (hSa : Sl w Aa ac aad) (hSb : Sl w Ab cb b) :
    Calls Try.prog 29 #[.slice A n c, .slice Ai vn ic, .slice Aa an ac, .slice Ab m cb] w fun e w' => ∃ v, e = .returned v ∧ w'.ownsRow w.heap.size 5 1 v (m + 16) ((sealG (encL (expandL key) (nk + 6)) (firstG (encL (expandL key) (nk + 6)) iv) aad b).map bv) ∧ Below w.heap.size w w' := by
  have HS := Lib.hid hS; have HSi := Lib.hid hSi; have HSa := Lib.hid hSa; have HSb := Lib.hid hSb
  have HRT := Lib.hid (fun W => refTable_any W)
  have HRK := Lib.hid (fun W hS => refKeys_row A n c nk key W hl hn hk hS)
  have HFI := Lib.hid (fun A cc W hA hS => refFirst_any key nk A cc iv Ai vn ic W hk (hl.trans hn) hi (by omega) hA hS)
  have HFL := firstG_len (encL (expandL key) (nk + 6)) iv
  have HGC := Lib.hid (fun A cc W hA hS => refGc_any key nk A cc (firstG (encL (expandL key) (nk + 6)) iv) Ab m cb b W hk (hl.trans hn) HFL hm (by omega) hA hS)
  have HCL : Hid ((gcL (encL (expandL key) (nk + 6)) (firstG (encL (expandL key) (nk + 6)) iv) b).length = m) := by show _ = _; rw [gcL_len]; exact hm
  have HTA := Lib.hid (fun A cc Ax cx W hA h1 h2 => refTagX_any key nk A cc (firstG (encL (expandL key) (nk + 6)) iv) aad (gcL (encL (expandL key) (nk + 6)) (firstG (encL (expandL key) (nk + 6)) iv) b) Aa an ac Ax m cx W hk (hl.trans hn) HFL ha HCL.out (by omega) (by omega) hA h1 h2)
  unfold sealG
  generalize tagG (encL (expandL key) (nk + 6)) (firstG (encL (expandL key) (nk + 6)) iv) aad (gcL (encL (expandL key) (nk + 6)) (firstG (encL (expandL key) (nk + 6)) iv) b) = TG at HTA ⊢
  generalize gcL (encL (expandL key) (nk + 6)) (firstG (encL (expandL key) (nk + 6)) iv) b = C at HGC HCL HTA ⊢
  have HFL := Lib.hid HFL
  generalize firstG (encL (expandL key) (nk + 6)) iv = F at HFI HFL HGC HTA
  generalize rkB (expandL key) = RK at HRK HFI HGC HTA
  have hz16 : ∀ W, (zeroValue 23).run Try.prog W = .ok (.agg zeros16.toArray) W := fun W => by kernel_rfl
  have hz := zero256B
  have HZL := Lib.hid zeros256_len
  have HZ16 := Lib.hid zeros16_len
  have HTL : Hid ((sboxL.map bv).length = 256) := by show _ = _; rw [List.length_map, sboxL_len]
  have HI : Hid ((Try.prog.info? 48).map (·.size) = some (sboxL.map bv).length) := by show _ = _; rw [HTL.out]; exact i256B
  have hone : Hid (∀ v ∈ sboxL.map bv, v.oneCell' = true) := bv_one _
  have hiF := Lib.hid (r_i16 F HFL.out)
  generalize zeros256 = Z at hz HZL
  generalize zeros16 = Z16 at hz16 HZ16
  generalize sboxL.map bv = TB at HRT HRK HFI HGC HTA HTL HI hone
  obtain ⟨r7, hr7⟩ : ∃ r7, r7 = nk + 7 := ⟨_, rfl⟩
  rw [← hr7] at HRK HFI HGC HTA
  have hm31 : m + 16 ≤ 2147483647 := by omega
  clear hl hn hk hi ha hm hS hSi hSa hSb hr7
  go_enter Try.func29, Try.ntmps29
  go_wp2_with fail
  refine (HRT.out w).mono ?_
  rintro e w1 ⟨rfl, hb1⟩
  have B1 : Hid (Below w.heap.size w w1) := hb1
  clear hb1
  go_upto_region 2 with (first
    | (refine wpList_st rfl 48 (.tmp 9) (.tmp 13) rfl (store_arr (cs := TB) (old := Z) HI.out hone.out (heap_alloc_new' w1 _) (by rw [HZL.out, HTL.out])) ?_
       generalize hV : World.setRow _ _ _ = W2
       have M2 := Lib.hid (heap_of_setRow hV (heap_alloc_new' w1 _))
       have X2 : Hid (Ext w1 W2) := ((Below.refl w1.heap.size w1).alloc (Nat.le_refl _) _).trans (below_of_setRow hV (Nat.le_refl w1.heap.size) (by simp))
       clear hV)
    | fail)
  have B2 := Lib.hid (B1.out.step X2.out)
  obtain ⟨g9, hg9⟩ : ∃ g, w1.heap.size = g := ⟨_, rfl⟩
  rw [hg9] at M2 ⊢
  clear hg9 X2 B1
  go_wp2_with (first
    | (refine wpList_ld rfl 48 (.tmp 9) rfl (load_arr arr256B rfl HI.out M2.out) ?_)
    | fail)
  refine (HRK.out W2 (HS.out.below B2.out)).mono ?_
  rintro e w3 ⟨A8, c8, rfl, hK, hb3⟩
  have K3 := Lib.hid hK
  have M3 := Lib.hid ((hb3.block _ (lt_of_heap M2.out)).trans M2.out)
  have B3 := Lib.hid (B2.out.step hb3)
  clear hK hb3 M2 B2
  go_wp2_with (first
    | (refine wpList_ld rfl 48 (.tmp 9) rfl (load_arr arr256B rfl HI.out M3.out) ?_)
    | fail)
  refine (HFI.out A8 c8 w3 K3.out (HSi.out.below B3.out)).mono ?_
  rintro e w4 ⟨rfl, hb4⟩
  have K4 := Lib.hid (K3.out.below hb4)
  have M4 := Lib.hid ((hb4.block _ (lt_of_heap M3.out)).trans M3.out)
  have B4 := Lib.hid (B3.out.step hb4)
  clear hb4 K3 M3 B3
  go_upto_region 4 with (first
    | (refine wpList_st rfl 23 (.tmp 11) (.tmp 20) rfl (store_arr (cs := F.map bv) (old := Z16) hiF.out (bv_one _) (heap_alloc_new' w4 _) (by rw [List.length_map, HFL.out, HZ16.out])) ?_
       generalize hV : World.setRow _ _ _ = W5
       have N5 := Lib.hid (heap_of_setRow hV (heap_alloc_new' w4 _))
       have X5 : Hid (Ext w4 W5) := ((Below.refl w4.heap.size w4).alloc (Nat.le_refl _) _).trans (below_of_setRow hV (Nat.le_refl w4.heap.size) (by simp))
       clear hV)
    | fail)
  have K5 := Lib.hid (K4.out.below X5.out)
  have M5 := Lib.hid ((X5.out.block _ (lt_of_heap M4.out)).trans M4.out)
  have B5 := Lib.hid (B4.out.step X5.out)
  obtain ⟨g11, hg11⟩ : ∃ g, w4.heap.size = g := ⟨_, rfl⟩
  rw [hg11] at N5 ⊢
  clear hg11 K4 M4 B4 X5
  go_wp2_with (first
    | (refine wpList_ld rfl 48 (.tmp 9) rfl (load_arr arr256B rfl HI.out M5.out) ?_)
    | (refine wpList_ld rfl 23 (.tmp 11) rfl (load_arr arr16B rfl hiF.out N5.out) ?_)
    | fail)
  refine (HGC.out A8 c8 W5 K5.out (HSb.out.below B5.out)).mono ?_
  rintro e w6 ⟨v6, rfl, hO6, hb6⟩
  obtain ⟨A6, c6, rfl, hl6, h61, h62, hr6⟩ := own_read hO6
  have S6 : Hid (Sl w6 A6 c6 C) := ⟨by omega, h62, hr6⟩
  have O6 : Hid (w6.ownsRow w.heap.size 5 1 (.slice A6 m c6) m (C.map bv)) := ka_own_le hO6 B5.out.size
  have K6 := Lib.hid (K5.out.below hb6)
  have M6 := Lib.hid ((hb6.block _ (lt_of_heap M5.out)).trans M5.out)
  have N6 := Lib.hid ((hb6.block _ (lt_of_heap N5.out)).trans N5.out)
  have B6 := Lib.hid (B5.out.step hb6)
  clear hO6 hb6 hl6 h61 h62 hr6 K5 M5 N5 B5
  go_wp2_with (first
    | (refine wpList_ld rfl 48 (.tmp 9) rfl (load_arr arr256B rfl HI.out M6.out) ?_)
    | (refine wpList_ld rfl 23 (.tmp 11) rfl (load_arr arr16B rfl hiF.out N6.out) ?_)
    | fail)
  refine (HTA.out A8 c8 A6 c6 w6 K6.out (HSa.out.below B6.out) S6.out).mono ?_
  rintro e w7 ⟨v7, rfl, hO7, hb7⟩
  obtain ⟨A7, c7, rfl, hl7, h71, h72, hr7⟩ := own_read hO7
  have S7 : Hid (Sl w7 A7 c7 TG) := ⟨by omega, h72, hr7⟩
  have hl7' := Lib.hid hl7
  have O7 := Lib.hid (ka_own_below O6.out hb7)
  have B7 := Lib.hid (B6.out.step hb7)
  clear hO7 hb7 hl7 h71 h72 hr7 K6 M6 N6 B6 S6 O6
  go_wp2_with (first
    | (at_builtin
       refine wpList_app8 rfl (.tmp 26) (.tmp 32) rfl w.heap.size _ m C rfl O7.out A7 16 c7 w7.heap.size TG rfl S7.out.2.2 hl7'.out hm31 B7.out.size ?_
       rintro v8 w8 hown hgr
       have O8 := Lib.hid hown
       have B8 : Hid (Below w.heap.size w w8) := B7.out.trans (Below.grown (Below.refl _ _) hgr B7.out.size (ka_own_ge O7.out (Nat.le_refl _)))
       clear hown hgr)
    | fail)
  go_ret
  exact ⟨_, rfl, O8.out, B8.out⟩
set_option maxHeartbeats 8000000 in
theorem refOpenX_any (key : List UInt8) (nk : Nat) (A : Option Addr) (n c : Nat) (iv aad b : List UInt8) (Ai : Option Addr) (vn ic : Nat) (Aa : Option Addr) (an ac : Nat) (Ab : Option Addr) (bn m cb : Nat) (w : World) (hk : nk = 4 ∨ nk = 8) (hl : key.length = n) (hn : n = 4 * nk) (hi : iv.length = vn) (ha : aad.length = an) (hb : b.length = bn) (hbm : bn = m + 16) (hv2 : vn ≤ 1000) (ha2 : an ≤ 1000) (hm2 : m ≤ 1000) (hS : Sl w A c key) (hSi : Sl w Ai ic iv) (hSa : Sl w Aa ac aad) (hSb : Sl w Ab cb b) :
    Calls Try.prog 31 #[.slice A n c, .slice Ai vn ic, .slice Aa an ac, .slice Ab bn cb] w fun e w' => ∃ v ok, e = .returned (.tuple #[v, .bool ok]) ∧ RefOG w (encL (expandL key) (nk + 6)) (firstG (encL (expandL key) (nk + 6)) iv) aad b m v ok w' ∧ Below w.heap.size w w' := by
  have HS := Lib.hid hS; have HSi := Lib.hid hSi; have HSa := Lib.hid hSa; have HSb := Lib.hid hSb
  have HRT := Lib.hid (fun W => refTable_any W)
  have HRK := Lib.hid (fun W hS => refKeys_row A n c nk key W hl hn hk hS)
  have HFI := Lib.hid (fun A cc W hA hS => refFirst_any key nk A cc iv Ai vn ic W hk (hl.trans hn) hi (by omega) hA hS)
  have HFL := firstG_len (encL (expandL key) (nk + 6)) iv
  have HBT : Hid ((b.take m).length = m) := by show _ = _; rw [List.length_take]; omega
  have HBD : Hid ((b.drop m).length = bn - m) := by show _ = _; rw [List.length_drop]; omega
  have HGC := Lib.hid (fun A cc W hA hS => refGc_any key nk A cc (firstG (encL (expandL key) (nk + 6)) iv) Ab m cb (b.take m) W hk (hl.trans hn) HFL HBT.out (by omega) hA hS)
  have HTA := Lib.hid (fun A cc W hA h1 h2 => refTagX_any key nk A cc (firstG (encL (expandL key) (nk + 6)) iv) aad (b.take m) Aa an ac Ab m cb W hk (hl.trans hn) HFL ha HBT.out (by omega) (by omega) hA h1 h2)
  have HOG : Hid (∀ v ok w', (if tagG (encL (expandL key) (nk + 6)) (firstG (encL (expandL key) (nk + 6)) iv) aad (b.take m) = b.drop m then ok = true ∧ w'.ownsRow w.heap.size 5 1 v m ((gcL (encL (expandL key) (nk + 6)) (firstG (encL (expandL key) (nk + 6)) iv) (b.take m)).map bv) else v = .slice none 0 0 ∧ ok = false) → RefOG w (encL (expandL key) (nk + 6)) (firstG (encL (expandL key) (nk + 6)) iv) aad b m v ok w') := fun v ok w' h => h
  generalize RefOG w (encL (expandL key) (nk + 6)) (firstG (encL (expandL key) (nk + 6)) iv) aad b m = RO at HOG ⊢
  generalize tagG (encL (expandL key) (nk + 6)) (firstG (encL (expandL key) (nk + 6)) iv) aad (b.take m) = TG at HTA HOG
  generalize gcL (encL (expandL key) (nk + 6)) (firstG (encL (expandL key) (nk + 6)) iv) (b.take m) = C at HGC HOG
  have HFL := Lib.hid HFL
  generalize firstG (encL (expandL key) (nk + 6)) iv = F at HFI HFL HGC HTA
  generalize rkB (expandL key) = RK at HRK HFI HGC HTA
  have hz16 : ∀ W, (zeroValue 23).run Try.prog W = .ok (.agg zeros16.toArray) W := fun W => by kernel_rfl
  have hz := zero256B
  have HZL := Lib.hid zeros256_len
  have HZ16 := Lib.hid zeros16_len
  have HTL : Hid ((sboxL.map bv).length = 256) := by show _ = _; rw [List.length_map, sboxL_len]
  have HI : Hid ((Try.prog.info? 48).map (·.size) = some (sboxL.map bv).length) := by show _ = _; rw [HTL.out]; exact i256B
  have hone : Hid (∀ v ∈ sboxL.map bv, v.oneCell' = true) := bv_one _
  have hiF := Lib.hid (r_i16 F HFL.out)
  generalize zeros256 = Z at hz HZL
  generalize zeros16 = Z16 at hz16 HZ16
  generalize sboxL.map bv = TB at HRT HRK HFI HGC HTA HTL HI hone
  obtain ⟨r7, hr7⟩ : ∃ r7, r7 = nk + 7 := ⟨_, rfl⟩
  rw [← hr7] at HRK HFI HGC HTA
  obtain ⟨t16, ht16⟩ : ∃ t, t = bn - m := ⟨_, rfl⟩
  rw [← ht16] at HBD
  have HT16 : Hid (t16 = 16) := by show _ = _; omega
  have u1 : (bn : Int) - 16 = (m : Int) := by omega
  have u2 : IntKind.i64.wrap (m : Int) = (m : Int) := by rw [IntKind.wrap_i64]; omega
  have hbc : bn ≤ cb := by have := hSb.1; omega
  have sl1 := cut_from uT s8 Ab bn cb .i64 (m : Int) (by omega) (by omega)
  rw [Int.toNat_natCast, ← ht16] at sl1
  have sl2 := cut_to uT s8 Ab bn cb .i64 (m : Int) (by omega) (by omega)
  rw [Int.toNat_natCast] at sl2
  have HBL := Lib.hid hb
  have HMB : Hid (m ≤ b.length) := by show _ ≤ _; omega
  have STK : Hid (∀ W, Sl W Ab cb b → Sl W Ab cb (b.take m)) := fun W h => by
    have h3 := h.2.2.take m
    rw [← List.map_take] at h3
    exact ⟨by have := h.1; rw [List.length_take]; omega, h.2.1, h3⟩
  generalize b.take m = BT at HGC HTA HBT STK
  have SDR : Hid (∀ W, Sl W Ab cb b → Sl W (cutS Ab cb m) (cb - m) (b.drop m)) := fun W h => sl_cut h HMB.out
  generalize b.drop m = BD at HBD HOG SDR
  clear hl hn hk hi ha hb hS hSi hSa hSb hr7 ht16 hbm
  go_enter Try.func31, Try.ntmps31
  go_wp2_with fail
  refine (HRT.out w).mono ?_
  rintro e w1 ⟨rfl, hb1⟩
  have B1 : Hid (Below w.heap.size w w1) := hb1
  clear hb1
  go_upto_region 2 with (first
    | (refine wpList_st rfl 48 (.tmp 10) (.tmp 14) rfl (store_arr (cs := TB) (old := Z) HI.out hone.out (heap_alloc_new' w1 _) (by rw [HZL.out, HTL.out])) ?_
       generalize hV : World.setRow _ _ _ = W2
       have M2 := Lib.hid (heap_of_setRow hV (heap_alloc_new' w1 _))
       have X2 : Hid (Ext w1 W2) := ((Below.refl w1.heap.size w1).alloc (Nat.le_refl _) _).trans (below_of_setRow hV (Nat.le_refl w1.heap.size) (by simp))
       clear hV)
    | fail)
  have B2 := Lib.hid (B1.out.step X2.out)
  obtain ⟨g9, hg9⟩ : ∃ g, w1.heap.size = g := ⟨_, rfl⟩
  rw [hg9] at M2 ⊢
  clear hg9 X2 B1
  go_wp2_with (first
    | (refine wpList_ld rfl 48 (.tmp 10) rfl (load_arr arr256B rfl HI.out M2.out) ?_)
    | fail)
  refine (HRK.out W2 (HS.out.below B2.out)).mono ?_
  rintro e w3 ⟨A8, c8, rfl, hK, hb3⟩
  have K3 := Lib.hid hK
  have M3 := Lib.hid ((hb3.block _ (lt_of_heap M2.out)).trans M2.out)
  have B3 := Lib.hid (B2.out.step hb3)
  clear hK hb3 M2 B2
  go_wp2_with (first
    | (refine wpList_ld rfl 48 (.tmp 10) rfl (load_arr arr256B rfl HI.out M3.out) ?_)
    | fail)
  refine (HFI.out A8 c8 w3 K3.out (HSi.out.below B3.out)).mono ?_
  rintro e w4 ⟨rfl, hb4⟩
  have K4 := Lib.hid (K3.out.below hb4)
  have M4 := Lib.hid ((hb4.block _ (lt_of_heap M3.out)).trans M3.out)
  have B4 := Lib.hid (B3.out.step hb4)
  clear hb4 K3 M3 B3
  go_upto_region 4 with (first
    | (refine wpList_st rfl 23 (.tmp 12) (.tmp 21) rfl (store_arr (cs := F.map bv) (old := Z16) hiF.out (bv_one _) (heap_alloc_new' w4 _) (by rw [List.length_map, HFL.out, HZ16.out])) ?_
       generalize hV : World.setRow _ _ _ = W5
       have N5 := Lib.hid (heap_of_setRow hV (heap_alloc_new' w4 _))
       have X5 : Hid (Ext w4 W5) := ((Below.refl w4.heap.size w4).alloc (Nat.le_refl _) _).trans (below_of_setRow hV (Nat.le_refl w4.heap.size) (by simp))
       clear hV)
    | fail)
  have K5 := Lib.hid (K4.out.below X5.out)
  have M5 := Lib.hid ((X5.out.block _ (lt_of_heap M4.out)).trans M4.out)
  have B5 := Lib.hid (B4.out.step X5.out)
  obtain ⟨g11, hg11⟩ : ∃ g, w4.heap.size = g := ⟨_, rfl⟩
  rw [hg11] at N5 ⊢
  clear hg11 K4 M4 B4 X5
  have S5 := Lib.hid (HSb.out.below B5.out)
  have hcmp : ((strOf BD).toList == (strOf TG).toList) = decide (BD = TG) := k_strOf_beq BD TG
  obtain ⟨dq, hdq⟩ : ∃ d, d = decide (BD = TG) := ⟨_, rfl⟩
  rw [← hdq] at hcmp
  have HDQ := Lib.hid hdq
  have HCMP := Lib.hid hcmp
  clear hdq hcmp
  go_wp2_with fail
  have HX : Hid (Ext W5 W5.drew) := (Below.refl _ _).drew
  refine reg_start (by kernel_rfl) ?_
  try simp only [Act.put, List.setIfInBounds_toArray, List.set_cons_zero, List.set_cons_succ]
  refine reg_take (v := ?_) 0 (some 25) rfl rfl (by kernel_rfl) (by kernel_rfl) (by kernel_rfl) (fun _ _ _ h => h) (by rfl) (fun W hW => ?_) ?_
  rotate_left
  · (go_simp; try rfl)
  simp only [Act.put, List.setIfInBounds_toArray, List.set_cons_zero, List.set_cons_succ]
  refine reg_take (v := ?_) 1 (some 26) rfl rfl (by kernel_rfl) (by kernel_rfl) (by kernel_rfl) (fun _ _ _ h => h) (by rfl) (fun W hW => ?_) ?_
  rotate_left
  · (go_simp; try rfl)
  simp only [Act.put, List.setIfInBounds_toArray, List.set_cons_zero, List.set_cons_succ]
  refine reg_take (v := ?_) 2 (some 27) rfl rfl (by kernel_rfl) (by kernel_rfl) (by kernel_rfl) (fun _ _ _ h => h) (by rfl) (fun W hW => ?_) ?_
  rotate_left
  · (go_simp; try rfl)
  simp only [Act.put, List.setIfInBounds_toArray, List.set_cons_zero, List.set_cons_succ]
  refine reg_conv 3 (some 28) (fun W hW => conv_string W (cutS Ab cb m) t16 (cb - m) BD HBD.out ((SDR.out _ S5.out).extk (Ext.trans HX.out hW))) rfl rfl rfl rfl (by kernel_rfl) (by kernel_rfl) (by kernel_rfl) (fun _ _ _ h => h) (by rfl) ?_
  simp only [Act.put, List.setIfInBounds_toArray, List.set_cons_zero, List.set_cons_succ]
  refine reg_load 4 (some 29) (fun W hW => load_arr arr256B rfl HI.out (((Ext.trans HX.out hW).block _ (lt_of_heap M5.out)).trans M5.out)) rfl rfl rfl rfl (by kernel_rfl) (by kernel_rfl) (by kernel_rfl) (fun _ _ _ h => h) (by rfl) ?_
  simp only [Act.put, List.setIfInBounds_toArray, List.set_cons_zero, List.set_cons_succ]
  refine reg_take (v := ?_) 5 (some 30) rfl rfl (by kernel_rfl) (by kernel_rfl) (by kernel_rfl) (fun _ _ _ h => h) (by rfl) (fun W hW => ?_) ?_
  rotate_left
  · (go_simp; try rfl)
  simp only [Act.put, List.setIfInBounds_toArray, List.set_cons_zero, List.set_cons_succ]
  refine reg_load 6 (some 31) (fun W hW => load_arr arr16B rfl hiF.out (((Ext.trans HX.out hW).block _ (lt_of_heap N5.out)).trans N5.out)) rfl rfl rfl rfl (by kernel_rfl) (by kernel_rfl) (by kernel_rfl) (fun _ _ _ h => h) (by rfl) ?_
  simp only [Act.put, List.setIfInBounds_toArray, List.set_cons_zero, List.set_cons_succ]
  refine reg_take (v := ?_) 7 (some 32) rfl rfl (by kernel_rfl) (by kernel_rfl) (by kernel_rfl) (fun _ _ _ h => h) (by rfl) (fun W hW => ?_) ?_
  rotate_left
  · (go_simp; try rfl)
  simp only [Act.put, List.setIfInBounds_toArray, List.set_cons_zero, List.set_cons_succ]
  refine reg_take (v := ?_) 8 (some 33) rfl rfl (by kernel_rfl) (by kernel_rfl) (by kernel_rfl) (fun _ _ _ h => h) (by rfl) (fun W hW => ?_) ?_
  rotate_left
  · (go_simp; try rfl)
  simp only [Act.put, List.setIfInBounds_toArray, List.set_cons_zero, List.set_cons_succ]
  refine reg_take (v := ?_) 9 (some 34) rfl rfl (by kernel_rfl) (by kernel_rfl) (by kernel_rfl) (fun _ _ _ h => h) (by rfl) (fun W hW => ?_) ?_
  rotate_left
  · (go_simp; try rfl)
  simp only [Act.put, List.setIfInBounds_toArray, List.set_cons_zero, List.set_cons_succ]
  refine reg_take (v := ?_) 10 (some 35) rfl rfl (by kernel_rfl) (by kernel_rfl) (by kernel_rfl) (fun _ _ _ h => h) (by rfl) (fun W hW => ?_) ?_
  rotate_left
  · (go_simp; try rfl)
  simp only [Act.put, List.setIfInBounds_toArray, List.set_cons_zero, List.set_cons_succ]
  refine reg_eff 11 rfl (by kernel_rfl) (fun K hK => ?_)
  go_simp
  refine (HTA.out A8 c8 _ (K5.out.below HX.out) (HSa.out.below (B5.out.step HX.out)) (STK.out _ (S5.out.below HX.out))).mono ?_
  rintro e w7 ⟨v7, rfl, hO7, hE⟩
  obtain ⟨A7, c7, rfl, hl7, h71, h72, hr7⟩ := own_read hO7
  have S7 : Hid (Sl w7 A7 c7 TG) := ⟨by omega, h72, hr7⟩
  have hl7' := Lib.hid hl7
  clear hO7 hl7 h71 h72 hr7
  refine hK.out _ _ hE ?_
  have HX := Lib.hid (Ext.trans HX.out hE)
  clear hE hK K
  try simp only [Act.put, List.setIfInBounds_toArray, List.set_cons_zero, List.set_cons_succ]
  refine reg_conv 12 (some 37) (fun W hW => conv_string W A7 16 c7 TG hl7'.out (S7.out.extk hW)) rfl rfl rfl rfl (by kernel_rfl) (by kernel_rfl) (by kernel_rfl) (fun _ _ _ h => h) (by rfl) ?_
  simp only [Act.put, List.setIfInBounds_toArray, List.set_cons_zero, List.set_cons_succ]
  refine reg_take (v := ?_) 13 (some 38) rfl rfl (by kernel_rfl) (by kernel_rfl) (by kernel_rfl) (fun _ _ _ h => h) (by rfl) (fun W hW => ?_) ?_
  rotate_left
  · (go_simp; try rfl)
  simp only [Act.put, List.setIfInBounds_toArray, List.set_cons_zero, List.set_cons_succ]
  refine reg_done (by kernel_rfl) ?_
  have K7 := Lib.hid (K5.out.below HX.out)
  have M7 := Lib.hid ((HX.out.block _ (lt_of_heap M5.out)).trans M5.out)
  have N7 := Lib.hid ((HX.out.block _ (lt_of_heap N5.out)).trans N5.out)
  have B7 : Hid (Below w.heap.size w w7) := B5.out.step HX.out
  have T7 := Lib.hid (STK.out _ (S5.out.below HX.out))
  clear K5 M5 N5 B5 HX S5 S7
  rw [HCMP.out]
  clear HCMP
  cases dq with
  | false =>
    have hne : Hid (¬ TG = BD) := fun h => by have := HDQ.out; simp [h] at this
    simp only [Bool.not_false]
    go_wp2_with fail
    go_ret2
    exact ⟨_, _, rfl, HOG.out _ _ _ (by rw [if_neg hne.out]; exact ⟨rfl, rfl⟩), B7.out⟩
  | true =>
    have heq : Hid (TG = BD) := by have := HDQ.out; simp at this; exact this.symm
    simp only [Bool.not_true]
    go_upto_region 7 with (fail)
    have HX : Hid (Ext w7 w7.drew) := (Below.refl _ _).drew
    refine reg_start (by kernel_rfl) ?_
    try simp only [Act.put, List.setIfInBounds_toArray, List.set_cons_zero, List.set_cons_succ]
    refine reg_load 0 (some 39) (fun W hW => load_arr arr256B rfl HI.out (((Ext.trans HX.out hW).block _ (lt_of_heap M7.out)).trans M7.out)) rfl rfl rfl rfl (by kernel_rfl) (by kernel_rfl) (by kernel_rfl) (fun _ _ _ h => h) (by rfl) ?_
    simp only [Act.put, List.setIfInBounds_toArray, List.set_cons_zero, List.set_cons_succ]
    refine reg_take (v := ?_) 1 (some 40) rfl rfl (by kernel_rfl) (by kernel_rfl) (by kernel_rfl) (fun _ _ _ h => h) (by rfl) (fun W hW => ?_) ?_
    rotate_left
    · (go_simp; try rfl)
    simp only [Act.put, List.setIfInBounds_toArray, List.set_cons_zero, List.set_cons_succ]
    refine reg_load 2 (some 41) (fun W hW => load_arr arr16B rfl hiF.out (((Ext.trans HX.out hW).block _ (lt_of_heap N7.out)).trans N7.out)) rfl rfl rfl rfl (by kernel_rfl) (by kernel_rfl) (by kernel_rfl) (fun _ _ _ h => h) (by rfl) ?_
    simp only [Act.put, List.setIfInBounds_toArray, List.set_cons_zero, List.set_cons_succ]
    refine reg_take (v := ?_) 3 (some 42) rfl rfl (by kernel_rfl) (by kernel_rfl) (by kernel_rfl) (fun _ _ _ h => h) (by rfl) (fun W hW => ?_) ?_
    rotate_left
    · (go_simp; try rfl)
    simp only [Act.put, List.setIfInBounds_toArray, List.set_cons_zero, List.set_cons_succ]
    refine reg_take (v := ?_) 4 (some 43) rfl rfl (by kernel_rfl) (by kernel_rfl) (by kernel_rfl) (fun _ _ _ h => h) (by rfl) (fun W hW => ?_) ?_
    rotate_left
    · (go_simp; try rfl)
    simp only [Act.put, List.setIfInBounds_toArray, List.set_cons_zero, List.set_cons_succ]
    refine reg_take (v := ?_) 5 (some 44) rfl rfl (by kernel_rfl) (by kernel_rfl) (by kernel_rfl) (fun _ _ _ h => h) (by rfl) (fun W hW => ?_) ?_
    rotate_left
    · (go_simp; try rfl)
    simp only [Act.put, List.setIfInBounds_toArray, List.set_cons_zero, List.set_cons_succ]
    refine reg_eff 6 rfl (by kernel_rfl) (fun K hK => ?_)
    go_simp
    refine (HGC.out A8 c8 _ (K7.out.below HX.out) (T7.out.below HX.out)).mono ?_
    rintro e w8 ⟨v8, rfl, hO8, hE⟩
    have O8 : Hid (w8.ownsRow w.heap.size 5 1 v8 m (C.map bv)) := ka_own_le hO8 B7.out.size
    clear hO8
    refine hK.out _ _ hE ?_
    have HX := Lib.hid (Ext.trans HX.out hE)
    clear hE hK K
    try simp only [Act.put, List.setIfInBounds_toArray, List.set_cons_zero, List.set_cons_succ]
    refine reg_take (v := ?_) 7 (some 8) rfl rfl (by kernel_rfl) (by kernel_rfl) (by kernel_rfl) (fun _ _ _ h => h) (by rfl) (fun W hW => ?_) ?_
    rotate_left
    · (go_simp; try rfl)
    simp only [Act.put, List.setIfInBounds_toArray, List.set_cons_zero, List.set_cons_succ]
    refine reg_take (v := ?_) 8 (some 9) rfl rfl (by kernel_rfl) (by kernel_rfl) (by kernel_rfl) (fun _ _ _ h => h) (by rfl) (fun W hW => ?_) ?_
    rotate_left
    · (go_simp; try rfl)
    simp only [Act.put, List.setIfInBounds_toArray, List.set_cons_zero, List.set_cons_succ]
    refine reg_done (by kernel_rfl) ?_
    go_wp2
    go_ret2
    exact ⟨_, _, rfl, HOG.out _ _ _ (by rw [if_pos heq.out]; exact ⟨rfl, O8.out⟩), B7.out.step HX.out⟩
end Go.Proofs.Ytjmpbcfbfbjenaa

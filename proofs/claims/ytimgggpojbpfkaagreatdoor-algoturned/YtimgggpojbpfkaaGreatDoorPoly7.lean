/- poly: Clamp, New; a state in memory. -/
import Derived.Test.YtimgggpojbpfkaaGreatDoorPoly6
import Derived.Deep.MidRow
namespace Go.Proofs.YtimgggpojbpfkaaGreatDoor
open Go.RowKit
set_option maxRecDepth 100000
set_option linter.unusedVariables false
set_option linter.unusedSimpArgs false
def clampA (l : List UInt8) : Nat → List UInt8
  | 0 => l
  | i + 1 => (clampA l i).set (4 * i + 3) ((clampA l i).getD (4 * i + 3) 0 &&& 15)
def clampB (l : List UInt8) : Nat → List UInt8
  | 0 => l
  | i + 1 => (clampB l i).set (4 * i + 4) ((clampB l i).getD (4 * i + 4) 0 &&& 252)
theorem clampA_len (l : List UInt8) (i : Nat) : (clampA l i).length = l.length := by
  induction i with
  | zero => rfl
  | succ i ih => rw [clampA, List.length_set, ih]
theorem clampB_len (l : List UInt8) (i : Nat) : (clampB l i).length = l.length := by
  induction i with
  | zero => rfl
  | succ i ih => rw [clampB, List.length_set, ih]
/-- the first half of a key, clamped -/
def clampL (l : List UInt8) : List UInt8 := clampB (clampA l 4) 3
theorem clampL_len (l : List UInt8) : (clampL l).length = l.length := by rw [clampL, clampB_len, clampA_len]
theorem bcell {w : World} {g : Nat} {l : List UInt8} {t : TypeId} {fr : Nat × Nat} (h : w.heap[g]? = some (.cells (l.map bv).toArray t fr)) (i : Nat) (hi : i < l.length) : w.cell? ⟨g, i, none⟩ = some (.int .u8 ((l.getD i 0).toNat : Int)) := by
  rw [cell_of_heap h, List.getElem?_map]
  simp [List.getD, hi, bv]
theorem bst_row {W W' : World} {g i B : Nat} {l : List UInt8} {t : TypeId} {v : UInt8} (hW : W.setCell ⟨g, i, none⟩ (.int .u8 (v.toNat : Int)) = W') (hB : B ≤ g) (H : W.heap[g]? = some (.cells (l.map bv).toArray t (0, 0))) :
    W'.heap[g]? = some (.cells ((l.set i v).map bv).toArray t (0, 0)) ∧ Below B W W' ∧ ∀ k, k ≠ g → W'.heap[k]? = W.heap[k]? := by
  subst hW
  refine ⟨?_, (Below.refl _ _).setCell hB _, fun k hk => Below.heap_setCell W _ _ _ hk⟩
  have := heap_set H i (bv v)
  rw [← List.map_set] at this
  exact this
theorem arr16P : Tryz.prog.underlying 64 = some (.array 16 5) := Tryz.underlying64
theorem arr32P : Tryz.prog.underlying 65 = some (.array 32 5) := Tryz.underlying65
theorem i16P : (Tryz.prog.info? 64).map (·.size) = some 16 := by kernel_rfl
theorem i32P : (Tryz.prog.info? 65).map (·.size) = some 32 := by kernel_rfl
theorem i16p (l : List UInt8) (h : l.length = 16) : (Tryz.prog.info? 64).map (·.size) = some (l.map bv).length := by rw [List.length_map, h]; exact i16P
theorem i32p (l : List UInt8) (h : l.length = 32) : (Tryz.prog.info? 65).map (·.size) = some (l.map bv).length := by rw [List.length_map, h]; exact i32P
def zer16 : List Value := List.replicate 16 (Value.int .u8 0)
set_option maxHeartbeats 2000000 in
theorem clamp_any (r : List UInt8) (w : World) (hr : r.length = 16) :
    Calls Tryz.prog 119 #[.agg (r.map bv).toArray] w fun e w' => e = .returned (.agg ((clampL r).map bv).toArray) ∧ Below w.heap.size w w' := by
  have hz : ∀ W, (zeroValue 64).run Tryz.prog W = .ok (.agg zer16.toArray) W := fun W => by kernel_rfl
  have hlz : Hid (zer16.length = 16) := rfl
  have LA := Lib.hid (fun i => (clampA_len r i).trans hr)
  have LB := Lib.hid (fun i => (clampB_len (clampA r 4) i).trans (LA.out 4))
  have HA0 : Hid (r = clampA r 0) := rfl
  have HC : Hid (clampL r = clampB (clampA r 4) 3) := rfl
  have HN : Hid (clampA r 4 = clampB (clampA r 4) 0) := rfl
  rw [HC.out]
  generalize zer16 = Z at hz hlz
  have G := Lib.hid (heap2p w (.cells (r.map bv).toArray 64) (.cells Z.toArray 64))
  clear hr
  go_enter Tryz.func119, Tryz.ntmps119
  go_wp2_with fail
  generalize hV : (w.alloc _).alloc _ = W0 at G ⊢
  clear hV
  go_loopw [5] (fun vi wr => ∃ (i : Nat), i ≤ 4 ∧ vi = .int .i64 (i : Int) ∧ Hid (Below w.heap.size w wr) ∧ Hid (wr.heap[w.heap.size]? = some (.cells ((clampA r i).map bv).toArray 64 (0, 0))) ∧ Hid (wr.heap[w.heap.size + 1]? = some (.cells Z.toArray 64 (0, 0)))) (fun i _ => 4 - (intOf i).toNat)
  case atStart => exact ⟨0, by omega, rfl, G.out.2.2, G.out.1, G.out.2.1⟩
  case round =>
    clear G
    obtain ⟨i, hi, rfl, HB, H0, H1⟩ := hrel
    by_cases hlt : i < 4
    · have e1 : (i : Int) < 4 := by omega
      obtain ⟨p, hp⟩ : ∃ p, p = 4 * i + 3 := ⟨_, rfl⟩
      have hp16 : p < 16 := by omega
      have u1 : 4 * (i : Int) + 3 = (p : Int) := by omega
      have e2 : (p : Int) < 16 := by omega
      have c0 := bcell H0.out p (by rw [LA.out]; exact hp16)
      have fz := frozen_of_heap H0.out p
      have HST : Hid ((clampA r i).set p ((clampA r i).getD p 0 &&& 15) = clampA r (i + 1)) := by rw [hp]; rfl
      have a1 : bits .and .u8 (((clampA r i).getD p 0).toNat : Int) 15 = (((clampA r i).getD p 0 &&& 15).toNat : Int) := and8 _ 15
      generalize (clampA r i).getD p 0 &&& 15 = v at a1 HST
      generalize (clampA r i).getD p 0 = x at a1 c0
      clear hp
      go_wp2_with fail
      go_roundw
      case rel =>
        obtain ⟨m1, m2, m3⟩ := bst_row (B := w.heap.size) rfl (Nat.le_refl _) H0.out (i := p) (v := v)
        rw [HST.out] at m1
        exact ⟨i + 1, by omega, by go_num, HB.out.trans m2, m1, (m3 _ (by omega)).trans H1.out⟩
      case measure => simp [intOf]; omega
    · have e1 : ¬ ((i : Int) < 4) := by omega
      have H0' : Hid (wr.heap[w.heap.size]? = some (.cells ((clampB (clampA r 4) 0).map bv).toArray 64 (0, 0))) := by have := H0.out; rw [show i = 4 by omega] at this; exact this
      clear H0
      obtain ⟨wo, hwo⟩ : ∃ x, x = wr := ⟨_, rfl⟩
      subst hwo
      obtain ⟨q, HQ⟩ : ∃ q, Hid (clampA r 4 = q) := ⟨_, rfl⟩
      rw [HQ.out] at H0' LB
      go_wp2_with fail
      go_loopw [16] (fun vi wr => ∃ (i : Nat), i ≤ 3 ∧ vi = .int .i64 (i : Int) ∧ Hid (Below w.heap.size w wr) ∧ Hid (wr.heap[w.heap.size]? = some (.cells ((clampB q i).map bv).toArray 64 (0, 0))) ∧ Hid (wr.heap[w.heap.size + 1]? = some (.cells Z.toArray 64 (0, 0)))) (fun i _ => 3 - (intOf i).toNat)
      case atStart => exact ⟨0, by omega, rfl, HB, H0', H1⟩
      case round =>
        clear HB H0' H1
        obtain ⟨i, hi, rfl, HB, H0, H1⟩ := hrel
        by_cases hlt : i < 3
        · have e1 : (i : Int) < 3 := by omega
          obtain ⟨p, hp⟩ : ∃ p, p = 4 * i + 4 := ⟨_, rfl⟩
          have hp16 : p < 16 := by omega
          have u1 : 4 * (i : Int) + 4 = (p : Int) := by omega
          have e2 : (p : Int) < 16 := by omega
          have c0 := bcell H0.out p (by rw [LB.out]; exact hp16)
          have fz := frozen_of_heap H0.out p
          have HST : Hid ((clampB q i).set p ((clampB q i).getD p 0 &&& 252) = clampB q (i + 1)) := by rw [hp]; rfl
          have a1 : bits .and .u8 (((clampB q i).getD p 0).toNat : Int) 252 = (((clampB q i).getD p 0 &&& 252).toNat : Int) := and8 _ 252
          generalize (clampB q i).getD p 0 &&& 252 = v at a1 HST
          generalize (clampB q i).getD p 0 = x at a1 c0
          clear hp
          go_wp2_with fail
          go_roundw
          case rel =>
            obtain ⟨m1, m2, m3⟩ := bst_row (B := w.heap.size) rfl (Nat.le_refl _) H0.out (i := p) (v := v)
            rw [HST.out] at m1
            exact ⟨i + 1, by omega, by go_num, HB.out.trans m2, m1, (m3 _ (by omega)).trans H1.out⟩
          case measure => simp [intOf]; omega
        · have e1 : ¬ ((i : Int) < 3) := by omega
          have H0' : Hid (wr.heap[w.heap.size]? = some (.cells ((clampB q 3).map bv).toArray 64 (0, 0))) := by have := H0.out; rw [show i = 3 by omega] at this; exact this
          clear H0
          have hl := Lib.hid (LB.out 3)
          obtain ⟨Y, HY⟩ : ∃ Y, Hid (clampB q 3 = Y) := ⟨_, rfl⟩
          rw [HY.out] at H0' hl
          go_wp2_with (first
            | (refine wpList_ld rfl 64 (.tmp 1) rfl (load_arr arr16P rfl (i16p Y hl.out) H0'.out) ?_)
            | (refine wpList_st rfl 64 (.tmp 2) (.tmp 27) rfl (store_arr (cs := Y.map bv) (i16p Y hl.out) (bv_one _) H1.out (by rw [List.length_map, hl.out]; exact hlz.out)) ?_))
          have hres := setRow_heap wr (w.heap.size + 1) _ (Y.map bv).toArray 64 _ H1.out
          exact bodyPost_ret (results_cell_row (P := Tryz.prog) rfl _ _ (w.heap.size + 1) 64 (Y.map bv).toArray (0, 0) _ rfl hres arr16P rfl (by rw [List.size_toArray]; exact i16p Y hl.out)) rfl ⟨by rw [HQ.out, HY.out], HB.out.trans (grown_below (grown_setRow _ _ _) (by omega) HB.out.size)⟩
theorem getD_setU (l : List UInt8) (i j : Nat) (v : UInt8) (hi : i < l.length) : (l.set i v).getD j 0 = if i = j then v else l.getD j 0 := by
  simp only [List.getD, List.getElem?_set]
  split <;> simp [hi]
theorem and15_lt (x : UInt8) : (x &&& 15).toNat < 16 := by
  have h : (x &&& 15).toNat = x.toNat &&& 15 := UInt8.toNat_and _ _
  rw [h]
  have := Nat.and_two_pow_sub_one_eq_mod x.toNat 4
  have e : x.toNat &&& 15 = x.toNat % 16 := this
  omega
theorem clamp_top (l : List UInt8) (h : l.length = 16) : ((clampL l).getD 15 0).toNat < 16 := by
  have e3 : (clampL l).getD 15 0 = (clampA l 4).getD 15 0 := by
    unfold clampL
    simp only [clampB]
    rw [getD_setU _ _ _ _ (by simp [clampA_len, h]), if_neg (by decide), getD_setU _ _ _ _ (by simp [clampA_len, h]), if_neg (by decide), getD_setU _ _ _ _ (by simp [clampA_len, h]), if_neg (by decide)]
  have e4 : (clampA l 4).getD 15 0 = (clampA l 3).getD 15 0 &&& 15 := by
    rw [clampA, getD_setU _ _ _ _ (by rw [clampA_len, h]; decide), if_pos rfl]
  rw [e3, e4]; exact and15_lt _
theorem clamp_lt (l : List UInt8) (h : l.length = 16) : littleN (clampL l) < 21267647932558653966460912964485513216 := by
  have ht := clamp_top l h
  have hl : (clampL l).length = 16 := (clampL_len l).trans h
  generalize clampL l = c at ht hl
  have e : c = c.take 15 ++ [c.getD 15 0] := by
    have h1 := List.take_append_drop 15 c
    have h2 : c.drop 15 = [c.getD 15 0] := by
      rw [List.drop_eq_getElem_cons (by omega), List.drop_of_length_le (by omega)]
      simp [List.getD, hl]
    rw [h2] at h1; exact h1.symm
  have hl15 : (c.take 15).length = 15 := by rw [List.length_take, hl]; rfl
  rw [e, littleN_snoc, hl15]
  have h1 := littleN_lt (c.take 15)
  rw [hl15] at h1
  have p : (256 : Nat) ^ 15 = 1329227995784915872903807060280344576 := by decide
  rw [p] at h1 ⊢
  generalize (c.getD 15 0).toNat = x at ht
  generalize littleN (c.take 15) = y at h1
  omega
/-- a state's cells: both halves of the key, the sum so far, the bytes behind it, and how many they are -/
def pCells (R S H : List Nat) (T : List UInt8) (n : Nat) : List Value := R.map uv ++ (S.map uv ++ (H.map uv ++ (T.map bv ++ [.int .i64 (n : Int)])))
def rOf (key : List UInt8) : Nat := littleN (clampL (key.take 16))
def sOf (key : List UInt8) : Nat := littleN (key.drop 16)
def ptail (m : List UInt8) : List UInt8 := m.drop (16 * (m.length / 16)) ++ List.replicate (16 - m.length % 16) 0
/-- the state of the bytes m -/
def PAt (w : World) (g : Nat) (r s : Nat) (m : List UInt8) : Prop :=
  w.heap[g]? = some (.cells (pCells (numL r) (numL s) (numL (partsN r 0 m (m.length / 16))) (ptail m) (m.length % 16)).toArray 157 (0, 0))
theorem rOf_lt (key : List UInt8) (h : key.length = 32) : rOf key < 21267647932558653966460912964485513216 := clamp_lt _ (by rw [List.length_take, h]; rfl)
set_option maxHeartbeats 2000000 in
theorem pnew_any (key : List UInt8) (w : World) (hk : key.length = 32) :
    Calls Tryz.prog 79 #[.agg (key.map bv).toArray] w fun e w' => ∃ g, w.heap.size ≤ g ∧ e = .returned (.pointer (some ⟨g, 0, none⟩)) ∧ PAt w' g (rOf key) (sOf key) [] ∧ Below w.heap.size w w' := by
  have hz : ∀ W, (zeroValue 64).run Tryz.prog W = .ok (.agg zer16.toArray) W := fun W => by kernel_rfl
  have hlz : Hid (zer16.length = 16) := rfl
  have l1 : Hid ((key.take 16).length = 16) := by show _ = _; rw [List.length_take, hk]; rfl
  have l2 : Hid ((key.drop 16).length = 16) := by show _ = _; rw [List.length_drop, hk]
  have l3 : Hid ((clampL (key.take 16)).length = 16) := (clampL_len _).trans l1.out
  have CA := Lib.hid (fun W => clamp_any (key.take 16) W l1.out)
  have V1 := Lib.hid (fun A W hS => value_any A 16 16 (clampL (key.take 16)) W l3.out (by omega) (by omega) hS)
  have V2 := Lib.hid (fun A W hS => value_any A 16 16 (key.drop 16) W l2.out (by omega) (by omega) hS)
  have BD : Hid (∀ W, (Instr.build 157 #[(0, .agg ((numL (rOf key)).map uv).toArray), (1, .agg ((numL (sOf key)).map uv).toArray)]).run Tryz.prog W = .ok (.agg (pCells (numL (rOf key)) (numL (sOf key)) (numL 0) (List.replicate 16 0) 0).toArray) W) := fun W => by kernel_rfl
  have HR : Hid (rOf key = littleN (clampL (key.take 16))) := rfl
  have HSS : Hid (sOf key = littleN (key.drop 16)) := rfl
  rw [← HR.out] at V1
  rw [← HSS.out] at V2
  have HP : Hid (pCells (numL (rOf key)) (numL (sOf key)) (numL (partsN (rOf key) 0 [] (([] : List UInt8).length / 16))) (ptail []) (([] : List UInt8).length % 16) = pCells (numL (rOf key)) (numL (sOf key)) (numL 0) (List.replicate 16 0) 0) := rfl
  have HPA : Hid (∀ W g, W.heap[g]? = some (.cells (pCells (numL (rOf key)) (numL (sOf key)) (numL 0) (List.replicate 16 0) 0).toArray 157 (0, 0)) → PAt W g (rOf key) (sOf key) []) := by
    intro W g h
    unfold PAt
    rw [HP.out]; exact h
  generalize pCells (numL (rOf key)) (numL (sOf key)) (numL 0) (List.replicate 16 0) 0 = PC at BD HPA
  generalize numL (rOf key) = NR at BD V1
  generalize numL (sOf key) = NS at BD V2
  generalize zer16 = Z at hz hlz
  obtain ⟨X, HX⟩ : ∃ X, Hid (clampL (key.take 16) = X) := ⟨_, rfl⟩
  rw [HX.out] at CA V1 l3
  obtain ⟨K, HKT⟩ : ∃ K, Hid (key.take 16 = K) := ⟨_, rfl⟩
  rw [HKT.out] at CA l1
  clear HX HP HR HSS
  have HKL := Lib.hid hk
  clear hk
  have G := Lib.hid (heap_alloc_new' w (.cells (key.map bv).toArray 65))
  have GB : Hid (Below w.heap.size w (w.alloc (.cells (key.map bv).toArray 65))) := (Below.refl _ _).alloc (Nat.le_refl _) _
  have ar1 := arr_to arr32P s8 ⟨w.heap.size, 0, none⟩ .i64 16 (by omega) (by omega)
  rw [show (16 : Int).toNat = 16 from rfl] at ar1
  have aat : ∀ W, (Instr.arrayAt 64 (.slice (some ⟨w.heap.size, 0, none⟩) 16 32)).run Tryz.prog W = .ok (.pointer (some ⟨w.heap.size, 0, none⟩)) W := fun W => by kernel_rfl
  go_enter Tryz.func79, Tryz.ntmps79
  go_upto_region 1 with (fail)
  generalize hV : w.alloc _ = W0 at G GB ⊢
  clear hV
  have R0 : Hid (W0.rangeAt w.heap.size 0 (K.map bv)) := by
    intro j v hv
    rw [← HKT.out] at hv l1
    have hj := (List.getElem?_eq_some_iff.1 hv).1
    rw [List.length_map, l1.out] at hj
    rw [Nat.zero_add, cell_of_heap G.out, ← hv, List.map_take, List.getElem?_take_of_lt hj]
  go_wp2_with (first
    | (refine wpList_ld rfl 64 (.tmp 5) rfl (run_loadAt_mid _ w.heap.size 0 64 (K.map bv) _ R0.out arr16P rfl (i16p K l1.out)) ?_))
  refine (CA.out W0).mono ?_
  rintro e w1 ⟨rfl, hb⟩
  have G1 := Lib.hid ((hb.block _ (lt_of_heap G.out)).trans G.out)
  have GB1 : Hid (Below w.heap.size w w1) := GB.out.trans (hb.mono GB.out.size)
  clear hb G GB R0 ar1
  go_upto_region 2 with (first
    | (refine wpList_st rfl 64 (.tmp 3) (.tmp 7) rfl (store_arr (cs := X.map bv) (i16p X l3.out) (bv_one _) (heap_alloc_new' w1 _) (by rw [List.length_map, l3.out]; exact hlz.out)) ?_
       generalize hV : World.setRow _ _ _ = W2
       have M1 := Lib.hid (heap_of_setRow hV (heap_alloc_new' w1 _))
       have MB := Lib.hid (((Below.refl w1.heap.size w1).alloc (Nat.le_refl _) _).trans (below_of_setRow hV (Nat.le_refl w1.heap.size) (by simp)))
       clear hV)
    | fail)
  have G2 := Lib.hid ((MB.out.block _ (lt_of_heap G1.out)).trans G1.out)
  have GB2 : Hid (Below w.heap.size w W2) := GB1.out.trans (MB.out.mono GB1.out.size)
  clear MB G1 GB1
  generalize w1.heap.size = g1 at M1 ⊢
  have SX : Hid (Sl W2 (some ⟨g1, 0, none⟩) 16 X) := sl_row l3.out (by omega) M1.out
  have SY : Hid (Sl W2 (some ⟨w.heap.size, 16, none⟩) 16 (key.drop 16)) := by
    have h := row_sub G2.out 16 16 (lt_of_heap G2.out)
    rw [List.take_of_length_le (by rw [l2.out]; omega)] at h
    exact ⟨by rw [l2.out]; omega, by decide, h⟩
  have ar2 := arr_all arr16P s8 ⟨g1, 0, none⟩
  have ar3 := arr_from arr32P s8 ⟨w.heap.size, 0, none⟩ .i64 16 (by omega) (by omega)
  rw [show (16 : Int).toNat = 16 from rfl, show cutA ⟨w.heap.size, 0, none⟩ 32 16 = ⟨w.heap.size, 16, none⟩ from by unfold cutA; rw [if_neg (by omega), Addr.add_mid]] at ar3
  have HX : Hid (Ext W2 W2.drew) := (Below.refl _ _).drew
  refine reg_start (by kernel_rfl) ?_
  try simp only [Act.put, List.setIfInBounds_toArray, List.set_cons_zero, List.set_cons_succ]
  refine reg_take (v := ?_) 0 (some 8) rfl rfl (by kernel_rfl) (by kernel_rfl) (by kernel_rfl) (fun _ _ _ h => h) (by rfl) (fun W hW => ?_) ?_
  rotate_left
  · (go_simp; try rfl)
  simp only [Act.put, List.setIfInBounds_toArray, List.set_cons_zero, List.set_cons_succ]
  refine reg_take (v := ?_) 2 (some 10) rfl rfl (by kernel_rfl) (by kernel_rfl) (by kernel_rfl) (fun _ _ _ h => h) (by rfl) (fun W hW => ?_) ?_
  rotate_left
  · (go_simp; try rfl)
  simp only [Act.put, List.setIfInBounds_toArray, List.set_cons_zero, List.set_cons_succ]
  refine reg_eff 1 rfl (by kernel_rfl) (fun K hK => ?_)
  go_simp
  refine (V1.out _ _ (SX.out.below HX.out)).mono ?_
  rintro e w3 ⟨rfl, hE⟩
  refine hK.out _ _ hE ?_
  have HX := Lib.hid (Ext.trans HX.out hE)
  clear hE hK K
  try simp only [Act.put, List.setIfInBounds_toArray, List.set_cons_zero, List.set_cons_succ]
  refine reg_eff 3 rfl (by kernel_rfl) (fun K hK => ?_)
  go_simp
  refine (V2.out _ _ (SY.out.below HX.out)).mono ?_
  rintro e w4 ⟨rfl, hE⟩
  refine hK.out _ _ hE ?_
  have HX := Lib.hid (Ext.trans HX.out hE)
  clear hE hK K
  try simp only [Act.put, List.setIfInBounds_toArray, List.set_cons_zero, List.set_cons_succ]
  refine reg_take (v := ?_) 4 (some 12) rfl rfl (by kernel_rfl) (by kernel_rfl) (by kernel_rfl) (fun _ _ _ h => h) (by rfl) (fun W hW => ?_) ?_
  rotate_left
  · exact exec_bld rfl (by simp only [List.map_toArray, List.map_cons, List.map_nil]; exact BD.out W)
  simp only [Act.put, List.setIfInBounds_toArray, List.set_cons_zero, List.set_cons_succ]
  refine reg_eff 5 rfl (by kernel_rfl) (fun K hK => ?_)
  go_simp
  have hE : Ext w4 (w4.alloc (.cells PC.toArray 157)) := (Below.refl _ _).alloc (Nat.le_refl _) _
  have GN := Lib.hid (heap_alloc_new' w4 (.cells PC.toArray 157))
  have HS4 : Hid (w.heap.size ≤ w4.heap.size) := Nat.le_trans GB2.out.size HX.out.size
  refine hK.out _ _ hE ?_
  have HX := Lib.hid (Ext.trans HX.out hE)
  clear hE hK K
  try simp only [Act.put, List.setIfInBounds_toArray, List.set_cons_zero, List.set_cons_succ]
  refine reg_take (v := ?_) 6 (some 2) rfl rfl (by kernel_rfl) (by kernel_rfl) (by kernel_rfl) (fun _ _ _ h => h) (by rfl) (fun W hW => ?_) ?_
  rotate_left
  · (go_simp; try rfl)
  simp only [Act.put, List.setIfInBounds_toArray, List.set_cons_zero, List.set_cons_succ]
  refine reg_done (by kernel_rfl) ?_
  go_wp2
  go_ret
  exact ⟨_, HS4.out, rfl, HPA.out _ _ GN.out, GB2.out.step HX.out⟩
end Go.Proofs.YtimgggpojbpfkaaGreatDoor

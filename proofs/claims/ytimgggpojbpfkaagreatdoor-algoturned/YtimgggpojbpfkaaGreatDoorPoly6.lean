/- poly: step, whole. -/
import Derived.Test.YtimgggpojbpfkaaGreatDoorPoly5
import Derived.Test.YtimgggpojbpfkaaGreatDoorSha7b
namespace Go.Proofs.YtimgggpojbpfkaaGreatDoor
open Go.RowKit
set_option maxRecDepth 100000
set_option linter.unusedVariables false
set_option linter.unusedSimpArgs false
theorem heap_eq' {W W0 : World} (h : W = W0) {g : Nat} {o : Obj} (hc : W0.heap[g]? = some o) : W.heap[g]? = some o := by rw [h]; exact hc
theorem heap4 (w : World) (o1 o2 o3 o4 : Obj) : ∀ W, (((w.alloc o1).alloc o2).alloc o3).alloc o4 = W → W.heap[w.heap.size]? = some o1 ∧ W.heap[w.heap.size + 1]? = some o2 ∧ W.heap[w.heap.size + 2]? = some o3 ∧ W.heap[w.heap.size + 3]? = some o4 ∧ Below w.heap.size w W := by
  rintro W rfl
  have h := heap3 w o1 o2 o3
  generalize hV : ((w.alloc _).alloc _).alloc _ = W at h ⊢
  have hs : W.heap.size = w.heap.size + 3 := by rw [← hV]; simp
  have ho := fun k hk => Below.heap_alloc W o4 k hk
  refine ⟨(ho _ (by omega)).trans h.1, (ho _ (by omega)).trans h.2.1, (ho _ (by omega)).trans h.2.2.1, ?_, h.2.2.2.alloc h.2.2.2.size _⟩
  rw [← hs]; exact heap_alloc_new' W _
/-- the sum so far, gone on by a part -/
def stepN (r h : Nat) (part : List UInt8) : Nat := foldN ((h + littleN (part ++ [1])) * r)
theorem foldN_lt (n : Nat) (hn : n < 115792089237316195423570985008687907853269984665640564039457584007913129639936) : foldN n < 2722258935367507707706996859454145691648 := by unfold foldN; omega
theorem mark_lt (part : List UInt8) (h : part.length ≤ 16) : littleN (part ++ [1]) < 680564733841876926926749214863536422912 := by
  rw [littleN_snoc]
  have h1 := littleN_lt part
  have h2 : 256 ^ part.length ≤ 256 ^ 16 := Nat.pow_le_pow_right (by decide) h
  have h3 : (256 : Nat) ^ 16 = 340282366920938463463374607431768211456 := by decide
  rw [h3] at h2
  have h4 : (1 : UInt8).toNat = 1 := rfl
  rw [h4, Nat.mul_one]
  omega
theorem step_lt (r h : Nat) (part : List UInt8) (hp : part.length ≤ 16) (hh : h < 2722258935367507707706996859454145691648) (hr : r < 21267647932558653966460912964485513216) :
    h + littleN (part ++ [1]) < 6277101735386680763835789423207666416102355444464034512896 ∧ (h + littleN (part ++ [1])) * r < 115792089237316195423570985008687907853269984665640564039457584007913129639936 := by
  have h1 := mark_lt part hp
  refine ⟨by omega, ?_⟩
  have h2 : (h + littleN (part ++ [1])) * r ≤ 3402823669209384634633746074317682114560 * 21267647932558653966460912964485513216 := Nat.mul_le_mul (by omega) (by omega)
  exact Nat.lt_of_le_of_lt h2 (by decide)
theorem stepN_lt (r h : Nat) (part : List UInt8) (hp : part.length ≤ 16) (hh : h < 2722258935367507707706996859454145691648) (hr : r < 21267647932558653966460912964485513216) : stepN r h part < 2722258935367507707706996859454145691648 :=
  foldN_lt _ (step_lt r h part hp hh hr).2
theorem arr17 : Tryz.prog.underlying 175 = some (.array 17 5) := Tryz.underlying175
def zeros17 : List Value := List.replicate 17 (Value.int .u8 0)
set_option maxHeartbeats 4000000 in
theorem step_any (h r : Nat) (A : Option Addr) (m c : Nat) (part : List UInt8) (w : World) (hm : part.length = m) (hm16 : m ≤ 16) (hh : h < 2722258935367507707706996859454145691648) (hr : r < 21267647932558653966460912964485513216) (hS : Sl w A c part) :
    Calls Tryz.prog 121 #[.agg ((numL h).map uv).toArray, .agg ((numL r).map uv).toArray, .slice A m c] w fun e w' => e = .returned (.agg ((numL (stepN r h part)).map uv).toArray) ∧ Below w.heap.size w w' := by
  have hz : ∀ W, (zeroValue 154).run Tryz.prog W = .ok (.agg zeros3.toArray) W := fun W => by kernel_rfl
  have hz17 : ∀ W, (zeroValue 175).run Tryz.prog W = .ok (.agg zeros17.toArray) W := fun W => by kernel_rfl
  have hlz : Hid (zeros3.length = 3) := rfl
  have H17 : Hid (zeros17 = List.replicate 17 (Value.int .u8 0)) := rfl
  have hsl := step_lt r h part (by omega) hh hr
  obtain ⟨mk, hmk⟩ : ∃ mk, mk = part ++ [1] ++ List.replicate (16 - m) (0 : UInt8) := ⟨_, rfl⟩
  have lmk : Hid (mk.length = 17) := by show _ = _; rw [hmk]; simp; omega
  have hvm : littleN mk = littleN (part ++ [1]) := by rw [hmk, littleN_zeros]
  have VA := Lib.hid (fun g W (hk : W.heap[g]? = some (.cells (mk.map bv).toArray 175 (0, 0))) => value_any (some ⟨g, 0, none⟩) 17 17 mk W lmk.out (by omega) (by omega) (sl_row lmk.out (by omega) hk))
  rw [hvm] at VA
  have PA := Lib.hid (fun W => plus_any h (littleN (part ++ [1])) W)
  have TA := Lib.hid (fun W => times_any (h + littleN (part ++ [1])) r W hsl.1 (by omega) hsl.2)
  have hset : Hid ((part.map bv ++ List.replicate (17 - m) (Value.int .u8 0)).set m (.int .u8 1) = mk.map bv) := by
    show _ = _
    rw [hmk, show 17 - m = (16 - m) + 1 by omega, set_mid _ _ _ _ _ (by rw [List.length_map, hm])]
    simp [bv]
  have hst : stepN r h part = foldN ((h + littleN (part ++ [1])) * r) := rfl
  rw [hst]
  have LS : Hid ((numL (foldN ((h + littleN (part ++ [1])) * r))).length = 3) := rfl
  have LH : Hid ((numL h).length = 3) := rfl
  have LR : Hid ((numL r).length = 3) := rfl
  generalize numL (foldN ((h + littleN (part ++ [1])) * r)) = NS at TA LS ⊢
  generalize numL (h + littleN (part ++ [1])) = NQ at TA PA
  generalize numL (littleN (part ++ [1])) = NV at PA VA
  generalize numL h = NH at PA LH ⊢
  generalize numL r = NR at TA LR ⊢
  generalize zeros3 = Z3 at hz hlz
  generalize zeros17 = Z17 at hz17 H17
  have HM := Lib.hid hm; have HS := Lib.hid hS
  have e17 : (m : Int) < 17 := by omega
  have ar := arr_all arr17 s8 ⟨w.heap.size + 3, 0, none⟩
  have G := Lib.hid (heap4 w (.cells (NH.map uv).toArray 154) (.cells (NR.map uv).toArray 154) (.cells Z3.toArray 154) (.cells Z17.toArray 175) _ rfl)
  clear hm hS hst hsl hvm hmk hh hr
  go_enter Tryz.func121, Tryz.ntmps121
  go_upto_region 2 with (fail)
  generalize hV : (((w.alloc _).alloc _).alloc _).alloc _ = W0 at G ⊢
  clear hV hz hz17
  have S0 := Lib.hid (HS.out.below G.out.2.2.2.2)
  obtain ⟨w2, hrun, hblk, hsz, hgr⟩ := copy_run uT s8 (sT := 22) 3 W0 (w.heap.size + 3) 0 Z17 175 G.out.2.2.2.1 (some ⟨w.heap.size + 3, 0, none⟩) A 17 17 m c W0.heap.size (part.map bv) (by rw [List.length_map, HM.out]; omega) (fun _ => rfl) S0.out.2.2 (by rw [H17.out]; simp [HM.out]; omega) (bv_one _)
  have hsp : splice Z17 0 (part.map bv) = part.map bv ++ List.replicate (17 - m) (Value.int .u8 0) := by
    have := splice_first (Value.int .u8 0) m (17 - m) (part.map bv) (by rw [List.length_map, HM.out])
    rw [show m + (17 - m) = 17 by omega] at this
    rw [H17.out]; exact this
  rw [hsp] at hblk
  have HRUN := Lib.hid hrun
  have K7 := Lib.hid hblk
  have K0 := Lib.hid ((hgr.block _ (lt_of_heap G.out.1) (by simp)).trans G.out.1)
  have K1 := Lib.hid ((hgr.block _ (lt_of_heap G.out.2.1) (by simp)).trans G.out.2.1)
  have K2 := Lib.hid ((hgr.block _ (lt_of_heap G.out.2.2.1) (by simp)).trans G.out.2.2.1)
  have KB : Hid (Below w.heap.size w w2) := G.out.2.2.2.2.trans (grown_below hgr (by omega) G.out.2.2.2.2.size)
  have c7 : w2.cell? ⟨w.heap.size + 3, m, none⟩ = some (.int .u8 0) := by
    rw [cell_of_heap K7.out, List.getElem?_append_right (by rw [List.length_map, HM.out]; exact Nat.le_refl _), List.length_map, HM.out]
    rw [Nat.sub_self, List.getElem?_replicate, if_pos (by omega)]
  have fz := frozen_of_heap K7.out m
  clear hrun hblk hsz hgr hsp G S0 H17
  go_upto_region 4 with (first
    | (refine wpList_cpy rfl (.tmp 8) (.tmp 9) 22 22 rfl HRUN.out ?_)
    | fail)
  generalize hV : w2.setCell _ _ = W3
  have M7 : Hid (W3.heap[w.heap.size + 3]? = some (.cells (mk.map bv).toArray 175 (0, 0))) := by
    have := heap_set K7.out m (Value.int .u8 1)
    rw [hset.out] at this
    rw [← hV]; exact this
  have hoth : ∀ k, k ≠ w.heap.size + 3 → W3.heap[k]? = w2.heap[k]? := by intro k hk; rw [← hV]; exact Below.heap_setCell w2 _ _ _ hk
  have M0 := Lib.hid ((hoth _ (by omega)).trans K0.out)
  have M1 := Lib.hid ((hoth _ (by omega)).trans K1.out)
  have M2 := Lib.hid ((hoth _ (by omega)).trans K2.out)
  have MB : Hid (Below w.heap.size w W3) := by rw [← hV]; exact KB.out.setCell (by show w.heap.size ≤ w.heap.size + 1 + 1 + 1; omega) _
  clear hV hoth K0 K1 K2 K7 KB c7 fz HRUN hset
  have HX : Hid (Grow (w.heap.size + 2) W3 W3.drew) := Grow.drew _ _
  have hne0 : Hid (w.heap.size ≠ w.heap.size + 2) := by show _ ≠ _; omega
  have hne1 : Hid (w.heap.size + 1 ≠ w.heap.size + 2) := by show _ ≠ _; omega
  refine regS_start (Grow (w.heap.size + 2)) (by kernel_rfl) ?_
  try simp only [Act.put, List.setIfInBounds_toArray, List.set_cons_zero, List.set_cons_succ]
  refine regS_load 0 (some 14) (fun W hW => load_arr arr3 rfl (i3l NH LH.out) (hW.heap hne0.out (HX.out.heap hne0.out M0.out))) rfl rfl rfl rfl (by kernel_rfl) (by kernel_rfl) (by kernel_rfl) (fun _ _ _ h => h) (by rfl) ?_
  simp only [Act.put, List.setIfInBounds_toArray, List.set_cons_zero, List.set_cons_succ]
  refine regS_take (v := ?_) 1 (some 15) rfl rfl (by kernel_rfl) (by kernel_rfl) (by kernel_rfl) (fun _ _ _ h => h) (by rfl) (fun W hW => ?_) ?_
  rotate_left
  · (go_simp; try rfl)
  simp only [Act.put, List.setIfInBounds_toArray, List.set_cons_zero, List.set_cons_succ]
  refine regS_load 4 (some 18) (fun W hW => load_arr arr3 rfl (i3l NR LR.out) (hW.heap hne1.out (HX.out.heap hne1.out M1.out))) rfl rfl rfl rfl (by kernel_rfl) (by kernel_rfl) (by kernel_rfl) (fun _ _ _ h => h) (by rfl) ?_
  simp only [Act.put, List.setIfInBounds_toArray, List.set_cons_zero, List.set_cons_succ]
  refine regS_eff 2 rfl (by kernel_rfl) (fun K hK => ?_)
  go_simp
  refine (VA.out _ W3.drew M7.out).mono ?_
  rintro e w4 ⟨rfl, hb⟩
  have N4 := Lib.hid ((hb.block _ (lt_of_heap (w := W3.drew) M2.out)).trans M2.out)
  have hE := Grow.of_ext (g := w.heap.size + 2) hb
  clear hb
  refine hK.out _ _ hE ?_
  have HX := Lib.hid (Pre.trans HX.out hE)
  clear hE hK K
  try simp only [Act.put, List.setIfInBounds_toArray, List.set_cons_zero, List.set_cons_succ]
  refine regS_eff 3 rfl (by kernel_rfl) (fun K hK => ?_)
  go_simp
  refine (PA.out _).mono ?_
  rintro e w5 ⟨rfl, hb⟩
  have N5 := Lib.hid ((hb.block _ (lt_of_heap N4.out)).trans N4.out)
  have hE := Grow.of_ext (g := w.heap.size + 2) hb
  clear hb
  refine hK.out _ _ hE ?_
  have HX := Lib.hid (Pre.trans HX.out hE)
  clear hE hK K
  try simp only [Act.put, List.setIfInBounds_toArray, List.set_cons_zero, List.set_cons_succ]
  refine regS_eff 5 rfl (by kernel_rfl) (fun K hK => ?_)
  go_simp
  refine (TA.out _).mono ?_
  rintro e w6 ⟨rfl, hb⟩
  have N6 := Lib.hid ((hb.block _ (lt_of_heap N5.out)).trans N5.out)
  have hE := Grow.of_ext (g := w.heap.size + 2) hb
  clear hb
  refine hK.out _ _ hE ?_
  have HX := Lib.hid (Pre.trans HX.out hE)
  clear hE hK K
  try simp only [Act.put, List.setIfInBounds_toArray, List.set_cons_zero, List.set_cons_succ]
  refine regS_eff 6 rfl (by kernel_rfl) (fun K hK => ?_)
  refine step_st1 rfl 154 (.tmp 6) (.tmp 19) rfl (store_arr (cs := NS.map uv) (i3l NS LS.out) (uv_one _) N6.out (by rw [List.length_map, LS.out]; exact hlz.out)) ?_
  generalize hV : World.setRow _ _ _ = W7
  have hres := Lib.hid (heap_of_setRow hV N6.out)
  have hE : Grow (w.heap.size + 2) w6 W7 := by rw [← hV]; exact Grow.setRow _ _ _
  clear hV
  refine hK.out _ _ hE ?_
  have HX := Lib.hid (Pre.trans HX.out hE)
  clear hE hK K
  try simp only [Act.put, List.setIfInBounds_toArray, List.set_cons_zero, List.set_cons_succ]
  refine regS_done (by kernel_rfl) ?_
  go_wp2
  exact bodyPost_ret (results_cell_row (P := Tryz.prog) rfl _ _ (w.heap.size + 2) 154 (NS.map uv).toArray (0, 0) _ rfl hres.out arr3 rfl (by rw [List.size_toArray]; exact i3l NS LS.out)) rfl ⟨rfl, MB.out.trans (HX.out.below (by omega) MB.out.size)⟩
/-- the sum so far, gone on by the first j whole parts -/
def partsN (r h : Nat) (bs : List UInt8) : Nat → Nat
  | 0 => h
  | j + 1 => stepN r (partsN r h bs j) ((bs.drop (16 * j)).take 16)
theorem partsN_lt (r h : Nat) (bs : List UInt8) (j : Nat) (hh : h < 2722258935367507707706996859454145691648) (hr : r < 21267647932558653966460912964485513216) : partsN r h bs j < 2722258935367507707706996859454145691648 := by
  induction j with
  | zero => exact hh
  | succ j ih => exact stepN_lt r _ _ (by rw [List.length_take]; omega) ih hr
set_option maxHeartbeats 4000000 in
theorem pwhole_any (h r : Nat) (A : Option Addr) (n c : Nat) (bs : List UInt8) (w : World) (hl : bs.length = n) (hh : h < 2722258935367507707706996859454145691648) (hr : r < 21267647932558653966460912964485513216) (hS : Sl w A c bs) :
    Calls Tryz.prog 122 #[.agg ((numL h).map uv).toArray, .agg ((numL r).map uv).toArray, .slice A n c] w fun e w' => ∃ A' c', e = .returned (.tuple #[.agg ((numL (partsN r h bs (n / 16))).map uv).toArray, .slice A' (n % 16) c']) ∧ Sl w A' c' (bs.drop (16 * (n / 16))) ∧ (∀ g, ApartG A g → ApartG A' g) ∧ Below w.heap.size w w' := by
  have hz : ∀ W, (zeroValue 154).run Tryz.prog W = .ok (.agg zeros3.toArray) W := fun W => by kernel_rfl
  have hlz : Hid (zeros3.length = 3) := rfl
  have HH := Lib.hid hh; have HL := Lib.hid hl; have HS := Lib.hid hS; have HR := Lib.hid hr
  have PB := Lib.hid (fun j => partsN_lt r h bs j hh hr)
  have LR : Hid ((numL r).length = 3) := rfl
  have SA := Lib.hid (fun x A m c part W hm hm16 hx hS => step_any x r A m c part W hm hm16 hx HR.out hS)
  generalize numL r = NR at SA LR ⊢
  generalize zeros3 = Z3 at hz hlz
  obtain ⟨NH, HNH⟩ : ∃ NH, Hid (numL h = NH) := ⟨_, rfl⟩
  rw [HNH.out]
  clear hh hl hS hr
  have G := Lib.hid (heap3 w (.cells (NH.map uv).toArray 154) (.cells (NR.map uv).toArray 154) (.cells Z3.toArray 154))
  go_enter Tryz.func122, Tryz.ntmps122
  go_wp2
  refine wp_scope_label 0 (fun a' w' => ∃ (j : Nat) (A' : Option Addr) (m c' : Nat) (u8 u9 u10 u11 u12 u13 u14 u15 u16 u17 u18 u19 : Value),
      a' = { tmps := #[.agg (NH.map uv).toArray, .agg (NR.map uv).toArray, .slice A' m c', .pointer (some ⟨w.heap.size, 0, none⟩), .pointer (some ⟨w.heap.size + 1, 0, none⟩), undef, .pointer (some ⟨w.heap.size + 1 + 1, 0, none⟩), .slice none 0 0, u8, u9, u10, u11, u12, u13, u14, u15, u16, u17, u18, u19], defers := [] } ∧
      Hid (16 * j + m = n) ∧ Hid (Sl w A' c' (bs.drop (16 * j))) ∧ Hid (Below w.heap.size w w') ∧ Hid (w'.heap[w.heap.size]? = some (.cells ((numL (partsN r h bs j)).map uv).toArray 154 (0, 0))) ∧
      Hid (w'.heap[w.heap.size + 1]? = some (.cells (NR.map uv).toArray 154 (0, 0))) ∧ Hid (w'.heap[w.heap.size + 2]? = some (.cells Z3.toArray 154 (0, 0))) ∧ Hid (∀ g, ApartG A g → ApartG A' g)) (fun a' _ => (sliceLen (a'.tmps.getD 2 undef))) rfl ?first ?pass
  case first =>
    refine ⟨0, A, n, c, _, _, _, _, _, _, _, _, _, _, _, _, rfl, ?_, HS, ?_, ?_, ?_, ?_, fun g h => h⟩
    · show _ = _; omega
    · exact G.out.2.2.2
    · show _ = _; rw [show partsN r h bs 0 = h from rfl, HNH.out]; exact G.out.1
    · exact G.out.2.1
    · exact G.out.2.2.1
  case pass =>
    clear G
    rintro a' w' ⟨j, A', m, c', u8, u9, u10, u11, u12, u13, u14, u15, u16, u17, u18, u19, rfl, HJ, HA, HB, H0, H1, H2, HAP⟩
    have hpl := PB.out j
    have hdl : (bs.drop (16 * j)).length = m := by have h1 := HL.out; have h2 := HJ.out; rw [List.length_drop]; omega
    by_cases hm : 16 ≤ m
    · have e1 : (16 : Int) ≤ (m : Int) := by omega
      have hcut := cut_from uT s8 A' m c' .i64 16 (by omega) e1
      have hto := cut_to uT s8 A' m c' .i64 16 (by omega) (by have := HA.out.1; omega)
      rw [show (16 : Int).toNat = 16 from rfl] at hcut hto
      have LP : Hid ((numL (partsN r h bs j)).length = 3) := rfl
      have LN : Hid ((numL (partsN r h bs (j + 1))).length = 3) := rfl
      have hx16 : ((bs.drop (16 * j)).take 16).length = 16 := by rw [List.length_take, hdl]; omega
      have SJ := Lib.hid (fun W hS => SA.out (partsN r h bs j) A' 16 c' ((bs.drop (16 * j)).take 16) W hx16 (by omega) hpl hS)
      have HPN : Hid (stepN r (partsN r h bs j) ((bs.drop (16 * j)).take 16) = partsN r h bs (j + 1)) := rfl
      rw [HPN.out] at SJ
      have HXA : Hid (Sl w A' c' ((bs.drop (16 * j)).take 16)) := sl_take' HA.out
      generalize (bs.drop (16 * j)).take 16 = X at SJ HXA
      generalize numL (partsN r h bs j) = NP at SJ LP H0
      obtain ⟨NN, HNN⟩ : ∃ NN, Hid (numL (partsN r h bs (j + 1)) = NN) := ⟨_, rfl⟩
      rw [HNN.out] at SJ LN
      have hc16 : (16 : Int) ≤ (c' : Int) := by have := HA.out.1; omega
      clear hdl hx16 hpl HPN
      go_wp2_with fail
      have HS' : Hid (w'.drew = w'.drew) := rfl
      have D0 : Hid (w'.drew.heap[w.heap.size]? = some (.cells (NP.map uv).toArray 154 (0, 0))) := H0.out
      have D1 : Hid (w'.drew.heap[w.heap.size + 1]? = some (.cells (NR.map uv).toArray 154 (0, 0))) := H1.out
      have D2 : Hid (w'.drew.heap[w.heap.size + 2]? = some (.cells Z3.toArray 154 (0, 0))) := H2.out
      have DB : Hid (Below w.heap.size w w'.drew) := HB.out.drew
      have HS := HS'
      refine regK_start (4) (fun W => W = w'.drew) (by kernel_rfl) ?_
      try simp only [Act.put, List.setIfInBounds_toArray, List.set_cons_zero, List.set_cons_succ]
      refine regK_load 0 (some 11) (fun W hW => load_arr arr3 rfl (i3l NP LP.out) (heap_eq' hW D0.out)) rfl rfl rfl rfl (by kernel_rfl) (by kernel_rfl) (by kernel_rfl) (fun _ _ _ h => h) (by rfl) (by kernel_rfl) HS.out ?_
      simp only [Act.put, List.setIfInBounds_toArray, List.set_cons_zero, List.set_cons_succ]
      refine regK_load 1 (some 12) (fun W hW => load_arr arr3 rfl (i3l NR LR.out) (heap_eq' hW D1.out)) rfl rfl rfl rfl (by kernel_rfl) (by kernel_rfl) (by kernel_rfl) (fun _ _ _ h => h) (by rfl) (by kernel_rfl) HS.out ?_
      simp only [Act.put, List.setIfInBounds_toArray, List.set_cons_zero, List.set_cons_succ]
      refine regK_take (v := ?_) 2 (some 13) rfl rfl (by kernel_rfl) (by kernel_rfl) (by kernel_rfl) (fun _ _ _ h => h) (by rfl) (by kernel_rfl) HS.out (fun W => ?_) ?_
      rotate_left
      · (go_simp; try rfl)
      simp only [Act.put, List.setIfInBounds_toArray, List.set_cons_zero, List.set_cons_succ]
      refine regK_take (v := ?_) 3 (some 14) rfl rfl (by kernel_rfl) (by kernel_rfl) (by kernel_rfl) (fun _ _ _ h => h) (by rfl) (by kernel_rfl) HS.out (fun W => ?_) ?_
      rotate_left
      · (go_simp; try rfl)
      simp only [Act.put, List.setIfInBounds_toArray, List.set_cons_zero, List.set_cons_succ]
      refine regK_take (v := ?_) 5 (some 16) rfl rfl (by kernel_rfl) (by kernel_rfl) (by kernel_rfl) (fun _ _ _ h => h) (by rfl) (by kernel_rfl) HS.out (fun W => ?_) ?_
      rotate_left
      · (go_simp; try rfl)
      simp only [Act.put, List.setIfInBounds_toArray, List.set_cons_zero, List.set_cons_succ]
      refine regK_take (v := ?_) 6 (some 17) rfl rfl (by kernel_rfl) (by kernel_rfl) (by kernel_rfl) (fun _ _ _ h => h) (by rfl) (by kernel_rfl) HS.out (fun W => ?_) ?_
      rotate_left
      · (go_simp; try rfl)
      simp only [Act.put, List.setIfInBounds_toArray, List.set_cons_zero, List.set_cons_succ]
      refine regK_bar 4 rfl (by kernel_rfl) (by kernel_rfl) (fun K hK => ?_)
      go_simp
      refine (SJ.out _ (HXA.out.below DB.out)).mono ?_
      rintro e w4 ⟨rfl, hb⟩
      have L0 := Lib.hid ((hb.block _ (lt_of_heap D0.out)).trans D0.out)
      have L1 := Lib.hid ((hb.block _ (lt_of_heap D1.out)).trans D1.out)
      have L2 := Lib.hid ((hb.block _ (lt_of_heap D2.out)).trans D2.out)
      have LB := Lib.hid (DB.out.step hb)
      clear hb
      refine hK.out _ _ trivial ?_
      clear hK K
      try simp only [Act.put, List.setIfInBounds_toArray, List.set_cons_zero, List.set_cons_succ]
      refine regS_eff 7 rfl (by kernel_rfl) (fun K hK => ?_)
      refine step_st1 rfl 154 (.tmp 3) (.tmp 15) rfl (store_arr (cs := NN.map uv) (i3l NN LN.out) (uv_one _) L0.out (by rw [List.length_map, List.length_map, LP.out, LN.out])) ?_
      generalize hV : World.setRow _ _ _ = W5
      have M0 := Lib.hid (heap_of_setRow hV L0.out)
      have M1 := Lib.hid (heap_of_other hV (by omega) L1.out)
      have M2 := Lib.hid (heap_of_other hV (by omega) L2.out)
      have MB := Lib.hid (LB.out.trans (below_of_setRow hV (Nat.le_refl _) LB.out.size))
      clear hV
      refine hK.out _ _ trivial ?_
      clear hK K
      try simp only [Act.put, List.setIfInBounds_toArray, List.set_cons_zero, List.set_cons_succ]
      refine regS_take (v := ?_) 8 (some 2) rfl rfl (by kernel_rfl) (by kernel_rfl) (by kernel_rfl) (fun _ _ _ h => h) (by rfl) (fun W hW => ?_) ?_
      rotate_left
      · (go_simp; try rfl)
      simp only [Act.put, List.setIfInBounds_toArray, List.set_cons_zero, List.set_cons_succ]
      refine regS_done (by kernel_rfl) ?_
      go_wp2
      go_step3
      rw [← HNN.out] at M0
      have hA := sl_cut HA.out (k := 16) (by have h1 := HL.out; have h2 := HJ.out; rw [List.length_drop]; omega)
      rw [List.drop_drop] at hA
      refine ⟨rfl, ⟨j + 1, cutS A' c' 16, m - 16, c' - 16, _, _, _, _, _, _, _, _, _, _, _, _, rfl, ?_, ?_, MB, M0, M1, M2, fun g hg => apart_cut (HAP.out g hg)⟩, ?_⟩
      · have h2 := HJ.out; show _ = _; omega
      · exact hA
      · show m - 16 < m; omega
    · have hq : n / 16 = j ∧ n % 16 = m := by have h2 := HJ.out; omega
      have HQ1 := Lib.hid hq.1; have HQ2 := Lib.hid hq.2
      clear hq hdl hpl
      have e1 : ¬ ((16 : Int) ≤ (m : Int)) := by omega
      have LP : Hid ((numL (partsN r h bs j)).length = 3) := rfl
      obtain ⟨Y, HY⟩ : ∃ Y, Hid (numL (partsN r h bs j) = Y) := ⟨_, rfl⟩
      rw [HY.out] at H0 LP
      go_wp2_with (first
        | (refine wpList_ld rfl 154 (.tmp 3) rfl (load_arr arr3 rfl (i3l Y LP.out) H0.out) ?_)
        | (refine wpList_st rfl 154 (.tmp 6) (.tmp 18) rfl (store_arr (cs := Y.map uv) (i3l Y LP.out) (uv_one _) H2.out (by rw [List.length_map, LP.out]; exact hlz.out)) ?_))
      have hres := setRow_heap w' (w.heap.size + 2) _ (Y.map uv).toArray 154 _ H2.out
      simp only [Exit.jump]
      refine bodyPost_ret (results_row_tmp (P := Tryz.prog) rfl _ _ (w.heap.size + 2) 154 (Y.map uv).toArray (0, 0) _ rfl hres arr3 rfl (by rw [List.size_toArray]; exact i3l Y LP.out)) rfl ?_
      rw [HQ1.out, HQ2.out, HY.out]
      exact ⟨A', c', rfl, HA.out, HAP.out, HB.out.trans (grown_below (grown_setRow _ _ _) (by omega) HB.out.size)⟩
end Go.Proofs.YtimgggpojbpfkaaGreatDoor

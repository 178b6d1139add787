/- Laws of layer 7: neither a key nor bytes are kept. -/
import Derived.Test.YtdmdjgmkhoahmaaDoorHma5
namespace Go.Proofs.YtdmdjgmkhoahmaaDoor
open Go.RowKit
set_option linter.unusedVariables false
set_option linter.unusedSimpArgs false
/-- a row of bytes of one's own in a block from lo on, below hi: what they are is not said -/
def Live (W : World) (A : Option Addr) (n lo hi : Nat) : Prop := 0 < n → ∃ g L, A = some ⟨g, 0, none⟩ ∧ lo ≤ g ∧ g < hi ∧ W.heap[g]? = some (.cells L 5 (0, 0)) ∧ ∀ j, j < n → ∃ z : UInt8, L[j]? = some (bv z)
theorem Live.other {W W' : World} {A : Option Addr} {n lo hi : Nat} (h : Live W A n lo hi) (hb : ∀ g, lo ≤ g → g < hi → g < W.heap.size → W'.heap[g]? = W.heap[g]?) : Live W' A n lo hi := fun h0 => by
  obtain ⟨g, L, h1, h2, h3, h4, h5⟩ := h h0
  exact ⟨g, L, h1, h2, h3, (hb g h2 h3 (lt_of_heap h4)).trans h4, h5⟩
theorem Live.ext {W W' : World} {A : Option Addr} {n lo hi : Nat} (h : Live W A n lo hi) (hb : Below W.heap.size W W') : Live W' A n lo hi := h.other fun g _ _ hg => hb.block g hg
theorem Live.gr {W W' : World} {A : Option Addr} {n lo hi g : Nat} (h : Live W A n lo hi) (hb : W.grownBy W' (some g)) (hg : g < lo ∨ hi ≤ g) : Live W' A n lo hi := h.other fun k h1 h2 hk => hb.block k hk (fun e => by injection e with e; omega)
theorem Live.load {W : World} {A : Option Addr} {n lo hi i : Nat} (h : Live W A n lo hi) (hi' : i < n) : ∃ g, ∃ z : UInt8, A = some ⟨g, 0, none⟩ ∧ lo ≤ g ∧ g < hi ∧ W.cell? ⟨g, i, none⟩ = some (.int .u8 (z.toNat : Int)) ∧ W.frozen? ⟨g, i, none⟩ = false ∧
    ∀ x : UInt8, Live (W.setCell ⟨g, i, none⟩ (.int .u8 (x.toNat : Int))) A n lo hi := by
  obtain ⟨g, L, h1, h2, h3, h4, h5⟩ := h (by omega)
  obtain ⟨z, hz⟩ := h5 i hi'
  refine ⟨g, z, h1, h2, h3, by simpa [World.cell?, h4, bv] using hz, by simp [World.frozen?, h4], fun x _ => ⟨g, L.setIfInBounds i (bv x), h1, h2, h3, by simp [World.setCell, Array.getElem?_modify, h4, bv], fun j hj => ?_⟩⟩
  by_cases hij : i = j
  · subst hij
    exact ⟨x, by simp [(Array.getElem?_eq_some_iff.1 hz).1]⟩
  · obtain ⟨z', hz'⟩ := h5 j hj
    exact ⟨z', by rw [Array.getElem?_setIfInBounds_ne hij]; exact hz'⟩
theorem live_own {W : World} {base n c hi : Nat} {A : Option Addr} {bs : List UInt8} (h : W.ownsRow base 5 1 (.slice A n c) n (bs.map bv)) (hh : W.heap.size ≤ hi) : Live W A n base hi := fun h0 => by
  obtain ⟨hl, ⟨_, h00⟩ | ⟨gc, cap, cur, he, hgc, hcur, hnc, hcm, hcs, htk⟩⟩ := h
  · omega
  injection he with he1 he2 he3
  rw [Nat.mul_one] at htk
  rw [List.length_map, Nat.mul_one] at hl
  refine ⟨gc, cur, he1, hgc, Nat.lt_of_lt_of_le (lt_of_heap hcur) hh, hcur, fun j hj => ?_⟩
  have h1 : (cur.toList.take n)[j]? = some (bv (bs.getD j 0)) := by
    rw [htk, List.getElem?_map]
    simp [List.getD, show j < bs.length by omega]
  rw [List.getElem?_take_of_lt hj] at h1
  exact ⟨_, by simpa using h1⟩
theorem live_hi {W : World} {A : Option Addr} {n lo hi hi' : Nat} (h : Live W A n lo hi) (hh : hi ≤ hi') : Live W A n lo hi' := fun h0 => by
  obtain ⟨g, L, h1, h2, h3, h4⟩ := h h0
  exact ⟨g, L, h1, h2, by omega, h4⟩
theorem xorB (y : Int) (by_ : UInt8) (hy : y = (by_.toNat : Int)) (z : UInt8) : ∃ x : UInt8, bits .xor .u8 (z.toNat : Int) y = (x.toNat : Int) := ⟨z ^^^ by_, by rw [hy]; exact xor8 z by_⟩
set_option maxHeartbeats 4000000 in
theorem hmacKept_walk (w : World) (A : Option Addr) (c : Nat) (key : List UInt8) (hS : Sl w A c key) (A' : Option Addr) (c' : Nat) (b : List UInt8) (hS' : Sl w A' c' b) (by_ : UInt8) (hR : Rnd w) :
    Calls Tryd.prog 6 #[.slice A key.length c, .slice A' b.length c', .int .u8 (by_.toNat : Int)] w fun e w' => e = .returned (.bool true) ∧ Below w.heap.size w w' := by
  obtain ⟨n, hn⟩ : ∃ n, key.length = n := ⟨_, rfl⟩
  obtain ⟨m, hm⟩ : ∃ m, b.length = m := ⟨_, rfl⟩
  rw [hn, hm]
  obtain ⟨y, hy⟩ : ∃ y : Int, y = (by_.toNat : Int) := ⟨_, rfl⟩
  rw [← hy]
  have HY := Lib.hid hy
  clear hy
  by_cases hbig : 100 < n
  · have e1 : (100 : Int) < (n : Int) := by omega
    clear hS hS' hR hn hm
    go_enter Tryd.func6, Tryd.ntmps6
    go_wp2
    go_ret
    exact ⟨rfl, Below.refl _ _⟩
  have e1 : ¬ ((100 : Int) < (n : Int)) := by omega
  by_cases hbig2 : 100 < m
  · have e2 : (100 : Int) < (m : Int) := by omega
    clear hS hS' hR hn hm
    go_enter Tryd.func6, Tryd.ntmps6
    go_wp2
    go_ret
    exact ⟨rfl, Below.refl _ _⟩
  have e2 : ¬ ((100 : Int) < (m : Int)) := by omega
  have HL := Lib.hid hn; have HM := Lib.hid hm; have HS := Lib.hid hS; have HS' := Lib.hid hS'; have HR := Lib.hid hR
  have hn100 : n ≤ 100 := by omega
  have hm100 : m ≤ 100 := by omega
  have HA := Lib.hid (fun W hS hS' hR => hmac_any A n c key A' m c' b W hn hm (by omega) hS hS' hR)
  have NA := Lib.hid (fun A c W hS hR => hnew_any A n c key W hn hS hR)
  have HBK := Lib.hid (hblockL_len key)
  have HZL := Lib.hid (hmacL_len key b)
  have HMD : Hid (hsumL (hblockL key) (twistL (hblockL key) 54 ++ b) = hmacL key b) := rfl
  have HTN := Lib.hid (begun_nil (hblockL key))
  have HTL := Lib.hid (twistL_len (hblockL key) 54 HBK.out)
  have hqq := eql_bytes (P := Tryd.prog) arr32B Tryd.underlying5 s8 (hmacL key b) (hmacL key b) (hmacL_len key b) (hmacL_len key b)
  rw [show decide (hmacL key b = hmacL key b) = true from by simp] at hqq
  generalize hmacL key b = Z at HA HZL HMD hqq
  generalize hblockL key = KB at NA HBK HMD HTN HTL
  generalize twistL KB 54 = T5 at HMD HTN HTL
  have HSA := Lib.hid (fun g W H hR => hsum_any g KB (T5 ++ b) W (by rw [List.length_append, HTL.out, HM.out]; omega) H hR)
  rw [HMD.out] at HSA
  have hi32 : Hid ((Tryd.prog.info? 23).map (·.size) = some (Z.map bv).length) := by show _ = _; rw [List.length_map, HZL.out]; exact i32B
  have hle : Hid ((List.replicate 32 (Value.int .u8 0)).length = (Z.map bv).length) := by show _ = _; rw [List.length_map, HZL.out]; rfl
  have hn31 : 0 + n ≤ 2147483647 := by omega
  have hm31 : 0 + m ≤ 2147483647 := by omega
  clear hn hm hS hS' hR hbig hbig2
  go_enter Tryd.func6, Tryd.ntmps6
  go_wp2_with fail
  refine (HA.out w HS.out HS'.out HR.out).mono ?_
  rintro e w1 ⟨rfl, hb1⟩
  have HB1 := Lib.hid hb1
  clear hb1
  go_upto_region 4 with (first
    | (refine wpList_st rfl 23 (.tmp 7) (.tmp 23) rfl (store_arr (cs := Z.map bv) (old := List.replicate 32 (Value.int .u8 0)) hi32.out (bv_one _) (heap_alloc_new' w1 _) hle.out) ?_
       generalize hV : World.setRow _ _ _ = W5
       have M5 := Lib.hid (heap_of_setRow hV (heap_alloc_new' w1 _))
       have B5 := Lib.hid (HB1.out.trans ((((Below.refl _ w1).alloc (Nat.le_refl _) _).trans (below_of_setRow hV (Nat.le_refl w1.heap.size) (by simp))).mono HB1.out.size))
       clear hV)
    | fail)
  have HG7 : Hid (w.heap.size ≤ w1.heap.size) := HB1.out.size
  generalize w1.heap.size = g7 at M5 HG7 ⊢
  clear HB1
  have S5 := Lib.hid (HS.out.below B5.out)
  have S5' := Lib.hid (HS'.out.below B5.out)
  have HG5 := Lib.hid (lt_of_heap M5.out)
  go_wp2_with (first
    | (at_builtin
       refine wpList_app8 rfl (.tmp 24) (.tmp 25) rfl W5.heap.size _ 0 [] rfl ?_ A n c W5.heap.size key rfl ?_ ?_ ?_ ?_ ?_
       · exact own_heap (g := W5.heap.size) (heap_alloc_new' W5 _) (Nat.le_refl _) rfl (Nat.zero_le _)
       · exact S5.out.2.2.below ((Below.refl _ _).alloc (Nat.le_refl _) _)
       · exact HL.out
       · exact hn31
       · simp
       rintro v6 w6 hown hgr
       have X6 := Lib.hid (((Below.refl W5.heap.size W5).alloc (Nat.le_refl _) _).grown hgr (by simp) (ge_own W5.heap.size 0))
       rw [List.nil_append, Nat.zero_add] at hown
       obtain ⟨A6, c6, rfl, hl6, h61, h62, hr6⟩ := own_read hown
       have S6 := Lib.hid (sl_mk hl6 h61 h62 hr6)
       have V6 := Lib.hid (live_own hown (Nat.le_refl _))
       have B6 := Lib.hid (B5.out.step X6.out)
       have M6 := Lib.hid ((X6.out.block _ HG5.out).trans M5.out)
       have S6' := Lib.hid (S5'.out.below X6.out)
       clear hgr hown hl6 h61 h62 hr6)
    | (at_builtin
       refine wpList_app8 rfl (.tmp 27) (.tmp 28) rfl w6.heap.size _ 0 [] rfl ?_ A' m c' w6.heap.size b rfl ?_ ?_ ?_ ?_ ?_
       · exact own_heap (g := w6.heap.size) (heap_alloc_new' w6 _) (Nat.le_refl _) rfl (Nat.zero_le _)
       · exact S6'.out.2.2.below ((Below.refl _ _).alloc (Nat.le_refl _) _)
       · exact HM.out
       · exact hm31
       · simp
       rintro v7 w7 hown hgr
       have X7 := Lib.hid (((Below.refl w6.heap.size w6).alloc (Nat.le_refl _) _).grown hgr (by simp) (ge_own w6.heap.size 0))
       rw [List.nil_append, Nat.zero_add] at hown
       obtain ⟨A7, c7, rfl, hl7, h71, h72, hr7⟩ := own_read hown
       have S7 := Lib.hid (sl_mk hl7 h71 h72 hr7)
       have V7 := Lib.hid (live_own hown (Nat.le_refl _))
       have V67 := Lib.hid (V6.out.ext X7.out)
       have B7 := Lib.hid (B6.out.step X7.out)
       have M7 := Lib.hid ((X7.out.block _ (lt_of_heap M6.out)).trans M6.out)
       have S67 := Lib.hid (S6.out.below X7.out)
       have R7 : Hid (Rnd w7) := HR.out.ext B7.out
       have Z67 : Hid (W5.heap.size ≤ w6.heap.size ∧ w6.heap.size ≤ w7.heap.size) := ⟨X6.out.size, X7.out.size⟩
       clear hgr hown hl7 h71 h72 hr7)
    | fail)
  clear S6 V6 B6 M6 S6' X6 X7 S5 S5' M5
  refine (NA.out A6 c6 w7 S67.out R7.out).mono ?_
  rintro e w8 ⟨g, rfl, hg, hH, hb8⟩
  have H8 := Lib.hid hH
  have B8 := Lib.hid (B7.out.step hb8)
  have M8 := Lib.hid ((hb8.block _ (lt_of_heap M7.out)).trans M7.out)
  have V68 := Lib.hid (V67.out.ext hb8)
  have V78 := Lib.hid (V7.out.ext hb8)
  have S78 := Lib.hid (S7.out.below hb8)
  have R8 : Hid (Rnd w8) := R7.out.ext hb8
  have HG8 : Hid (w7.heap.size ≤ g) := hg
  have HAP := Lib.hid (sl_apart S7.out HM.out hg)
  clear hH hb8 hg B7 M7 V67 V7 S7 R7 S67
  generalize w7.heap.size = q7 at Z67 V78 HG8
  generalize w6.heap.size = q6 at Z67 V68 V78
  generalize W5.heap.size = q5 at Z67 V68 HG5 B5
  have HG0 : Hid (g ≠ 0) := by have h1 := HG8.out; have h2 := Z67.out; have h3 := HG5.out; show _ ≠ 0; omega
  have HGW : Hid (w.heap.size ≤ g ∧ g7 < q5 ∧ q5 ≤ q6 ∧ q6 ≤ q7 ∧ q7 ≤ g ∧ w.heap.size ≤ g7) := by have h1 := HG8.out; have h2 := Z67.out; have h3 := HG5.out; have h4 := HG7.out; show _ ∧ _; omega
  go_wp2_with fail
  refine (hwrite_any g KB [] A7 m c7 b w8 HM.out (by simp; omega) HG0.out HAP.out S78.out H8.out R8.out).mono ?_
  rintro e w9 ⟨⟨v9, rfl⟩, hst, hgr⟩
  rw [HTN.out] at hst
  have H9 := Lib.hid hst
  have B9 : Hid (Below w.heap.size w w9) := B8.out.trans (grown_below hgr HGW.out.1 B8.out.size)
  have M9 := Lib.hid ((hgr.block _ (lt_of_heap M8.out) (fun e => by injection e with e; have := HGW.out; omega)).trans M8.out)
  have V69 := Lib.hid (V68.out.gr hgr (by have := HGW.out; omega))
  have V79 := Lib.hid (V78.out.gr hgr (by have := HGW.out; omega))
  clear hst hgr B8 M8 V68 V78 S78 R8 H8 HAP
  go_wp2_with fail
  go_loopw [11] (fun vi wr => ∃ (i : Nat), i ≤ n ∧ vi = .int .i64 (i : Int) ∧ Hid (HAt wr g KB (T5 ++ b)) ∧ Hid (wr.heap[g7]? = some (.cells (Z.map bv).toArray 23 (0, 0))) ∧ Hid (Below w.heap.size w wr) ∧ Hid (Live wr A6 n q5 q6) ∧ Hid (Live wr A7 m q6 q7)) (fun i _ => n - (intOf i).toNat)
  case atStart => exact ⟨0, by omega, rfl, H9, M9, B9, V69, V79⟩
  case round =>
    clear H9 M9 B9 V69 V79
    obtain ⟨i, hi, rfl, H, M, B, V6, V7⟩ := hrel
    by_cases hlt : i < n
    · have q1 : (i : Int) < (n : Int) := by omega
      obtain ⟨gk, z, rfl, hk1, hk2, c1, fz, hset⟩ := V6.out.load hlt
      obtain ⟨x, hx⟩ := xorB y by_ HY.out z
      have HSET := Lib.hid (hset x)
      have HK : Hid (q5 ≤ gk ∧ gk < q6) := ⟨hk1, hk2⟩
      clear hset hk1 hk2
      go_wp2
      go_roundw
      case rel =>
        refine ⟨i + 1, by omega, by go_num, ?_, ?_, ?_, HSET, ?_⟩
        · exact H.out.other (Below.heap_setCell wr _ _ _ (by have h1 := HK.out; have h2 := HGW.out; show g ≠ gk; omega))
        · exact (Below.heap_setCell wr _ _ _ (by have h1 := HK.out; have h2 := HGW.out; show g7 ≠ gk; omega)).trans M.out
        · exact B.out.setCell (by have h1 := HK.out; have h2 := HGW.out; show _ ≤ gk; omega) _
        · exact V7.out.other fun g' h1 _ _ => Below.heap_setCell wr _ _ _ (by have h3 := HK.out; show g' ≠ gk; omega)
      case measure => simp [intOf]; omega
    · have q1 : ¬ ((i : Int) < (n : Int)) := by omega
      obtain ⟨wo, hwo⟩ : ∃ x, x = wr := ⟨_, rfl⟩
      subst hwo
      clear V6
      go_wp2_with fail
      go_loopw [12] (fun vi wr => ∃ (i : Nat), i ≤ m ∧ vi = .int .i64 (i : Int) ∧ Hid (HAt wr g KB (T5 ++ b)) ∧ Hid (wr.heap[g7]? = some (.cells (Z.map bv).toArray 23 (0, 0))) ∧ Hid (Below w.heap.size w wr) ∧ Hid (Live wr A7 m q6 q7)) (fun i _ => m - (intOf i).toNat)
      case atStart => exact ⟨0, by omega, rfl, H, M, B, V7⟩
      case round =>
        clear H M B V7
        obtain ⟨i, hi, rfl, H, M, B, V7⟩ := hrel
        by_cases hlt : i < m
        · have q2 : (i : Int) < (m : Int) := by omega
          obtain ⟨gk, z, rfl, hk1, hk2, c1, fz, hset⟩ := V7.out.load hlt
          obtain ⟨x, hx⟩ := xorB y by_ HY.out z
          have HSET := Lib.hid (hset x)
          have HK : Hid (q6 ≤ gk ∧ gk < q7) := ⟨hk1, hk2⟩
          clear hset hk1 hk2
          go_wp2
          go_roundw
          case rel =>
            refine ⟨i + 1, by omega, by go_num, ?_, ?_, ?_, HSET⟩
            · exact H.out.other (Below.heap_setCell wr _ _ _ (by have h1 := HK.out; have h2 := HGW.out; show g ≠ gk; omega))
            · exact (Below.heap_setCell wr _ _ _ (by have h1 := HK.out; have h2 := HGW.out; show g7 ≠ gk; omega)).trans M.out
            · exact B.out.setCell (by have h1 := HK.out; have h2 := HGW.out; show _ ≤ gk; omega) _
          case measure => simp [intOf]; omega
        · have q2 : ¬ ((i : Int) < (m : Int)) := by omega
          have R0 : Hid (Rnd wr) := HR.out.ext B.out
          clear V7
          have G5 : Hid (∀ W, Ext wr W → (Instr.loadAt 23 (.pointer (some ⟨g7, 0, none⟩))).run Tryd.prog W = .ok (.agg (Z.map bv).toArray) W) := fun W hW => load_arr arr32B rfl hi32.out ((hW.block _ (lt_of_heap M.out)).trans M.out)
          have HX : Hid (Ext wr wr.drew) := (Below.refl _ _).drew
          go_wp2_with fail
          refine reg_start (by kernel_rfl) ?_
          try simp only [Act.put, List.setIfInBounds_toArray, List.set_cons_zero, List.set_cons_succ]
          generalize wr.drew = W1 at HX ⊢
          refine reg_take (v := ?_) 0 (some 61) rfl rfl (by kernel_rfl) (by kernel_rfl) (by kernel_rfl) (fun _ _ _ h => h) (by rfl) (fun W hW => ?_) ?_
          rotate_left
          · (go_simp; try rfl)
          simp only [Act.put, List.setIfInBounds_toArray, List.set_cons_zero, List.set_cons_succ]
          refine reg_load 2 (some 63) (fun W hW => G5.out W (Ext.trans HX.out hW)) rfl rfl rfl rfl (by kernel_rfl) (by kernel_rfl) (by kernel_rfl) (fun _ _ _ h => h) (by rfl) ?_
          simp only [Act.put, List.setIfInBounds_toArray, List.set_cons_zero, List.set_cons_succ]
          refine reg_eff 1 rfl (by kernel_rfl) (fun K hK => ?_)
          go_simp
          refine (HSA.out g _ (H.out.ext HX.out) (R0.out.ext HX.out)).mono ?_
          rintro e w2 ⟨rfl, hE⟩
          refine hK.out _ _ hE ?_
          have HX := Lib.hid (Ext.trans HX.out hE)
          clear hE hK K
          try simp only [Act.put, List.setIfInBounds_toArray, List.set_cons_zero, List.set_cons_succ]
          refine reg_take (v := ?_) 3 (some 64) rfl rfl (by kernel_rfl) (by kernel_rfl) (by kernel_rfl) (fun _ _ _ h => h) (by rfl) (fun W hW => ?_) ?_
          rotate_left
          · (go_simp; try rfl)
          simp only [Act.put, List.setIfInBounds_toArray, List.set_cons_zero, List.set_cons_succ]
          refine reg_take (v := ?_) 4 (some 65) rfl rfl (by kernel_rfl) (by kernel_rfl) (by kernel_rfl) (fun _ _ _ h => h) (by rfl) (fun W hW => ?_) ?_
          rotate_left
          · (go_simp; try rfl)
          simp only [Act.put, List.setIfInBounds_toArray, List.set_cons_zero, List.set_cons_succ]
          refine reg_take (v := ?_) 5 (some 66) rfl rfl (by kernel_rfl) (by kernel_rfl) (by kernel_rfl) (fun _ _ _ h => h) (by rfl) (fun W hW => ?_) ?_
          rotate_left
          · (go_simp; try rfl)
          simp only [Act.put, List.setIfInBounds_toArray, List.set_cons_zero, List.set_cons_succ]
          refine reg_load 7 (some 68) (fun W hW => G5.out W (Ext.trans HX.out hW)) rfl rfl rfl rfl (by kernel_rfl) (by kernel_rfl) (by kernel_rfl) (fun _ _ _ h => h) (by rfl) ?_
          simp only [Act.put, List.setIfInBounds_toArray, List.set_cons_zero, List.set_cons_succ]
          refine reg_eff 6 rfl (by kernel_rfl) (fun K hK => ?_)
          go_simp
          refine (HSA.out g _ (H.out.ext HX.out) (R0.out.ext HX.out)).mono ?_
          rintro e w3 ⟨rfl, hE⟩
          refine hK.out _ _ hE ?_
          have HX := Lib.hid (Ext.trans HX.out hE)
          clear hE hK K
          try simp only [Act.put, List.setIfInBounds_toArray, List.set_cons_zero, List.set_cons_succ]
          refine reg_take (v := ?_) 8 (some 69) rfl rfl (by kernel_rfl) (by kernel_rfl) (by kernel_rfl) (fun _ _ _ h => h) (by rfl) (fun W hW => ?_) ?_
          rotate_left
          · (go_simp; try rfl)
          simp only [Act.put, List.setIfInBounds_toArray, List.set_cons_zero, List.set_cons_succ]
          refine reg_take (v := ?_) 9 (some 70) rfl rfl (by kernel_rfl) (by kernel_rfl) (by kernel_rfl) (fun _ _ _ h => h) (by rfl) (fun W hW => ?_) ?_
          rotate_left
          · (go_simp; try rfl)
          simp only [Act.put, List.setIfInBounds_toArray, List.set_cons_zero, List.set_cons_succ]
          refine reg_take (v := ?_) 10 (some 71) rfl rfl (by kernel_rfl) (by kernel_rfl) (by kernel_rfl) (fun _ _ _ h => h) (by rfl) (fun W hW => ?_) ?_
          rotate_left
          · (go_simp; try rfl)
          simp only [Act.put, List.setIfInBounds_toArray, List.set_cons_zero, List.set_cons_succ]
          refine reg_eff 11 rfl (by kernel_rfl) (fun K hK => ?_)
          go_simp
          refine (awake7_any _ (R0.out.ext HX.out)).mono ?_
          rintro e w4 ⟨rfl, hE⟩
          refine hK.out _ _ hE ?_
          have HX := Lib.hid (Ext.trans HX.out hE)
          clear hE hK K
          try simp only [Act.put, List.setIfInBounds_toArray, List.set_cons_zero, List.set_cons_succ]
          refine reg_take (v := ?_) 12 (some 73) rfl rfl (by kernel_rfl) (by kernel_rfl) (by kernel_rfl) (fun _ _ _ h => h) (by rfl) (fun W hW => ?_) ?_
          rotate_left
          · (go_simp; try rfl)
          simp only [Act.put, List.setIfInBounds_toArray, List.set_cons_zero, List.set_cons_succ]
          refine reg_take (v := ?_) 13 (some 6) rfl rfl (by kernel_rfl) (by kernel_rfl) (by kernel_rfl) (fun _ _ _ h => h) (by rfl) (fun W hW => ?_) ?_
          rotate_left
          · (go_simp; try rfl)
          simp only [Act.put, List.setIfInBounds_toArray, List.set_cons_zero, List.set_cons_succ]
          refine reg_done (by kernel_rfl) ?_
          go_wp2
          go_ret
          exact ⟨rfl, B.out.step HX.out⟩
end Go.Proofs.YtdmdjgmkhoahmaaDoor

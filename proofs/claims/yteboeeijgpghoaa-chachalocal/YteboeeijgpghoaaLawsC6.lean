/- Laws of layer 4: a byte that is turned turns that byte alone. -/
import Derived.Test.YteboeeijgpghoaaLawsC5
import Derived.Test.YteboeeijgpghoaaLiftL
import Derived.Test.YteboeeijgpghoaaSha8
namespace Go.Proofs.Yteboeeijgpghoaa
open Go.RowKit
set_option linter.unusedVariables false
set_option linter.unusedSimpArgs false
theorem crypt_local (key nonce : List UInt8) (n : W32) (b : List UInt8) (k : Nat) (y : UInt8) (hk : k < b.length) (i : Nat) (hi : i < b.length) :
    (cryptC key nonce n (b.set k (b.getD k 0 ^^^ y))).getD i 0 = if i = k then (cryptC key nonce n b).getD i 0 ^^^ y else (cryptC key nonce n b).getD i 0 := by
  have hl := streamC_len key nonce n b.length
  unfold cryptC
  rw [List.length_set]
  generalize streamC key nonce n b.length = s at hl ⊢
  have h0 : i < s.length := by omega
  unfold xorL
  simp only [List.getD, List.getElem?_zipWith, List.getElem?_set]
  by_cases h : i = k
  · subst h
    simp [hi, h0]
    rw [UInt8.xor_assoc, UInt8.xor_comm y, ← UInt8.xor_assoc]
  · have h' : ¬ k = i := fun e => h e.symm
    simp [h, h', hi, h0]
theorem sl_set {w : World} {g c k : Nat} {bs : List UInt8} {cur : Array Value} {t : TypeId} {fr : Nat × Nat} {x : UInt8} (h : Sl w (some ⟨g, 0, none⟩) c bs) (hc : w.heap[g]? = some (.cells cur t fr)) (hk : k < bs.length) :
    Sl (w.setCell ⟨g, k, none⟩ (.int .u8 (x.toNat : Int))) (some ⟨g, 0, none⟩) c (bs.set k x) := by
  obtain ⟨h1, h2, h3⟩ := h
  obtain ⟨b, o, he, hb, hcell⟩ := h3.at_ (by simpa using (by omega : 0 < bs.length))
  injection he with he
  injection he with he1 he2
  subst he1; subst he2
  refine ⟨by simpa using h1, h2, .inr ⟨g, 0, rfl, by simpa using hb, fun j u hu => ?_⟩⟩
  rw [List.getElem?_map, List.getElem?_set] at hu
  by_cases hj : k = j
  · subst hj
    simp [hk] at hu
    have hck := hcell k (bv bs[k]) (by simp [hk])
    rw [Nat.zero_add] at hck ⊢
    have hsz : k < cur.size := by
      simp only [World.cell?, hc] at hck
      rcases Nat.lt_or_ge k cur.size with h | h
      · exact h
      · simp [Array.getElem?_eq_none h] at hck
    simp [World.cell?, World.setCell, Array.getElem?_modify, hc, hsz, ← hu, bv]
  · rw [if_neg hj, ← List.getElem?_map] at hu
    rw [World.cell?_setCell_other _ _ _ _ (fun e => hj (by injection e with e1 e2; omega))]
    exact hcell j u hu
theorem load_cellS {P : Program} {ty e : TypeId} (hu : P.underlying ty = some (.slice e)) {W : World} {a : Addr} {v : Value} (h : W.cell? a = some v) :
    (Instr.loadAt ty (.pointer (some a))).run P W = .ok v W := by
  simp [Instr.loadAt, Instr.sureAddr, loadVar, isAgg, run_underlying hu, h]
theorem local_cell {W : World} {g : Nat} {y : LocalT} {t : TypeId} {fr : Nat × Nat} (h : W.heap[g]? = some (.cells y.cells.toArray t fr)) (hk : y.k.length = 32) (hn : y.n.length = 12) :
    W.rangeAt g 0 (zCells y.k y.n y.c) ∧ W.cell? ⟨g, 45, none⟩ = some (.slice y.A y.b.length y.cap) ∧ W.cell? ⟨g, 46, none⟩ = some (.int .u16 (y.at_ : Int)) ∧ W.cell? ⟨g, 47, none⟩ = some (.int .u8 (y.by_.toNat : Int)) := by
  have hz : (zCells y.k y.n y.c).length = 45 := by simp [zCells, hk, hn]
  refine ⟨fun j v hv => ?_, ?_, ?_, ?_⟩
  · have hj := (List.getElem?_eq_some_iff.1 hv).1
    rw [cell_of_heap h, LocalT.cells, Nat.zero_add, List.getElem?_append_left hj]; exact hv
  · rw [cell_of_heap h, LocalT.cells, List.getElem?_append_right (by omega), hz]; rfl
  · rw [cell_of_heap h, LocalT.cells, List.getElem?_append_right (by omega), hz]; rfl
  · rw [cell_of_heap h, LocalT.cells, List.getElem?_append_right (by omega), hz]; rfl
def zeros45 : List Value := List.replicate 44 (Value.int .u8 0) ++ [.int .u32 0]
theorem zeroKey (W : World) : (zeroValue 26).run Try.prog W = .ok (.agg zeros45.toArray) W := by kernel_rfl
theorem zCells_one (k n : List UInt8) (c : BitVec 32) : ∀ v ∈ zCells k n c, v.oneCell' = true := by
  intro v hv
  simp only [zCells, List.mem_append, List.mem_singleton] at hv
  rcases hv with hv | hv | rfl
  · exact bv_one k v hv
  · exact bv_one n v hv
  · rfl
theorem i45 : (Try.prog.info? 26).map (·.size) = some 45 := by kernel_rfl
set_option maxHeartbeats 4000000 in
theorem chachaLocal_walk (w : World) (y : LocalT) (l : y.ok w) :
    Calls Try.prog 7 #[.agg y.cells.toArray] w fun e w' => e = .returned (.bool true) ∧ Below w.heap.size w w' := by
  have hcl := local_cell (heap_alloc_new' w (.cells y.cells.toArray 46)) l.1 l.2.1
  obtain ⟨Y, HY⟩ : ∃ Y, Hid (y.cells.toArray = Y) := ⟨_, rfl⟩
  rw [HY.out] at hcl ⊢
  clear HY
  obtain ⟨k, n, ct, A, c, b, at_, by_⟩ := y
  obtain ⟨hk, hn, hat, h⟩ := l
  simp only at hk hn hat h hcl
  have HK := Lib.hid hk; have HN := Lib.hid hn; have H := Lib.hid h
  obtain ⟨m, hm⟩ : ∃ m, b.length = m := ⟨_, rfl⟩
  have HM := Lib.hid hm
  have q1 : m ≤ 9223372036854775807 := by have := h.1; have := h.2.1; simp [maxLen] at this; omega
  rw [hm] at hcl
  have HC := Lib.hid hcl
  have hzl : Hid ((Try.prog.info? 26).map (·.size) = some (zCells k n ct).length) := by show _ = _; rw [show (zCells k n ct).length = 45 by simp [zCells, hk, hn]]; exact i45
  have hz45 : Hid (zeros45.length = (zCells k n ct).length) := by show _ = _; rw [show (zCells k n ct).length = 45 by simp [zCells, hk, hn]]; rfl
  have hzv := zeroKey
  have Z0 := Lib.hid (fun W => zat_new W k n ct 26 HK.out HN.out)
  have HZC := Lib.hid (fun (W : World) (g : Nat) (t : TypeId) (fr : Nat × Nat) (hh : W.heap[g]? = some (.cells (zCells k n ct).toArray t fr)) => z_cell hh HK.out HN.out)
  have HZO := Lib.hid (zCells_one k n ct)
  clear hk hn h hm hcl Z0
  generalize zCells k n ct = ZL at HC hzl hz45 HZC HZO
  generalize zeros45 = Z45 at hz45 hzv
  obtain ⟨yb, hyb⟩ : ∃ yb : Int, yb = (by_.toNat : Int) := ⟨_, rfl⟩
  rw [← hyb] at HC
  have HYB : Hid (yb = (by_.toNat : Int)) := hyb
  clear hyb
  go_enter Try.func7, Try.ntmps7
  go_wp2_with fail
  generalize hW0 : w.alloc _ = W0 at HC ⊢
  have hz0 : W0.heap.size = w.heap.size + 1 := by rw [← hW0]; simp
  have B0 : Hid (Below w.heap.size w W0) := by rw [← hW0]; exact (Below.refl _ _).alloc (Nat.le_refl _) _
  have HZ0 := Lib.hid hz0
  clear hW0 hz0
  have HX : Hid (Below (w.heap.size + 1) W0 W0.drew) := (Below.refl _ _).drew
  have hlt : w.heap.size < w.heap.size + 1 := Nat.lt_succ_self _
  refine regB_start (w.heap.size + 1) (by kernel_rfl) ?_
  try simp only [Act.put, List.setIfInBounds_toArray, List.set_cons_zero, List.set_cons_succ]
  refine regB_take (v := ?_) 0 (some 13) rfl rfl (by kernel_rfl) (by kernel_rfl) (by kernel_rfl) (fun _ _ _ h => h) (by rfl) (fun W hW => ?_) ?_
  rotate_left
  · (go_simp; try rfl)
  simp only [Act.put, List.setIfInBounds_toArray, List.set_cons_zero, List.set_cons_succ]
  refine regB_load 1 (some 14) (fun W hW => run_loadAt_mid W w.heap.size 0 26 ZL _ (fun j v hv => (hW.cell hlt).trans ((HX.out.cell hlt).trans (HC.out.1 j v hv))) Try.underlying26 rfl hzl.out) rfl rfl rfl rfl (by kernel_rfl) (by kernel_rfl) (by kernel_rfl) (fun _ _ _ h => h) (by rfl) ?_
  simp only [Act.put, List.setIfInBounds_toArray, List.set_cons_zero, List.set_cons_succ]
  refine regB_take (v := ?_) 2 (some 15) rfl rfl (by kernel_rfl) (by kernel_rfl) (by kernel_rfl) (fun _ _ _ h => h) (by rfl) (fun W hW => ?_) ?_
  rotate_left
  · (go_simp; try rfl)
  simp only [Act.put, List.setIfInBounds_toArray, List.set_cons_zero, List.set_cons_succ]
  refine regB_load 3 (some 16) (fun W hW => load_cellS uT ((hW.cell hlt).trans ((HX.out.cell hlt).trans HC.out.2.1))) rfl rfl rfl rfl (by kernel_rfl) (by kernel_rfl) (by kernel_rfl) (fun _ _ _ h => h) (by rfl) ?_
  simp only [Act.put, List.setIfInBounds_toArray, List.set_cons_zero, List.set_cons_succ]
  refine regB_take (v := ?_) 4 (some 17) rfl rfl (by kernel_rfl) (by kernel_rfl) (by kernel_rfl) (fun _ _ _ h => h) (by rfl) (fun W hW => ?_) ?_
  rotate_left
  · (go_simp; try rfl)
  simp only [Act.put, List.setIfInBounds_toArray, List.set_cons_zero, List.set_cons_succ]
  refine regB_load 5 (some 18) (fun W hW => load_cell Try.underlying44 ((hW.cell hlt).trans ((HX.out.cell hlt).trans HC.out.2.2.1))) rfl rfl rfl rfl (by kernel_rfl) (by kernel_rfl) (by kernel_rfl) (fun _ _ _ h => h) (by rfl) ?_
  simp only [Act.put, List.setIfInBounds_toArray, List.set_cons_zero, List.set_cons_succ]
  refine regB_take (v := ?_) 6 (some 19) rfl rfl (by kernel_rfl) (by kernel_rfl) (by kernel_rfl) (fun _ _ _ h => h) (by rfl) (fun W hW => ?_) ?_
  rotate_left
  · (go_simp; try rfl)
  simp only [Act.put, List.setIfInBounds_toArray, List.set_cons_zero, List.set_cons_succ]
  refine regB_load 7 (some 20) (fun W hW => load_cell Try.underlying5 ((hW.cell hlt).trans ((HX.out.cell hlt).trans HC.out.2.2.2))) rfl rfl rfl rfl (by kernel_rfl) (by kernel_rfl) (by kernel_rfl) (fun _ _ _ h => h) (by rfl) ?_
  simp only [Act.put, List.setIfInBounds_toArray, List.set_cons_zero, List.set_cons_succ]
  refine regB_eff 8 rfl (by kernel_rfl) (fun K hK => ?_)
  go_simp
  have hE : Below (w.heap.size + 1) W0.drew (W0.drew.alloc (.cells Z45.toArray 26)) := ((Below.refl _ W0.drew).alloc (Nat.le_of_eq HZ0.out.symm) _)
  refine hK.out _ _ hE ?_
  have HX := Lib.hid (Below.trans HX.out hE)
  clear hE hK K
  try simp only [Act.put, List.setIfInBounds_toArray, List.set_cons_zero, List.set_cons_succ]
  refine regB_eff 9 rfl (by kernel_rfl) (fun K hK => ?_)
  refine step_st1 rfl 26 (.tmp 3) (.tmp 14) rfl (store_arr (cs := ZL) hzl.out HZO.out (old := Z45) (heap_alloc_new' W0.drew _) hz45.out) ?_
  generalize hV : World.setRow _ _ _ = W2
  have F2 : Hid (W2.heap[W0.heap.size]? = some (.cells ZL.toArray 26 (0, 0))) := heap_of_setRow hV (heap_alloc_new' W0.drew _)
  have hE : Below (w.heap.size + 1) (W0.drew.alloc (.cells Z45.toArray 26)) W2 := by rw [← hV]; exact grown_below (grown_setRow _ _ _) (Nat.le_of_eq HZ0.out.symm) (by have := HZ0.out; simp; omega)
  clear hV
  refine hK.out _ _ hE ?_
  have HX := Lib.hid (Below.trans HX.out hE)
  clear hE hK K
  try simp only [Act.put, List.setIfInBounds_toArray, List.set_cons_zero, List.set_cons_succ]
  refine regB_take (v := ?_) 10 (some 4) rfl rfl (by kernel_rfl) (by kernel_rfl) (by kernel_rfl) (fun _ _ _ h => h) (by rfl) (fun W hW => ?_) ?_
  rotate_left
  · (go_simp; try rfl)
  simp only [Act.put, List.setIfInBounds_toArray, List.set_cons_zero, List.set_cons_succ]
  refine regB_take (v := ?_) 11 (some 5) rfl rfl (by kernel_rfl) (by kernel_rfl) (by kernel_rfl) (fun _ _ _ h => h) (by rfl) (fun W hW => ?_) ?_
  rotate_left
  · (go_simp; try rfl)
  simp only [Act.put, List.setIfInBounds_toArray, List.set_cons_zero, List.set_cons_succ]
  refine regB_take (v := ?_) 12 (some 6) rfl rfl (by kernel_rfl) (by kernel_rfl) (by kernel_rfl) (fun _ _ _ h => h) (by rfl) (fun W hW => ?_) ?_
  rotate_left
  · (go_simp; try rfl)
  simp only [Act.put, List.setIfInBounds_toArray, List.set_cons_zero, List.set_cons_succ]
  refine regB_done (by kernel_rfl) ?_
  have B2 : Hid (Below w.heap.size w W2) := B0.out.trans (HX.out.mono (Nat.le_succ _))
  have Z2 : Hid (ZAt W2 W0.heap.size k n ct) := ⟨lt_of_heap F2.out, HZC.out W2 _ _ _ F2.out⟩
  clear HX HC B0 hlt F2 HZC HZO hzv hzl hz45 HZ0
  generalize W0.heap.size = g0 at Z2 ⊢
  by_cases hbig : 600 < m
  · have e1 : (600 : Int) < (m : Int) := by omega
    go_wp2
    go_ret
    exact ⟨rfl, B2.out⟩
  have e1 : ¬ ((600 : Int) < (m : Int)) := by omega
  by_cases hm0 : m = 0
  · have e2 : ((m : Int) == 0) = true := by simp [hm0]
    go_wp2
    go_ret
    exact ⟨rfl, B2.out⟩
  have e2 : ((m : Int) == 0) = false := by simp; omega
  obtain ⟨kk, hkk⟩ : ∃ kk, kk = at_ % m := ⟨_, rfl⟩
  have hkm : kk < m := by rw [hkk]; exact Nat.mod_lt _ (by omega)
  have e3 : (at_ : Int) % (m : Int) = (kk : Int) := by rw [hkk]; exact (Int.natCast_emod at_ m).symm
  have e4 : (at_ : Int).tmod (m : Int) = (kk : Int) := by rw [Int.tmod_eq_emod_of_nonneg (by omega)]; exact e3
  have hm6 : m ≤ 600 := by omega
  clear hkk hbig hm0
  have S2 := Lib.hid (H.out.below B2.out)
  have hm31 : 0 + m ≤ 2147483647 := by omega
  go_upto_region 6 with (
    at_builtin
    refine wpList_app8 rfl (.tmp 34) (.tmp 35) rfl W2.heap.size _ 0 [] rfl ?_ A m c W2.heap.size b rfl ?_ ?_ ?_ ?_ ?_
    · exact own_heap (g := W2.heap.size) (heap_alloc_new' W2 _) (Nat.le_refl _) rfl (Nat.zero_le _)
    · exact S2.out.2.2.below ((Below.refl _ _).alloc (Nat.le_refl _) _)
    · exact HM.out
    · exact hm31
    · simp
    rintro v1 w6 hown hgr
    have HB6 := Lib.hid (((Below.refl W2.heap.size W2).alloc (Nat.le_refl _) _).grown hgr (by simp) (ge_own W2.heap.size 0))
    have HO6 := Lib.hid hown
    clear hgr hown)
  have hown := HO6.out
  rw [List.nil_append, Nat.zero_add] at hown
  obtain ⟨h0, hv⟩ := hown
  rcases hv with ⟨rfl, h00⟩ | ⟨gc, cap, cur, rfl, hgc, hcur, hnc, hcm, hcs, htk⟩
  · exfalso
    have := HM.out
    rw [List.length_map] at h0
    have h5 := e2
    simp at h5
    omega
  rw [Nat.mul_one] at htk
  have hgcl : gc < w6.heap.size := lt_of_heap hcur
  have HSC : Hid (Sl w6 (some ⟨gc, 0, none⟩) cap b) := by
    refine ⟨by have := HM.out; omega, hcm, .inr ⟨gc, 0, rfl, hgcl, fun j u hu => ?_⟩⟩
    have hj : j < m := by have h1 := (List.getElem?_eq_some_iff.1 hu).1; rw [List.length_map, HM.out] at h1; exact h1
    rw [← htk, List.getElem?_take_of_lt hj] at hu
    rw [Nat.zero_add]
    simpa [World.cell?, hcur] using hu
  have HCUR := Lib.hid hcur
  have HGC := Lib.hid hgc
  clear h0 hgc hcur hnc hcm hcs htk HO6 hgcl
  have B6 := Lib.hid (B2.out.step HB6.out)
  have Z6 := Lib.hid (Z2.out.ext HB6.out)
  have S6 := Lib.hid (S2.out.below HB6.out)
  have hgw : Hid (w.heap.size ≤ gc) := Nat.le_trans B2.out.size HGC.out
  have hg0c : Hid (g0 ≠ gc) := by have h1 := Z2.out.1; have h2 := HGC.out; show g0 ≠ gc; omega
  have c1 : w6.cell? ⟨gc, kk, none⟩ = some (.int .u8 ((b.getD kk 0).toNat : Int)) := by
    obtain ⟨b1, o1, he, _, hc⟩ := HSC.out.2.2.at_ (by rw [List.length_map, HM.out]; omega)
    injection he with he
    injection he with he1 he2
    subst he1; subst he2
    have hkb : kk < b.length := by rw [HM.out]; exact hkm
    have := hc kk (bv b[kk]) (by simp [hkb])
    rw [Nat.zero_add] at this
    rw [this]; simp [List.getD, hkb, bv]
  have fz : w6.frozen? ⟨gc, kk, none⟩ = false := by simp [World.frozen?, HCUR.out]
  obtain ⟨x, hx⟩ : ∃ x : UInt8, x = b.getD kk 0 ^^^ by_ := ⟨_, rfl⟩
  have hx8 : bits .xor .u8 ((b.getD kk 0).toNat : Int) yb = (x.toNat : Int) := by rw [HYB.out, hx]; exact xor8 _ _
  have HLC := Lib.hid (fun i (hi : i < m) => crypt_local k n ct b kk by_ (by rw [HM.out]; exact hkm) i (by rw [HM.out]; exact hi))
  rw [← hx] at HLC
  have HSL : Hid (Sl (w6.setCell ⟨gc, kk, none⟩ (.int .u8 (x.toNat : Int))) (some ⟨gc, 0, none⟩) cap (b.set kk x)) := sl_set HSC.out HCUR.out (by rw [HM.out]; exact hkm)
  have ha : Hid (∀ b' o, b' < W2.heap.size → (w6.setCell ⟨gc, kk, none⟩ (.int .u8 (x.toNat : Int))).cell? ⟨b', o, none⟩ = w6.cell? ⟨b', o, none⟩) := by
    intro b' o hb'
    exact World.cell?_setCell_other _ _ _ _ (fun e => by injection e with e1 e2; have := HGC.out; omega)
  clear hx
  generalize b.getD kk 0 = z at c1 hx8
  have e6 : (kk : Int) < (m : Int) := by omega
  clear e3 e4
  go_wp2_with fail
  generalize hV : w6.setCell _ _ = W7 at HSL ha ⊢
  have B7 : Hid (Below w.heap.size w W7) := by rw [← hV]; exact B6.out.setCell hgw.out _
  have hs7 : W7.heap.size = w6.heap.size := by rw [← hV]; simp
  have Z7 : Hid (ZAt W7 g0 k n ct) := by
    have hl := Z2.out.1
    exact ⟨by rw [hs7]; exact Z6.out.1, fun j v hv => (ha.out _ _ hl).trans (Z6.out.2.1 j v hv), fun j v hv => (ha.out _ _ hl).trans (Z6.out.2.2.1 j v hv), (ha.out _ _ hl).trans Z6.out.2.2.2⟩
  have S7 : Hid (Sl W7 A c b) := H.out.below B7.out
  clear hV hs7 ha c1 fz hx8 HSC HCUR HGC B6 Z6 S6 hgw hg0c HB6 S2 B2 Z2 H
  have HL1 : Hid ((cryptC k n ct b).length = m) := by rw [cryptC_len]; exact HM
  have HL2 : Hid ((cryptC k n ct (b.set kk x)).length = m) := by rw [cryptC_len, List.length_set]; exact HM
  have C1 := Lib.hid (fun W => crypt_any k n ct A m c b W HK.out HN.out HM.out (by omega))
  have C2 := Lib.hid (fun W => crypt_any k n ct (some ⟨gc, 0, none⟩) m cap (b.set kk x) W HK.out HN.out (by rw [List.length_set]; exact HM.out) (by omega))
  generalize cryptC k n ct b = X at HL1 C1 HLC
  generalize cryptC k n ct (b.set kk x) = D at HL2 C2 HLC
  have HX : Hid (Ext W7 W7.drew) := (Below.refl _ _).drew
  refine reg_start (by kernel_rfl) ?_
  try simp only [Act.put, List.setIfInBounds_toArray, List.set_cons_zero, List.set_cons_succ]
  refine reg_take (v := ?_) 0 (some 46) rfl rfl (by kernel_rfl) (by kernel_rfl) (by kernel_rfl) (fun _ _ _ h => h) (by rfl) (fun W hW => ?_) ?_
  rotate_left
  · (go_simp; try rfl)
  simp only [Act.put, List.setIfInBounds_toArray, List.set_cons_zero, List.set_cons_succ]
  refine reg_load 1 (some 47) (fun W hW => run_loadAt_mid W g0 0 22 (k.map bv) _ (Z7.out.ext (HX.out.trans hW)).2.1 arr32K rfl (i32K' k HK.out)) rfl rfl rfl rfl (by kernel_rfl) (by kernel_rfl) (by kernel_rfl) (fun _ _ _ h => h) (by rfl) ?_
  simp only [Act.put, List.setIfInBounds_toArray, List.set_cons_zero, List.set_cons_succ]
  refine reg_take (v := ?_) 2 (some 48) rfl rfl (by kernel_rfl) (by kernel_rfl) (by kernel_rfl) (fun _ _ _ h => h) (by rfl) (fun W hW => ?_) ?_
  rotate_left
  · (go_simp; try rfl)
  simp only [Act.put, List.setIfInBounds_toArray, List.set_cons_zero, List.set_cons_succ]
  refine reg_load 3 (some 49) (fun W hW => run_loadAt_mid W g0 32 23 (n.map bv) _ (Z7.out.ext (HX.out.trans hW)).2.2.1 arr12B rfl (i12B' n HN.out)) rfl rfl rfl rfl (by kernel_rfl) (by kernel_rfl) (by kernel_rfl) (fun _ _ _ h => h) (by rfl) ?_
  simp only [Act.put, List.setIfInBounds_toArray, List.set_cons_zero, List.set_cons_succ]
  refine reg_take (v := ?_) 4 (some 50) rfl rfl (by kernel_rfl) (by kernel_rfl) (by kernel_rfl) (fun _ _ _ h => h) (by rfl) (fun W hW => ?_) ?_
  rotate_left
  · (go_simp; try rfl)
  simp only [Act.put, List.setIfInBounds_toArray, List.set_cons_zero, List.set_cons_succ]
  refine reg_load 5 (some 51) (fun W hW => load_cell Try.underlying24 (Z7.out.ext (HX.out.trans hW)).2.2.2) rfl rfl rfl rfl (by kernel_rfl) (by kernel_rfl) (by kernel_rfl) (fun _ _ _ h => h) (by rfl) ?_
  simp only [Act.put, List.setIfInBounds_toArray, List.set_cons_zero, List.set_cons_succ]
  refine reg_take (v := ?_) 6 (some 52) rfl rfl (by kernel_rfl) (by kernel_rfl) (by kernel_rfl) (fun _ _ _ h => h) (by rfl) (fun W hW => ?_) ?_
  rotate_left
  · (go_simp; try rfl)
  simp only [Act.put, List.setIfInBounds_toArray, List.set_cons_zero, List.set_cons_succ]
  refine reg_take (v := ?_) 8 (some 54) rfl rfl (by kernel_rfl) (by kernel_rfl) (by kernel_rfl) (fun _ _ _ h => h) (by rfl) (fun W hW => ?_) ?_
  rotate_left
  · (go_simp; try rfl)
  simp only [Act.put, List.setIfInBounds_toArray, List.set_cons_zero, List.set_cons_succ]
  refine reg_load 9 (some 55) (fun W hW => run_loadAt_mid W g0 0 22 (k.map bv) _ (Z7.out.ext (HX.out.trans hW)).2.1 arr32K rfl (i32K' k HK.out)) rfl rfl rfl rfl (by kernel_rfl) (by kernel_rfl) (by kernel_rfl) (fun _ _ _ h => h) (by rfl) ?_
  simp only [Act.put, List.setIfInBounds_toArray, List.set_cons_zero, List.set_cons_succ]
  refine reg_take (v := ?_) 10 (some 56) rfl rfl (by kernel_rfl) (by kernel_rfl) (by kernel_rfl) (fun _ _ _ h => h) (by rfl) (fun W hW => ?_) ?_
  rotate_left
  · (go_simp; try rfl)
  simp only [Act.put, List.setIfInBounds_toArray, List.set_cons_zero, List.set_cons_succ]
  refine reg_load 11 (some 57) (fun W hW => run_loadAt_mid W g0 32 23 (n.map bv) _ (Z7.out.ext (HX.out.trans hW)).2.2.1 arr12B rfl (i12B' n HN.out)) rfl rfl rfl rfl (by kernel_rfl) (by kernel_rfl) (by kernel_rfl) (fun _ _ _ h => h) (by rfl) ?_
  simp only [Act.put, List.setIfInBounds_toArray, List.set_cons_zero, List.set_cons_succ]
  refine reg_take (v := ?_) 12 (some 58) rfl rfl (by kernel_rfl) (by kernel_rfl) (by kernel_rfl) (fun _ _ _ h => h) (by rfl) (fun W hW => ?_) ?_
  rotate_left
  · (go_simp; try rfl)
  simp only [Act.put, List.setIfInBounds_toArray, List.set_cons_zero, List.set_cons_succ]
  refine reg_load 13 (some 59) (fun W hW => load_cell Try.underlying24 (Z7.out.ext (HX.out.trans hW)).2.2.2) rfl rfl rfl rfl (by kernel_rfl) (by kernel_rfl) (by kernel_rfl) (fun _ _ _ h => h) (by rfl) ?_
  simp only [Act.put, List.setIfInBounds_toArray, List.set_cons_zero, List.set_cons_succ]
  refine reg_take (v := ?_) 14 (some 60) rfl rfl (by kernel_rfl) (by kernel_rfl) (by kernel_rfl) (fun _ _ _ h => h) (by rfl) (fun W hW => ?_) ?_
  rotate_left
  · (go_simp; try rfl)
  simp only [Act.put, List.setIfInBounds_toArray, List.set_cons_zero, List.set_cons_succ]
  refine reg_eff 7 rfl (by kernel_rfl) (fun K hK => ?_)
  go_simp
  refine (C1.out _ (S7.out.ext' HX.out)).mono ?_
  rintro e w8 ⟨g1, hg1, rfl, hk1, hE⟩
  have S1 : Hid (Sl w8 (some ⟨g1, 0, none⟩) m X) := sl_row HL1.out (by omega) hk1
  clear hg1 hk1
  refine hK.out _ _ hE ?_
  have HX := Lib.hid (Ext.trans HX.out hE)
  clear hE hK K
  try simp only [Act.put, List.setIfInBounds_toArray, List.set_cons_zero, List.set_cons_succ]
  refine reg_eff 15 rfl (by kernel_rfl) (fun K hK => ?_)
  go_simp
  refine (C2.out _ (HSL.out.ext' HX.out)).mono ?_
  rintro e w9 ⟨g2, hg2, rfl, hk2, hE⟩
  have S2 : Hid (Sl w9 (some ⟨g2, 0, none⟩) m D) := sl_row HL2.out (by omega) hk2
  have S1 := Lib.hid (S1.out.ext' hE)
  clear hg2 hk2
  refine hK.out _ _ hE ?_
  have HX := Lib.hid (Ext.trans HX.out hE)
  clear hE hK K
  try simp only [Act.put, List.setIfInBounds_toArray, List.set_cons_zero, List.set_cons_succ]
  refine reg_take (v := ?_) 16 (some 9) rfl rfl (by kernel_rfl) (by kernel_rfl) (by kernel_rfl) (fun _ _ _ h => h) (by rfl) (fun W hW => ?_) ?_
  rotate_left
  · (go_simp; try rfl)
  simp only [Act.put, List.setIfInBounds_toArray, List.set_cons_zero, List.set_cons_succ]
  refine reg_take (v := ?_) 17 (some 10) rfl rfl (by kernel_rfl) (by kernel_rfl) (by kernel_rfl) (fun _ _ _ h => h) (by rfl) (fun W hW => ?_) ?_
  rotate_left
  · (go_simp; try rfl)
  simp only [Act.put, List.setIfInBounds_toArray, List.set_cons_zero, List.set_cons_succ]
  refine reg_done (by kernel_rfl) ?_
  have B9 : Hid (Below w.heap.size w w9) := B7.out.step HX.out
  clear HX Z7 S7 HSL B7 C1 C2
  have r1 : Hid (∀ i, i < m → w9.cell? ⟨g1, i, none⟩ = some (.int .u8 ((X.getD i 0).toNat : Int))) := by
    intro i hi
    obtain ⟨b1, o1, he, _, hc⟩ := S1.out.2.2.at_ (by rw [List.length_map, HL1.out]; omega)
    injection he with he
    injection he with he1 he2
    subst he1; subst he2
    have hib : i < X.length := by rw [HL1.out]; exact hi
    have := hc i (bv X[i]) (by simp [hib])
    rw [Nat.zero_add] at this
    rw [this]; simp [List.getD, hib, bv]
  have r2 : Hid (∀ i, i < m → w9.cell? ⟨g2, i, none⟩ = some (.int .u8 ((D.getD i 0).toNat : Int))) := by
    intro i hi
    obtain ⟨b1, o1, he, _, hc⟩ := S2.out.2.2.at_ (by rw [List.length_map, HL2.out]; omega)
    injection he with he
    injection he with he1 he2
    subst he1; subst he2
    have hib : i < D.length := by rw [HL2.out]; exact hi
    have := hc i (bv D[i]) (by simp [hib])
    rw [Nat.zero_add] at this
    rw [this]; simp [List.getD, hib, bv]
  clear S1 S2 e1 e2
  have e5 : ((m : Int) != (m : Int)) = false := by simp
  go_wp2_with fail
  go_loopw [11] (fun vi wr => ∃ (i : Nat), i ≤ m ∧ vi = .int .i64 (i : Int) ∧ wr = w9) (fun i _ => m - (intOf i).toNat)
  case atStart => exact ⟨0, by omega, rfl, rfl⟩
  case round =>
    obtain ⟨i, hi, rfl, rfl⟩ := hrel
    by_cases hlt : i < m
    · have q2 : (i : Int) < (m : Int) := by omega
      have c1 := r1.out i hlt
      have c2 := r2.out i hlt
      have hl := HLC.out i hlt
      generalize X.getD i 0 = a at c1 hl
      generalize D.getD i 0 = d at c2 hl
      by_cases hik : i = kk
      · rw [if_pos hik] at hl
        have hxx : bits .xor .u8 (a.toNat : Int) yb = (d.toNat : Int) := by rw [HYB.out, hl]; exact xor8 _ _
        have q3 : ((i : Int) == (kk : Int)) = true := by simp [hik]
        have q4 : ((d.toNat : Int) != (d.toNat : Int)) = false := by simp
        have HIK := Lib.hid hik
        clear hl hik
        go_wp2
        go_roundw
        case rel => exact ⟨i + 1, by omega, by go_num, trivial⟩
        case measure => simp [intOf]; omega
      · rw [if_neg hik] at hl
        subst hl
        have q3 : ((i : Int) == (kk : Int)) = false := by simp; omega
        have q4 : ((d.toNat : Int) != (d.toNat : Int)) = false := by simp
        have HIK := Lib.hid hik
        clear hik
        go_wp2
        go_roundw
        case rel => exact ⟨i + 1, by omega, by go_num, trivial⟩
        case measure => simp [intOf]; omega
    · have q2 : ¬ ((i : Int) < (m : Int)) := by omega
      go_wp2_with fail
      refine (cawake_any _).mono ?_
      rintro e w4 ⟨rfl, rfl⟩
      go_wp2
      go_ret
      exact ⟨rfl, B9.out⟩
end Go.Proofs.Yteboeeijgpghoaa

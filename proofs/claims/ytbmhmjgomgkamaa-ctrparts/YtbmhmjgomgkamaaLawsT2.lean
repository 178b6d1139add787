/- Laws of layer 8: twice it is what it was, and a byte that is turned turns that byte alone. -/
import Derived.Test.YtbmhmjgomgkamaaCtr2
import Derived.Test.YtbmhmjgomgkamaaLiftU
import Derived.Test.YtbmhmjgomgkamaaSha8
namespace Go.Proofs.Ytbmhmjgomgkamaa
open Go.RowKit
set_option linter.unusedVariables false
set_option linter.unusedSimpArgs false
theorem k_sl_set {w : World} {g c k : Nat} {bs : List UInt8} {cur : Array Value} {t : TypeId} {fr : Nat × Nat} {x : UInt8} (h : Sl w (some ⟨g, 0, none⟩) c bs) (hc : w.heap[g]? = some (.cells cur t fr)) (hk : k < bs.length) :
    Sl (w.setCell ⟨g, k, none⟩ (.int .u8 (x.toNat : Int))) (some ⟨g, 0, none⟩) c (bs.set k x) := by
  obtain ⟨h1, h2, h3⟩ := h
  obtain ⟨b, o, he, hb, hcell⟩ := h3.at_ (by simpa using (by omega : 0 < bs.length))
  injection he with he
  injection he with he1 he2
  subst he1; subst he2
  refine ⟨by simpa using h1, h2, .inr ⟨g, 0, rfl, by simpa using hb, fun j u hu => ?_⟩⟩
  rw [List.getElem?_map, List.getElem?_set] at hu
  by_cases hj : k = j
  · subst hj
    simp [hk] at hu
    have hck := hcell k (bv bs[k]) (by simp [hk])
    rw [Nat.zero_add] at hck ⊢
    have hsz : k < cur.size := by
      simp only [World.cell?, hc] at hck
      rcases Nat.lt_or_ge k cur.size with h | h
      · exact h
      · simp [Array.getElem?_eq_none h] at hck
    simp [World.cell?, World.setCell, Array.getElem?_modify, hc, hsz, ← hu, bv]
  · rw [if_neg hj, ← List.getElem?_map] at hu
    rw [World.cell?_setCell_other _ _ _ _ (fun e => hj (by injection e with e1 e2; omega))]
    exact hcell j u hu
theorem own_open {w : World} {base : Nat} {v : Value} {n : Nat} {bs : List UInt8} (h : w.ownsRow base 5 1 v n (bs.map bv)) (hn : 0 < n) :
    ∃ g cap cur, v = .slice (some ⟨g, 0, none⟩) n cap ∧ base ≤ g ∧ w.heap[g]? = some (.cells cur 5 (0, 0)) ∧ Sl w (some ⟨g, 0, none⟩) cap bs ∧ bs.length = n := by
  obtain ⟨h0, ⟨rfl, h00⟩ | ⟨g, cap, cur, rfl, hg, hcur, hnc, hcm, hcs, htk⟩⟩ := h
  · omega
  rw [Nat.mul_one] at htk
  rw [List.length_map, Nat.mul_one] at h0
  refine ⟨g, cap, cur, rfl, hg, hcur, ⟨by omega, hcm, .inr ⟨g, 0, rfl, lt_of_heap hcur, fun j u hu => ?_⟩⟩, h0⟩
  have hj : j < n := by have h1 := (List.getElem?_eq_some_iff.1 hu).1; rw [List.length_map] at h1; omega
  rw [← htk, List.getElem?_take_of_lt hj] at hu
  rw [Nat.zero_add]
  simpa [World.cell?, hcur] using hu
theorem k_sl_cell {w : World} {g c k : Nat} {b : List UInt8} (h : Sl w (some ⟨g, 0, none⟩) c b) (hk : k < b.length) : w.cell? ⟨g, k, none⟩ = some (.int .u8 ((b.getD k 0).toNat : Int)) := by
  obtain ⟨b1, o1, he, _, hc⟩ := h.2.2.at_ (by rw [List.length_map]; omega)
  injection he with he
  injection he with he1 he2
  subst he1; subst he2
  have := hc k (bv b[k]) (by simp [hk])
  rw [Nat.zero_add] at this
  rw [this]; simp [List.getD, hk, bv]
theorem k_load_slice {P : Program} {ty e : TypeId} (hu : P.underlying ty = some (.slice e)) {W : World} {a : Addr} {v : Value} (h : W.cell? a = some v) :
    (Instr.loadAt ty (.pointer (some a))).run P W = .ok v W := by
  simp [Instr.loadAt, Instr.sureAddr, loadVar, isAgg, run_underlying hu, h]
theorem turn_cell {W : World} {g : Nat} {y : TurnT} {t : TypeId} {fr : Nat × Nat} (h : W.heap[g]? = some (.cells y.cells.toArray t fr)) (hk : y.k.length = 32) (hn : y.n.length = 16) :
    W.rangeAt g 0 (kCells y.k y.lg y.n) ∧ W.cell? ⟨g, 49, none⟩ = some (.slice y.A y.b.length y.cap) ∧ W.cell? ⟨g, 50, none⟩ = some (.int .u16 (y.at_ : Int)) ∧ W.cell? ⟨g, 51, none⟩ = some (.int .u8 (y.by_.toNat : Int)) := by
  have hz := kCells_len y.k y.n y.lg hk hn
  refine ⟨fun j v hv => ?_, ?_, ?_, ?_⟩
  · have hj := (List.getElem?_eq_some_iff.1 hv).1
    rw [cell_of_heap h, TurnT.cells, Nat.zero_add, List.getElem?_append_left hj]; exact hv
  · rw [cell_of_heap h, TurnT.cells, List.getElem?_append_right (by omega), hz]; rfl
  · rw [cell_of_heap h, TurnT.cells, List.getElem?_append_right (by omega), hz]; rfl
  · rw [cell_of_heap h, TurnT.cells, List.getElem?_append_right (by omega), hz]; rfl
def zeros49 : List Value := List.replicate 32 (Value.int .u8 0) ++ ([.bool false] ++ List.replicate 16 (Value.int .u8 0))
theorem zeroKey49 (W : World) : (zeroValue 25).run Try.prog W = .ok (.agg zeros49.toArray) W := by kernel_rfl
theorem kCells_one (k n : List UInt8) (b : Bool) : ∀ v ∈ kCells k b n, v.oneCell' = true := by
  intro v hv
  simp only [kCells, List.mem_append, List.mem_singleton] at hv
  rcases hv with hv | rfl | hv
  · exact bv_one k v hv
  · rfl
  · exact bv_one n v hv
set_option maxHeartbeats 4000000 in
theorem ctrBack_walk (w : World) (y : TurnT) (l : y.ok w) :
    Calls Try.prog 5 #[.agg y.cells.toArray] w fun e w' => e = .returned (.bool true) ∧ Below w.heap.size w w' := by
  have hcl := turn_cell (heap_alloc_new' w (.cells y.cells.toArray 43)) l.1 l.2.1
  obtain ⟨Y, HY⟩ : ∃ Y, Hid (y.cells.toArray = Y) := ⟨_, rfl⟩
  rw [HY.out] at hcl ⊢
  clear HY
  obtain ⟨k, lg, iv, A, c, b, at_, by_⟩ := y
  obtain ⟨hk, hn, hat, h⟩ := l
  simp only at hk hn hat h hcl
  have HN := Lib.hid hn; have H := Lib.hid h
  obtain ⟨m, hm⟩ : ∃ m, b.length = m := ⟨_, rfl⟩
  have HM := Lib.hid hm
  have q1 : m ≤ 9223372036854775807 := by have := h.1; have := h.2.1; simp [maxLen] at this; omega
  rw [hm] at hcl
  have HC := Lib.hid hcl
  have hzl : Hid ((Try.prog.info? 25).map (·.size) = some (kCells k lg iv).length) := by show _ = _; rw [kCells_len k iv lg hk hn]; exact iKey
  have hz49 : Hid (zeros49.length = (kCells k lg iv).length) := by show _ = _; rw [kCells_len k iv lg hk hn]; rfl
  have hzv := zeroKey49
  have HKS := Lib.hid (fun W => keys_any k lg iv W hk hn)
  have HZC := Lib.hid (fun (W : World) (g : Nat) (t : TypeId) (fr : Nat × Nat) (hh : W.heap[g]? = some (.cells (kCells k lg iv).toArray t fr)) => kz_of (post := []) (by rw [List.append_nil]; exact hh) hk hn)
  have HZO := Lib.hid (kCells_one k iv lg)
  have HR : Hid (1 ≤ keyW lg + 6 ∧ keyW lg + 6 ≤ 14) := by show _ ∧ _; cases lg <;> simp [keyW]
  clear hk hn h hm hcl
  generalize kCells k lg iv = ZL at HC hzl hz49 HZC HZO HKS
  generalize zeros49 = Z49 at hz49 hzv
  generalize keyW lg + 6 = nr at HKS HR
  generalize expandL (keyB k lg) = ws at HKS
  obtain ⟨yb, hyb⟩ : ∃ yb : Int, yb = (by_.toNat : Int) := ⟨_, rfl⟩
  rw [← hyb] at HC
  have HYB : Hid (yb = (by_.toNat : Int)) := hyb
  clear hyb
  go_enter Try.func5, Try.ntmps5
  go_wp2_with fail
  generalize hW0 : w.alloc _ = W0 at HC ⊢
  have hz0 : W0.heap.size = w.heap.size + 1 := by rw [← hW0]; simp
  have B0 : Hid (Below w.heap.size w W0) := by rw [← hW0]; exact (Below.refl _ _).alloc (Nat.le_refl _) _
  have HZ0 := Lib.hid hz0
  clear hW0 hz0
  have HX : Hid (Below (w.heap.size + 1) W0 W0.drew) := (Below.refl _ _).drew
  have hlt : w.heap.size < w.heap.size + 1 := Nat.lt_succ_self _
  refine regB_start (w.heap.size + 1) (by kernel_rfl) ?_
  try simp only [Act.put, List.setIfInBounds_toArray, List.set_cons_zero, List.set_cons_succ]
  refine regB_take (v := ?_) 0 (some 12) rfl rfl (by kernel_rfl) (by kernel_rfl) (by kernel_rfl) (fun _ _ _ h => h) (by rfl) (fun W hW => ?_) ?_
  rotate_left
  · (go_simp; try rfl)
  simp only [Act.put, List.setIfInBounds_toArray, List.set_cons_zero, List.set_cons_succ]
  refine regB_load 1 (some 13) (fun W hW => run_loadAt_mid W w.heap.size 0 25 ZL _ (fun j v hv => (hW.cell hlt).trans ((HX.out.cell hlt).trans (HC.out.1 j v hv))) Try.underlying25 rfl hzl.out) rfl rfl rfl rfl (by kernel_rfl) (by kernel_rfl) (by kernel_rfl) (fun _ _ _ h => h) (by rfl) ?_
  simp only [Act.put, List.setIfInBounds_toArray, List.set_cons_zero, List.set_cons_succ]
  refine regB_take (v := ?_) 2 (some 14) rfl rfl (by kernel_rfl) (by kernel_rfl) (by kernel_rfl) (fun _ _ _ h => h) (by rfl) (fun W hW => ?_) ?_
  rotate_left
  · (go_simp; try rfl)
  simp only [Act.put, List.setIfInBounds_toArray, List.set_cons_zero, List.set_cons_succ]
  refine regB_load 3 (some 15) (fun W hW => k_load_slice uT ((hW.cell hlt).trans ((HX.out.cell hlt).trans HC.out.2.1))) rfl rfl rfl rfl (by kernel_rfl) (by kernel_rfl) (by kernel_rfl) (fun _ _ _ h => h) (by rfl) ?_
  simp only [Act.put, List.setIfInBounds_toArray, List.set_cons_zero, List.set_cons_succ]
  refine regB_take (v := ?_) 4 (some 16) rfl rfl (by kernel_rfl) (by kernel_rfl) (by kernel_rfl) (fun _ _ _ h => h) (by rfl) (fun W hW => ?_) ?_
  rotate_left
  · (go_simp; try rfl)
  simp only [Act.put, List.setIfInBounds_toArray, List.set_cons_zero, List.set_cons_succ]
  refine regB_load 5 (some 17) (fun W hW => load_cell Try.underlying41 ((hW.cell hlt).trans ((HX.out.cell hlt).trans HC.out.2.2.1))) rfl rfl rfl rfl (by kernel_rfl) (by kernel_rfl) (by kernel_rfl) (fun _ _ _ h => h) (by rfl) ?_
  simp only [Act.put, List.setIfInBounds_toArray, List.set_cons_zero, List.set_cons_succ]
  refine regB_take (v := ?_) 6 (some 18) rfl rfl (by kernel_rfl) (by kernel_rfl) (by kernel_rfl) (fun _ _ _ h => h) (by rfl) (fun W hW => ?_) ?_
  rotate_left
  · (go_simp; try rfl)
  simp only [Act.put, List.setIfInBounds_toArray, List.set_cons_zero, List.set_cons_succ]
  refine regB_load 7 (some 19) (fun W hW => load_cell Try.underlying5 ((hW.cell hlt).trans ((HX.out.cell hlt).trans HC.out.2.2.2))) rfl rfl rfl rfl (by kernel_rfl) (by kernel_rfl) (by kernel_rfl) (fun _ _ _ h => h) (by rfl) ?_
  simp only [Act.put, List.setIfInBounds_toArray, List.set_cons_zero, List.set_cons_succ]
  refine regB_eff 8 rfl (by kernel_rfl) (fun K hK => ?_)
  go_simp
  have hE : Below (w.heap.size + 1) W0.drew (W0.drew.alloc (.cells Z49.toArray 25)) := ((Below.refl _ W0.drew).alloc (Nat.le_of_eq HZ0.out.symm) _)
  refine hK.out _ _ hE ?_
  have HX := Lib.hid (Below.trans HX.out hE)
  clear hE hK K
  try simp only [Act.put, List.setIfInBounds_toArray, List.set_cons_zero, List.set_cons_succ]
  refine regB_eff 9 rfl (by kernel_rfl) (fun K hK => ?_)
  refine step_st1 rfl 25 (.tmp 3) (.tmp 13) rfl (store_arr (cs := ZL) hzl.out HZO.out (old := Z49) (heap_alloc_new' W0.drew _) hz49.out) ?_
  generalize hV : World.setRow _ _ _ = W2
  have F2 : Hid (W2.heap[W0.heap.size]? = some (.cells ZL.toArray 25 (0, 0))) := heap_of_setRow hV (heap_alloc_new' W0.drew _)
  have hE : Below (w.heap.size + 1) (W0.drew.alloc (.cells Z49.toArray 25)) W2 := by rw [← hV]; exact grown_below (grown_setRow _ _ _) (Nat.le_of_eq HZ0.out.symm) (by have := HZ0.out; simp; omega)
  clear hV
  refine hK.out _ _ hE ?_
  have HX := Lib.hid (Below.trans HX.out hE)
  clear hE hK K
  try simp only [Act.put, List.setIfInBounds_toArray, List.set_cons_zero, List.set_cons_succ]
  refine regB_take (v := ?_) 10 (some 4) rfl rfl (by kernel_rfl) (by kernel_rfl) (by kernel_rfl) (fun _ _ _ h => h) (by rfl) (fun W hW => ?_) ?_
  rotate_left
  · (go_simp; try rfl)
  simp only [Act.put, List.setIfInBounds_toArray, List.set_cons_zero, List.set_cons_succ]
  refine regB_take (v := ?_) 11 (some 5) rfl rfl (by kernel_rfl) (by kernel_rfl) (by kernel_rfl) (fun _ _ _ h => h) (by rfl) (fun W hW => ?_) ?_
  rotate_left
  · (go_simp; try rfl)
  simp only [Act.put, List.setIfInBounds_toArray, List.set_cons_zero, List.set_cons_succ]
  refine regB_take (v := ?_) 12 (some 6) rfl rfl (by kernel_rfl) (by kernel_rfl) (by kernel_rfl) (fun _ _ _ h => h) (by rfl) (fun W hW => ?_) ?_
  rotate_left
  · (go_simp; try rfl)
  simp only [Act.put, List.setIfInBounds_toArray, List.set_cons_zero, List.set_cons_succ]
  refine regB_done (by kernel_rfl) ?_
  have B2 : Hid (Below w.heap.size w W2) := B0.out.trans (HX.out.mono (Nat.le_succ _))
  have Z2 : Hid (KZ W2 W0.heap.size k lg iv) := HZC.out W2 _ _ _ F2.out
  clear HX HC B0 hlt HZC HZO hzv hz49 HZ0
  generalize W0.heap.size = g0 at Z2 F2 ⊢
  by_cases hbig : 300 < m
  · have e1 : (300 : Int) < (m : Int) := by omega
    go_wp2
    go_ret
    exact ⟨rfl, B2.out⟩
  have e1 : ¬ ((300 : Int) < (m : Int)) := by omega
  by_cases hm0 : m = 0
  · have e2 : ((m : Int) == 0) = true := by simp [hm0]
    go_wp2
    go_ret
    exact ⟨rfl, B2.out⟩
  have e2 : ((m : Int) == 0) = false := by simp; omega
  obtain ⟨kk, hkk⟩ : ∃ kk, kk = at_ % m := ⟨_, rfl⟩
  have hkm : kk < m := by rw [hkk]; exact Nat.mod_lt _ (by omega)
  have e3 : (at_ : Int) % (m : Int) = (kk : Int) := by rw [hkk]; exact (Int.natCast_emod at_ m).symm
  have e4 : (at_ : Int).tmod (m : Int) = (kk : Int) := by rw [Int.tmod_eq_emod_of_nonneg (by omega)]; exact e3
  have hm6 : m ≤ 300 := by omega
  have HM0 : Hid (0 < m) := by show 0 < m; omega
  clear hkk hbig hm0
  have S2 := Lib.hid (H.out.below B2.out)
  go_wp2_with (first
    | (refine wpList_ld rfl 25 (.tmp 3) rfl (load_arr Try.underlying25 rfl hzl.out F2.out) ?_)
    | fail)
  refine (HKS.out W2).mono ?_
  rintro e W3 ⟨gk, rfl, _, hK, hb3⟩
  have K3 := Lib.hid (KeyAt.enc hK HR.out.1 HR.out.2)
  have B3 := Lib.hid (B2.out.step hb3)
  have Z3 := Lib.hid (Z2.out.ext hb3)
  have S3 := Lib.hid (S2.out.below hb3)
  clear hK hb3 B2 Z2 S2 F2 HKS hzl
  generalize encL ws nr = E at K3
  have HBK := Lib.hid (ctrL_back (strmF E iv) b 0)
  have HLC := Lib.hid (ctrL_set (strmF E iv) b 0 kk by_)
  have HXL : Hid ((ctrL (strmF E iv) 0 b).length = m) := by rw [ctrL_len]; exact HM
  go_wp2_with (first
    | (refine wpList_ld rfl 23 (.tmp 36) rfl (run_loadAt_mid W3 g0 33 23 (iv.map bv) _ Z3.out.2.2.2 arr16B rfl (i16z iv HN.out)) ?_)
    | fail)
  refine (Crypt_any _ E iv A m c b W3 HN.out K3.out HM.out (by omega) S3.out).mono ?_
  rintro e w4 ⟨v9, rfl, hO4, hb4⟩
  obtain ⟨g9, cap9, cur9, rfl, hg9, hcur9, hS9, hl9⟩ := own_open hO4 HM0.out
  have K4 := Lib.hid (K3.out.ext hb4)
  have B4 := Lib.hid (B3.out.step hb4)
  have Z4 := Lib.hid (Z3.out.ext hb4)
  have S4 := Lib.hid (S3.out.below hb4)
  have F9 := Lib.hid hcur9; have S9 := Lib.hid hS9
  have G9 : Hid (w.heap.size ≤ g9 ∧ g0 < g9) := ⟨Nat.le_trans B3.out.size hg9, Nat.lt_of_lt_of_le Z3.out.1 hg9⟩
  have HG3 := Lib.hid hg9
  have X4 : Hid (Ext W3 w4) := hb4
  clear hO4 hb4 B3 S3 hcur9 hS9 hg9 hl9
  have C8 := Lib.hid (fun W hK => Crypt_any (.pointer (some ⟨gk, 0, none⟩)) E iv (some ⟨g9, 0, none⟩) m cap9 (ctrL (strmF E iv) 0 b) W HN.out hK HXL.out (by omega))
  rw [HBK.out] at C8
  generalize hXX : ctrL (strmF E iv) 0 b = X at C8 HLC HXL S9
  clear hXX HBK
  go_wp2_with fail
  have HX : Hid (Ext w4 w4.drew) := (Below.refl _ _).drew
  have hne : ((strOf b).toList != (strOf b).toList) = false := by simp
  have hnm : ((m : Int) != (m : Int)) = false := by simp
  refine reg_start (by kernel_rfl) ?_
  try simp only [Act.put, List.setIfInBounds_toArray, List.set_cons_zero, List.set_cons_succ]
  refine reg_take (v := ?_) 0 (some 40) rfl rfl (by kernel_rfl) (by kernel_rfl) (by kernel_rfl) (fun _ _ _ h => h) (by rfl) (fun W hW => ?_) ?_
  rotate_left
  · (go_simp; try rfl)
  simp only [Act.put, List.setIfInBounds_toArray, List.set_cons_zero, List.set_cons_succ]
  refine reg_take (v := ?_) 1 (some 41) rfl rfl (by kernel_rfl) (by kernel_rfl) (by kernel_rfl) (fun _ _ _ h => h) (by rfl) (fun W hW => ?_) ?_
  rotate_left
  · (go_simp; try rfl)
  simp only [Act.put, List.setIfInBounds_toArray, List.set_cons_zero, List.set_cons_succ]
  refine reg_take (v := ?_) 2 (some 42) rfl rfl (by kernel_rfl) (by kernel_rfl) (by kernel_rfl) (fun _ _ _ h => h) (by rfl) (fun W hW => ?_) ?_
  rotate_left
  · (go_simp; try rfl)
  simp only [Act.put, List.setIfInBounds_toArray, List.set_cons_zero, List.set_cons_succ]
  refine reg_take (v := ?_) 3 (some 43) rfl rfl (by kernel_rfl) (by kernel_rfl) (by kernel_rfl) (fun _ _ _ h => h) (by rfl) (fun W hW => ?_) ?_
  rotate_left
  · (go_simp; try rfl)
  simp only [Act.put, List.setIfInBounds_toArray, List.set_cons_zero, List.set_cons_succ]
  refine reg_take (v := ?_) 4 (some 44) rfl rfl (by kernel_rfl) (by kernel_rfl) (by kernel_rfl) (fun _ _ _ h => h) (by rfl) (fun W hW => ?_) ?_
  rotate_left
  · (go_simp; try rfl)
  simp only [Act.put, List.setIfInBounds_toArray, List.set_cons_zero, List.set_cons_succ]
  refine reg_take (v := ?_) 5 (some 45) rfl rfl (by kernel_rfl) (by kernel_rfl) (by kernel_rfl) (fun _ _ _ h => h) (by rfl) (fun W hW => ?_) ?_
  rotate_left
  · (go_simp; try rfl)
  simp only [Act.put, List.setIfInBounds_toArray, List.set_cons_zero, List.set_cons_succ]
  refine reg_take (v := ?_) 6 (some 46) rfl rfl (by kernel_rfl) (by kernel_rfl) (by kernel_rfl) (fun _ _ _ h => h) (by rfl) (fun W hW => ?_) ?_
  rotate_left
  · (go_simp; try rfl)
  simp only [Act.put, List.setIfInBounds_toArray, List.set_cons_zero, List.set_cons_succ]
  refine reg_take (v := ?_) 7 (some 47) rfl rfl (by kernel_rfl) (by kernel_rfl) (by kernel_rfl) (fun _ _ _ h => h) (by rfl) (fun W hW => ?_) ?_
  rotate_left
  · (go_simp; try rfl)
  simp only [Act.put, List.setIfInBounds_toArray, List.set_cons_zero, List.set_cons_succ]
  refine reg_load 8 (some 48) (fun W hW => run_loadAt_mid W g0 33 23 (iv.map bv) _ (Z4.out.ext (HX.out.trans hW)).2.2.2 arr16B rfl (i16z iv HN.out)) rfl rfl rfl rfl (by kernel_rfl) (by kernel_rfl) (by kernel_rfl) (fun _ _ _ h => h) (by rfl) ?_
  simp only [Act.put, List.setIfInBounds_toArray, List.set_cons_zero, List.set_cons_succ]
  refine reg_take (v := ?_) 9 (some 49) rfl rfl (by kernel_rfl) (by kernel_rfl) (by kernel_rfl) (fun _ _ _ h => h) (by rfl) (fun W hW => ?_) ?_
  rotate_left
  · (go_simp; try rfl)
  simp only [Act.put, List.setIfInBounds_toArray, List.set_cons_zero, List.set_cons_succ]
  refine reg_take (v := ?_) 12 (some 52) rfl rfl (by kernel_rfl) (by kernel_rfl) (by kernel_rfl) (fun _ _ _ h => h) (by rfl) (fun W hW => ?_) ?_
  rotate_left
  · (go_simp; try rfl)
  simp only [Act.put, List.setIfInBounds_toArray, List.set_cons_zero, List.set_cons_succ]
  refine reg_conv 13 (some 53) (fun W hW => conv_string W A m c b HM.out (S4.out.extk (HX.out.trans hW))) rfl rfl rfl rfl (by kernel_rfl) (by kernel_rfl) (by kernel_rfl) (fun _ _ _ h => h) (by rfl) ?_
  simp only [Act.put, List.setIfInBounds_toArray, List.set_cons_zero, List.set_cons_succ]
  refine reg_eff 10 rfl (by kernel_rfl) (fun K hK => ?_)
  go_simp
  refine (C8.out _ (K4.out.ext HX.out) (S9.out.extk HX.out)).mono ?_
  rintro e w5 ⟨v5, rfl, hO5, hE⟩
  obtain ⟨A5, c5, rfl, hl5, hc5, hm5, hr5⟩ := own_read hO5
  have S5 : Hid (Sl w5 A5 c5 b) := ⟨by omega, hm5, hr5⟩
  clear hO5 hc5 hm5 hr5 hl5
  refine hK.out _ _ hE ?_
  have HX := Lib.hid (Ext.trans HX.out hE)
  clear hE hK K
  try simp only [Act.put, List.setIfInBounds_toArray, List.set_cons_zero, List.set_cons_succ]
  refine reg_conv 11 (some 51) (fun W hW => conv_string W A5 m c5 b HM.out (S5.out.extk hW)) rfl rfl rfl rfl (by kernel_rfl) (by kernel_rfl) (by kernel_rfl) (fun _ _ _ h => h) (by rfl) ?_
  simp only [Act.put, List.setIfInBounds_toArray, List.set_cons_zero, List.set_cons_succ]
  refine reg_take (v := ?_) 14 (some 54) rfl rfl (by kernel_rfl) (by kernel_rfl) (by kernel_rfl) (fun _ _ _ h => h) (by rfl) (fun W hW => ?_) ?_
  rotate_left
  · (go_simp; try rfl)
  simp only [Act.put, List.setIfInBounds_toArray, List.set_cons_zero, List.set_cons_succ]
  refine reg_take (v := ?_) 15 (some 55) rfl rfl (by kernel_rfl) (by kernel_rfl) (by kernel_rfl) (fun _ _ _ h => h) (by rfl) (fun W hW => ?_) ?_
  rotate_left
  · (go_simp; try rfl)
  simp only [Act.put, List.setIfInBounds_toArray, List.set_cons_zero, List.set_cons_succ]
  refine reg_done (by kernel_rfl) ?_
  have K5 := Lib.hid (K4.out.ext HX.out)
  have B5 : Hid (Below w.heap.size w w5) := B4.out.step HX.out
  have Z5 := Lib.hid (Z4.out.ext HX.out)
  have S5b := Lib.hid (S4.out.extk HX.out)
  have F95 : Hid (w5.heap[g9]? = _) := (HX.out.block _ (lt_of_heap F9.out)).trans F9.out
  have S95 := Lib.hid (S9.out.extk HX.out)
  have X5 : Hid (Ext W3 w5) := X4.out.step HX.out
  clear K4 B4 Z4 S4 F9 S9 HX hne hnm C8 S5 X4
  have hm31 : 0 + m ≤ 2147483647 := by omega
  go_upto_region 12 with (
    at_builtin
    refine wpList_app8 rfl (.tmp 61) (.tmp 62) rfl w5.heap.size _ 0 [] rfl ?_ A m c w5.heap.size b rfl ?_ ?_ ?_ ?_ ?_
    · exact own_heap (g := w5.heap.size) (heap_alloc_new' w5 _) (Nat.le_refl _) rfl (Nat.zero_le _)
    · exact S5b.out.2.2.below ((Below.refl _ _).alloc (Nat.le_refl _) _)
    · exact HM.out
    · exact hm31
    · simp
    rintro v1 w6 hown hgr
    have HB6 := Lib.hid (((Below.refl w5.heap.size w5).alloc (Nat.le_refl _) _).grown hgr (by simp) (ge_own w5.heap.size 0))
    have HO6 := Lib.hid hown
    clear hgr hown)
  have hown := HO6.out
  rw [List.nil_append, Nat.zero_add] at hown
  obtain ⟨gc, cap, cur, rfl, hgc, hcur, hSC, _⟩ := own_open hown HM0.out
  have K6 := Lib.hid (K5.out.ext HB6.out)
  have B6 := Lib.hid (B5.out.step HB6.out)
  have Z6 := Lib.hid (Z5.out.ext HB6.out)
  have F96 : Hid (w6.heap[g9]? = _) := (HB6.out.block _ (lt_of_heap F95.out)).trans F95.out
  have S96 := Lib.hid (S95.out.below HB6.out)
  have G6 : Hid (w.heap.size ≤ gc ∧ g0 < gc ∧ g9 < gc) := ⟨Nat.le_trans B5.out.size hgc, Nat.lt_of_lt_of_le Z5.out.1 hgc, Nat.lt_of_lt_of_le (lt_of_heap F95.out) hgc⟩
  have KG : Hid (w5.heap.size ≤ gc) := hgc
  have HSC := Lib.hid hSC; have HCUR := Lib.hid hcur
  clear hown HO6 hgc hcur hSC
  have c1 := k_sl_cell (k := kk) HSC.out (by rw [HM.out]; exact hkm)
  have fz : w6.frozen? ⟨gc, kk, none⟩ = false := by simp [World.frozen?, HCUR.out]
  obtain ⟨x, hx⟩ : ∃ x : UInt8, x = b.getD kk 0 ^^^ by_ := ⟨_, rfl⟩
  have hx8 : bits .xor .u8 ((b.getD kk 0).toNat : Int) yb = (x.toNat : Int) := by rw [HYB.out, hx]; exact xor8 _ _
  rw [← hx] at HLC
  have HSL : Hid (Sl (w6.setCell ⟨gc, kk, none⟩ (.int .u8 (x.toNat : Int))) (some ⟨gc, 0, none⟩) cap (b.set kk x)) := k_sl_set HSC.out HCUR.out (by rw [HM.out]; exact hkm)
  clear hx
  generalize b.getD kk 0 = z at c1 hx8
  have e6 : (kk : Int) < (m : Int) := by omega
  clear e3 e4
  go_upto_region 13 with (fail)
  generalize hV : w6.setCell _ _ = W7 at HSL ⊢
  have N7 : Hid (Below w5.heap.size w5 W7) := by rw [← hV]; exact HB6.out.setCell KG.out _
  clear hV c1 fz hx8 HSC HCUR B6 Z6 F96 S96 HB6 K6
  have c2 := k_sl_cell (k := kk) (S95.out.below N7.out) (by rw [HXL.out]; exact hkm)
  have F97 : Hid (W7.heap[g9]? = _) := (N7.out.block _ (lt_of_heap F95.out)).trans F95.out
  have fz : W7.frozen? ⟨g9, kk, none⟩ = false := by simp [World.frozen?, F97.out]
  obtain ⟨x2, hx2⟩ : ∃ x2 : UInt8, x2 = X.getD kk 0 ^^^ by_ := ⟨_, rfl⟩
  have hx9 : bits .xor .u8 ((X.getD kk 0).toNat : Int) yb = (x2.toNat : Int) := by rw [HYB.out, hx2]; exact xor8 _ _
  rw [← hx2] at HLC
  have HS9 : Hid (Sl (W7.setCell ⟨g9, kk, none⟩ (.int .u8 (x2.toNat : Int))) (some ⟨g9, 0, none⟩) cap9 (X.set kk x2)) := k_sl_set (S95.out.below N7.out) F97.out (by rw [HXL.out]; exact hkm)
  have HSL8 : Hid (Sl (W7.setCell ⟨g9, kk, none⟩ (.int .u8 (x2.toNat : Int))) (some ⟨gc, 0, none⟩) cap (b.set kk x)) := by
    obtain ⟨s1, s2, s3⟩ := HSL.out
    obtain ⟨b1, o1, he, hb1, hc⟩ := s3.at_ (by rw [List.length_map, List.length_set, HM.out]; exact HM0.out)
    injection he with he
    injection he with he1 he2
    subst he1; subst he2
    refine ⟨s1, s2, .inr ⟨gc, 0, rfl, by simpa using hb1, fun j u hu => ?_⟩⟩
    rw [World.cell?_setCell_other _ _ _ _ (fun e => by injection e with e1 e2; have := G6.out.2.2; omega)]
    exact hc j u hu
  clear hx2 HSL S95 F95
  generalize X.getD kk 0 = z2 at c2 hx9
  go_wp2_with fail
  generalize hV : W7.setCell _ _ = W8 at HS9 HSL8 ⊢
  have B8 : Hid (Below w.heap.size w W8) := by rw [← hV]; exact (B5.out.step N7.out).setCell G9.out.1 _
  have X8 : Hid (Ext W3 W8) := by rw [← hV]; exact (X5.out.step N7.out).setCell HG3.out _
  have K8 := Lib.hid (K3.out.ext X8.out)
  have Z8 := Lib.hid (Z3.out.ext X8.out)
  clear hV c2 fz hx9 F97 N7 X5 X8 K3 Z3 K5 Z5 B5 S5b H
  have C9 := Lib.hid (fun W hK => Crypt_any (.pointer (some ⟨gk, 0, none⟩)) E iv (some ⟨gc, 0, none⟩) m cap (b.set kk x) W HN.out hK (by rw [List.length_set]; exact HM.out) (by omega))
  rw [HLC.out] at C9
  have HL2 : Hid ((X.set kk x2).length = m) := by show _ = _; rw [List.length_set]; exact HXL.out
  generalize X.set kk x2 = X2 at C9 HS9 HL2
  generalize b.set kk x = D at C9 HSL8
  have HX : Hid (Ext W8 W8.drew) := (Below.refl _ _).drew
  have hq : ((strOf X2).toList == (strOf X2).toList) = true := beq_self_eq_true _
  refine reg_start (by kernel_rfl) ?_
  try simp only [Act.put, List.setIfInBounds_toArray, List.set_cons_zero, List.set_cons_succ]
  refine reg_take (v := ?_) 0 (some 78) rfl rfl (by kernel_rfl) (by kernel_rfl) (by kernel_rfl) (fun _ _ _ h => h) (by rfl) (fun W hW => ?_) ?_
  rotate_left
  · (go_simp; try rfl)
  simp only [Act.put, List.setIfInBounds_toArray, List.set_cons_zero, List.set_cons_succ]
  refine reg_take (v := ?_) 1 (some 79) rfl rfl (by kernel_rfl) (by kernel_rfl) (by kernel_rfl) (fun _ _ _ h => h) (by rfl) (fun W hW => ?_) ?_
  rotate_left
  · (go_simp; try rfl)
  simp only [Act.put, List.setIfInBounds_toArray, List.set_cons_zero, List.set_cons_succ]
  refine reg_load 2 (some 80) (fun W hW => run_loadAt_mid W g0 33 23 (iv.map bv) _ (Z8.out.ext (HX.out.trans hW)).2.2.2 arr16B rfl (i16z iv HN.out)) rfl rfl rfl rfl (by kernel_rfl) (by kernel_rfl) (by kernel_rfl) (fun _ _ _ h => h) (by rfl) ?_
  simp only [Act.put, List.setIfInBounds_toArray, List.set_cons_zero, List.set_cons_succ]
  refine reg_take (v := ?_) 3 (some 81) rfl rfl (by kernel_rfl) (by kernel_rfl) (by kernel_rfl) (fun _ _ _ h => h) (by rfl) (fun W hW => ?_) ?_
  rotate_left
  · (go_simp; try rfl)
  simp only [Act.put, List.setIfInBounds_toArray, List.set_cons_zero, List.set_cons_succ]
  refine reg_take (v := ?_) 6 (some 84) rfl rfl (by kernel_rfl) (by kernel_rfl) (by kernel_rfl) (fun _ _ _ h => h) (by rfl) (fun W hW => ?_) ?_
  rotate_left
  · (go_simp; try rfl)
  simp only [Act.put, List.setIfInBounds_toArray, List.set_cons_zero, List.set_cons_succ]
  refine reg_conv 7 (some 85) (fun W hW => conv_string W (some ⟨g9, 0, none⟩) m cap9 X2 HL2.out (HS9.out.extk (HX.out.trans hW))) rfl rfl rfl rfl (by kernel_rfl) (by kernel_rfl) (by kernel_rfl) (fun _ _ _ h => h) (by rfl) ?_
  simp only [Act.put, List.setIfInBounds_toArray, List.set_cons_zero, List.set_cons_succ]
  refine reg_eff 4 rfl (by kernel_rfl) (fun K hK => ?_)
  go_simp
  refine (C9.out _ (K8.out.ext HX.out) (HSL8.out.extk HX.out)).mono ?_
  rintro e w9 ⟨v5, rfl, hO5, hE⟩
  obtain ⟨A5, c5, rfl, hl5, hc5, hm5, hr5⟩ := own_read hO5
  have S5 : Hid (Sl w9 A5 c5 X2) := ⟨by omega, hm5, hr5⟩
  clear hO5 hc5 hm5 hr5 hl5
  refine hK.out _ _ hE ?_
  have HX := Lib.hid (Ext.trans HX.out hE)
  clear hE hK K
  try simp only [Act.put, List.setIfInBounds_toArray, List.set_cons_zero, List.set_cons_succ]
  refine reg_conv 5 (some 83) (fun W hW => conv_string W A5 m c5 X2 HL2.out (S5.out.extk hW)) rfl rfl rfl rfl (by kernel_rfl) (by kernel_rfl) (by kernel_rfl) (fun _ _ _ h => h) (by rfl) ?_
  simp only [Act.put, List.setIfInBounds_toArray, List.set_cons_zero, List.set_cons_succ]
  refine reg_take (v := ?_) 8 (some 86) rfl rfl (by kernel_rfl) (by kernel_rfl) (by kernel_rfl) (fun _ _ _ h => h) (by rfl) (fun W hW => ?_) ?_
  rotate_left
  · (go_simp; try rfl)
  simp only [Act.put, List.setIfInBounds_toArray, List.set_cons_zero, List.set_cons_succ]
  refine reg_take (v := ?_) 9 (some 87) rfl rfl (by kernel_rfl) (by kernel_rfl) (by kernel_rfl) (fun _ _ _ h => h) (by rfl) (fun W hW => ?_) ?_
  rotate_left
  · (go_simp; try rfl)
  simp only [Act.put, List.setIfInBounds_toArray, List.set_cons_zero, List.set_cons_succ]
  refine reg_eff 10 rfl (by kernel_rfl) (fun K hK => ?_)
  go_simp
  refine (awake8_any _).mono ?_
  rintro e w10 ⟨rfl, hE⟩
  refine hK.out _ _ hE ?_
  have HX := Lib.hid (Ext.trans HX.out hE)
  clear hE hK K
  try simp only [Act.put, List.setIfInBounds_toArray, List.set_cons_zero, List.set_cons_succ]
  refine reg_take (v := ?_) 11 (some 89) rfl rfl (by kernel_rfl) (by kernel_rfl) (by kernel_rfl) (fun _ _ _ h => h) (by rfl) (fun W hW => ?_) ?_
  rotate_left
  · (go_simp; try rfl)
  simp only [Act.put, List.setIfInBounds_toArray, List.set_cons_zero, List.set_cons_succ]
  refine reg_take (v := ?_) 12 (some 2) rfl rfl (by kernel_rfl) (by kernel_rfl) (by kernel_rfl) (fun _ _ _ h => h) (by rfl) (fun W hW => ?_) ?_
  rotate_left
  · (go_simp; try rfl)
  simp only [Act.put, List.setIfInBounds_toArray, List.set_cons_zero, List.set_cons_succ]
  refine reg_done (by kernel_rfl) ?_
  go_wp2
  go_ret
  exact ⟨rfl, B8.out.step HX.out⟩
end Go.Proofs.Ytbmhmjgomgkamaa

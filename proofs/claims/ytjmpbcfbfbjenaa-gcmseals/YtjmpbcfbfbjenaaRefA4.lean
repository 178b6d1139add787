/- palfreyref03.columns. -/
import Derived.Test.YtjmpbcfbfbjenaaRefA3
import Derived.Test.YtjmpbcfbfbjenaaRefAM2
namespace Go.Proofs.Ytjmpbcfbfbjenaa
open Go.RowKit
set_option maxRecDepth 100000
set_option linter.unusedVariables false
set_option linter.unusedSimpArgs false
def colP (m b : List UInt8) (q : Nat) : Nat → UInt8
  | 0 => 0
  | k + 1 => colP m b q k ^^^ colF m b (q / 4) (q % 4) k
theorem colP_end (m b : List UInt8) (q : Nat) : colP m b q 4 = colQ m b q := rfl
def colD (m b : List UInt8) (q : Nat) : List UInt8 := (colB m b).take q ++ List.replicate (16 - q) 0
def colK (m b : List UInt8) (q k : Nat) : List UInt8 := (colB m b).take q ++ (colP m b q k :: List.replicate (15 - q) 0)
theorem colK_zero (m b : List UInt8) (q : Nat) (hq : q < 16) : colD m b q = colK m b q 0 := by
  rw [colD, colK, show 16 - q = (15 - q) + 1 by omega, List.replicate_succ]; rfl
theorem colK_four (m b : List UInt8) (q : Nat) (hq : q < 16) : colK m b q 4 = colD m b (q + 1) := by
  have hl : q < (colB m b).length := by rw [colB_len]; exact hq
  rw [colK, colD, colP_end, List.take_succ_eq_append_getElem hl, List.append_assoc, show 16 - (q + 1) = 15 - q by omega]
  congr 1
  simp [colB]
theorem colK_step (m b : List UInt8) (q k : Nat) (hq : q < 16) : (colK m b q k).set q (colP m b q k ^^^ colF m b (q / 4) (q % 4) k) = colK m b q (k + 1) := by
  have hl : ((colB m b).take q).length = q := by rw [List.length_take, colB_len]; omega
  rw [colK, List.set_append_right _ _ (by omega), hl, Nat.sub_self, List.set_cons_zero]; rfl
theorem colK_len (m b : List UInt8) (q k : Nat) (hq : q < 16) : (colK m b q k).length = 16 := by simp [colK, colB_len]; omega
theorem colK_get (m b : List UInt8) (q k : Nat) (hq : q < 16) : (colK m b q k).getD q 0 = colP m b q k := by
  have hl : ((colB m b).take q).length = q := by rw [List.length_take, colB_len]; omega
  rw [colK, List.getD_eq_getElem?_getD, List.getElem?_append_right (by omega), hl, Nat.sub_self]; rfl
theorem colD_zero (m b : List UInt8) : (colD m b 0).map bv = zeros16 := by simp [colD, zeros16]
theorem colD_end (m b : List UInt8) : colD m b 16 = colB m b := by
  rw [colD, List.take_of_length_le (by rw [colB_len]; omega), List.replicate_zero, List.append_nil]
theorem r_i4 (l : List UInt8) (h : l.length = 4) : (Try.prog.info? 83).map (·.size) = some (l.map bv).length := by rw [List.length_map, h]; kernel_rfl
theorem r_but_cell {g j g' i : Nat} {w W : World} {v : Value} (h : But g j w W) (hn : g' ≠ g) (hl : g' < w.heap.size) (hc : w.cell? ⟨g', i, none⟩ = some v) : W.cell? ⟨g', i, none⟩ = some v := (h.2 g' i hl (fun e => hn e.1)).trans hc
theorem r_heap4 (w : World) (o1 o2 o3 o4 : Obj) : ∀ W, (((w.alloc o1).alloc o2).alloc o3).alloc o4 = W → W.heap[w.heap.size]? = some o1 ∧ W.heap[w.heap.size + 1]? = some o2 ∧ W.heap[w.heap.size + 2]? = some o3 ∧ W.heap[w.heap.size + 3]? = some o4 ∧ Below w.heap.size w W := by
  rintro W rfl
  have a1 := heap_alloc_new' w o1
  have a2 := heap_alloc_new' (w.alloc o1) o2
  have a3 := heap_alloc_new' ((w.alloc o1).alloc o2) o3
  have a4 := heap_alloc_new' (((w.alloc o1).alloc o2).alloc o3) o4
  simp only [World.size_alloc] at a2 a3 a4
  have b1 := Below.heap_alloc (w.alloc o1) o2
  have b2 := Below.heap_alloc ((w.alloc o1).alloc o2) o3
  have b3 := Below.heap_alloc (((w.alloc o1).alloc o2).alloc o3) o4
  simp only [World.size_alloc] at b1 b2 b3
  refine ⟨?_, ?_, ?_, a4, ((((Below.refl _ w).alloc (Nat.le_refl _) o1).alloc (by simp) o2).alloc (by simp; omega) o3).alloc (by simp; omega) o4⟩
  · rw [b3 _ (by omega), b2 _ (by omega), b1 _ (by omega)]; exact a1
  · rw [b3 _ (by omega), b2 _ (by omega)]; exact a2
  · rw [b3 _ (by omega)]; exact a3
set_option maxHeartbeats 4000000 in
theorem refCols_any (b m : List UInt8) (w : World) (hb : b.length = 16) (hm : m.length = 4) :
    Calls Try.prog 67 #[.agg (b.map bv).toArray, .agg (m.map bv).toArray] w fun e w' => e = .returned (.agg ((colB m b).map bv).toArray) ∧ Below w.heap.size w w' := by
  have HB := Lib.hid hb; have HM := Lib.hid hm
  have hz16 : ∀ W, (zeroValue 23).run Try.prog W = .ok (.agg zeros16.toArray) W := fun W => by kernel_rfl
  have HZL := Lib.hid zeros16_len
  have HD0 := Lib.hid (colD_zero m b)
  have HDE := Lib.hid (colD_end m b)
  have HN0 := Lib.hid (colK_zero m b)
  have HN4 := Lib.hid (colK_four m b)
  have HNS := Lib.hid (colK_step m b)
  have HNL := Lib.hid (colK_len m b)
  have HNG := Lib.hid (colK_get m b)
  have HXL := Lib.hid (colB_len m b)
  have HCF : Hid (∀ q k, colF m b (q / 4) (q % 4) k = mulB (m.getD ((k + 4 - q % 4) % 4) 0) (b.getD (4 * (q / 4) + k) 0)) := fun _ _ => rfl
  have MU := Lib.hid (fun x y W => refMul_any x y W)
  generalize zeros16 = Z at hz16 HZL HD0
  obtain ⟨X, HX⟩ : ∃ X, Hid (colB m b = X) := ⟨_, rfl⟩
  rw [HX.out] at HDE HXL ⊢
  generalize colD m b = CD at HD0 HDE HN0 HN4
  generalize colK m b = CN at HN0 HN4 HNS HNL HNG
  generalize colP m b = CP at HNS HNG
  generalize colF m b = CF at HCF HNS
  clear hb hm
  go_enter Try.func67, Try.ntmps67
  go_wp2_with fail
  generalize hV : (((w.alloc _).alloc _).alloc _).alloc _ = W0
  obtain ⟨f2, f3, f4, f5, fb⟩ := r_heap4 w _ _ _ _ _ hV
  have F2 : Hid (W0.heap[w.heap.size]? = some (.cells (b.map bv).toArray 23 (0, 0))) := f2
  have F3 : Hid (W0.heap[w.heap.size + 1]? = some (.cells (m.map bv).toArray 83 (0, 0))) := f3
  have F4 : Hid (W0.heap[w.heap.size + 2]? = some (.cells Z.toArray 23 (0, 0))) := f4
  have F5 : Hid (W0.heap[w.heap.size + 3]? = some (.cells ((CD 0).map bv).toArray 23 (0, 0))) := by show _ = _; rw [HD0.out]; exact f5
  have FB := Lib.hid fb
  clear hV f2 f3 f4 f5 fb
  obtain ⟨g5, hg5⟩ : ∃ g, w.heap.size + 3 = g := ⟨_, rfl⟩
  rw [hg5] at F5 ⊢
  have HG5 := Lib.hid hg5
  clear hg5
  go_loopw [6] (fun vi wr => ∃ (c : Nat), c ≤ 4 ∧ vi = .int .i64 (c : Int) ∧ Hid (wr.heap[g5]? = some (.cells ((CD (4 * c)).map bv).toArray 23 (0, 0))) ∧ Hid (Below g5 W0 wr)) (fun i _ => 4 - (intOf i).toNat)
  case atStart => exact ⟨0, by omega, rfl, F5, Below.refl _ _⟩
  case round =>
    clear F5
    obtain ⟨c, hc, rfl, H5, HBW⟩ := hrel
    by_cases hlc : c < 4
    · have q1 : (c : Int) < 4 := by omega
      go_wp2_with fail
      obtain ⟨wo, hwo⟩ : ∃ x, x = wr := ⟨_, rfl⟩
      subst hwo
      go_loopw [7] (fun vi wr => ∃ (r : Nat), r ≤ 4 ∧ vi = .int .i64 (r : Int) ∧ Hid (wr.heap[g5]? = some (.cells ((CD (4 * c + r)).map bv).toArray 23 (0, 0))) ∧ Hid (Below g5 W0 wr)) (fun i _ => 4 - (intOf i).toNat)
      case atStart => exact ⟨0, by omega, rfl, H5, HBW⟩
      case round =>
        clear H5 HBW
        obtain ⟨r, hr, rfl, H5, HBW⟩ := hrel
        by_cases hlr : r < 4
        · have q2 : (r : Int) < 4 := by omega
          obtain ⟨q, hq⟩ : ∃ q, q = 4 * c + r := ⟨_, rfl⟩
          rw [← hq] at H5
          have hq16 : q < 16 := by omega
          have HQ := Lib.hid hq
          clear hq
          go_wp2_with fail
          obtain ⟨wp, hwp⟩ : ∃ x, x = wr := ⟨_, rfl⟩
          subst hwp
          go_loopw [8] (fun vi wr => ∃ (k : Nat), k ≤ 4 ∧ vi = .int .i64 (k : Int) ∧ Hid (wr.heap[g5]? = some (.cells ((CN q k).map bv).toArray 23 (0, 0))) ∧ Hid (Below g5 W0 wr)) (fun i _ => 4 - (intOf i).toNat)
          case atStart => exact ⟨0, by omega, rfl, by show _ = _; rw [← HN0.out q hq16]; exact H5, HBW⟩
          case round =>
            clear H5 HBW
            obtain ⟨k, hk, rfl, H5, HBW⟩ := hrel
            by_cases hlk : k < 4
            · have q3 : (k : Int) < 4 := by omega
              have hST := HNS.out q k hq16
              have hcf := HCF.out q k
              obtain ⟨j, hj⟩ : ∃ j, j = (k + 4 - r) % 4 := ⟨_, rfl⟩
              obtain ⟨p, hp⟩ : ∃ p, p = 4 * c + k := ⟨_, rfl⟩
              rw [show q % 4 = r by have := HQ.out; omega, show q / 4 = c by have := HQ.out; omega, ← hj, ← hp] at hcf
              rw [show q % 4 = r by have := HQ.out; omega, show q / 4 = c by have := HQ.out; omega, hcf] at hST
              have c5 := bcellT H5.out q (by rw [HNL.out q k hq16]; exact hq16)
              rw [HNG.out q k hq16] at c5
              have c3 := bcellT F3.out j (by rw [HM.out]; omega)
              have c2 := bcellT F2.out p (by rw [HB.out]; omega)
              generalize CP q k = x at c5 hST
              generalize m.getD j 0 = y at c3 hST
              generalize b.getD p 0 = z at c2 hST
              have HMU := Lib.hid (MU.out y z)
              generalize mulB y z = u at HMU hST
              obtain ⟨v, hv⟩ : ∃ v : UInt8, v = x ^^^ u := ⟨_, rfl⟩
              rw [← hv] at hST
              have hvv : bits .xor .u8 (x.toNat : Int) (u.toNat : Int) = (v.toNat : Int) := by rw [hv]; exact xor8 x u
              have HST := Lib.hid hST
              obtain ⟨c4, hc4⟩ : ∃ c4, c4 = 4 * c := ⟨_, rfl⟩
              obtain ⟨e, he⟩ : ∃ e, e = k + 4 - r := ⟨_, rfl⟩
              have o1 : IntKind.i64.wrap (4 * (c : Int)) = (c4 : Int) := by rw [IntKind.wrap_i64]; omega
              have o2 : IntKind.i64.wrap ((c4 : Int) + (r : Int)) = (q : Int) := by have := HQ.out; rw [IntKind.wrap_i64]; omega
              have o3 : IntKind.i64.wrap ((k : Int) - (r : Int)) = (k : Int) - (r : Int) := by rw [IntKind.wrap_i64]; omega
              have o4 : IntKind.i64.wrap ((k : Int) - (r : Int) + 4) = (e : Int) := by rw [IntKind.wrap_i64]; omega
              have o5 : (e : Int).tmod 4 = (j : Int) := by rw [Int.tmod_eq_emod_of_nonneg (by omega)]; omega
              have o5b : IntKind.i64.wrap (j : Int) = (j : Int) := by rw [IntKind.wrap_i64]; omega
              have o6 : IntKind.i64.wrap ((c4 : Int) + (k : Int)) = (p : Int) := by rw [IntKind.wrap_i64]; omega
              have i1 : (q : Int) < 16 := by omega
              have i2 : (j : Int) < 4 := by omega
              have i3 : (p : Int) < 16 := by omega
              have C5 : Hid (wr.drew.cell? ⟨g5, q, none⟩ = some (.int .u8 (x.toNat : Int))) := c5
              have KB : Hid (Below g5 W0 wr.drew) := HBW.out.drew
              have C3 : Hid (wr.drew.cell? ⟨w.heap.size + 1, j, none⟩ = some (.int .u8 (y.toNat : Int))) := (KB.out.cell (by have := HG5.out; show w.heap.size + 1 < g5; omega)).trans c3
              have C2 : Hid (wr.drew.cell? ⟨w.heap.size, p, none⟩ = some (.int .u8 (z.toNat : Int))) := (KB.out.cell (by have := HG5.out; show w.heap.size < g5; omega)).trans c2
              have K5 : Hid (wr.drew.heap[g5]? = _) := H5.out
              have L5 := Lib.hid (lt_of_heap K5.out)
              have N3 : Hid (w.heap.size + 1 ≠ g5 ∧ w.heap.size + 1 < wr.drew.heap.size) := by have h1 := HG5.out; have h2 := L5.out; show _ ∧ _; omega
              have N2 : Hid (w.heap.size ≠ g5 ∧ w.heap.size < wr.drew.heap.size) := by have h1 := HG5.out; have h2 := L5.out; show _ ∧ _; omega
              have HXX : Hid (But g5 q wr.drew wr.drew) := Pre.refl _
              clear c5 c3 c2 hv hj hp he hc4 hcf H5 HBW
              go_upto_region 11 with (fail)
              have HX : Hid (But g5 q wr.drew wr.drew) := HXX
              clear HXX
              refine regS_start (But g5 q) (by kernel_rfl) ?_
              try simp only [Act.put, List.setIfInBounds_toArray, List.set_cons_zero, List.set_cons_succ]
              generalize wr.drew = W1 at C5 C3 C2 K5 KB L5 N3 N2 HX ⊢
              have c5 := C5.out
              refine regS_take (v := ?_) 0 (some 21) rfl rfl (by kernel_rfl) (by kernel_rfl) (by kernel_rfl) (fun _ _ _ h => h) (by rfl) (fun W hW => ?_) ?_
              rotate_left
              · (go_simp; try rfl)
              simp only [Act.put, List.setIfInBounds_toArray, List.set_cons_zero, List.set_cons_succ]
              refine regS_take (v := ?_) 1 (some 22) rfl rfl (by kernel_rfl) (by kernel_rfl) (by kernel_rfl) (fun _ _ _ h => h) (by rfl) (fun W hW => ?_) ?_
              rotate_left
              · (go_simp; try rfl)
              simp only [Act.put, List.setIfInBounds_toArray, List.set_cons_zero, List.set_cons_succ]
              refine regS_take (v := ?_) 2 (some 23) rfl rfl (by kernel_rfl) (by kernel_rfl) (by kernel_rfl) (fun _ _ _ h => h) (by rfl) (fun W hW => ?_) ?_
              rotate_left
              · (go_simp; try rfl)
              simp only [Act.put, List.setIfInBounds_toArray, List.set_cons_zero, List.set_cons_succ]
              refine regS_take (v := ?_) 3 (some 24) rfl rfl (by kernel_rfl) (by kernel_rfl) (by kernel_rfl) (fun _ _ _ h => h) (by rfl) (fun W hW => ?_) ?_
              rotate_left
              · (go_simp; try rfl)
              simp only [Act.put, List.setIfInBounds_toArray, List.set_cons_zero, List.set_cons_succ]
              refine regS_take (v := ?_) 4 (some 25) rfl rfl (by kernel_rfl) (by kernel_rfl) (by kernel_rfl) (fun _ _ _ h => h) (by rfl) (fun W hW => ?_) ?_
              rotate_left
              · (go_simp; try rfl)
              simp only [Act.put, List.setIfInBounds_toArray, List.set_cons_zero, List.set_cons_succ]
              refine regS_take (v := ?_) 5 (some 26) rfl rfl (by kernel_rfl) (by kernel_rfl) (by kernel_rfl) (fun _ _ _ h => h) (by rfl) (fun W hW => ?_) ?_
              rotate_left
              · (go_simp; try rfl)
              simp only [Act.put, List.setIfInBounds_toArray, List.set_cons_zero, List.set_cons_succ]
              refine regS_take (v := ?_) 6 (some 27) rfl rfl (by kernel_rfl) (by kernel_rfl) (by kernel_rfl) (fun _ _ _ h => h) (by rfl) (fun W hW => ?_) ?_
              rotate_left
              · (go_simp; try rfl)
              simp only [Act.put, List.setIfInBounds_toArray, List.set_cons_zero, List.set_cons_succ]
              refine regS_take (v := ?_) 7 (some 28) rfl rfl (by kernel_rfl) (by kernel_rfl) (by kernel_rfl) (fun _ _ _ h => h) (by rfl) (fun W hW => ?_) ?_
              rotate_left
              · (go_simp; try rfl)
              simp only [Act.put, List.setIfInBounds_toArray, List.set_cons_zero, List.set_cons_succ]
              refine regS_take (v := ?_) 8 (some 29) rfl rfl (by kernel_rfl) (by kernel_rfl) (by kernel_rfl) (fun _ _ _ h => h) (by rfl) (fun W hW => ?_) ?_
              rotate_left
              · (go_simp; try rfl)
              simp only [Act.put, List.setIfInBounds_toArray, List.set_cons_zero, List.set_cons_succ]
              refine regS_take (v := ?_) 10 (some 31) rfl rfl (by kernel_rfl) (by kernel_rfl) (by kernel_rfl) (fun _ _ _ h => h) (by rfl) (fun W hW => ?_) ?_
              rotate_left
              · (go_simp; try rfl)
              simp only [Act.put, List.setIfInBounds_toArray, List.set_cons_zero, List.set_cons_succ]
              refine regS_take (v := ?_) 11 (some 32) rfl rfl (by kernel_rfl) (by kernel_rfl) (by kernel_rfl) (fun _ _ _ h => h) (by rfl) (fun W hW => ?_) ?_
              rotate_left
              · (go_simp; try rfl)
              simp only [Act.put, List.setIfInBounds_toArray, List.set_cons_zero, List.set_cons_succ]
              refine regS_take (v := ?_) 12 (some 33) rfl rfl (by kernel_rfl) (by kernel_rfl) (by kernel_rfl) (fun _ _ _ h => h) (by rfl) (fun W hW => ?_) ?_
              rotate_left
              · (go_simp; try rfl)
              simp only [Act.put, List.setIfInBounds_toArray, List.set_cons_zero, List.set_cons_succ]
              refine regS_take (v := ?_) 13 (some 34) rfl rfl (by kernel_rfl) (by kernel_rfl) (by kernel_rfl) (fun _ _ _ h => h) (by rfl) (fun W hW => ?_) ?_
              rotate_left
              · (go_simp; try rfl)
              simp only [Act.put, List.setIfInBounds_toArray, List.set_cons_zero, List.set_cons_succ]
              refine regS_take (v := ?_) 14 (some 35) rfl rfl (by kernel_rfl) (by kernel_rfl) (by kernel_rfl) (fun _ _ _ h => h) (by rfl) (fun W hW => ?_) ?_
              rotate_left
              · (go_simp; try rfl)
              simp only [Act.put, List.setIfInBounds_toArray, List.set_cons_zero, List.set_cons_succ]
              refine regS_take (v := ?_) 15 (some 36) rfl rfl (by kernel_rfl) (by kernel_rfl) (by kernel_rfl) (fun _ _ _ h => h) (by rfl) (fun W hW => ?_) ?_
              rotate_left
              · (go_simp; try rfl)
              simp only [Act.put, List.setIfInBounds_toArray, List.set_cons_zero, List.set_cons_succ]
              refine regS_load 16 (some 37) (fun W hW => load_cell Try.underlying5 (r_but_cell hW N3.out.1 N3.out.2 C3.out)) rfl rfl rfl rfl (by kernel_rfl) (by kernel_rfl) (by kernel_rfl) (fun _ _ _ h => h) (by rfl) ?_
              simp only [Act.put, List.setIfInBounds_toArray, List.set_cons_zero, List.set_cons_succ]
              refine regS_take (v := ?_) 17 (some 38) rfl rfl (by kernel_rfl) (by kernel_rfl) (by kernel_rfl) (fun _ _ _ h => h) (by rfl) (fun W hW => ?_) ?_
              rotate_left
              · (go_simp; try rfl)
              simp only [Act.put, List.setIfInBounds_toArray, List.set_cons_zero, List.set_cons_succ]
              refine regS_take (v := ?_) 18 (some 39) rfl rfl (by kernel_rfl) (by kernel_rfl) (by kernel_rfl) (fun _ _ _ h => h) (by rfl) (fun W hW => ?_) ?_
              rotate_left
              · (go_simp; try rfl)
              simp only [Act.put, List.setIfInBounds_toArray, List.set_cons_zero, List.set_cons_succ]
              refine regS_take (v := ?_) 19 (some 40) rfl rfl (by kernel_rfl) (by kernel_rfl) (by kernel_rfl) (fun _ _ _ h => h) (by rfl) (fun W hW => ?_) ?_
              rotate_left
              · (go_simp; try rfl)
              simp only [Act.put, List.setIfInBounds_toArray, List.set_cons_zero, List.set_cons_succ]
              refine regS_take (v := ?_) 20 (some 41) rfl rfl (by kernel_rfl) (by kernel_rfl) (by kernel_rfl) (fun _ _ _ h => h) (by rfl) (fun W hW => ?_) ?_
              rotate_left
              · (go_simp; try rfl)
              simp only [Act.put, List.setIfInBounds_toArray, List.set_cons_zero, List.set_cons_succ]
              refine regS_take (v := ?_) 21 (some 42) rfl rfl (by kernel_rfl) (by kernel_rfl) (by kernel_rfl) (fun _ _ _ h => h) (by rfl) (fun W hW => ?_) ?_
              rotate_left
              · (go_simp; try rfl)
              simp only [Act.put, List.setIfInBounds_toArray, List.set_cons_zero, List.set_cons_succ]
              refine regS_load 22 (some 43) (fun W hW => load_cell Try.underlying5 (r_but_cell hW N2.out.1 N2.out.2 C2.out)) rfl rfl rfl rfl (by kernel_rfl) (by kernel_rfl) (by kernel_rfl) (fun _ _ _ h => h) (by rfl) ?_
              simp only [Act.put, List.setIfInBounds_toArray, List.set_cons_zero, List.set_cons_succ]
              refine regS_eff2 9 23 rfl rfl (by kernel_rfl) (fun K hK => ?_) (fun K hK => ?_)
              · skip
                go_simp
                refine hK.out _ _ (Pre.refl _) ?_
                clear hK K
                try simp only [Act.put, List.setIfInBounds_toArray, List.set_cons_zero, List.set_cons_succ]
                refine regS_eff 23 rfl (by kernel_rfl) (fun K hK => ?_)
                go_simp
                refine (HMU.out W1).mono ?_
                rintro ee W7 ⟨rfl, rfl⟩
                have hE : But g5 q W1 W1 := Pre.refl _
                refine hK.out _ _ hE ?_
                have HX := Lib.hid (Pre.trans HX.out hE)
                clear hE hK K
                try simp only [Act.put, List.setIfInBounds_toArray, List.set_cons_zero, List.set_cons_succ]
                refine regS_take (v := ?_) 24 (some 45) rfl rfl (by kernel_rfl) (by kernel_rfl) (by kernel_rfl) (fun _ _ _ h => h) (by rfl) (fun W hW => ?_) ?_
                rotate_left
                · (go_simp; try rfl)
                simp only [Act.put, List.setIfInBounds_toArray, List.set_cons_zero, List.set_cons_succ]
                refine regS_take (v := ?_) 25 (some 46) rfl rfl (by kernel_rfl) (by kernel_rfl) (by kernel_rfl) (fun _ _ _ h => h) (by rfl) (fun W hW => ?_) ?_
                rotate_left
                · (go_simp; try rfl)
                simp only [Act.put, List.setIfInBounds_toArray, List.set_cons_zero, List.set_cons_succ]
                refine regS_eff 26 rfl (by kernel_rfl) (fun K hK => ?_)
                refine step_st1 rfl 5 (.tmp 46) (.tmp 45) rfl (store_cell (k := .u8) Try.underlying5 s8 (w := W1) C5.out (frozen_of_heap (w := W1) K5.out _)) ?_
                have hE : But g5 q W1 (W1.setCell ⟨g5, q, none⟩ (.int .u8 (v.toNat : Int))) := But.set _
                refine hK.out _ _ hE ?_
                have HX := Lib.hid (Pre.trans HX.out hE)
                clear hE hK K
                try simp only [Act.put, List.setIfInBounds_toArray, List.set_cons_zero, List.set_cons_succ]
                refine regS_done (by kernel_rfl) ?_
                have hfin := heap_set K5.out q (bv v)
                rw [← List.map_set, HST.out] at hfin
                go_wp2
                go_roundw
                case rel => exact ⟨k + 1, by omega, by go_num, hfin, KB.out.setCell (Nat.le_refl _) _⟩
                case measure => simp [intOf]; omega
              · skip
                go_simp
                refine (HMU.out W1).mono ?_
                rintro ee W7 ⟨rfl, rfl⟩
                have hE : But g5 q W1 W1 := Pre.refl _
                refine hK.out _ _ hE ?_
                have HX := Lib.hid (Pre.trans HX.out hE)
                clear hE hK K
                try simp only [Act.put, List.setIfInBounds_toArray, List.set_cons_zero, List.set_cons_succ]
                refine regS_eff 9 rfl (by kernel_rfl) (fun K hK => ?_)
                go_simp
                refine hK.out _ _ (Pre.refl _) ?_
                clear hK K
                try simp only [Act.put, List.setIfInBounds_toArray, List.set_cons_zero, List.set_cons_succ]
                refine regS_take (v := ?_) 24 (some 45) rfl rfl (by kernel_rfl) (by kernel_rfl) (by kernel_rfl) (fun _ _ _ h => h) (by rfl) (fun W hW => ?_) ?_
                rotate_left
                · (go_simp; try rfl)
                simp only [Act.put, List.setIfInBounds_toArray, List.set_cons_zero, List.set_cons_succ]
                refine regS_take (v := ?_) 25 (some 46) rfl rfl (by kernel_rfl) (by kernel_rfl) (by kernel_rfl) (fun _ _ _ h => h) (by rfl) (fun W hW => ?_) ?_
                rotate_left
                · (go_simp; try rfl)
                simp only [Act.put, List.setIfInBounds_toArray, List.set_cons_zero, List.set_cons_succ]
                refine regS_eff 26 rfl (by kernel_rfl) (fun K hK => ?_)
                refine step_st1 rfl 5 (.tmp 46) (.tmp 45) rfl (store_cell (k := .u8) Try.underlying5 s8 (w := W1) C5.out (frozen_of_heap (w := W1) K5.out _)) ?_
                have hE : But g5 q W1 (W1.setCell ⟨g5, q, none⟩ (.int .u8 (v.toNat : Int))) := But.set _
                refine hK.out _ _ hE ?_
                have HX := Lib.hid (Pre.trans HX.out hE)
                clear hE hK K
                try simp only [Act.put, List.setIfInBounds_toArray, List.set_cons_zero, List.set_cons_succ]
                refine regS_done (by kernel_rfl) ?_
                have hfin := heap_set K5.out q (bv v)
                rw [← List.map_set, HST.out] at hfin
                go_wp2
                go_roundw
                case rel => exact ⟨k + 1, by omega, by go_num, hfin, KB.out.setCell (Nat.le_refl _) _⟩
                case measure => simp [intOf]; omega
            · have q3 : ¬ ((k : Int) < 4) := by omega
              have hk4 : k = 4 := by omega
              rw [hk4, HN4.out q hq16, HQ.out] at H5
              clear hk4
              go_wp2_with fail
              go_roundw
              case rel => exact ⟨r + 1, by omega, by go_num, H5, HBW⟩
              case measure => simp [intOf]; omega
        · have q2 : ¬ ((r : Int) < 4) := by omega
          have hr4 : r = 4 := by omega
          rw [hr4] at H5
          clear hr4
          go_wp2_with fail
          go_roundw
          case rel => exact ⟨c + 1, by omega, by go_num, H5, HBW⟩
          case measure => simp [intOf]; omega
    · have q1 : ¬ ((c : Int) < 4) := by omega
      have hc4 : c = 4 := by omega
      rw [hc4, HDE.out] at H5
      have K4 : Hid (wr.heap[w.heap.size + 2]? = _) := (HBW.out.block _ (by have := HG5.out; omega)).trans F4.out
      have KB : Hid (Below w.heap.size w wr) := FB.out.trans (HBW.out.mono (by have := HG5.out; omega))
      have hi1 := Lib.hid (r_i16 X HXL.out)
      clear hc4
      go_wp2_with (first
        | (refine wpList_ld rfl 23 (.tmp 5) rfl (load_arr arr16B rfl hi1.out H5.out) ?_)
        | (refine wpList_st rfl 23 (.tmp 4) (.tmp 47) rfl (store_arr (cs := X.map bv) (old := Z) hi1.out (bv_one _) K4.out (by rw [List.length_map, HXL.out, HZL.out])) ?_)
        | fail)
      have hres := setRow_heap wr (w.heap.size + 2) _ (X.map bv).toArray 23 _ K4.out
      exact bodyPost_ret (results_cell_row (P := Try.prog) rfl _ _ (w.heap.size + 2) 23 (X.map bv).toArray (0, 0) _ rfl hres arr16B rfl (by rw [List.size_toArray, List.length_map, HXL.out]; exact i16B)) rfl ⟨rfl, KB.out.trans (grown_below (grown_setRow _ _ _) (by omega) KB.out.size)⟩
end Go.Proofs.Ytjmpbcfbfbjenaa

/- The contract of (state).round. -/
import Derived.Test.YtfcnahbbieldfaaCha1
import Derived.Test.YtfcnahbbieldfaaReg3
namespace Go.Proofs.Ytfcnahbbieldfaa
open Go.RowKit
set_option maxRecDepth 100000
set_option linter.unusedVariables false
set_option linter.unusedSimpArgs false
/-- a quarter round of a state, at four places -/
def qAt (l : List W32) (p q r s : Nat) : List W32 :=
  (((l.set p (qA (l.getD p 0) (l.getD q 0) (l.getD r 0) (l.getD s 0))).set q (qB (l.getD p 0) (l.getD q 0) (l.getD r 0) (l.getD s 0))).set r (qC (l.getD p 0) (l.getD q 0) (l.getD r 0) (l.getD s 0))).set s (qD (l.getD p 0) (l.getD q 0) (l.getD r 0) (l.getD s 0))
def pB (t i : Nat) : Nat := 4 + (i + t) % 4
def pC (t i : Nat) : Nat := 8 + (i + 2 * t) % 4
def pD (t i : Nat) : Nat := 12 + (i + 3 * t) % 4
def roundN (t : Nat) (l : List W32) : Nat → List W32
  | 0 => l
  | i + 1 => qAt (roundN t l i) i (pB t i) (pC t i) (pD t i)
theorem qAt_len (l : List W32) (p q r s : Nat) : (qAt l p q r s).length = l.length := by simp [qAt]
theorem roundN_len (t : Nat) (l : List W32) (i : Nat) : (roundN t l i).length = l.length := by
  induction i with
  | zero => rfl
  | succ i ih => rw [roundN, qAt_len, ih]
theorem arrSt : Try.prog.underlying 52 = some (.array 16 33) := Try.underlying52
theorem iSt : (Try.prog.info? 52).map (·.size) = some 16 := by kernel_rfl
theorem heap2c (w : World) (o1 o2 : Obj) : ((w.alloc o1).alloc o2).heap[w.heap.size]? = some o1 ∧ ((w.alloc o1).alloc o2).heap[w.heap.size + 1]? = some o2 ∧ Below w.heap.size w ((w.alloc o1).alloc o2) := by
  have e1 : (w.alloc o1).heap.size = w.heap.size + 1 := by simp
  refine ⟨?_, ?_, ?_⟩
  · rw [Below.heap_alloc _ _ _ (by omega)]; exact heap_alloc_new' w o1
  · have := heap_alloc_new' (w.alloc o1) o2; rwa [e1] at this
  · exact ((Below.refl _ w).alloc (Nat.le_refl _) _).alloc (by omega) _
/-- a number put into a row of numbers -/
theorem st_row {W W' : World} {g i B : Nat} {l : List W32} {t : TypeId} {v : W32} (hW : W.setCell ⟨g, i, none⟩ (.int .u32 (v.toNat : Int)) = W') (hB : B ≤ g) (H : W.heap[g]? = some (.cells (l.map wv).toArray t (0, 0))) :
    W'.heap[g]? = some (.cells ((l.set i v).map wv).toArray t (0, 0)) ∧ Below B W W' ∧ ∀ k, k ≠ g → W'.heap[k]? = W.heap[k]? := by
  subst hW
  refine ⟨?_, (Below.refl _ _).setCell hB _, fun k hk => Below.heap_setCell W _ _ _ hk⟩
  have := heap_set H i (wv v)
  rw [← List.map_set] at this
  exact this
theorem cell_eq {W W0 : World} (h : W = W0) {a : Addr} {v : Value} (hc : W0.cell? a = some v) : W.cell? a = some v := by rw [h]; exact hc
set_option maxHeartbeats 2000000 in
theorem round_any (t : Nat) (s : List W32) (w : World) (hs : s.length = 16) (ht : t ≤ 1) :
    Calls Try.prog 20 #[.agg (s.map wv).toArray, .int .i64 (t : Int)] w fun e w' => e = .returned (.agg ((roundN t s 4).map wv).toArray) ∧ Below w.heap.size w w' := by
  have HSL := Lib.hid hs
  clear hs
  go_enter Try.func20, Try.ntmps20
  go_wp2_with fail
  generalize hV : (w.alloc _).alloc _ = W0
  have F0 : Hid (W0.heap[w.heap.size]? = some (.cells ((roundN t s 0).map wv).toArray 52 (0, 0))) := by rw [← hV]; exact (heap2c w _ _).1
  have F1 : Hid (W0.heap[w.heap.size + 1]? = some (.cells (List.replicate 16 (Value.int .u32 0)).toArray 52 (0, 0))) := by rw [← hV]; exact (heap2c w _ _).2.1
  have FB : Hid (Below w.heap.size w W0) := by rw [← hV]; exact (heap2c w _ _).2.2
  clear hV
  go_loopw [10] (fun vi wr => ∃ (i : Nat), i ≤ 4 ∧ vi = .int .i64 (i : Int) ∧ Hid (Below w.heap.size w wr) ∧ Hid (wr.heap[w.heap.size]? = some (.cells ((roundN t s i).map wv).toArray 52 (0, 0))) ∧ Hid (wr.heap[w.heap.size + 1]? = some (.cells (List.replicate 16 (Value.int .u32 0)).toArray 52 (0, 0)))) (fun i _ => 4 - (intOf i).toNat)
  case atStart => exact ⟨0, by omega, rfl, FB, F0, F1⟩
  case round =>
    clear F0 F1 FB
    obtain ⟨i, hi, rfl, HB, H0, H1⟩ := hrel
    by_cases hlt : i < 4
    · have q1 : (i : Int) < 4 := by omega
      have hl16 : (roundN t s i).length = 16 := by rw [roundN_len]; exact HSL.out
      obtain ⟨y, hy⟩ : ∃ y, y = pB t i := ⟨_, rfl⟩
      obtain ⟨z, hz⟩ : ∃ z, z = pC t i := ⟨_, rfl⟩
      obtain ⟨u, hu⟩ : ∃ u, u = pD t i := ⟨_, rfl⟩
      have HST : Hid (qAt (roundN t s i) i y z u = roundN t s (i + 1)) := by rw [hy, hz, hu]; rfl
      have ho : i < 4 ∧ 4 ≤ y ∧ y < 8 ∧ 8 ≤ z ∧ z < 12 ∧ 12 ≤ u ∧ u < 16 := by rw [hy, hz, hu]; unfold pB pC pD; omega
      have o1 : 4 + ((i : Int) + (t : Int)) % 4 = (y : Int) := by rw [hy]; unfold pB; omega
      have o2 : 8 + ((i : Int) + 2 * (t : Int)) % 4 = (z : Int) := by rw [hz]; unfold pC; omega
      have o3 : 12 + ((i : Int) + 3 * (t : Int)) % 4 = (u : Int) := by rw [hu]; unfold pD; omega
      have O1 := Lib.hid o1; have O2 := Lib.hid o2; have O3 := Lib.hid o3
      clear o1 o2 o3
      clear hy hz hu
      have c0 := Lib.hid (wcell (w := wr.drew) H0.out i (by omega))
      have c1 := Lib.hid (wcell (w := wr.drew) H0.out y (by omega))
      have c2 := Lib.hid (wcell (w := wr.drew) H0.out z (by omega))
      have c3 := Lib.hid (wcell (w := wr.drew) H0.out u (by omega))
      unfold qAt at HST
      obtain ⟨L, HL⟩ : ∃ L, Hid (roundN t s i = L) := ⟨_, rfl⟩
      rw [HL.out] at c0 c1 c2 c3 HST hl16 H0
      generalize L.getD i 0 = a at c0 HST
      generalize L.getD y 0 = b at c1 HST
      generalize L.getD z 0 = c at c2 HST
      generalize L.getD u 0 = d at c3 HST
      have q0 : (i : Int) < 16 := by omega
      have q1 : (y : Int) < 16 := by omega
      have q2 : (z : Int) < 16 := by omega
      have q3 : (u : Int) < 16 := by omega
      have HO := Lib.hid ho
      have H16 := Lib.hid hl16
      clear ho hl16
      go_wp2_with fail
      rw [O1.out, O2.out, O3.out]
      have HS : Hid (wr.drew = wr.drew) := rfl
      have D0 : Hid (wr.drew.heap[w.heap.size]? = some (.cells (L.map wv).toArray 52 (0, 0))) := H0.out
      have DB : Hid (Below w.heap.size w wr.drew) := HB.out.drew
      have D1 : Hid (wr.drew.heap[w.heap.size + 1]? = some (.cells (List.replicate 16 (Value.int .u32 0)).toArray 52 (0, 0))) := H1.out
      refine regK_start (16) (fun W => W = wr.drew) (by kernel_rfl) ?_
      try simp only [Act.put, List.setIfInBounds_toArray, List.set_cons_zero, List.set_cons_succ]
      refine regK_take (v := ?_) 0 (some 32) rfl rfl (by kernel_rfl) (by kernel_rfl) (by kernel_rfl) (fun _ _ _ h => h) (by rfl) (by kernel_rfl) HS.out (fun W => ?_) ?_
      rotate_left
      · (go_simp; try rfl)
      simp only [Act.put, List.setIfInBounds_toArray, List.set_cons_zero, List.set_cons_succ]
      refine regK_take (v := ?_) 1 (some 33) rfl rfl (by kernel_rfl) (by kernel_rfl) (by kernel_rfl) (fun _ _ _ h => h) (by rfl) (by kernel_rfl) HS.out (fun W => ?_) ?_
      rotate_left
      · (go_simp; try rfl)
      simp only [Act.put, List.setIfInBounds_toArray, List.set_cons_zero, List.set_cons_succ]
      refine regK_take (v := ?_) 2 (some 34) rfl rfl (by kernel_rfl) (by kernel_rfl) (by kernel_rfl) (fun _ _ _ h => h) (by rfl) (by kernel_rfl) HS.out (fun W => ?_) ?_
      rotate_left
      · (go_simp; try rfl)
      simp only [Act.put, List.setIfInBounds_toArray, List.set_cons_zero, List.set_cons_succ]
      refine regK_take (v := ?_) 3 (some 35) rfl rfl (by kernel_rfl) (by kernel_rfl) (by kernel_rfl) (fun _ _ _ h => h) (by rfl) (by kernel_rfl) HS.out (fun W => ?_) ?_
      rotate_left
      · (go_simp; try rfl)
      simp only [Act.put, List.setIfInBounds_toArray, List.set_cons_zero, List.set_cons_succ]
      refine regK_take (v := ?_) 4 (some 36) rfl rfl (by kernel_rfl) (by kernel_rfl) (by kernel_rfl) (fun _ _ _ h => h) (by rfl) (by kernel_rfl) HS.out (fun W => ?_) ?_
      rotate_left
      · (go_simp; try rfl)
      simp only [Act.put, List.setIfInBounds_toArray, List.set_cons_zero, List.set_cons_succ]
      refine regK_take (v := ?_) 5 (some 37) rfl rfl (by kernel_rfl) (by kernel_rfl) (by kernel_rfl) (fun _ _ _ h => h) (by rfl) (by kernel_rfl) HS.out (fun W => ?_) ?_
      rotate_left
      · (go_simp; try rfl)
      simp only [Act.put, List.setIfInBounds_toArray, List.set_cons_zero, List.set_cons_succ]
      refine regK_load 6 (some 38) (fun W hW => load_cell Try.underlying33 (cell_eq hW c0.out)) rfl rfl rfl rfl (by kernel_rfl) (by kernel_rfl) (by kernel_rfl) (fun _ _ _ h => h) (by rfl) (by kernel_rfl) HS.out ?_
      simp only [Act.put, List.setIfInBounds_toArray, List.set_cons_zero, List.set_cons_succ]
      refine regK_take (v := ?_) 7 (some 39) rfl rfl (by kernel_rfl) (by kernel_rfl) (by kernel_rfl) (fun _ _ _ h => h) (by rfl) (by kernel_rfl) HS.out (fun W => ?_) ?_
      rotate_left
      · (go_simp; try rfl)
      simp only [Act.put, List.setIfInBounds_toArray, List.set_cons_zero, List.set_cons_succ]
      refine regK_take (v := ?_) 8 (some 40) rfl rfl (by kernel_rfl) (by kernel_rfl) (by kernel_rfl) (fun _ _ _ h => h) (by rfl) (by kernel_rfl) HS.out (fun W => ?_) ?_
      rotate_left
      · (go_simp; try rfl)
      simp only [Act.put, List.setIfInBounds_toArray, List.set_cons_zero, List.set_cons_succ]
      refine regK_load 9 (some 41) (fun W hW => load_cell Try.underlying33 (cell_eq hW c1.out)) rfl rfl rfl rfl (by kernel_rfl) (by kernel_rfl) (by kernel_rfl) (fun _ _ _ h => h) (by rfl) (by kernel_rfl) HS.out ?_
      simp only [Act.put, List.setIfInBounds_toArray, List.set_cons_zero, List.set_cons_succ]
      refine regK_take (v := ?_) 10 (some 42) rfl rfl (by kernel_rfl) (by kernel_rfl) (by kernel_rfl) (fun _ _ _ h => h) (by rfl) (by kernel_rfl) HS.out (fun W => ?_) ?_
      rotate_left
      · (go_simp; try rfl)
      simp only [Act.put, List.setIfInBounds_toArray, List.set_cons_zero, List.set_cons_succ]
      refine regK_take (v := ?_) 11 (some 43) rfl rfl (by kernel_rfl) (by kernel_rfl) (by kernel_rfl) (fun _ _ _ h => h) (by rfl) (by kernel_rfl) HS.out (fun W => ?_) ?_
      rotate_left
      · (go_simp; try rfl)
      simp only [Act.put, List.setIfInBounds_toArray, List.set_cons_zero, List.set_cons_succ]
      refine regK_load 12 (some 44) (fun W hW => load_cell Try.underlying33 (cell_eq hW c2.out)) rfl rfl rfl rfl (by kernel_rfl) (by kernel_rfl) (by kernel_rfl) (fun _ _ _ h => h) (by rfl) (by kernel_rfl) HS.out ?_
      simp only [Act.put, List.setIfInBounds_toArray, List.set_cons_zero, List.set_cons_succ]
      refine regK_take (v := ?_) 13 (some 45) rfl rfl (by kernel_rfl) (by kernel_rfl) (by kernel_rfl) (fun _ _ _ h => h) (by rfl) (by kernel_rfl) HS.out (fun W => ?_) ?_
      rotate_left
      · (go_simp; try rfl)
      simp only [Act.put, List.setIfInBounds_toArray, List.set_cons_zero, List.set_cons_succ]
      refine regK_take (v := ?_) 14 (some 46) rfl rfl (by kernel_rfl) (by kernel_rfl) (by kernel_rfl) (fun _ _ _ h => h) (by rfl) (by kernel_rfl) HS.out (fun W => ?_) ?_
      rotate_left
      · (go_simp; try rfl)
      simp only [Act.put, List.setIfInBounds_toArray, List.set_cons_zero, List.set_cons_succ]
      refine regK_load 15 (some 47) (fun W hW => load_cell Try.underlying33 (cell_eq hW c3.out)) rfl rfl rfl rfl (by kernel_rfl) (by kernel_rfl) (by kernel_rfl) (fun _ _ _ h => h) (by rfl) (by kernel_rfl) HS.out ?_
      simp only [Act.put, List.setIfInBounds_toArray, List.set_cons_zero, List.set_cons_succ]
      refine regK_bar 16 rfl (by kernel_rfl) (by kernel_rfl) (fun K hK => ?_)
      go_simp
      refine (quarter_any a b c d _).mono ?_
      rintro ee w3 ⟨rfl, rfl⟩
      refine hK.out _ _ trivial ?_
      clear hK K
      try simp only [Act.put, List.setIfInBounds_toArray, List.set_cons_zero, List.set_cons_succ]
      refine regS_take (v := ?_) 17 (some 31) rfl rfl (by kernel_rfl) (by kernel_rfl) (by kernel_rfl) (fun _ _ _ h => h) (by rfl) (fun W hW => ?_) ?_
      rotate_left
      · (go_simp; try rfl)
      simp only [Act.put, List.setIfInBounds_toArray, List.set_cons_zero, List.set_cons_succ]
      refine regS_take (v := ?_) 18 (some 49) rfl rfl (by kernel_rfl) (by kernel_rfl) (by kernel_rfl) (fun _ _ _ h => h) (by rfl) (fun W hW => ?_) ?_
      rotate_left
      · (go_simp; try rfl)
      simp only [Act.put, List.setIfInBounds_toArray, List.set_cons_zero, List.set_cons_succ]
      refine regS_take (v := ?_) 19 (some 50) rfl rfl (by kernel_rfl) (by kernel_rfl) (by kernel_rfl) (fun _ _ _ h => h) (by rfl) (fun W hW => ?_) ?_
      rotate_left
      · (go_simp; try rfl)
      simp only [Act.put, List.setIfInBounds_toArray, List.set_cons_zero, List.set_cons_succ]
      refine regS_take (v := ?_) 20 (some 51) rfl rfl (by kernel_rfl) (by kernel_rfl) (by kernel_rfl) (fun _ _ _ h => h) (by rfl) (fun W hW => ?_) ?_
      rotate_left
      · (go_simp; try rfl)
      simp only [Act.put, List.setIfInBounds_toArray, List.set_cons_zero, List.set_cons_succ]
      refine regS_take (v := ?_) 21 (some 52) rfl rfl (by kernel_rfl) (by kernel_rfl) (by kernel_rfl) (fun _ _ _ h => h) (by rfl) (fun W hW => ?_) ?_
      rotate_left
      · (go_simp; try rfl)
      simp only [Act.put, List.setIfInBounds_toArray, List.set_cons_zero, List.set_cons_succ]
      refine regS_take (v := ?_) 22 (some 53) rfl rfl (by kernel_rfl) (by kernel_rfl) (by kernel_rfl) (fun _ _ _ h => h) (by rfl) (fun W hW => ?_) ?_
      rotate_left
      · (go_simp; try rfl)
      simp only [Act.put, List.setIfInBounds_toArray, List.set_cons_zero, List.set_cons_succ]
      refine regS_eff 23 rfl (by kernel_rfl) (fun K hK => ?_)
      refine step_st1 rfl 33 (.tmp 53) (.tmp 49) rfl (store_cell (k := .u32) Try.underlying33 s32 (w := wr.drew) c0.out (frozen_of_heap D0.out _)) ?_
      generalize hV : World.setCell _ _ _ = W1
      obtain ⟨m1, m2, m3⟩ := st_row (B := w.heap.size) hV (Nat.le_refl _) D0.out
      have M1 := Lib.hid m1; have N1 := Lib.hid (DB.out.trans m2); have E1 := Lib.hid ((m3 (w.heap.size + 1) (Nat.succ_ne_self _)).trans D1.out)
      clear m1 m2 m3 hV
      refine hK.out _ _ trivial ?_
      clear hK K
      try simp only [Act.put, List.setIfInBounds_toArray, List.set_cons_zero, List.set_cons_succ]
      refine regS_take (v := ?_) 24 (some 54) rfl rfl (by kernel_rfl) (by kernel_rfl) (by kernel_rfl) (fun _ _ _ h => h) (by rfl) (fun W hW => ?_) ?_
      rotate_left
      · (go_simp; try rfl)
      simp only [Act.put, List.setIfInBounds_toArray, List.set_cons_zero, List.set_cons_succ]
      refine regS_eff 25 rfl (by kernel_rfl) (fun K hK => ?_)
      refine step_st1 rfl 33 (.tmp 54) (.tmp 50) rfl (store_cell (k := .u32) Try.underlying33 s32 (w := W1) (wcell M1.out y (by rw [List.length_set, H16.out]; have := HO.out; omega)) (frozen_of_heap M1.out _)) ?_
      generalize hV : World.setCell _ _ _ = W2
      obtain ⟨m1, m2, m3⟩ := st_row (B := w.heap.size) hV (Nat.le_refl _) M1.out
      have M2 := Lib.hid m1; have N2 := Lib.hid (N1.out.trans m2); have E2 := Lib.hid ((m3 (w.heap.size + 1) (Nat.succ_ne_self _)).trans E1.out)
      clear m1 m2 m3 hV
      refine hK.out _ _ trivial ?_
      clear hK K
      try simp only [Act.put, List.setIfInBounds_toArray, List.set_cons_zero, List.set_cons_succ]
      refine regS_take (v := ?_) 26 (some 55) rfl rfl (by kernel_rfl) (by kernel_rfl) (by kernel_rfl) (fun _ _ _ h => h) (by rfl) (fun W hW => ?_) ?_
      rotate_left
      · (go_simp; try rfl)
      simp only [Act.put, List.setIfInBounds_toArray, List.set_cons_zero, List.set_cons_succ]
      refine regS_eff 27 rfl (by kernel_rfl) (fun K hK => ?_)
      refine step_st1 rfl 33 (.tmp 55) (.tmp 51) rfl (store_cell (k := .u32) Try.underlying33 s32 (w := W2) (wcell M2.out z (by rw [List.length_set, List.length_set, H16.out]; have := HO.out; omega)) (frozen_of_heap M2.out _)) ?_
      generalize hV : World.setCell _ _ _ = W3
      obtain ⟨m1, m2, m3⟩ := st_row (B := w.heap.size) hV (Nat.le_refl _) M2.out
      have M3 := Lib.hid m1; have N3 := Lib.hid (N2.out.trans m2); have E3 := Lib.hid ((m3 (w.heap.size + 1) (Nat.succ_ne_self _)).trans E2.out)
      clear m1 m2 m3 hV
      refine hK.out _ _ trivial ?_
      clear hK K
      try simp only [Act.put, List.setIfInBounds_toArray, List.set_cons_zero, List.set_cons_succ]
      refine regS_take (v := ?_) 28 (some 56) rfl rfl (by kernel_rfl) (by kernel_rfl) (by kernel_rfl) (fun _ _ _ h => h) (by rfl) (fun W hW => ?_) ?_
      rotate_left
      · (go_simp; try rfl)
      simp only [Act.put, List.setIfInBounds_toArray, List.set_cons_zero, List.set_cons_succ]
      refine regS_eff 29 rfl (by kernel_rfl) (fun K hK => ?_)
      refine step_st1 rfl 33 (.tmp 56) (.tmp 52) rfl (store_cell (k := .u32) Try.underlying33 s32 (w := W3) (wcell M3.out u (by rw [List.length_set, List.length_set, List.length_set, H16.out]; have := HO.out; omega)) (frozen_of_heap M3.out _)) ?_
      generalize hV : World.setCell _ _ _ = W4
      obtain ⟨m1, m2, m3⟩ := st_row (B := w.heap.size) hV (Nat.le_refl _) M3.out
      have M4 := Lib.hid m1; have N4 := Lib.hid (N3.out.trans m2); have E4 := Lib.hid ((m3 (w.heap.size + 1) (Nat.succ_ne_self _)).trans E3.out)
      clear m1 m2 m3 hV
      refine hK.out _ _ trivial ?_
      clear hK K
      try simp only [Act.put, List.setIfInBounds_toArray, List.set_cons_zero, List.set_cons_succ]
      refine regS_done (by kernel_rfl) ?_
      go_wp2
      go_roundw
      case rel => exact ⟨i + 1, by omega, by go_num, N4, by have := M4.out; rw [HST.out] at this; exact this, E4⟩
      case measure => simp [intOf]; omega
    · have H0' : Hid (wr.heap[w.heap.size]? = some (.cells ((roundN t s 4).map wv).toArray 52 (0, 0))) := by have := H0.out; rw [show i = 4 by omega] at this; exact this
      have hl4 : Hid (((roundN t s 4).map wv).length = 16) := by show _ = _; rw [List.length_map, roundN_len]; exact HSL.out
      clear H0
      obtain ⟨L, HLL⟩ : ∃ L, Hid ((roundN t s 4).map wv = L) := ⟨_, rfl⟩
      have hone : Hid (∀ v ∈ L, v.oneCell' = true) := by show ∀ v ∈ L, _; rw [← HLL.out]; exact wv_one _
      rw [HLL.out] at H0' hl4
      go_wp2_with (first
        | (refine wpList_ld rfl 52 (.tmp 2) rfl (load_arr arrSt rfl (by rw [hl4.out]; exact iSt) H0'.out) ?_)
        | (refine wpList_st rfl 52 (.tmp 4) (.tmp 58) rfl (store_arr (cs := L) (by rw [hl4.out]; exact iSt) hone.out H1.out (by rw [hl4.out]; simp)) ?_))
      have hres := setRow_heap wr (w.heap.size + 1) _ L.toArray 52 _ H1.out
      exact bodyPost_ret (results_cell_row (P := Try.prog) rfl _ _ (w.heap.size + 1) 52 L.toArray (0, 0) _ rfl hres arrSt rfl (by rw [List.size_toArray, hl4.out]; exact iSt)) rfl ⟨by rw [HLL.out], HB.out.trans (grown_below (grown_setRow _ _ _) (Nat.le_succ _) HB.out.size)⟩
end Go.Proofs.Ytfcnahbbieldfaa

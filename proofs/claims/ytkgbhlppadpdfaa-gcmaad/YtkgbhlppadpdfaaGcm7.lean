/- Layer 10's laws' own functions: short, bytes, keys, awake. -/
import Derived.Test.YtkgbhlppadpdfaaGcm6
import Derived.Test.YtkgbhlppadpdfaaLiftX
import Derived.Deep.MidRow
namespace Go.Proofs.Ytkgbhlppadpdfaa
open Go.RowKit
set_option maxRecDepth 100000
set_option linter.unusedVariables false
set_option linter.unusedSimpArgs false
theorem keyX_cells {W : World} {g : Nat} {y : KeyX} {t : TypeId} {fr : Nat × Nat} (h : W.heap[g]? = some (.cells y.cells.toArray t fr)) (hk : y.k.length = 32) :
    W.cell? ⟨g, 32, none⟩ = some (.bool y.lg) ∧ W.cell? ⟨g, 33, none⟩ = some (.slice y.A2 y.iv.length y.c2) ∧ W.cell? ⟨g, 34, none⟩ = some (.slice y.A3 y.a.length y.c3) := by
  refine ⟨?_, ?_, ?_⟩ <;> rw [cell_of_heap h, KeyX.cells, List.getElem?_append_right (by simp [hk]), List.length_map, hk] <;> rfl
theorem keyX_len (y : KeyX) (hk : y.k.length = 32) : y.cells.length = 35 := by simp [KeyX.cells, hk]
theorem iKeyX : (Try.prog.info? 25).map (·.size) = some 35 := by kernel_rfl
theorem ld_keyX {W : World} {g : Nat} {y : KeyX} {t : TypeId} {fr : Nat × Nat} (h : W.heap[g]? = some (.cells y.cells.toArray t fr)) (hk : y.k.length = 32) : (Instr.loadAt 25 (.pointer (some ⟨g, 0, none⟩))).run Try.prog W = .ok (.agg y.cells.toArray) W :=
  run_loadAt_mid W g 0 25 y.cells _ (fun j v hv => by rw [cell_of_heap h, Nat.zero_add]; exact hv) Try.underlying25 rfl (by rw [keyX_len y hk]; exact iKeyX)
/-- which bytes of it are the key -/
def keyBX (k : List UInt8) (b : Bool) : List UInt8 := if b then k else k.take 16
def keyWX (b : Bool) : Nat := if b then 8 else 4
theorem keyBX_len (k : List UInt8) (b : Bool) (hk : k.length = 32) : (keyBX k b).length = 4 * keyWX b := by
  cases b <;> simp [keyBX, keyWX, hk]
theorem keyX_sl {W : World} {g : Nat} {y : KeyX} {t : TypeId} {fr : Nat × Nat} (h : W.heap[g]? = some (.cells y.cells.toArray t fr)) (hk : y.k.length = 32) : Sl W (some ⟨g, 0, none⟩) 32 (keyBX y.k y.lg) := by
  refine ⟨by rw [keyBX_len y.k y.lg hk]; cases y.lg <;> simp [keyWX], by simp [maxLen], .inr ⟨g, 0, rfl, lt_of_heap h, fun j u hu => ?_⟩⟩
  have hj := (List.getElem?_eq_some_iff.1 hu).1
  rw [List.length_map, keyBX_len y.k y.lg hk] at hj
  have hj32 : j < 32 := by cases hlg : y.lg <;> rw [hlg] at hj <;> simp [keyWX] at hj <;> omega
  rw [Nat.zero_add, cell_of_heap h, KeyX.cells, List.getElem?_append_left (by simp [hk]; exact hj32)]
  rw [← hu]
  cases hlg : y.lg
  · rw [hlg] at hj
    simp only [keyBX, Bool.false_eq_true, if_false, List.map_take]
    rw [List.getElem?_take_of_lt (by simpa [keyWX] using hj)]
  · rfl
def shortX (y : KeyX) : Bool := decide (y.iv.length ≤ 100) && decide (y.a.length ≤ 100)
set_option maxHeartbeats 1000000 in
theorem xshort_any (y : KeyX) (w : World) (hk : y.k.length = 32) : Calls Try.prog 10 #[.agg y.cells.toArray] w fun e w' => e = .returned (.bool (shortX y)) ∧ Below w.heap.size w w' := by
  have H := keyX_cells (heap_alloc_new' w (.cells y.cells.toArray 25)) hk
  have HB : Hid (Below w.heap.size w (w.alloc (.cells y.cells.toArray 25))) := (Below.refl _ _).alloc (Nat.le_refl _) _
  unfold shortX
  clear hk
  generalize y.cells.toArray = Z at H HB ⊢
  generalize y.iv.length = n1 at H ⊢
  generalize y.a.length = n2 at H ⊢
  obtain ⟨h0, h1, h2⟩ := H
  rcases Nat.lt_or_ge 100 n1 with q1 | q1
  · have e1 : decide (n1 ≤ 100) = false := by simp; omega
    rw [e1, Bool.false_and]
    have i1 : ¬ ((n1 : Int) ≤ 100) := by omega
    clear e1
    go_enter Try.func10, Try.ntmps10
    go_wp2
    go_ret
    exact ⟨rfl, HB.out⟩
  · have e1 : decide (n1 ≤ 100) = true := by simp; omega
    have i1 : ((n1 : Int) ≤ 100) := by omega
    rw [e1, Bool.true_and]
    clear e1
    rcases Nat.lt_or_ge 100 n2 with q2 | q2
    · have e2 : decide (n2 ≤ 100) = false := by simp; omega
      have i2 : ¬ ((n2 : Int) ≤ 100) := by omega
      rw [e2]
      clear e2
      go_enter Try.func10, Try.ntmps10
      go_wp2
      go_ret
      exact ⟨rfl, HB.out⟩
    · have e2 : decide (n2 ≤ 100) = true := by simp; omega
      have i2 : ((n2 : Int) ≤ 100) := by omega
      rw [e2]
      clear e2
      go_enter Try.func10, Try.ntmps10
      go_wp2
      go_ret
      exact ⟨rfl, HB.out⟩
theorem arr32X : Try.prog.underlying 22 = some (.array 32 5) := Try.underlying22
set_option maxHeartbeats 1000000 in
theorem xbytes_any (y : KeyX) (w : World) (hk : y.k.length = 32) :
    Calls Try.prog 18 #[.agg y.cells.toArray] w fun e w' => e = .returned (.slice (some ⟨w.heap.size, 0, none⟩) (4 * keyWX y.lg) 32) ∧ Sl w' (some ⟨w.heap.size, 0, none⟩) 32 (keyBX y.k y.lg) ∧ Below w.heap.size w w' := by
  have HA := heap_alloc_new' w (.cells y.cells.toArray 25)
  have HS := Lib.hid (keyX_sl HA hk)
  have hc := (keyX_cells HA hk).1
  have HB : Hid (Below w.heap.size w (w.alloc (.cells y.cells.toArray 25))) := (Below.refl _ _).alloc (Nat.le_refl _) _
  have sl := arr_to arr32X s8 ⟨w.heap.size, 0, none⟩ .i64 16 (by omega) (by omega)
  rw [show (16 : Int).toNat = 16 from rfl] at sl
  have sl2 := arr_all arr32X s8 ⟨w.heap.size, 0, none⟩
  clear HA hk
  generalize y.cells.toArray = Z at HS hc HB ⊢
  generalize keyBX y.k y.lg = KB at HS ⊢
  cases hlg : y.lg
  · rw [hlg] at hc
    go_enter Try.func18, Try.ntmps18
    go_wp2
    go_ret
    exact ⟨rfl, HS.out, HB.out⟩
  · rw [hlg] at hc
    go_enter Try.func18, Try.ntmps18
    go_wp2
    go_ret
    exact ⟨rfl, HS.out, HB.out⟩
set_option maxHeartbeats 1000000 in
theorem xkeys_any (y : KeyX) (w : World) (hk : y.k.length = 32) :
    Calls Try.prog 11 #[.agg y.cells.toArray] w fun e w' => ∃ g E, e = .returned (.tuple #[.pointer (some ⟨g, 0, none⟩), .bool true]) ∧ E = encL (expandL (keyBX y.k y.lg)) (keyWX y.lg + 6) ∧ GKey w' (.pointer (some ⟨g, 0, none⟩)) E ∧ Below w.heap.size w w' := by
  have HBY := Lib.hid (fun W => xbytes_any y W hk)
  have HLD := Lib.hid (ld_keyX (heap_alloc_new' w (.cells y.cells.toArray 25)) hk)
  have HKL := Lib.hid (keyBX_len y.k y.lg hk)
  have HW : Hid (keyWX y.lg = 4 ∨ keyWX y.lg = 8) := by show _ ∨ _; cases y.lg <;> simp [keyWX]
  have GB : Hid (Below w.heap.size w (w.alloc (.cells y.cells.toArray 25))) := (Below.refl _ _).alloc (Nat.le_refl _) _
  generalize y.cells.toArray = Z at HBY HLD GB ⊢
  generalize keyBX y.k y.lg = KB at HBY HKL ⊢
  generalize keyWX y.lg = nk at HBY HKL HW ⊢
  clear hk
  go_enter Try.func11, Try.ntmps11
  go_upto_region 1 with (fail)
  generalize w.alloc _ = W0 at HLD GB ⊢
  go_wp2_with (first
    | (refine wpList_ld rfl 25 (.tmp 1) rfl HLD.out ?_)
    | fail)
  refine (HBY.out W0).mono ?_
  rintro e w1 ⟨rfl, hS1, hb1⟩
  have S1 := Lib.hid hS1; have B1 := Lib.hid (GB.out.step hb1)
  clear hS1 hb1
  go_wp2_with fail
  refine (expand_any (some ⟨W0.heap.size, 0, none⟩) (4 * nk) 32 nk KB w1 HKL.out rfl HW.out S1.out).mono ?_
  rintro e w2 ⟨g, rfl, hg, hK, hb2⟩
  have K2 := Lib.hid (KeyAt.gkey hK (by omega) (by rcases HW.out with h | h <;> omega)); have B2 := Lib.hid (B1.out.step hb2)
  clear hK hb2 hg
  go_wp2
  go_ret2
  exact ⟨g, _, rfl, rfl, K2.out, B2.out⟩
def z16 : List UInt8 := List.replicate 16 0
def z12 : List UInt8 := List.replicate 12 0
def exF : List UInt8 := [0, 0, 0, 0, 0, 0, 0, 0, 0, 0, 0, 0, 0, 0, 0, 1]
theorem ex_gcm : (encL (expandL z16) 10 exF).take 4 = [88, 226, 252, 206] := by decide +kernel
theorem hash_zero (h : List UInt8) (hh : h.length = 16) : gsumL h (whG [] ++ whG [] ++ lenL 0 0) = zerB := by
  have e : whG [] ++ whG [] ++ lenL 0 0 = zerB := by decide
  rw [e]
  have : gsumL h zerB = gmulL (mixF zerB fun k => byteF zerB (16 * 0 + k)) h := rfl
  rw [this, show (mixF zerB fun k => byteF zerB (16 * 0 + k)) = zerB from by decide, gmul_comm _ _ rfl hh, gmul_zero]
theorem seal_empty : (sealG (encL (expandL z16) 10) (firstG (encL (expandL z16) 10) z12) [] []).take 4 = [88, 226, 252, 206] := by
  have hf : firstG (encL (expandL z16) 10) z12 = exF := rfl
  rw [hf]
  have hs : sealG (encL (expandL z16) 10) exF [] [] = tagG (encL (expandL z16) 10) exF [] [] := rfl
  rw [hs, tagG]
  have hw : (expandL z16).length = 60 := expandL_len _ (by decide)
  have hlen : ∀ x, x.length = 16 → (encL (expandL z16) 10 x).length = 16 := fun x hx => by rw [encL, encT, outL_len, addW_len _ _ _ (shiftW_len _ _) (by omega)]
  have h0 : gsumL (encL (expandL z16) 10 zerB) (whG [] ++ whG [] ++ lenL ((([] : List UInt8).length : Nat) : Int) ((([] : List UInt8).length : Nat) : Int)) = zerB := hash_zero _ (hlen _ rfl)
  rw [h0]
  have hx : xorL zerB (encL (expandL z16) 10 exF) = encL (expandL z16) 10 exF := xorL_zeros _ (hlen _ rfl)
  rw [hx]
  exact ex_gcm
end Go.Proofs.Ytkgbhlppadpdfaa

/- The rounds of SHA-256: the contract of sha.mix. -/
import Derived.Test.YtimgggpojbpfkaaGreatDoorSha1
namespace Go.Proofs.YtimgggpojbpfkaaGreatDoor
open Go.RowKit
set_option maxRecDepth 100000
set_option linter.unusedVariables false
set_option linter.unusedSimpArgs false

def roundsL : List Nat := [1116352408, 1899447441, 3049323471, 3921009573, 961987163, 1508970993, 2453635748, 2870763221, 3624381080, 310598401, 607225278, 1426881987, 1925078388, 2162078206, 2614888103, 3248222580, 3835390401, 4022224774, 264347078, 604807628, 770255983, 1249150122, 1555081692, 1996064986, 2554220882, 2821834349, 2952996808, 3210313671, 3336571891, 3584528711, 113926993, 338241895, 666307205, 773529912, 1294757372, 1396182291, 1695183700, 1986661051, 2177026350, 2456956037, 2730485921, 2820302411, 3259730800, 3345764771, 3516065817, 3600352804, 4094571909, 275423344, 430227734, 506948616, 659060556, 883997877, 958139571, 1322822218, 1537002063, 1747873779, 1955562222, 2024104815, 2227730452, 2361852424, 2428436474, 2756734187, 3204031479, 3329325298]
def kL (i : Nat) : W32 := BitVec.ofNat 32 (roundsL.getD i 0)
/-- the rounds' numbers lie where the program has them -/
def Rnd (w : World) : Prop := 0 < w.heap.size ∧ ∀ i, i < 64 → w.cell? ⟨0, i, none⟩ = some (wv (kL i))
theorem Rnd.below {w w' : World} {B : Nat} (h : Rnd w) (hb : Below B w w') (hB : 0 < B) : Rnd w' :=
  ⟨Nat.lt_of_lt_of_le h.1 hb.size, fun i hi => (hb.cell hB).trans (h.2 i hi)⟩
theorem Rnd.ext {w w' : World} (h : Rnd w) (hb : Below w.heap.size w w') : Rnd w' := h.below hb h.1

structure St where
  a : W32
  b : W32
  c : W32
  d : W32
  e : W32
  f : W32
  g : W32
  h : W32
def St.list (s : St) : List W32 := [s.a, s.b, s.c, s.d, s.e, s.f, s.g, s.h]
def stOf (l : List W32) : St := ⟨l.getD 0 0, l.getD 1 0, l.getD 2 0, l.getD 3 0, l.getD 4 0, l.getD 5 0, l.getD 6 0, l.getD 7 0⟩
def one (s : St) (k w : W32) : W32 := s.h + turnL s.e 6 11 25 + chL s.e s.f s.g + k + w
def two (s : St) : W32 := turnL s.a 2 13 22 + majL s.a s.b s.c
def stepL (s : St) (k w : W32) : St := ⟨one s k w + two s, s.a, s.b, s.c, s.d + one s k w, s.e, s.f, s.g⟩
def mixN (s : St) (ws : List W32) : Nat → St
  | 0 => s
  | n + 1 => stepL (mixN s ws n) (kL n) (ws.getD n 0)

theorem add32 (x y : W32) : ((x.toNat : Int) + (y.toNat : Int)) % 4294967296 = ((x + y).toNat : Int) := by
  rw [BitVec.toNat_add]; omega
theorem addw32 (x y : W32) : IntKind.u32.wrap ((x.toNat : Int) + (y.toNat : Int)) = ((x + y).toNat : Int) := by
  rw [IntKind.wrap_u32, ← add32]
theorem arr8W : Tryz.prog.underlying 85 = some (.array 8 76) := Tryz.underlying85
theorem arr64W : Tryz.prog.underlying 168 = some (.array 64 76) := Tryz.underlying168
theorem i8W : (Tryz.prog.info? 85).map (·.size) = some 8 := by kernel_rfl
theorem i64W : (Tryz.prog.info? 168).map (·.size) = some 64 := by kernel_rfl
theorem s32 : (Tryz.prog.info? 76).map (·.size) = some 1 := by kernel_rfl
theorem wv_one (l : List W32) : ∀ v ∈ l.map wv, v.oneCell' = true := by
  intro v hv
  obtain ⟨x, _, rfl⟩ := List.mem_map.1 hv
  rfl
theorem wcell {w : World} {g : Nat} {l : List W32} {t : TypeId} {fr : Nat × Nat} (h : w.heap[g]? = some (.cells (l.map wv).toArray t fr)) (i : Nat) (hi : i < l.length) : w.cell? ⟨g, i, none⟩ = some (.int .u32 ((l.getD i 0).toNat : Int)) := by
  rw [cell_of_heap h, List.getElem?_map, List.getElem?_eq_getElem hi]
  simp [List.getD, hi, wv]

theorem heap3 (w : World) (o1 o2 o3 : Obj) : (((w.alloc o1).alloc o2).alloc o3).heap[w.heap.size]? = some o1 ∧ (((w.alloc o1).alloc o2).alloc o3).heap[w.heap.size + 1]? = some o2 ∧ (((w.alloc o1).alloc o2).alloc o3).heap[w.heap.size + 2]? = some o3 ∧
    Below w.heap.size w (((w.alloc o1).alloc o2).alloc o3) := by
  have e1 : (w.alloc o1).heap.size = w.heap.size + 1 := by simp
  have e2 : ((w.alloc o1).alloc o2).heap.size = w.heap.size + 2 := by simp
  refine ⟨?_, ?_, ?_, ?_⟩
  · rw [Below.heap_alloc _ _ _ (by omega), Below.heap_alloc _ _ _ (by omega)]; exact heap_alloc_new' w o1
  · rw [Below.heap_alloc _ _ _ (by omega)]; have := heap_alloc_new' (w.alloc o1) o2; rwa [e1] at this
  · have := heap_alloc_new' ((w.alloc o1).alloc o2) o3; rwa [e2] at this
  · exact (((Below.refl _ w).alloc (Nat.le_refl _) _).alloc (by omega) _).alloc (by omega) _

theorem list8 {α : Type} {l : List α} (h : l.length = 8) : ∃ a b c d e f g i, l = [a, b, c, d, e, f, g, i] := by
  match l, h with
  | [a, b, c, d, e, f, g, i], _ => exact ⟨a, b, c, d, e, f, g, i, rfl⟩
theorem st_cells {w : World} {n : Nat} {a b c d e f g h : W32} {t : TypeId} {fr : Nat × Nat} (H : w.heap[n]? = some (.cells ([a, b, c, d, e, f, g, h].map wv).toArray t fr)) :
    w.cell? ⟨n, 0, none⟩ = some (.int .u32 (a.toNat : Int)) ∧ w.cell? ⟨n, 1, none⟩ = some (.int .u32 (b.toNat : Int)) ∧ w.cell? ⟨n, 2, none⟩ = some (.int .u32 (c.toNat : Int)) ∧ w.cell? ⟨n, 3, none⟩ = some (.int .u32 (d.toNat : Int)) ∧
    w.cell? ⟨n, 4, none⟩ = some (.int .u32 (e.toNat : Int)) ∧ w.cell? ⟨n, 5, none⟩ = some (.int .u32 (f.toNat : Int)) ∧ w.cell? ⟨n, 6, none⟩ = some (.int .u32 (g.toNat : Int)) ∧ w.cell? ⟨n, 7, none⟩ = some (.int .u32 (h.toNat : Int)) :=
  ⟨wcell H 0 (by simp), wcell H 1 (by simp), wcell H 2 (by simp), wcell H 3 (by simp), wcell H 4 (by simp), wcell H 5 (by simp), wcell H 6 (by simp), wcell H 7 (by simp)⟩

set_option maxHeartbeats 2000000 in
theorem mix_any (hs ws : List W32) (w : World) (hh : hs.length = 8) (hw : ws.length = 64) (hR : Rnd w) :
    Calls Tryz.prog 127 #[.agg (hs.map wv).toArray, .agg (ws.map wv).toArray] w fun e w' => e = .returned (.agg (((mixN (stOf hs) ws 64).list).map wv).toArray) ∧ Below w.heap.size w w' := by
  have HH := Lib.hid hh; have HW := Lib.hid hw; have HR := Lib.hid hR
  clear hh hw hR
  go_enter Tryz.func127, Tryz.ntmps127
  go_wp2_with fail
  generalize hV : ((w.alloc _).alloc _).alloc _ = W0
  have F0 : Hid (W0.heap[w.heap.size]? = some (.cells (hs.map wv).toArray 85 (0, 0))) := by rw [← hV]; exact (heap3 w _ _ _).1
  have F1 : Hid (W0.heap[w.heap.size + 1]? = some (.cells (ws.map wv).toArray 168 (0, 0))) := by rw [← hV]; exact (heap3 w _ _ _).2.1
  have F2 : Hid (W0.heap[w.heap.size + 2]? = some (.cells (List.replicate 8 (Value.int .u32 0)).toArray 85 (0, 0))) := by rw [← hV]; exact (heap3 w _ _ _).2.2.1
  have FB : Hid (Below w.heap.size w W0) := by rw [← hV]; exact (heap3 w _ _ _).2.2.2
  clear hV
  have HX : Hid (Ext W0 W0.drew) := (Below.refl _ _).drew
  obtain ⟨a0, b0, c0, d0, e0, f0, g0, h0, hhs⟩ := list8 HH.out
  have HST : Hid (stOf hs = ⟨a0, b0, c0, d0, e0, f0, g0, h0⟩) := by show _ = _; rw [hhs]; rfl
  have F0' := F0.out
  rw [hhs] at F0'
  obtain ⟨k0, k1, k2, k3, k4, k5, k6, k7⟩ := st_cells F0'
  have K0 := Lib.hid k0; have K1 := Lib.hid k1; have K2 := Lib.hid k2; have K3 := Lib.hid k3; have K4 := Lib.hid k4; have K5 := Lib.hid k5; have K6 := Lib.hid k6; have K7 := Lib.hid k7
  clear k0 k1 k2 k3 k4 k5 k6 k7 F0' hhs
  obtain ⟨S0, HS0⟩ : ∃ S, Hid (stOf hs = S) := ⟨_, rfl⟩
  have HST := Lib.hid (HS0.out.symm.trans HST.out)
  generalize (hs.map wv).toArray = HV at F0 ⊢
  refine reg_start (by kernel_rfl) ?_
  try simp only [Act.put, List.setIfInBounds_toArray, List.set_cons_zero, List.set_cons_succ]
  refine reg_take (v := ?_) 0 (some 16) rfl rfl (by kernel_rfl) (by kernel_rfl) (by kernel_rfl) (fun _ _ _ h => h) (by rfl) (fun W hW => ?_) ?_
  rotate_left
  · (go_simp; try rfl)
  simp only [Act.put, List.setIfInBounds_toArray, List.set_cons_zero, List.set_cons_succ]
  refine reg_load 1 (some 17) (fun W hW => load_cell Tryz.underlying76 ((hW.cell (lt_of_heap (w := W0.drew) F0.out)).trans K0.out)) rfl rfl rfl rfl (by kernel_rfl) (by kernel_rfl) (by kernel_rfl) (fun _ _ _ h => h) (by rfl) ?_
  simp only [Act.put, List.setIfInBounds_toArray, List.set_cons_zero, List.set_cons_succ]
  refine reg_take (v := ?_) 2 (some 18) rfl rfl (by kernel_rfl) (by kernel_rfl) (by kernel_rfl) (fun _ _ _ h => h) (by rfl) (fun W hW => ?_) ?_
  rotate_left
  · (go_simp; try rfl)
  simp only [Act.put, List.setIfInBounds_toArray, List.set_cons_zero, List.set_cons_succ]
  refine reg_load 3 (some 19) (fun W hW => load_cell Tryz.underlying76 ((hW.cell (lt_of_heap (w := W0.drew) F0.out)).trans K1.out)) rfl rfl rfl rfl (by kernel_rfl) (by kernel_rfl) (by kernel_rfl) (fun _ _ _ h => h) (by rfl) ?_
  simp only [Act.put, List.setIfInBounds_toArray, List.set_cons_zero, List.set_cons_succ]
  refine reg_take (v := ?_) 4 (some 20) rfl rfl (by kernel_rfl) (by kernel_rfl) (by kernel_rfl) (fun _ _ _ h => h) (by rfl) (fun W hW => ?_) ?_
  rotate_left
  · (go_simp; try rfl)
  simp only [Act.put, List.setIfInBounds_toArray, List.set_cons_zero, List.set_cons_succ]
  refine reg_load 5 (some 21) (fun W hW => load_cell Tryz.underlying76 ((hW.cell (lt_of_heap (w := W0.drew) F0.out)).trans K2.out)) rfl rfl rfl rfl (by kernel_rfl) (by kernel_rfl) (by kernel_rfl) (fun _ _ _ h => h) (by rfl) ?_
  simp only [Act.put, List.setIfInBounds_toArray, List.set_cons_zero, List.set_cons_succ]
  refine reg_take (v := ?_) 6 (some 22) rfl rfl (by kernel_rfl) (by kernel_rfl) (by kernel_rfl) (fun _ _ _ h => h) (by rfl) (fun W hW => ?_) ?_
  rotate_left
  · (go_simp; try rfl)
  simp only [Act.put, List.setIfInBounds_toArray, List.set_cons_zero, List.set_cons_succ]
  refine reg_load 7 (some 23) (fun W hW => load_cell Tryz.underlying76 ((hW.cell (lt_of_heap (w := W0.drew) F0.out)).trans K3.out)) rfl rfl rfl rfl (by kernel_rfl) (by kernel_rfl) (by kernel_rfl) (fun _ _ _ h => h) (by rfl) ?_
  simp only [Act.put, List.setIfInBounds_toArray, List.set_cons_zero, List.set_cons_succ]
  refine reg_take (v := ?_) 8 (some 24) rfl rfl (by kernel_rfl) (by kernel_rfl) (by kernel_rfl) (fun _ _ _ h => h) (by rfl) (fun W hW => ?_) ?_
  rotate_left
  · (go_simp; try rfl)
  simp only [Act.put, List.setIfInBounds_toArray, List.set_cons_zero, List.set_cons_succ]
  refine reg_load 9 (some 25) (fun W hW => load_cell Tryz.underlying76 ((hW.cell (lt_of_heap (w := W0.drew) F0.out)).trans K4.out)) rfl rfl rfl rfl (by kernel_rfl) (by kernel_rfl) (by kernel_rfl) (fun _ _ _ h => h) (by rfl) ?_
  simp only [Act.put, List.setIfInBounds_toArray, List.set_cons_zero, List.set_cons_succ]
  refine reg_take (v := ?_) 10 (some 26) rfl rfl (by kernel_rfl) (by kernel_rfl) (by kernel_rfl) (fun _ _ _ h => h) (by rfl) (fun W hW => ?_) ?_
  rotate_left
  · (go_simp; try rfl)
  simp only [Act.put, List.setIfInBounds_toArray, List.set_cons_zero, List.set_cons_succ]
  refine reg_load 11 (some 27) (fun W hW => load_cell Tryz.underlying76 ((hW.cell (lt_of_heap (w := W0.drew) F0.out)).trans K5.out)) rfl rfl rfl rfl (by kernel_rfl) (by kernel_rfl) (by kernel_rfl) (fun _ _ _ h => h) (by rfl) ?_
  simp only [Act.put, List.setIfInBounds_toArray, List.set_cons_zero, List.set_cons_succ]
  refine reg_take (v := ?_) 12 (some 28) rfl rfl (by kernel_rfl) (by kernel_rfl) (by kernel_rfl) (fun _ _ _ h => h) (by rfl) (fun W hW => ?_) ?_
  rotate_left
  · (go_simp; try rfl)
  simp only [Act.put, List.setIfInBounds_toArray, List.set_cons_zero, List.set_cons_succ]
  refine reg_load 13 (some 29) (fun W hW => load_cell Tryz.underlying76 ((hW.cell (lt_of_heap (w := W0.drew) F0.out)).trans K6.out)) rfl rfl rfl rfl (by kernel_rfl) (by kernel_rfl) (by kernel_rfl) (fun _ _ _ h => h) (by rfl) ?_
  simp only [Act.put, List.setIfInBounds_toArray, List.set_cons_zero, List.set_cons_succ]
  refine reg_take (v := ?_) 14 (some 30) rfl rfl (by kernel_rfl) (by kernel_rfl) (by kernel_rfl) (fun _ _ _ h => h) (by rfl) (fun W hW => ?_) ?_
  rotate_left
  · (go_simp; try rfl)
  simp only [Act.put, List.setIfInBounds_toArray, List.set_cons_zero, List.set_cons_succ]
  refine reg_load 15 (some 31) (fun W hW => load_cell Tryz.underlying76 ((hW.cell (lt_of_heap (w := W0.drew) F0.out)).trans K7.out)) rfl rfl rfl rfl (by kernel_rfl) (by kernel_rfl) (by kernel_rfl) (fun _ _ _ h => h) (by rfl) ?_
  simp only [Act.put, List.setIfInBounds_toArray, List.set_cons_zero, List.set_cons_succ]
  refine reg_take (v := ?_) 16 (some 5) rfl rfl (by kernel_rfl) (by kernel_rfl) (by kernel_rfl) (fun _ _ _ h => h) (by rfl) (fun W hW => ?_) ?_
  rotate_left
  · (go_simp; try rfl)
  simp only [Act.put, List.setIfInBounds_toArray, List.set_cons_zero, List.set_cons_succ]
  refine reg_take (v := ?_) 17 (some 6) rfl rfl (by kernel_rfl) (by kernel_rfl) (by kernel_rfl) (fun _ _ _ h => h) (by rfl) (fun W hW => ?_) ?_
  rotate_left
  · (go_simp; try rfl)
  simp only [Act.put, List.setIfInBounds_toArray, List.set_cons_zero, List.set_cons_succ]
  refine reg_take (v := ?_) 18 (some 7) rfl rfl (by kernel_rfl) (by kernel_rfl) (by kernel_rfl) (fun _ _ _ h => h) (by rfl) (fun W hW => ?_) ?_
  rotate_left
  · (go_simp; try rfl)
  simp only [Act.put, List.setIfInBounds_toArray, List.set_cons_zero, List.set_cons_succ]
  refine reg_take (v := ?_) 19 (some 8) rfl rfl (by kernel_rfl) (by kernel_rfl) (by kernel_rfl) (fun _ _ _ h => h) (by rfl) (fun W hW => ?_) ?_
  rotate_left
  · (go_simp; try rfl)
  simp only [Act.put, List.setIfInBounds_toArray, List.set_cons_zero, List.set_cons_succ]
  refine reg_take (v := ?_) 20 (some 9) rfl rfl (by kernel_rfl) (by kernel_rfl) (by kernel_rfl) (fun _ _ _ h => h) (by rfl) (fun W hW => ?_) ?_
  rotate_left
  · (go_simp; try rfl)
  simp only [Act.put, List.setIfInBounds_toArray, List.set_cons_zero, List.set_cons_succ]
  refine reg_take (v := ?_) 21 (some 10) rfl rfl (by kernel_rfl) (by kernel_rfl) (by kernel_rfl) (fun _ _ _ h => h) (by rfl) (fun W hW => ?_) ?_
  rotate_left
  · (go_simp; try rfl)
  simp only [Act.put, List.setIfInBounds_toArray, List.set_cons_zero, List.set_cons_succ]
  refine reg_take (v := ?_) 22 (some 11) rfl rfl (by kernel_rfl) (by kernel_rfl) (by kernel_rfl) (fun _ _ _ h => h) (by rfl) (fun W hW => ?_) ?_
  rotate_left
  · (go_simp; try rfl)
  simp only [Act.put, List.setIfInBounds_toArray, List.set_cons_zero, List.set_cons_succ]
  refine reg_take (v := ?_) 23 (some 12) rfl rfl (by kernel_rfl) (by kernel_rfl) (by kernel_rfl) (fun _ _ _ h => h) (by rfl) (fun W hW => ?_) ?_
  rotate_left
  · (go_simp; try rfl)
  simp only [Act.put, List.setIfInBounds_toArray, List.set_cons_zero, List.set_cons_succ]
  refine reg_done (by kernel_rfl) ?_
  have FB' : Hid (Below w.heap.size w W0.drew) := FB.out.drew
  have F1' : Hid (W0.drew.heap[w.heap.size + 1]? = some (.cells (ws.map wv).toArray 168 (0, 0))) := F1.out
  have F2' : Hid (W0.drew.heap[w.heap.size + 2]? = some (.cells (List.replicate 8 (Value.int .u32 0)).toArray 85 (0, 0))) := F2.out
  clear F0 F1 F2 FB HX K0 K1 K2 K3 K4 K5 K6 K7
  generalize W0.drew = W1 at FB' F1' F2' ⊢
  go_wp2_with fail
  go_loopw [5, 6, 7, 8, 9, 10, 11, 12, 32] (fun va vb vc vd ve vf vg vh vi wr => ∃ (i : Nat) (s : St), i ≤ 64 ∧ vi = .int .i64 (i : Int) ∧ Hid (s = mixN (S0) ws i) ∧ Hid (Below w.heap.size w wr) ∧ Hid (wr.heap[w.heap.size + 1]? = W1.heap[w.heap.size + 1]?) ∧ Hid (wr.heap[w.heap.size + 2]? = W1.heap[w.heap.size + 2]?) ∧
     va = .int .u32 (s.a.toNat : Int) ∧ vb = .int .u32 (s.b.toNat : Int) ∧ vc = .int .u32 (s.c.toNat : Int) ∧ vd = .int .u32 (s.d.toNat : Int) ∧ ve = .int .u32 (s.e.toNat : Int) ∧ vf = .int .u32 (s.f.toNat : Int) ∧ vg = .int .u32 (s.g.toNat : Int) ∧ vh = .int .u32 (s.h.toNat : Int)) (fun _ _ _ _ _ _ _ _ i _ => 64 - (intOf i).toNat)
  case atStart => exact ⟨0, ⟨a0, b0, c0, d0, e0, f0, g0, h0⟩, by omega, rfl, HST.out.symm, FB', rfl, rfl, rfl, rfl, rfl, rfl, rfl, rfl, rfl, rfl⟩
  case round =>
    obtain ⟨i, ⟨a, b, c, d, e, f, g, h⟩, hi, rfl, HS, HB, H1, H2, rfl, rfl, rfl, rfl, rfl, rfl, rfl, rfl⟩ := hrel
    simp only
    by_cases hlt : i < 64
    · have c0 : Hid (wr.cell? ⟨0, i, none⟩ = some (.int .u32 ((kL i).toNat : Int))) := ((HR.out.ext HB.out).2 i hlt)
      have c1 : Hid (wr.cell? ⟨w.heap.size + 1, i, none⟩ = some (.int .u32 ((ws.getD i 0).toNat : Int))) := wcell (H1.out.trans F1'.out) i (by rw [HW.out]; exact hlt)
      have hs1 : Hid (mixN (S0) ws (i + 1) = stepL ⟨a, b, c, d, e, f, g, h⟩ (kL i) (ws.getD i 0)) := by show _ = _; rw [HS.out]; rfl
      generalize kL i = k at c0 hs1
      generalize ws.getD i 0 = x at c1 hs1
      have e1 : (i : Int) < 64 := by omega
      have HX : Hid (Ext wr wr.drew) := (Below.refl _ _).drew
      have hl0 : 0 < wr.heap.size := block_lt_of_cell c0.out
      have hl1 : w.heap.size + 1 < wr.heap.size := block_lt_of_cell c1.out
      obtain ⟨t, ht⟩ : ∃ t, t = turnL e 6 11 25 := ⟨_, rfl⟩
      obtain ⟨ch, hc⟩ : ∃ t, t = chL e f g := ⟨_, rfl⟩
      obtain ⟨r1, hr1⟩ : ∃ t, t = h + turnL e 6 11 25 := ⟨_, rfl⟩
      obtain ⟨r2, hr2⟩ : ∃ t, t = r1 + chL e f g := ⟨_, rfl⟩
      obtain ⟨r3, hr3⟩ : ∃ t, t = r2 + k := ⟨_, rfl⟩
      obtain ⟨r4, hr4⟩ : ∃ t, t = r3 + x := ⟨_, rfl⟩
      have u1 : IntKind.u32.wrap ((h.toNat : Int) + (t.toNat : Int)) = (r1.toNat : Int) := by rw [hr1, ht]; exact addw32 _ _
      have u2 : IntKind.u32.wrap ((r1.toNat : Int) + (ch.toNat : Int)) = (r2.toNat : Int) := by rw [hr2, hc]; exact addw32 _ _
      have u3 : IntKind.u32.wrap ((r2.toNat : Int) + (k.toNat : Int)) = (r3.toNat : Int) := by rw [hr3]; exact addw32 _ _
      have u4 : IntKind.u32.wrap ((r3.toNat : Int) + (x.toNat : Int)) = (r4.toNat : Int) := by rw [hr4]; exact addw32 _ _
      have hone : Hid (r4 = one ⟨a, b, c, d, e, f, g, h⟩ k x) := by show _ = _; rw [hr4, hr3, hr2, hr1]; rfl
      have HT := Lib.hid ht; have HC := Lib.hid hc
      clear ht hc hr1 hr2 hr3 hr4
      go_wp2_with fail
      refine reg_start (by kernel_rfl) ?_
      try simp only [Act.put, List.setIfInBounds_toArray, List.set_cons_zero, List.set_cons_succ]
      refine reg_take (v := ?_) 0 (some 35) rfl rfl (by kernel_rfl) (by kernel_rfl) (by kernel_rfl) (fun _ _ _ h => h) (by rfl) (fun W hW => ?_) ?_
      rotate_left
      · (go_simp; try rfl)
      simp only [Act.put, List.setIfInBounds_toArray, List.set_cons_zero, List.set_cons_succ]
      refine reg_take (v := ?_) 1 (some 36) rfl rfl (by kernel_rfl) (by kernel_rfl) (by kernel_rfl) (fun _ _ _ h => h) (by rfl) (fun W hW => ?_) ?_
      rotate_left
      · (go_simp; try rfl)
      simp only [Act.put, List.setIfInBounds_toArray, List.set_cons_zero, List.set_cons_succ]
      refine reg_take (v := ?_) 4 (some 39) rfl rfl (by kernel_rfl) (by kernel_rfl) (by kernel_rfl) (fun _ _ _ h => h) (by rfl) (fun W hW => ?_) ?_
      rotate_left
      · (go_simp; try rfl)
      simp only [Act.put, List.setIfInBounds_toArray, List.set_cons_zero, List.set_cons_succ]
      refine reg_take (v := ?_) 5 (some 40) rfl rfl (by kernel_rfl) (by kernel_rfl) (by kernel_rfl) (fun _ _ _ h => h) (by rfl) (fun W hW => ?_) ?_
      rotate_left
      · (go_simp; try rfl)
      simp only [Act.put, List.setIfInBounds_toArray, List.set_cons_zero, List.set_cons_succ]
      refine reg_take (v := ?_) 6 (some 41) rfl rfl (by kernel_rfl) (by kernel_rfl) (by kernel_rfl) (fun _ _ _ h => h) (by rfl) (fun W hW => ?_) ?_
      rotate_left
      · (go_simp; try rfl)
      simp only [Act.put, List.setIfInBounds_toArray, List.set_cons_zero, List.set_cons_succ]
      refine reg_take (v := ?_) 9 (some 44) rfl rfl (by kernel_rfl) (by kernel_rfl) (by kernel_rfl) (fun _ _ _ h => h) (by rfl) (fun W hW => ?_) ?_
      rotate_left
      · (go_simp; try rfl)
      simp only [Act.put, List.setIfInBounds_toArray, List.set_cons_zero, List.set_cons_succ]
      refine reg_take (v := ?_) 10 (some 45) rfl rfl (by kernel_rfl) (by kernel_rfl) (by kernel_rfl) (fun _ _ _ h => h) (by rfl) (fun W hW => ?_) ?_
      rotate_left
      · (go_simp; try rfl)
      simp only [Act.put, List.setIfInBounds_toArray, List.set_cons_zero, List.set_cons_succ]
      refine reg_load 11 (some 46) (fun W hW => load_cell Tryz.underlying76 ((hW.cell hl0).trans c0.out)) rfl rfl rfl rfl (by kernel_rfl) (by kernel_rfl) (by kernel_rfl) (fun _ _ _ h => h) (by rfl) ?_
      simp only [Act.put, List.setIfInBounds_toArray, List.set_cons_zero, List.set_cons_succ]
      refine reg_take (v := ?_) 13 (some 48) rfl rfl (by kernel_rfl) (by kernel_rfl) (by kernel_rfl) (fun _ _ _ h => h) (by rfl) (fun W hW => ?_) ?_
      rotate_left
      · (go_simp; try rfl)
      simp only [Act.put, List.setIfInBounds_toArray, List.set_cons_zero, List.set_cons_succ]
      refine reg_take (v := ?_) 14 (some 49) rfl rfl (by kernel_rfl) (by kernel_rfl) (by kernel_rfl) (fun _ _ _ h => h) (by rfl) (fun W hW => ?_) ?_
      rotate_left
      · (go_simp; try rfl)
      simp only [Act.put, List.setIfInBounds_toArray, List.set_cons_zero, List.set_cons_succ]
      refine reg_load 15 (some 50) (fun W hW => load_cell Tryz.underlying76 ((hW.cell hl1).trans c1.out)) rfl rfl rfl rfl (by kernel_rfl) (by kernel_rfl) (by kernel_rfl) (fun _ _ _ h => h) (by rfl) ?_
      simp only [Act.put, List.setIfInBounds_toArray, List.set_cons_zero, List.set_cons_succ]
      refine reg_eff 2 rfl (by kernel_rfl) (fun K hK => ?_)
      go_simp
      refine (turn_any e 6 11 25 _ (by omega) (by omega) (by omega)).mono ?_
      rw [← HT.out]
      rintro ee w3 ⟨rfl, rfl⟩
      have hE := (Ext.refl wr.drew)
      refine hK.out _ _ hE ?_
      have HX := Lib.hid (Ext.trans HX.out hE)
      clear hE hK K
      try simp only [Act.put, List.setIfInBounds_toArray, List.set_cons_zero, List.set_cons_succ]
      refine reg_take (v := ?_) 3 (some 38) rfl rfl (by kernel_rfl) (by kernel_rfl) (by kernel_rfl) (fun _ _ _ h => h) (by rfl) (fun W hW => ?_) ?_
      rotate_left
      · (go_simp; try rfl)
      simp only [Act.put, List.setIfInBounds_toArray, List.set_cons_zero, List.set_cons_succ]
      refine reg_eff 7 rfl (by kernel_rfl) (fun K hK => ?_)
      go_simp
      refine (choose_any e f g _).mono ?_
      rw [← HC.out]
      rintro ee w3 ⟨rfl, rfl⟩
      have hE := (Ext.refl wr.drew)
      refine hK.out _ _ hE ?_
      have HX := Lib.hid (Ext.trans HX.out hE)
      clear hE hK K
      try simp only [Act.put, List.setIfInBounds_toArray, List.set_cons_zero, List.set_cons_succ]
      refine reg_take (v := ?_) 8 (some 43) rfl rfl (by kernel_rfl) (by kernel_rfl) (by kernel_rfl) (fun _ _ _ h => h) (by rfl) (fun W hW => ?_) ?_
      rotate_left
      · (go_simp; try rfl)
      simp only [Act.put, List.setIfInBounds_toArray, List.set_cons_zero, List.set_cons_succ]
      refine reg_take (v := ?_) 12 (some 47) rfl rfl (by kernel_rfl) (by kernel_rfl) (by kernel_rfl) (fun _ _ _ h => h) (by rfl) (fun W hW => ?_) ?_
      rotate_left
      · (go_simp; try rfl)
      simp only [Act.put, List.setIfInBounds_toArray, List.set_cons_zero, List.set_cons_succ]
      refine reg_take (v := ?_) 16 (some 51) rfl rfl (by kernel_rfl) (by kernel_rfl) (by kernel_rfl) (fun _ _ _ h => h) (by rfl) (fun W hW => ?_) ?_
      rotate_left
      · (go_simp; try rfl)
      simp only [Act.put, List.setIfInBounds_toArray, List.set_cons_zero, List.set_cons_succ]
      refine reg_take (v := ?_) 17 (some 14) rfl rfl (by kernel_rfl) (by kernel_rfl) (by kernel_rfl) (fun _ _ _ h => h) (by rfl) (fun W hW => ?_) ?_
      rotate_left
      · (go_simp; try rfl)
      simp only [Act.put, List.setIfInBounds_toArray, List.set_cons_zero, List.set_cons_succ]
      refine reg_done (by kernel_rfl) ?_
      clear u1 u2 u3 u4 c0 c1 hl0 hl1 HT HC
      have HX' : Hid (Below w.heap.size w wr.drew) := HB.out.drew
      have H1' : Hid (wr.drew.heap[w.heap.size + 1]? = W1.heap[w.heap.size + 1]?) := H1.out
      have H2' : Hid (wr.drew.heap[w.heap.size + 2]? = W1.heap[w.heap.size + 2]?) := H2.out
      clear HX HB H1 H2
      obtain ⟨t2, ht⟩ : ∃ t, t = turnL a 2 13 22 := ⟨_, rfl⟩
      obtain ⟨m, hm⟩ : ∃ t, t = majL a b c := ⟨_, rfl⟩
      obtain ⟨r5, hr5⟩ : ∃ r, r = t2 + m := ⟨_, rfl⟩
      obtain ⟨r6, hr6⟩ : ∃ r, r = r4 + r5 := ⟨_, rfl⟩
      obtain ⟨r7, hr7⟩ : ∃ r, r = d + r4 := ⟨_, rfl⟩
      have U5 : Hid (((t2.toNat : Int) + (m.toNat : Int)) % 4294967296 = (r5.toNat : Int)) := by show _ = _; rw [hr5]; exact add32 _ _
      have U6 : Hid (((r4.toNat : Int) + (r5.toNat : Int)) % 4294967296 = (r6.toNat : Int)) := by show _ = _; rw [hr6]; exact add32 _ _
      have U7 : Hid (((d.toNat : Int) + (r4.toNat : Int)) % 4294967296 = (r7.toNat : Int)) := by show _ = _; rw [hr7]; exact add32 _ _
      have hst : Hid (mixN (S0) ws (i + 1) = ⟨r6, a, b, c, r7, e, f, g⟩) := by
        show _ = _
        rw [hs1.out, hr6, hr7, hr5, ht, hm, hone.out]; rfl
      have HT := Lib.hid ht; have HM := Lib.hid hm
      clear hs1 hone ht hm hr5 hr6 hr7
      generalize wr.drew = W2 at HX' H1' H2' ⊢
      go_wp2_with fail
      refine (turn_any a 2 13 22 _ (by omega) (by omega) (by omega)).mono ?_
      rw [← HT.out]
      rintro ee w3 ⟨rfl, rfl⟩
      go_wp2_with fail
      refine (majority_any a b c _).mono ?_
      rw [← HM.out]
      rintro ee w3 ⟨rfl, rfl⟩
      simp only [wv]
      have u5 := U5.out
      have u6 := U6.out
      have u7 := U7.out
      go_wp2
      go_roundw
      case rel => exact ⟨i + 1, ⟨r6, a, b, c, r7, e, f, g⟩, by omega, by go_num, hst.out.symm, HX', H1', H2', congrArg (Value.int .u32) U6.out, rfl, rfl, rfl, congrArg (Value.int .u32) U7.out, rfl, rfl, rfl⟩
      case measure => simp [intOf]; omega
    · have hi64 : i = 64 := by omega
      subst hi64
      have hl : Hid ((mixN (S0) ws 64).list = [a, b, c, d, e, f, g, h]) := by show _ = _; rw [← HS.out]; rfl
      have K2 := Lib.hid (H2.out.trans F2'.out)
      go_wp2_with (first
        | (refine wpList_st rfl 85 (.tmp 4) (.tmp 80) rfl (store_arr (cs := [a, b, c, d, e, f, g, h].map wv) i8W (wv_one _) K2.out (by simp)) ?_)
        | fail)
      have hres := setRow_heap wr (w.heap.size + 2) _ ([a, b, c, d, e, f, g, h].map wv).toArray 85 _ K2.out
      rw [HS0.out, hl.out]
      exact bodyPost_ret (results_cell_row (P := Tryz.prog) rfl _ _ (w.heap.size + 2) 85 ([a, b, c, d, e, f, g, h].map wv).toArray (0, 0) _ rfl hres arr8W rfl i8W) rfl ⟨rfl, HB.out.trans (grown_below (grown_setRow _ _ _) (by omega) HB.out.size)⟩
end Go.Proofs.YtimgggpojbpfkaaGreatDoor

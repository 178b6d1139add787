/- palfreyref06.Mul. -/
import Derived.Test.YtkgbhlppadpdfaaRefG1
import Derived.StillTailTactics
namespace Go.Proofs.Ytkgbhlppadpdfaa
open Go.RowKit
set_option maxRecDepth 100000
set_option linter.unusedVariables false
set_option linter.unusedSimpArgs false
theorem but_range {g j g' : Nat} {w W : World} {cs : List Value} {t : TypeId} {fr : Nat × Nat} (h : But g j w W) (hn : g' ≠ g) (hh : w.heap[g']? = some (.cells cs.toArray t fr)) : W.rangeAt g' 0 cs := fun k v hv => by
  rw [Nat.zero_add]
  exact (h.2 g' k (lt_of_heap hh) (fun e => hn e.1)).trans ((cell_of_heap hh k).trans hv)
theorem g_or8 (y z : UInt8) : bits .or .u8 (y.toNat : Int) (z.toNat : Int) = ((y ||| z).toNat : Int) := by
  rw [u8_or_nat _ _ y.toNat_lt z.toNat_lt, UInt8.toNat_or]
theorem g_sInt : (Try.prog.info? 3).map (·.size) = some 1 := by kernel_rfl
theorem g_heap4 (w : World) (o1 o2 o3 o4 : Obj) : ∀ W, (((w.alloc o1).alloc o2).alloc o3).alloc o4 = W → W.heap[w.heap.size]? = some o1 ∧ W.heap[w.heap.size + 1]? = some o2 ∧ W.heap[w.heap.size + 2]? = some o3 ∧ W.heap[w.heap.size + 3]? = some o4 ∧ Below w.heap.size w W := by
  rintro W rfl
  have a1 := heap_alloc_new' w o1
  have a2 := heap_alloc_new' (w.alloc o1) o2
  have a3 := heap_alloc_new' ((w.alloc o1).alloc o2) o3
  have a4 := heap_alloc_new' (((w.alloc o1).alloc o2).alloc o3) o4
  simp only [World.size_alloc] at a2 a3 a4
  have b1 := Below.heap_alloc (w.alloc o1) o2
  have b2 := Below.heap_alloc ((w.alloc o1).alloc o2) o3
  have b3 := Below.heap_alloc (((w.alloc o1).alloc o2).alloc o3) o4
  simp only [World.size_alloc] at b1 b2 b3
  refine ⟨?_, ?_, ?_, a4, ((((Below.refl _ w).alloc (Nat.le_refl _) o1).alloc (by simp) o2).alloc (by simp; omega) o3).alloc (by simp; omega) o4⟩
  · rw [b3 _ (by omega), b2 _ (by omega), b1 _ (by omega)]; exact a1
  · rw [b3 _ (by omega), b2 _ (by omega)]; exact a2
  · rw [b3 _ (by omega)]; exact a3
def gz256 : List Nat := List.replicate 256 0
theorem gz256_init : PG gz256 255 0 0 := PG.init
theorem gz256_val (W : World) : (zeroValue 106).run Try.prog W = .ok (.agg (gz256.map ivG).toArray) W := by kernel_rfl
theorem bitI_def (b : List UInt8) (i : Nat) : bitI b i < 2 := bitI_lt b i
set_option maxHeartbeats 4000000 in
theorem refGmul_any (a b : List UInt8) (w : World) (ha : a.length = 16) (hb : b.length = 16) :
    Calls Try.prog 61 #[.agg (a.map bv).toArray, .agg (b.map bv).toArray] w fun e w' => e = .returned (.agg ((gmulL a b).map bv).toArray) ∧ Below w.heap.size w w' := by
  have HA := Lib.hid ha; have HB := Lib.hid hb
  have hz := gz256_val
  have HZ0 := Lib.hid gz256_init
  generalize gz256 = Z at hz HZ0
  have hz16 : ∀ W, (zeroValue 33).run Try.prog W = .ok (.agg ((blkL 0).map bv).toArray) W := fun W => by kernel_rfl
  have HB0 : Hid ((blkL 0).length = 16) := blkL_len 0
  have hi16a : Hid ((Try.prog.info? 33).map (·.size) = some (a.map bv).length) := i16l a ha
  have hi16b : Hid ((Try.prog.info? 33).map (·.size) = some (b.map bv).length) := i16l b hb
  have AT := Lib.hid (fun i W hi => refAt_any a i W ha hi)
  have BT := Lib.hid (fun k W hk => refAt_any b k W hb hk)
  have HRES : Hid (gmulL a b = blkL (actN (bigN a) (bigN b) 128)) := rfl
  obtain ⟨V, HV⟩ : ∃ V, Hid (actN (bigN a) (bigN b) 128 = V) := ⟨_, rfl⟩
  rw [HRES.out, HV.out]
  clear ha hb HRES
  go_enter Try.func61, Try.ntmps61
  go_wp2_with fail
  generalize hV : (((w.alloc _).alloc _).alloc _).alloc _ = W0
  obtain ⟨f2, f3, f4, f5, fb⟩ := g_heap4 w _ _ _ _ _ hV
  have F2 : Hid (W0.heap[w.heap.size]? = some (.cells (a.map bv).toArray 33 (0, 0))) := f2
  have F3 : Hid (W0.heap[w.heap.size + 1]? = some (.cells (b.map bv).toArray 33 (0, 0))) := f3
  have F4 : Hid (W0.heap[w.heap.size + 2]? = some (.cells ((blkL 0).map bv).toArray 33 (0, 0))) := f4
  have F5 : Hid (W0.heap[w.heap.size + 3]? = some (.cells (Z.map ivG).toArray 106 (0, 0))) := f5
  have FB := Lib.hid fb
  clear hV f2 f3 f4 f5 fb
  obtain ⟨g5, hg5⟩ : ∃ g, w.heap.size + 3 = g := ⟨_, rfl⟩
  rw [hg5] at F5 ⊢
  have HG5 := Lib.hid hg5
  clear hg5
  go_loopw [6] (fun vi wr => ∃ (i : Nat) (p : List Nat) (c : Nat), i ≤ 128 ∧ vi = .int .i64 (i : Int) ∧ Hid (PG p 255 (actN (bigN a) (bigN b) i) c) ∧ Hid (c ≤ 128 * i) ∧ Hid (wr.heap[g5]? = some (.cells (p.map ivG).toArray 106 (0, 0))) ∧ Hid (Below g5 W0 wr)) (fun i _ => 128 - (intOf i).toNat)
  case atStart => exact ⟨0, Z, 0, by omega, rfl, HZ0, Nat.le_refl _, F5, Below.refl _ _⟩
  case round =>
    clear F5 HZ0
    obtain ⟨i, p, c, hi, rfl, HP, HC, H5, HBW⟩ := hrel
    have N2 : Hid (wr.heap[w.heap.size]? = _) := (HBW.out.block _ (by have := HG5.out; omega)).trans F2.out
    have N3 : Hid (wr.heap[w.heap.size + 1]? = _) := (HBW.out.block _ (by have := HG5.out; omega)).trans F3.out
    by_cases hlt : i < 128
    · have q1 : (i : Int) < 128 := by omega
      have HAT := Lib.hid (AT.out i wr hlt)
      obtain ⟨t, ht⟩ : ∃ t, bitI a i = t := ⟨_, rfl⟩
      rw [ht] at HAT
      have HT := Lib.hid ht
      clear ht
      go_wp2_with (first
        | (refine wpList_ld rfl 33 (.tmp 2) rfl (load_arr arr16B rfl hi16a.out N2.out) ?_)
        | fail)
      refine HAT.out.mono ?_
      rintro e w1 ⟨rfl, hb1⟩
      have P5 := Lib.hid ((hb1.block _ (lt_of_heap H5.out)).trans H5.out)
      have PB : Hid (Below g5 W0 w1) := HBW.out.trans (hb1.mono (Nat.le_of_lt (lt_of_heap H5.out)))
      clear hb1 H5 HBW N2 N3 HAT
      by_cases h0 : t = 0
      · have e1 : ((t : Int) == 0) = true := by simp [h0]
        have HRN := Lib.hid (row_none a b i (by rw [HT.out]; exact h0))
        go_wp2_with fail
        go_roundw
        case rel => exact ⟨i + 1, p, c, by omega, by go_num, by rw [← HRN.out]; exact HP, by have := HC.out; show _ ≤ _; omega, P5, PB⟩
        case measure => simp [intOf]; omega
      · have e1 : ((t : Int) == 0) = false := by simp; omega
        have HRE := Lib.hid (row_end a b i HB.out (by rw [HT.out]; exact h0))
        go_wp2_with fail
        obtain ⟨wo, hwo⟩ : ∃ x, x = w1 := ⟨_, rfl⟩
        subst hwo
        go_loopw [7] (fun vk wr => ∃ (k : Nat) (p : List Nat) (c : Nat), k ≤ 128 ∧ vk = .int .i64 (k : Int) ∧ Hid (PG p 255 (actN (bigN a) (bigN b) i ^^^ actN (bigN b) (pw i) k) c) ∧ Hid (c ≤ 128 * i + k) ∧ Hid (wr.heap[g5]? = some (.cells (p.map ivG).toArray 106 (0, 0))) ∧ Hid (Below g5 W0 wr)) (fun k _ => 128 - (intOf k).toNat)
        case atStart => exact ⟨0, p, c, by omega, rfl, by rw [show actN (bigN b) (pw i) 0 = 0 from rfl, Nat.xor_zero]; exact HP, HC, P5, PB⟩
        case round =>
          clear P5 PB HP HC
          obtain ⟨k, p, c, hk, rfl, HP, HC, H5, HBW⟩ := hrel
          have N3 : Hid (wr.heap[w.heap.size + 1]? = _) := (HBW.out.block _ (by have := HG5.out; omega)).trans F3.out
          by_cases hltk : k < 128
          · have q2 : (k : Int) < 128 := by omega
            have HPR := PG.row (B := 0) b HP.out hlt hltk
            obtain ⟨q, hq⟩ : ∃ q, q = i + k := ⟨_, rfl⟩
            rw [← hq] at HPR
            obtain ⟨x, hx⟩ : ∃ x, p.getD q 0 = x := ⟨_, rfl⟩
            obtain ⟨u, hu⟩ : ∃ u, bitI b k = u := ⟨_, rfl⟩
            have hbd := HP.out.bd q
            have hul := bitI_lt b k
            have HBT := Lib.hid (fun W => BT.out k W hltk)
            rw [hu] at HBT hul
            rw [hx, hu] at HPR
            rw [hx] at hbd
            obtain ⟨x2, hx2⟩ : ∃ y, y = x + u := ⟨_, rfl⟩
            rw [← hx2] at HPR
            have o1 : IntKind.i64.wrap ((i : Int) + (k : Int)) = (q : Int) := by rw [IntKind.wrap_i64]; omega
            have o2 : IntKind.i64.wrap ((x : Int) + (u : Int)) = (x2 : Int) := by have := HC.out; rw [IntKind.wrap_i64]; omega
            have q3 : (q : Int) < 256 := by omega
            have HPR := Lib.hid HPR
            have c5 := icellG H5.out q (by rw [HP.out.len]; omega)
            rw [hx] at c5
            have C5 : Hid (wr.drew.cell? ⟨g5, q, none⟩ = some (.int .i64 (x : Int))) := c5
            have K5 : Hid (wr.drew.heap[g5]? = _) := H5.out
            have M3 : Hid (wr.drew.heap[w.heap.size + 1]? = _) := N3.out
            have KB : Hid (Below g5 W0 wr.drew) := HBW.out.drew
            have HX : Hid (But g5 q wr.drew wr.drew) := Pre.refl _
            have hne : Hid (w.heap.size + 1 ≠ g5) := by have := HG5.out; show _ ≠ _; omega
            have HC2 : Hid (c + 1 ≤ 128 * i + (k + 1)) := by have := HC.out; show _ ≤ _; omega
            clear c5 hq hx hu hx2 hbd hul H5 N3 HBW HP HC
            go_upto_region 9 with (fail)
            refine regS_start (But g5 q) (by kernel_rfl) ?_
            try simp only [Act.put, List.setIfInBounds_toArray, List.set_cons_zero, List.set_cons_succ]
            generalize wr.drew = W1 at C5 K5 M3 KB HX ⊢
            have c5 := C5.out
            refine regS_take (v := ?_) 0 (some 23) rfl rfl (by kernel_rfl) (by kernel_rfl) (by kernel_rfl) (fun _ _ _ h => h) (by rfl) (fun W hW => ?_) ?_
            rotate_left
            · (go_simp; try rfl)
            simp only [Act.put, List.setIfInBounds_toArray, List.set_cons_zero, List.set_cons_succ]
            refine regS_take (v := ?_) 1 (some 24) rfl rfl (by kernel_rfl) (by kernel_rfl) (by kernel_rfl) (fun _ _ _ h => h) (by rfl) (fun W hW => ?_) ?_
            rotate_left
            · (go_simp; try rfl)
            simp only [Act.put, List.setIfInBounds_toArray, List.set_cons_zero, List.set_cons_succ]
            refine regS_take (v := ?_) 2 (some 25) rfl rfl (by kernel_rfl) (by kernel_rfl) (by kernel_rfl) (fun _ _ _ h => h) (by rfl) (fun W hW => ?_) ?_
            rotate_left
            · (go_simp; try rfl)
            simp only [Act.put, List.setIfInBounds_toArray, List.set_cons_zero, List.set_cons_succ]
            refine regS_take (v := ?_) 3 (some 26) rfl rfl (by kernel_rfl) (by kernel_rfl) (by kernel_rfl) (fun _ _ _ h => h) (by rfl) (fun W hW => ?_) ?_
            rotate_left
            · (go_simp; try rfl)
            simp only [Act.put, List.setIfInBounds_toArray, List.set_cons_zero, List.set_cons_succ]
            refine regS_load 5 (some 28) (fun W hW => run_loadAt_mid W (w.heap.size + 1) 0 33 (b.map bv) _ (but_range hW hne.out M3.out) arr16B rfl hi16b.out) rfl rfl rfl rfl (by kernel_rfl) (by kernel_rfl) (by kernel_rfl) (fun _ _ _ h => h) (by rfl) ?_
            simp only [Act.put, List.setIfInBounds_toArray, List.set_cons_zero, List.set_cons_succ]
            refine regS_take (v := ?_) 6 (some 29) rfl rfl (by kernel_rfl) (by kernel_rfl) (by kernel_rfl) (fun _ _ _ h => h) (by rfl) (fun W hW => ?_) ?_
            rotate_left
            · (go_simp; try rfl)
            simp only [Act.put, List.setIfInBounds_toArray, List.set_cons_zero, List.set_cons_succ]
            refine regS_eff2 4 7 rfl rfl (by kernel_rfl) (fun K hK => ?_) (fun K hK => ?_)
            · skip
              go_simp
              refine hK.out _ _ (Pre.refl _) ?_
              clear hK K
              try simp only [Act.put, List.setIfInBounds_toArray, List.set_cons_zero, List.set_cons_succ]
              refine regS_eff 7 rfl (by kernel_rfl) (fun K hK => ?_)
              go_simp
              refine (HBT.out W1).mono ?_
              rintro e W7 ⟨rfl, hb7⟩
              have C7 := Lib.hid ((hb7.cell (lt_of_heap K5.out)).trans C5.out)
              have K7 := Lib.hid ((hb7.block _ (lt_of_heap K5.out)).trans K5.out)
              have KB7 : Hid (Below g5 W0 W7) := KB.out.trans (hb7.mono (Nat.le_of_lt (lt_of_heap K5.out)))
              have c5 := C7.out
              have hE : But g5 q W1 W7 := But.of_ext hb7
              clear hb7
              refine hK.out _ _ hE ?_
              have HX := Lib.hid (Pre.trans HX.out hE)
              clear hE hK K
              try simp only [Act.put, List.setIfInBounds_toArray, List.set_cons_zero, List.set_cons_succ]
              refine regS_take (v := ?_) 8 (some 31) rfl rfl (by kernel_rfl) (by kernel_rfl) (by kernel_rfl) (fun _ _ _ h => h) (by rfl) (fun W hW => ?_) ?_
              rotate_left
              · (go_simp; try rfl)
              simp only [Act.put, List.setIfInBounds_toArray, List.set_cons_zero, List.set_cons_succ]
              refine regS_take (v := ?_) 9 (some 32) rfl rfl (by kernel_rfl) (by kernel_rfl) (by kernel_rfl) (fun _ _ _ h => h) (by rfl) (fun W hW => ?_) ?_
              rotate_left
              · (go_simp; try rfl)
              simp only [Act.put, List.setIfInBounds_toArray, List.set_cons_zero, List.set_cons_succ]
              refine regS_eff 10 rfl (by kernel_rfl) (fun K hK => ?_)
              refine step_st1 rfl 3 (.tmp 32) (.tmp 31) rfl (store_cell (k := .i64) Try.underlying3 g_sInt (w := W7) C7.out (frozen_of_heap (w := W7) K7.out _)) ?_
              have hE : But g5 q W7 (W7.setCell ⟨g5, q, none⟩ (.int .i64 (x2 : Int))) := But.set _
              refine hK.out _ _ hE ?_
              have HX := Lib.hid (Pre.trans HX.out hE)
              clear hE hK K
              try simp only [Act.put, List.setIfInBounds_toArray, List.set_cons_zero, List.set_cons_succ]
              refine regS_done (by kernel_rfl) ?_
              go_wp2
              go_roundw
              case rel => exact ⟨k + 1, p.set q x2, c + 1, by omega, by go_num, HPR, HC2, isetG K7.out q x2, KB7.out.setCell (Nat.le_refl _) _⟩
              case measure => simp [intOf]; omega
            · skip
              go_simp
              refine (HBT.out W1).mono ?_
              rintro e W7 ⟨rfl, hb7⟩
              have C7 := Lib.hid ((hb7.cell (lt_of_heap K5.out)).trans C5.out)
              have K7 := Lib.hid ((hb7.block _ (lt_of_heap K5.out)).trans K5.out)
              have KB7 : Hid (Below g5 W0 W7) := KB.out.trans (hb7.mono (Nat.le_of_lt (lt_of_heap K5.out)))
              have c5 := C7.out
              have hE : But g5 q W1 W7 := But.of_ext hb7
              clear hb7
              refine hK.out _ _ hE ?_
              have HX := Lib.hid (Pre.trans HX.out hE)
              clear hE hK K
              try simp only [Act.put, List.setIfInBounds_toArray, List.set_cons_zero, List.set_cons_succ]
              refine regS_eff 4 rfl (by kernel_rfl) (fun K hK => ?_)
              go_simp
              refine hK.out _ _ (Pre.refl _) ?_
              clear hK K
              try simp only [Act.put, List.setIfInBounds_toArray, List.set_cons_zero, List.set_cons_succ]
              refine regS_take (v := ?_) 8 (some 31) rfl rfl (by kernel_rfl) (by kernel_rfl) (by kernel_rfl) (fun _ _ _ h => h) (by rfl) (fun W hW => ?_) ?_
              rotate_left
              · (go_simp; try rfl)
              simp only [Act.put, List.setIfInBounds_toArray, List.set_cons_zero, List.set_cons_succ]
              refine regS_take (v := ?_) 9 (some 32) rfl rfl (by kernel_rfl) (by kernel_rfl) (by kernel_rfl) (fun _ _ _ h => h) (by rfl) (fun W hW => ?_) ?_
              rotate_left
              · (go_simp; try rfl)
              simp only [Act.put, List.setIfInBounds_toArray, List.set_cons_zero, List.set_cons_succ]
              refine regS_eff 10 rfl (by kernel_rfl) (fun K hK => ?_)
              refine step_st1 rfl 3 (.tmp 32) (.tmp 31) rfl (store_cell (k := .i64) Try.underlying3 g_sInt (w := W7) C7.out (frozen_of_heap (w := W7) K7.out _)) ?_
              have hE : But g5 q W7 (W7.setCell ⟨g5, q, none⟩ (.int .i64 (x2 : Int))) := But.set _
              refine hK.out _ _ hE ?_
              have HX := Lib.hid (Pre.trans HX.out hE)
              clear hE hK K
              try simp only [Act.put, List.setIfInBounds_toArray, List.set_cons_zero, List.set_cons_succ]
              refine regS_done (by kernel_rfl) ?_
              go_wp2
              go_roundw
              case rel => exact ⟨k + 1, p.set q x2, c + 1, by omega, by go_num, HPR, HC2, isetG K7.out q x2, KB7.out.setCell (Nat.le_refl _) _⟩
              case measure => simp [intOf]; omega
          · have q2 : ¬ ((k : Int) < 128) := by omega
            have hk8 : k = 128 := by omega
            subst hk8
            rw [HRE.out] at HP
            go_wp2_with fail
            go_roundw
            case rel => exact ⟨i + 1, p, c, by omega, by go_num, HP, by have := HC.out; show _ ≤ _; omega, H5, HBW⟩
            case measure => simp [intOf]; omega
    · have q1 : ¬ ((i : Int) < 128) := by omega
      have hi8 : i = 128 := by omega
      have HP1 : Hid (PG p 255 V c) := by rw [← HV.out, ← hi8]; exact HP.out
      have HC1 : Hid (c ≤ 16384) := by have := HC.out; show _ ≤ _; omega
      clear HP HC N2 N3 hi hlt AT BT HA HB hi8
      obtain ⟨wo, hwo⟩ : ∃ x, x = wr := ⟨_, rfl⟩
      subst hwo
      go_wp2_with fail
      go_loopw [8] (fun vi wr => ∃ (i : Nat) (p : List Nat) (c : Nat), 127 ≤ i ∧ i ≤ 254 ∧ vi = .int .i64 (i : Int) ∧ Hid (PG p (i + 1) V c) ∧ Hid (c + 4 * i ≤ 20000) ∧ Hid (wr.heap[g5]? = some (.cells (p.map ivG).toArray 106 (0, 0))) ∧ Hid (Below g5 W0 wr)) (fun i _ => (intOf i).toNat - 127)
      case atStart => exact ⟨254, p, c, by omega, by omega, rfl, HP1, by have := HC1.out; show _ ≤ _; omega, H5, HBW⟩
      case round =>
        clear H5 HBW HP1 HC1
        obtain ⟨i, p, c, hi1, hi2, rfl, HP, HC, H5, HBW⟩ := hrel
        by_cases hlt : 128 ≤ i
        · have q1 : (128 : Int) ≤ (i : Int) := by omega
          obtain ⟨x, hx⟩ : ∃ x, p.getD i 0 = x := ⟨_, rfl⟩
          have HX := Lib.hid hx
          have c5 := icellG H5.out i (by rw [HP.out.len]; omega)
          rw [hx] at c5
          have q2 : (i : Int) < 256 := by omega
          clear hx
          by_cases ho : x % 2 = 1
          · have t1 : ((x : Int) % 2 == 1) = true := by simp; omega
            have hfold := HP.out.fold hlt (by omega) (by rw [HX.out]; exact ho)
            obtain ⟨n1, hn1⟩ : ∃ n, n = i - 128 := ⟨_, rfl⟩
            obtain ⟨n2, hn2⟩ : ∃ n, n = i - 127 := ⟨_, rfl⟩
            obtain ⟨n3, hn3⟩ : ∃ n, n = i - 126 := ⟨_, rfl⟩
            obtain ⟨n4, hn4⟩ : ∃ n, n = i - 121 := ⟨_, rfl⟩
            rw [← hn1, ← hn2, ← hn3, ← hn4] at hfold
            obtain ⟨x1, hx1⟩ : ∃ x1, p.getD n1 0 = x1 := ⟨_, rfl⟩
            obtain ⟨p1, hp1⟩ : ∃ p1, p1 = p.set n1 (x1 + 1) := ⟨_, rfl⟩
            obtain ⟨x2, hx2⟩ : ∃ x2, p1.getD n2 0 = x2 := ⟨_, rfl⟩
            obtain ⟨p2, hp2⟩ : ∃ p2, p2 = p1.set n2 (x2 + 1) := ⟨_, rfl⟩
            obtain ⟨x3, hx3⟩ : ∃ x3, p2.getD n3 0 = x3 := ⟨_, rfl⟩
            obtain ⟨p3, hp3⟩ : ∃ p3, p3 = p2.set n3 (x3 + 1) := ⟨_, rfl⟩
            obtain ⟨x4, hx4⟩ : ∃ x4, p3.getD n4 0 = x4 := ⟨_, rfl⟩
            obtain ⟨p4, hp4⟩ : ∃ p4, p4 = p3.set n4 (x4 + 1) := ⟨_, rfl⟩
            have HF := Lib.hid (hfold p1 p2 p3 p4 (by rw [hx1, hp1]) (by rw [hx2, hp2]) (by rw [hx3, hp3]) (by rw [hx4, hp4]))
            have L0 := Lib.hid HP.out.len
            have L1 : Hid (p1.length = 256) := by show _ = _; rw [hp1, List.length_set]; exact L0.out
            have L2 : Hid (p2.length = 256) := by show _ = _; rw [hp2, List.length_set]; exact L1.out
            have L3 : Hid (p3.length = 256) := by show _ = _; rw [hp3, List.length_set]; exact L2.out
            have b1 : x1 ≤ 20000 := by have h1 := HP.out.bd n1; rw [hx1] at h1; have := HC.out; omega
            have b2 : x2 ≤ 20001 := by
              have h1 := HP.out.bd n2; have h2 := HC.out
              rw [hp1, getD_setG _ _ _ _ (by rw [L0.out]; omega)] at hx2
              split at hx2 <;> omega
            have b3 : x3 ≤ 20002 := by
              have h1 := HP.out.bd n3; have h2 := HC.out
              rw [hp2, getD_setG _ _ _ _ (by rw [L1.out]; omega), hp1, getD_setG _ _ _ _ (by rw [L0.out]; omega)] at hx3
              split at hx3
              · omega
              · split at hx3 <;> omega
            have b4 : x4 ≤ 20003 := by
              have h1 := HP.out.bd n4; have h2 := HC.out
              rw [hp3, getD_setG _ _ _ _ (by rw [L2.out]; omega), hp2, getD_setG _ _ _ _ (by rw [L1.out]; omega), hp1, getD_setG _ _ _ _ (by rw [L0.out]; omega)] at hx4
              split at hx4
              · omega
              · split at hx4
                · omega
                · split at hx4 <;> omega
            have E1 := Lib.hid hp1; have E2 := Lib.hid hp2; have E3 := Lib.hid hp3; have E4 := Lib.hid hp4
            have X1 := Lib.hid hx1; have X2 := Lib.hid hx2; have X3 := Lib.hid hx3; have X4 := Lib.hid hx4
            have H0 := H5
            have B0 := HBW
            have e1 : (i : Int) - 128 = (n1 : Int) := by omega
            have e2 : (i : Int) - 127 = (n2 : Int) := by omega
            have e3 : (i : Int) - 126 = (n3 : Int) := by omega
            have e4 : (i : Int) - 121 = (n4 : Int) := by omega
            have r1 : (n1 : Int) < 256 := by omega
            have r2 : (n2 : Int) < 256 := by omega
            have r3 : (n3 : Int) < 256 := by omega
            have r4 : (n4 : Int) < 256 := by omega
            clear hfold hx1 hx2 hx3 hx4 hp1 hp2 hp3 hp4 hn1 hn2 hn3 hn4 H5 HBW
            have d1 := icellG H0.out n1 (by rw [L0.out]; omega)
            rw [X1.out] at d1
            have fz := frozen_of_heap H0.out n1
            go_upto_region 15 with (fail)
            generalize hV : World.setCell _ _ _ = V1
            have H1 : Hid (V1.heap[g5]? = some (.cells (p1.map ivG).toArray 106 (0, 0))) := by show _ = _; rw [← hV, E1.out]; exact isetG H0.out n1 (x1 + 1)
            have B1 : Hid (Below g5 W0 V1) := by rw [← hV]; exact B0.out.setCell (Nat.le_refl _) _
            clear hV c5 d1 fz H0 B0
            have d1 := icellG H1.out n2 (by rw [L1.out]; omega)
            rw [X2.out] at d1
            have fz := frozen_of_heap H1.out n2
            go_upto_region 16 with (fail)
            generalize hV : World.setCell _ _ _ = V2
            have H2 : Hid (V2.heap[g5]? = some (.cells (p2.map ivG).toArray 106 (0, 0))) := by show _ = _; rw [← hV, E2.out]; exact isetG H1.out n2 (x2 + 1)
            have B2 : Hid (Below g5 W0 V2) := by rw [← hV]; exact B1.out.setCell (Nat.le_refl _) _
            clear hV d1 fz H1 B1
            have d1 := icellG H2.out n3 (by rw [L2.out]; omega)
            rw [X3.out] at d1
            have fz := frozen_of_heap H2.out n3
            go_upto_region 17 with (fail)
            generalize hV : World.setCell _ _ _ = V3
            have H3 : Hid (V3.heap[g5]? = some (.cells (p3.map ivG).toArray 106 (0, 0))) := by show _ = _; rw [← hV, E3.out]; exact isetG H2.out n3 (x3 + 1)
            have B3 : Hid (Below g5 W0 V3) := by rw [← hV]; exact B2.out.setCell (Nat.le_refl _) _
            clear hV d1 fz H2 B2
            have d1 := icellG H3.out n4 (by rw [L3.out]; omega)
            rw [X4.out] at d1
            have fz := frozen_of_heap H3.out n4
            obtain ⟨j, hj⟩ : ∃ j, i = j + 1 := ⟨i - 1, by omega⟩
            have HFJ : Hid (PG p4 (j + 1) V (c + 4)) := by rw [← hj]; exact HF.out
            have HCJ : Hid (c + 4 + 4 * j ≤ 20000) := by have := HC.out; show _ ≤ _; omega
            have HJ := Lib.hid hj
            clear hj
            go_wp2_with fail
            go_roundw
            case rel => exact ⟨j, p4, c + 4, by have := HJ.out; omega, by have := HJ.out; omega, by rw [show (j : Int) = (i : Int) - 1 by have := HJ.out; omega], HFJ, HCJ, by rw [E4.out]; exact isetG H3.out n4 (x4 + 1), B3.out.setCell (Nat.le_refl _) _⟩
            case measure => simp [intOf]; omega
          · have t1 : ((x : Int) % 2 == 1) = false := by simp; omega
            obtain ⟨j, hj⟩ : ∃ j, i = j + 1 := ⟨i - 1, by omega⟩
            have HFJ : Hid (PG p (j + 1) V c) := by rw [← hj]; exact HP.out.skip (by rw [HX.out]; exact ho)
            have HCJ : Hid (c + 4 * j ≤ 20000) := by have := HC.out; show _ ≤ _; omega
            have HJ := Lib.hid hj
            clear hj
            go_wp2_with fail
            go_roundw
            case rel => exact ⟨j, p, c, by have := HJ.out; omega, by have := HJ.out; omega, by rw [show (j : Int) = (i : Int) - 1 by have := HJ.out; omega], HFJ, HCJ, H5, HBW⟩
            case measure => simp [intOf]; omega
        · have q1 : ¬ ((128 : Int) ≤ (i : Int)) := by omega
          have hi7 : i = 127 := by omega
          have HEV : Hid (evF p 128 = V) := by have := HP.out.ev; rw [hi7] at this; exact this
          have HPL := Lib.hid HP.out.len
          have N4 : Hid (wr.heap[w.heap.size + 2]? = _) := (HBW.out.block _ (by have := HG5.out; omega)).trans F4.out
          have NB : Hid (Below w.heap.size w wr) := FB.out.trans (HBW.out.mono (by have := HG5.out; omega))
          clear HP HC HBW hi1 hi2 hlt hi7 F2 F3 F4 FB
          obtain ⟨wp, hwp⟩ : ∃ x, x = wr := ⟨_, rfl⟩
          subst hwp
          go_wp2_with fail
          generalize hV : wp.alloc _ = W9
          have M9 : Hid (W9.heap[wp.heap.size]? = some (.cells ((blkL 0).map bv).toArray 33 (0, 0))) := heap_of_alloc hV
          have M5 := Lib.hid (((below_of_alloc hV (Nat.le_refl _)).block _ (lt_of_heap H5.out)).trans H5.out)
          have M4 := Lib.hid (((below_of_alloc hV (Nat.le_refl _)).block _ (lt_of_heap N4.out)).trans N4.out)
          have MB := Lib.hid (NB.out.step (below_of_alloc hV (Nat.le_refl _)))
          have L5 := Lib.hid (lt_of_heap H5.out)
          have L4 := Lib.hid (lt_of_heap N4.out)
          have LW : Hid (w.heap.size ≤ wp.heap.size) := NB.out.size
          clear hV H5 N4 NB
          obtain ⟨g9, hg9⟩ : ∃ g, wp.heap.size = g := ⟨_, rfl⟩
          rw [hg9] at M9 L5 L4 LW ⊢
          clear hg9
          go_loopw [10] (fun vi wr => ∃ (i : Nat), i ≤ 128 ∧ vi = .int .i64 (i : Int) ∧ Hid (wr.heap[g9]? = some (.cells ((blkL (evF p i)).map bv).toArray 33 (0, 0))) ∧ Hid (Below g9 W9 wr)) (fun i _ => 128 - (intOf i).toNat)
          case atStart => exact ⟨0, by omega, rfl, M9, Below.refl _ _⟩
          case round =>
            clear M9
            obtain ⟨i, hi, rfl, H9, HB9⟩ := hrel
            have K5 : Hid (wr.heap[g5]? = _) := (HB9.out.block _ L5.out).trans M5.out
            by_cases hlt : i < 128
            · have q1 : (i : Int) < 128 := by omega
              have q2 : (i : Int) < 256 := by omega
              obtain ⟨x, hx⟩ : ∃ x, p.getD i 0 = x := ⟨_, rfl⟩
              have c5 := icellG K5.out i (by rw [HPL.out]; omega)
              rw [hx] at c5
              by_cases ho : x % 2 = 1
              · have t1 : ((x : Int) % 2 == 1) = true := by simp; omega
                have hor := blk_or p i hlt (by rw [hx]; exact ho)
                obtain ⟨j, hj⟩ : ∃ j, j = i / 8 := ⟨_, rfl⟩
                obtain ⟨m, hm⟩ : ∃ m, m = 7 - i % 8 := ⟨_, rfl⟩
                rw [← hj, ← hm] at hor
                have hm7 : m ≤ 7 := by omega
                have hj16 : (j : Int) < 16 := by omega
                have hjn : j < 16 := by omega
                have hB16 := blkL_len (evF p i)
                generalize blkL (evF p i) = X at H9 hor hB16
                obtain ⟨Y, HYY⟩ : ∃ Y, Hid (Y = blkL (evF p (i + 1))) := ⟨_, rfl⟩
                rw [← HYY.out] at hor
                obtain ⟨y, hy⟩ : ∃ y, X.getD j 0 = y := ⟨_, rfl⟩
                obtain ⟨z, hz⟩ : ∃ z : UInt8, UInt8.ofNat (2 ^ m) = z := ⟨_, rfl⟩
                have hzn : z.toNat = 2 ^ m := by rw [← hz, UInt8.toNat_ofNat']; exact Nat.mod_eq_of_lt (Nat.pow_lt_pow_right (by decide) (by omega))
                rw [hy, hz] at hor
                have c9 : wr.cell? ⟨g9, j, none⟩ = some (.int .u8 (y.toNat : Int)) := by
                  rw [cell_of_heap H9.out, List.getElem?_map, List.getElem?_eq_getElem (by omega), ← hy]
                  simp [List.getD, hB16, hjn, bv]
                have fz := frozen_of_heap H9.out j
                have HOR := Lib.hid hor
                have d1 : (i : Int) / 8 = (j : Int) := by omega
                have d2 : IntKind.i64.wrap (7 - (i : Int) % 8) = (m : Int) := by rw [IntKind.wrap_i64]; omega
                have d3 : 7 - (i : Int) % 8 = (m : Int) := by omega
                have hz2 : ((2 : Int) ^ m) % 256 = (z.toNat : Int) := by
                  have h2 : (2 : Nat) ^ m ≤ 128 := Nat.le_trans (Nat.pow_le_pow_right (by omega) hm7) (by decide)
                  have h3 : ((2 : Int) ^ m) = ((2 ^ m : Nat) : Int) := by simp
                  rw [h3, hzn]; omega
                have hz3 : (2 : Int) ^ m = (z.toNat : Int) := by rw [hzn]; simp
                have hmm : min m 8 = m := by omega
                have dj : IntKind.i64.wrap (j : Int) = (j : Int) := by rw [IntKind.wrap_i64]; omega
                obtain ⟨r, hr⟩ : ∃ r, r = i % 8 := ⟨_, rfl⟩
                have d5 : (i : Int).tmod 8 = (r : Int) := by rw [Int.tmod_eq_emod_of_nonneg (by omega)]; omega
                have d6 : IntKind.i64.wrap (7 - (r : Int)) = (m : Int) := by rw [IntKind.wrap_i64]; omega
                have hz4 : IntKind.u8.wrap ((2 : Int) ^ m) = (z.toNat : Int) := by rw [IntKind.wrap_u8]; exact hz2
                have hz5 : IntKind.u8.wrap (z.toNat : Int) = (z.toNat : Int) := by have := z.toNat_lt; rw [IntKind.wrap_u8]; omega
                clear hor hy hz hj hm hx hzn hr
                obtain ⟨v, hv⟩ : ∃ v : UInt8, v = y ||| z := ⟨_, rfl⟩
                have hvv : bits .or .u8 (y.toNat : Int) (z.toNat : Int) = (v.toNat : Int) := by rw [hv]; exact g_or8 y z
                rw [← hv] at HOR
                clear hv
                have C9 : Hid (wr.drew.cell? ⟨g9, j, none⟩ = some (.int .u8 (y.toNat : Int))) := c9
                have K9 : Hid (wr.drew.heap[g9]? = _) := H9.out
                have HX : Hid (But g9 j wr.drew wr.drew) := Pre.refl _
                have KB : Hid (Below g9 W9 wr.drew) := HB9.out.drew
                go_upto_region 23 with (fail)
                clear c9 c5 fz H9 HB9 K5
                refine regS_start (But g9 j) (by kernel_rfl) ?_
                try simp only [Act.put, List.setIfInBounds_toArray, List.set_cons_zero, List.set_cons_succ]
                generalize wr.drew = W1 at C9 K9 KB HX ⊢
                have c5 := C9.out
                refine regS_take (v := ?_) 0 (some 75) rfl rfl (by kernel_rfl) (by kernel_rfl) (by kernel_rfl) (fun _ _ _ h => h) (by rfl) (fun W hW => ?_) ?_
                rotate_left
                · (go_simp; try rfl)
                simp only [Act.put, List.setIfInBounds_toArray, List.set_cons_zero, List.set_cons_succ]
                refine regS_take (v := ?_) 1 (some 76) rfl rfl (by kernel_rfl) (by kernel_rfl) (by kernel_rfl) (fun _ _ _ h => h) (by rfl) (fun W hW => ?_) ?_
                rotate_left
                · (go_simp; try rfl)
                simp only [Act.put, List.setIfInBounds_toArray, List.set_cons_zero, List.set_cons_succ]
                refine regS_take (v := ?_) 2 (some 77) rfl rfl (by kernel_rfl) (by kernel_rfl) (by kernel_rfl) (fun _ _ _ h => h) (by rfl) (fun W hW => ?_) ?_
                rotate_left
                · (go_simp; try rfl)
                simp only [Act.put, List.setIfInBounds_toArray, List.set_cons_zero, List.set_cons_succ]
                refine regS_take (v := ?_) 3 (some 78) rfl rfl (by kernel_rfl) (by kernel_rfl) (by kernel_rfl) (fun _ _ _ h => h) (by rfl) (fun W hW => ?_) ?_
                rotate_left
                · (go_simp; try rfl)
                simp only [Act.put, List.setIfInBounds_toArray, List.set_cons_zero, List.set_cons_succ]
                refine regS_take (v := ?_) 4 (some 79) rfl rfl (by kernel_rfl) (by kernel_rfl) (by kernel_rfl) (fun _ _ _ h => h) (by rfl) (fun W hW => ?_) ?_
                rotate_left
                · (go_simp; try rfl)
                simp only [Act.put, List.setIfInBounds_toArray, List.set_cons_zero, List.set_cons_succ]
                refine regS_take (v := ?_) 6 (some 81) rfl rfl (by kernel_rfl) (by kernel_rfl) (by kernel_rfl) (fun _ _ _ h => h) (by rfl) (fun W hW => ?_) ?_
                rotate_left
                · (go_simp; try rfl)
                simp only [Act.put, List.setIfInBounds_toArray, List.set_cons_zero, List.set_cons_succ]
                refine regS_take (v := ?_) 7 (some 82) rfl rfl (by kernel_rfl) (by kernel_rfl) (by kernel_rfl) (fun _ _ _ h => h) (by rfl) (fun W hW => ?_) ?_
                rotate_left
                · (go_simp; try rfl)
                simp only [Act.put, List.setIfInBounds_toArray, List.set_cons_zero, List.set_cons_succ]
                refine regS_take (v := ?_) 8 (some 83) rfl rfl (by kernel_rfl) (by kernel_rfl) (by kernel_rfl) (fun _ _ _ h => h) (by rfl) (fun W hW => ?_) ?_
                rotate_left
                · (go_simp; try rfl)
                simp only [Act.put, List.setIfInBounds_toArray, List.set_cons_zero, List.set_cons_succ]
                refine regS_take (v := ?_) 9 (some 84) rfl rfl (by kernel_rfl) (by kernel_rfl) (by kernel_rfl) (fun _ _ _ h => h) (by rfl) (fun W hW => ?_) ?_
                rotate_left
                · (go_simp; try rfl)
                simp only [Act.put, List.setIfInBounds_toArray, List.set_cons_zero, List.set_cons_succ]
                refine regS_eff 5 rfl (by kernel_rfl) (fun K hK => ?_)
                go_simp
                refine hK.out _ _ (Pre.refl _) ?_
                clear hK K
                try simp only [Act.put, List.setIfInBounds_toArray, List.set_cons_zero, List.set_cons_succ]
                refine regS_take (v := ?_) 10 (some 85) rfl rfl (by kernel_rfl) (by kernel_rfl) (by kernel_rfl) (fun _ _ _ h => h) (by rfl) (fun W hW => ?_) ?_
                rotate_left
                · (go_simp; try rfl)
                simp only [Act.put, List.setIfInBounds_toArray, List.set_cons_zero, List.set_cons_succ]
                refine regS_take (v := ?_) 11 (some 86) rfl rfl (by kernel_rfl) (by kernel_rfl) (by kernel_rfl) (fun _ _ _ h => h) (by rfl) (fun W hW => ?_) ?_
                rotate_left
                · (go_simp; try rfl)
                simp only [Act.put, List.setIfInBounds_toArray, List.set_cons_zero, List.set_cons_succ]
                refine regS_eff 12 rfl (by kernel_rfl) (fun K hK => ?_)
                refine step_st1 rfl 5 (.tmp 86) (.tmp 85) rfl (store_cell (k := .u8) Try.underlying5 s8 (w := W1) C9.out (frozen_of_heap (w := W1) K9.out _)) ?_
                have hE : But g9 j W1 (W1.setCell ⟨g9, j, none⟩ (.int .u8 (v.toNat : Int))) := But.set _
                refine hK.out _ _ hE ?_
                have HX := Lib.hid (Pre.trans HX.out hE)
                clear hE hK K
                try simp only [Act.put, List.setIfInBounds_toArray, List.set_cons_zero, List.set_cons_succ]
                refine regS_done (by kernel_rfl) ?_
                go_wp2
                go_roundw
                case rel =>
                  refine ⟨i + 1, by omega, by go_num, ?_, KB.out.setCell (Nat.le_refl _) _⟩
                  have := heap_set K9.out j (bv v)
                  rw [← List.map_set, HOR.out, HYY.out] at this
                  exact this
                case measure => simp [intOf]; omega
              · have t1 : ((x : Int) % 2 == 1) = false := by simp; omega
                have HSK := Lib.hid (blk_skip p i (by rw [hx]; exact ho))
                clear hx
                go_wp2_with fail
                go_roundw
                case rel => exact ⟨i + 1, by omega, by go_num, by rw [← HSK.out]; exact H9, HB9⟩
                case measure => simp [intOf]; omega
            · have q1 : ¬ ((i : Int) < 128) := by omega
              have hi8 : i = 128 := by omega
              subst hi8
              rw [HEV.out] at H9
              have K4 : Hid (wr.heap[w.heap.size + 2]? = _) := (HB9.out.block _ L4.out).trans M4.out
              have KB : Hid (Below w.heap.size w wr) := MB.out.trans (HB9.out.mono LW.out)
              have hVL : Hid ((blkL V).length = 16) := blkL_len V
              have hiV : Hid ((Try.prog.info? 33).map (·.size) = some ((blkL V).map bv).length) := i16l (blkL V) hVL.out
              have hle : Hid (((blkL 0).map bv).length = ((blkL V).map bv).length) := by show _ = _; rw [List.length_map, List.length_map, HB0.out, hVL.out]
              obtain ⟨Y, HYV⟩ : ∃ Y, Hid (blkL V = Y) := ⟨_, rfl⟩
              rw [HYV.out] at H9 hVL hiV hle
              go_wp2_with (first
                | (refine wpList_ld rfl 33 (.tmp 9) rfl (load_arr arr16B rfl hiV.out H9.out) ?_)
                | (refine wpList_st rfl 33 (.tmp 4) (.tmp 87) rfl (store_arr (cs := Y.map bv) hiV.out (bv_one _) (old := (blkL 0).map bv) K4.out hle.out) ?_)
                | fail)
              have hres := setRow_heap wr (w.heap.size + 2) _ (Y.map bv).toArray 33 _ K4.out
              exact bodyPost_ret (results_cell_row (P := Try.prog) rfl _ _ (w.heap.size + 2) 33 (Y.map bv).toArray (0, 0) _ rfl hres arr16B rfl (by rw [List.size_toArray, List.length_map, hVL.out]; exact i16B)) rfl ⟨by rw [HYV.out], KB.out.trans (grown_below (grown_setRow _ _ _) (by omega) KB.out.size)⟩
end Go.Proofs.Ytkgbhlppadpdfaa

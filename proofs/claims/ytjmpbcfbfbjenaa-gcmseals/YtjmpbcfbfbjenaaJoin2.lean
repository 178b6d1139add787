/- Joined: RefG2 Ref1 RefG3 LiftP Reg5 Sha8 Own Gcm1 Gcm2 Gcm3 Gcm4 Gcm5 Gcm6 LiftX Gcm7 Gcm8 Gcm9 Ref2 Ref3 RefT1. -/
import Derived.Test.YtjmpbcfbfbjenaaJoin1
import Derived.StillTailTactics
import Derived.Test.YtjmpbcfbfbjenaaBits3
import Derived.Test.YtjmpbcfbfbjenaaReg
import Derived.Test.YtjmpbcfbfbjenaaApp
import Derived.Test.YtjmpbcfbfbjenaaLift
import Derived.Test.YtjmpbcfbfbjenaaSha7
import Derived.Lib.SmallJoins
import Derived.Deep.MidRow
import Derived.Test.YtjmpbcfbfbjenaaRefA8
/- palfreyref06.Mul. -/
namespace Go.Proofs.Ytjmpbcfbfbjenaa
open Go.RowKit
set_option maxRecDepth 100000
set_option linter.unusedVariables false
set_option linter.unusedSimpArgs false
theorem but_range {g j g' : Nat} {w W : World} {cs : List Value} {t : TypeId} {fr : Nat × Nat} (h : But g j w W) (hn : g' ≠ g) (hh : w.heap[g']? = some (.cells cs.toArray t fr)) : W.rangeAt g' 0 cs := fun k v hv => by
  rw [Nat.zero_add]
  exact (h.2 g' k (lt_of_heap hh) (fun e => hn e.1)).trans ((cell_of_heap hh k).trans hv)
theorem g_or8 (y z : UInt8) : bits .or .u8 (y.toNat : Int) (z.toNat : Int) = ((y ||| z).toNat : Int) := by
  rw [u8_or_nat _ _ y.toNat_lt z.toNat_lt, UInt8.toNat_or]
theorem g_sInt : (Try.prog.info? 3).map (·.size) = some 1 := by kernel_rfl
theorem g_heap4 (w : World) (o1 o2 o3 o4 : Obj) : ∀ W, (((w.alloc o1).alloc o2).alloc o3).alloc o4 = W → W.heap[w.heap.size]? = some o1 ∧ W.heap[w.heap.size + 1]? = some o2 ∧ W.heap[w.heap.size + 2]? = some o3 ∧ W.heap[w.heap.size + 3]? = some o4 ∧ Below w.heap.size w W := by
  rintro W rfl
  have a1 := heap_alloc_new' w o1
  have a2 := heap_alloc_new' (w.alloc o1) o2
  have a3 := heap_alloc_new' ((w.alloc o1).alloc o2) o3
  have a4 := heap_alloc_new' (((w.alloc o1).alloc o2).alloc o3) o4
  simp only [World.size_alloc] at a2 a3 a4
  have b1 := Below.heap_alloc (w.alloc o1) o2
  have b2 := Below.heap_alloc ((w.alloc o1).alloc o2) o3
  have b3 := Below.heap_alloc (((w.alloc o1).alloc o2).alloc o3) o4
  simp only [World.size_alloc] at b1 b2 b3
  refine ⟨?_, ?_, ?_, a4, ((((Below.refl _ w).alloc (Nat.le_refl _) o1).alloc (by simp) o2).alloc (by simp; omega) o3).alloc (by simp; omega) o4⟩
  · rw [b3 _ (by omega), b2 _ (by omega), b1 _ (by omega)]; exact a1
  · rw [b3 _ (by omega), b2 _ (by omega)]; exact a2
  · rw [b3 _ (by omega)]; exact a3
def gz256 : List Nat := List.replicate 256 0
theorem gz256_init : PG gz256 255 0 0 := PG.init
theorem gz256_val (W : World) : (zeroValue 122).run Try.prog W = .ok (.agg (gz256.map ivG).toArray) W := by kernel_rfl
theorem bitI_def (b : List UInt8) (i : Nat) : bitI b i < 2 := bitI_lt b i
set_option maxHeartbeats 4000000 in
theorem refGmul_any (a b : List UInt8) (w : World) (ha : a.length = 16) (hb : b.length = 16) :
    Calls Try.prog 87 #[.agg (a.map bv).toArray, .agg (b.map bv).toArray] w fun e w' => e = .returned (.agg ((gmulL a b).map bv).toArray) ∧ Below w.heap.size w w' := by
  have HA := Lib.hid ha; have HB := Lib.hid hb
  have hz := gz256_val
  have HZ0 := Lib.hid gz256_init
  generalize gz256 = Z at hz HZ0
  have hz16 : ∀ W, (zeroValue 23).run Try.prog W = .ok (.agg ((blkL 0).map bv).toArray) W := fun W => by kernel_rfl
  have HB0 : Hid ((blkL 0).length = 16) := blkL_len 0
  have hi16a : Hid ((Try.prog.info? 23).map (·.size) = some (a.map bv).length) := i16l a ha
  have hi16b : Hid ((Try.prog.info? 23).map (·.size) = some (b.map bv).length) := i16l b hb
  have AT := Lib.hid (fun i W hi => refAt_any a i W ha hi)
  have BT := Lib.hid (fun k W hk => refAt_any b k W hb hk)
  have HRES : Hid (gmulL a b = blkL (actN (bigN a) (bigN b) 128)) := rfl
  obtain ⟨V, HV⟩ : ∃ V, Hid (actN (bigN a) (bigN b) 128 = V) := ⟨_, rfl⟩
  rw [HRES.out, HV.out]
  clear ha hb HRES
  go_enter Try.func87, Try.ntmps87
  go_wp2_with fail
  generalize hV : (((w.alloc _).alloc _).alloc _).alloc _ = W0
  obtain ⟨f2, f3, f4, f5, fb⟩ := g_heap4 w _ _ _ _ _ hV
  have F2 : Hid (W0.heap[w.heap.size]? = some (.cells (a.map bv).toArray 23 (0, 0))) := f2
  have F3 : Hid (W0.heap[w.heap.size + 1]? = some (.cells (b.map bv).toArray 23 (0, 0))) := f3
  have F4 : Hid (W0.heap[w.heap.size + 2]? = some (.cells ((blkL 0).map bv).toArray 23 (0, 0))) := f4
  have F5 : Hid (W0.heap[w.heap.size + 3]? = some (.cells (Z.map ivG).toArray 122 (0, 0))) := f5
  have FB := Lib.hid fb
  clear hV f2 f3 f4 f5 fb
  obtain ⟨g5, hg5⟩ : ∃ g, w.heap.size + 3 = g := ⟨_, rfl⟩
  rw [hg5] at F5 ⊢
  have HG5 := Lib.hid hg5
  clear hg5
  go_loopw [6] (fun vi wr => ∃ (i : Nat) (p : List Nat) (c : Nat), i ≤ 128 ∧ vi = .int .i64 (i : Int) ∧ Hid (PG p 255 (actN (bigN a) (bigN b) i) c) ∧ Hid (c ≤ 128 * i) ∧ Hid (wr.heap[g5]? = some (.cells (p.map ivG).toArray 122 (0, 0))) ∧ Hid (Below g5 W0 wr)) (fun i _ => 128 - (intOf i).toNat)
  case atStart => exact ⟨0, Z, 0, by omega, rfl, HZ0, Nat.le_refl _, F5, Below.refl _ _⟩
  case round =>
    clear F5 HZ0
    obtain ⟨i, p, c, hi, rfl, HP, HC, H5, HBW⟩ := hrel
    have N2 : Hid (wr.heap[w.heap.size]? = _) := (HBW.out.block _ (by have := HG5.out; omega)).trans F2.out
    have N3 : Hid (wr.heap[w.heap.size + 1]? = _) := (HBW.out.block _ (by have := HG5.out; omega)).trans F3.out
    by_cases hlt : i < 128
    · have q1 : (i : Int) < 128 := by omega
      have HAT := Lib.hid (AT.out i wr hlt)
      obtain ⟨t, ht⟩ : ∃ t, bitI a i = t := ⟨_, rfl⟩
      rw [ht] at HAT
      have HT := Lib.hid ht
      clear ht
      go_wp2_with (first
        | (refine wpList_ld rfl 23 (.tmp 2) rfl (load_arr arr16B rfl hi16a.out N2.out) ?_)
        | fail)
      refine HAT.out.mono ?_
      rintro e w1 ⟨rfl, hb1⟩
      have P5 := Lib.hid ((hb1.block _ (lt_of_heap H5.out)).trans H5.out)
      have PB : Hid (Below g5 W0 w1) := HBW.out.trans (hb1.mono (Nat.le_of_lt (lt_of_heap H5.out)))
      clear hb1 H5 HBW N2 N3 HAT
      by_cases h0 : t = 0
      · have e1 : ((t : Int) == 0) = true := by simp [h0]
        have HRN := Lib.hid (row_none a b i (by rw [HT.out]; exact h0))
        go_wp2_with fail
        go_roundw
        case rel => exact ⟨i + 1, p, c, by omega, by go_num, by rw [← HRN.out]; exact HP, by have := HC.out; show _ ≤ _; omega, P5, PB⟩
        case measure => simp [intOf]; omega
      · have e1 : ((t : Int) == 0) = false := by simp; omega
        have HRE := Lib.hid (row_end a b i HB.out (by rw [HT.out]; exact h0))
        go_wp2_with fail
        obtain ⟨wo, hwo⟩ : ∃ x, x = w1 := ⟨_, rfl⟩
        subst hwo
        go_loopw [7] (fun vk wr => ∃ (k : Nat) (p : List Nat) (c : Nat), k ≤ 128 ∧ vk = .int .i64 (k : Int) ∧ Hid (PG p 255 (actN (bigN a) (bigN b) i ^^^ actN (bigN b) (pw i) k) c) ∧ Hid (c ≤ 128 * i + k) ∧ Hid (wr.heap[g5]? = some (.cells (p.map ivG).toArray 122 (0, 0))) ∧ Hid (Below g5 W0 wr)) (fun k _ => 128 - (intOf k).toNat)
        case atStart => exact ⟨0, p, c, by omega, rfl, by rw [show actN (bigN b) (pw i) 0 = 0 from rfl, Nat.xor_zero]; exact HP, HC, P5, PB⟩
        case round =>
          clear P5 PB HP HC
          obtain ⟨k, p, c, hk, rfl, HP, HC, H5, HBW⟩ := hrel
          have N3 : Hid (wr.heap[w.heap.size + 1]? = _) := (HBW.out.block _ (by have := HG5.out; omega)).trans F3.out
          by_cases hltk : k < 128
          · have q2 : (k : Int) < 128 := by omega
            have HPR := PG.row (B := 0) b HP.out hlt hltk
            obtain ⟨q, hq⟩ : ∃ q, q = i + k := ⟨_, rfl⟩
            rw [← hq] at HPR
            obtain ⟨x, hx⟩ : ∃ x, p.getD q 0 = x := ⟨_, rfl⟩
            obtain ⟨u, hu⟩ : ∃ u, bitI b k = u := ⟨_, rfl⟩
            have hbd := HP.out.bd q
            have hul := bitI_lt b k
            have HBT := Lib.hid (fun W => BT.out k W hltk)
            rw [hu] at HBT hul
            rw [hx, hu] at HPR
            rw [hx] at hbd
            obtain ⟨x2, hx2⟩ : ∃ y, y = x + u := ⟨_, rfl⟩
            rw [← hx2] at HPR
            have o1 : IntKind.i64.wrap ((i : Int) + (k : Int)) = (q : Int) := by rw [IntKind.wrap_i64]; omega
            have o2 : IntKind.i64.wrap ((x : Int) + (u : Int)) = (x2 : Int) := by have := HC.out; rw [IntKind.wrap_i64]; omega
            have q3 : (q : Int) < 256 := by omega
            have HPR := Lib.hid HPR
            have c5 := icellG H5.out q (by rw [HP.out.len]; omega)
            rw [hx] at c5
            have C5 : Hid (wr.drew.cell? ⟨g5, q, none⟩ = some (.int .i64 (x : Int))) := c5
            have K5 : Hid (wr.drew.heap[g5]? = _) := H5.out
            have M3 : Hid (wr.drew.heap[w.heap.size + 1]? = _) := N3.out
            have KB : Hid (Below g5 W0 wr.drew) := HBW.out.drew
            have HX : Hid (But g5 q wr.drew wr.drew) := Pre.refl _
            have hne : Hid (w.heap.size + 1 ≠ g5) := by have := HG5.out; show _ ≠ _; omega
            have HC2 : Hid (c + 1 ≤ 128 * i + (k + 1)) := by have := HC.out; show _ ≤ _; omega
            clear c5 hq hx hu hx2 hbd hul H5 N3 HBW HP HC
            go_upto_region 9 with (fail)
            refine regS_start (But g5 q) (by kernel_rfl) ?_
            try simp only [Act.put, List.setIfInBounds_toArray, List.set_cons_zero, List.set_cons_succ]
            generalize wr.drew = W1 at C5 K5 M3 KB HX ⊢
            have c5 := C5.out
            refine regS_take (v := ?_) 0 (some 23) rfl rfl (by kernel_rfl) (by kernel_rfl) (by kernel_rfl) (fun _ _ _ h => h) (by rfl) (fun W hW => ?_) ?_
            rotate_left
            · (go_simp; try rfl)
            simp only [Act.put, List.setIfInBounds_toArray, List.set_cons_zero, List.set_cons_succ]
            refine regS_take (v := ?_) 1 (some 24) rfl rfl (by kernel_rfl) (by kernel_rfl) (by kernel_rfl) (fun _ _ _ h => h) (by rfl) (fun W hW => ?_) ?_
            rotate_left
            · (go_simp; try rfl)
            simp only [Act.put, List.setIfInBounds_toArray, List.set_cons_zero, List.set_cons_succ]
            refine regS_take (v := ?_) 2 (some 25) rfl rfl (by kernel_rfl) (by kernel_rfl) (by kernel_rfl) (fun _ _ _ h => h) (by rfl) (fun W hW => ?_) ?_
            rotate_left
            · (go_simp; try rfl)
            simp only [Act.put, List.setIfInBounds_toArray, List.set_cons_zero, List.set_cons_succ]
            refine regS_take (v := ?_) 3 (some 26) rfl rfl (by kernel_rfl) (by kernel_rfl) (by kernel_rfl) (fun _ _ _ h => h) (by rfl) (fun W hW => ?_) ?_
            rotate_left
            · (go_simp; try rfl)
            simp only [Act.put, List.setIfInBounds_toArray, List.set_cons_zero, List.set_cons_succ]
            refine regS_load 5 (some 28) (fun W hW => run_loadAt_mid W (w.heap.size + 1) 0 23 (b.map bv) _ (but_range hW hne.out M3.out) arr16B rfl hi16b.out) rfl rfl rfl rfl (by kernel_rfl) (by kernel_rfl) (by kernel_rfl) (fun _ _ _ h => h) (by rfl) ?_
            simp only [Act.put, List.setIfInBounds_toArray, List.set_cons_zero, List.set_cons_succ]
            refine regS_take (v := ?_) 6 (some 29) rfl rfl (by kernel_rfl) (by kernel_rfl) (by kernel_rfl) (fun _ _ _ h => h) (by rfl) (fun W hW => ?_) ?_
            rotate_left
            · (go_simp; try rfl)
            simp only [Act.put, List.setIfInBounds_toArray, List.set_cons_zero, List.set_cons_succ]
            refine regS_eff2 4 7 rfl rfl (by kernel_rfl) (fun K hK => ?_) (fun K hK => ?_)
            · skip
              go_simp
              refine hK.out _ _ (Pre.refl _) ?_
              clear hK K
              try simp only [Act.put, List.setIfInBounds_toArray, List.set_cons_zero, List.set_cons_succ]
              refine regS_eff 7 rfl (by kernel_rfl) (fun K hK => ?_)
              go_simp
              refine (HBT.out W1).mono ?_
              rintro e W7 ⟨rfl, hb7⟩
              have C7 := Lib.hid ((hb7.cell (lt_of_heap K5.out)).trans C5.out)
              have K7 := Lib.hid ((hb7.block _ (lt_of_heap K5.out)).trans K5.out)
              have KB7 : Hid (Below g5 W0 W7) := KB.out.trans (hb7.mono (Nat.le_of_lt (lt_of_heap K5.out)))
              have c5 := C7.out
              have hE : But g5 q W1 W7 := But.of_ext hb7
              clear hb7
              refine hK.out _ _ hE ?_
              have HX := Lib.hid (Pre.trans HX.out hE)
              clear hE hK K
              try simp only [Act.put, List.setIfInBounds_toArray, List.set_cons_zero, List.set_cons_succ]
              refine regS_take (v := ?_) 8 (some 31) rfl rfl (by kernel_rfl) (by kernel_rfl) (by kernel_rfl) (fun _ _ _ h => h) (by rfl) (fun W hW => ?_) ?_
              rotate_left
              · (go_simp; try rfl)
              simp only [Act.put, List.setIfInBounds_toArray, List.set_cons_zero, List.set_cons_succ]
              refine regS_take (v := ?_) 9 (some 32) rfl rfl (by kernel_rfl) (by kernel_rfl) (by kernel_rfl) (fun _ _ _ h => h) (by rfl) (fun W hW => ?_) ?_
              rotate_left
              · (go_simp; try rfl)
              simp only [Act.put, List.setIfInBounds_toArray, List.set_cons_zero, List.set_cons_succ]
              refine regS_eff 10 rfl (by kernel_rfl) (fun K hK => ?_)
              refine step_st1 rfl 3 (.tmp 32) (.tmp 31) rfl (store_cell (k := .i64) Try.underlying3 g_sInt (w := W7) C7.out (frozen_of_heap (w := W7) K7.out _)) ?_
              have hE : But g5 q W7 (W7.setCell ⟨g5, q, none⟩ (.int .i64 (x2 : Int))) := But.set _
              refine hK.out _ _ hE ?_
              have HX := Lib.hid (Pre.trans HX.out hE)
              clear hE hK K
              try simp only [Act.put, List.setIfInBounds_toArray, List.set_cons_zero, List.set_cons_succ]
              refine regS_done (by kernel_rfl) ?_
              go_wp2
              go_roundw
              case rel => exact ⟨k + 1, p.set q x2, c + 1, by omega, by go_num, HPR, HC2, isetG K7.out q x2, KB7.out.setCell (Nat.le_refl _) _⟩
              case measure => simp [intOf]; omega
            · skip
              go_simp
              refine (HBT.out W1).mono ?_
              rintro e W7 ⟨rfl, hb7⟩
              have C7 := Lib.hid ((hb7.cell (lt_of_heap K5.out)).trans C5.out)
              have K7 := Lib.hid ((hb7.block _ (lt_of_heap K5.out)).trans K5.out)
              have KB7 : Hid (Below g5 W0 W7) := KB.out.trans (hb7.mono (Nat.le_of_lt (lt_of_heap K5.out)))
              have c5 := C7.out
              have hE : But g5 q W1 W7 := But.of_ext hb7
              clear hb7
              refine hK.out _ _ hE ?_
              have HX := Lib.hid (Pre.trans HX.out hE)
              clear hE hK K
              try simp only [Act.put, List.setIfInBounds_toArray, List.set_cons_zero, List.set_cons_succ]
              refine regS_eff 4 rfl (by kernel_rfl) (fun K hK => ?_)
              go_simp
              refine hK.out _ _ (Pre.refl _) ?_
              clear hK K
              try simp only [Act.put, List.setIfInBounds_toArray, List.set_cons_zero, List.set_cons_succ]
              refine regS_take (v := ?_) 8 (some 31) rfl rfl (by kernel_rfl) (by kernel_rfl) (by kernel_rfl) (fun _ _ _ h => h) (by rfl) (fun W hW => ?_) ?_
              rotate_left
              · (go_simp; try rfl)
              simp only [Act.put, List.setIfInBounds_toArray, List.set_cons_zero, List.set_cons_succ]
              refine regS_take (v := ?_) 9 (some 32) rfl rfl (by kernel_rfl) (by kernel_rfl) (by kernel_rfl) (fun _ _ _ h => h) (by rfl) (fun W hW => ?_) ?_
              rotate_left
              · (go_simp; try rfl)
              simp only [Act.put, List.setIfInBounds_toArray, List.set_cons_zero, List.set_cons_succ]
              refine regS_eff 10 rfl (by kernel_rfl) (fun K hK => ?_)
              refine step_st1 rfl 3 (.tmp 32) (.tmp 31) rfl (store_cell (k := .i64) Try.underlying3 g_sInt (w := W7) C7.out (frozen_of_heap (w := W7) K7.out _)) ?_
              have hE : But g5 q W7 (W7.setCell ⟨g5, q, none⟩ (.int .i64 (x2 : Int))) := But.set _
              refine hK.out _ _ hE ?_
              have HX := Lib.hid (Pre.trans HX.out hE)
              clear hE hK K
              try simp only [Act.put, List.setIfInBounds_toArray, List.set_cons_zero, List.set_cons_succ]
              refine regS_done (by kernel_rfl) ?_
              go_wp2
              go_roundw
              case rel => exact ⟨k + 1, p.set q x2, c + 1, by omega, by go_num, HPR, HC2, isetG K7.out q x2, KB7.out.setCell (Nat.le_refl _) _⟩
              case measure => simp [intOf]; omega
          · have q2 : ¬ ((k : Int) < 128) := by omega
            have hk8 : k = 128 := by omega
            subst hk8
            rw [HRE.out] at HP
            go_wp2_with fail
            go_roundw
            case rel => exact ⟨i + 1, p, c, by omega, by go_num, HP, by have := HC.out; show _ ≤ _; omega, H5, HBW⟩
            case measure => simp [intOf]; omega
    · have q1 : ¬ ((i : Int) < 128) := by omega
      have hi8 : i = 128 := by omega
      have HP1 : Hid (PG p 255 V c) := by rw [← HV.out, ← hi8]; exact HP.out
      have HC1 : Hid (c ≤ 16384) := by have := HC.out; show _ ≤ _; omega
      clear HP HC N2 N3 hi hlt AT BT HA HB hi8
      obtain ⟨wo, hwo⟩ : ∃ x, x = wr := ⟨_, rfl⟩
      subst hwo
      go_wp2_with fail
      go_loopw [8] (fun vi wr => ∃ (i : Nat) (p : List Nat) (c : Nat), 127 ≤ i ∧ i ≤ 254 ∧ vi = .int .i64 (i : Int) ∧ Hid (PG p (i + 1) V c) ∧ Hid (c + 4 * i ≤ 20000) ∧ Hid (wr.heap[g5]? = some (.cells (p.map ivG).toArray 122 (0, 0))) ∧ Hid (Below g5 W0 wr)) (fun i _ => (intOf i).toNat - 127)
      case atStart => exact ⟨254, p, c, by omega, by omega, rfl, HP1, by have := HC1.out; show _ ≤ _; omega, H5, HBW⟩
      case round =>
        clear H5 HBW HP1 HC1
        obtain ⟨i, p, c, hi1, hi2, rfl, HP, HC, H5, HBW⟩ := hrel
        by_cases hlt : 128 ≤ i
        · have q1 : (128 : Int) ≤ (i : Int) := by omega
          obtain ⟨x, hx⟩ : ∃ x, p.getD i 0 = x := ⟨_, rfl⟩
          have HX := Lib.hid hx
          have c5 := icellG H5.out i (by rw [HP.out.len]; omega)
          rw [hx] at c5
          have q2 : (i : Int) < 256 := by omega
          clear hx
          by_cases ho : x % 2 = 1
          · have t1 : ((x : Int) % 2 == 1) = true := by simp; omega
            have hfold := HP.out.fold hlt (by omega) (by rw [HX.out]; exact ho)
            obtain ⟨n1, hn1⟩ : ∃ n, n = i - 128 := ⟨_, rfl⟩
            obtain ⟨n2, hn2⟩ : ∃ n, n = i - 127 := ⟨_, rfl⟩
            obtain ⟨n3, hn3⟩ : ∃ n, n = i - 126 := ⟨_, rfl⟩
            obtain ⟨n4, hn4⟩ : ∃ n, n = i - 121 := ⟨_, rfl⟩
            rw [← hn1, ← hn2, ← hn3, ← hn4] at hfold
            obtain ⟨x1, hx1⟩ : ∃ x1, p.getD n1 0 = x1 := ⟨_, rfl⟩
            obtain ⟨p1, hp1⟩ : ∃ p1, p1 = p.set n1 (x1 + 1) := ⟨_, rfl⟩
            obtain ⟨x2, hx2⟩ : ∃ x2, p1.getD n2 0 = x2 := ⟨_, rfl⟩
            obtain ⟨p2, hp2⟩ : ∃ p2, p2 = p1.set n2 (x2 + 1) := ⟨_, rfl⟩
            obtain ⟨x3, hx3⟩ : ∃ x3, p2.getD n3 0 = x3 := ⟨_, rfl⟩
            obtain ⟨p3, hp3⟩ : ∃ p3, p3 = p2.set n3 (x3 + 1) := ⟨_, rfl⟩
            obtain ⟨x4, hx4⟩ : ∃ x4, p3.getD n4 0 = x4 := ⟨_, rfl⟩
            obtain ⟨p4, hp4⟩ : ∃ p4, p4 = p3.set n4 (x4 + 1) := ⟨_, rfl⟩
            have HF := Lib.hid (hfold p1 p2 p3 p4 (by rw [hx1, hp1]) (by rw [hx2, hp2]) (by rw [hx3, hp3]) (by rw [hx4, hp4]))
            have L0 := Lib.hid HP.out.len
            have L1 : Hid (p1.length = 256) := by show _ = _; rw [hp1, List.length_set]; exact L0.out
            have L2 : Hid (p2.length = 256) := by show _ = _; rw [hp2, List.length_set]; exact L1.out
            have L3 : Hid (p3.length = 256) := by show _ = _; rw [hp3, List.length_set]; exact L2.out
            have b1 : x1 ≤ 20000 := by have h1 := HP.out.bd n1; rw [hx1] at h1; have := HC.out; omega
            have b2 : x2 ≤ 20001 := by
              have h1 := HP.out.bd n2; have h2 := HC.out
              rw [hp1, getD_setG _ _ _ _ (by rw [L0.out]; omega)] at hx2
              split at hx2 <;> omega
            have b3 : x3 ≤ 20002 := by
              have h1 := HP.out.bd n3; have h2 := HC.out
              rw [hp2, getD_setG _ _ _ _ (by rw [L1.out]; omega), hp1, getD_setG _ _ _ _ (by rw [L0.out]; omega)] at hx3
              split at hx3
              · omega
              · split at hx3 <;> omega
            have b4 : x4 ≤ 20003 := by
              have h1 := HP.out.bd n4; have h2 := HC.out
              rw [hp3, getD_setG _ _ _ _ (by rw [L2.out]; omega), hp2, getD_setG _ _ _ _ (by rw [L1.out]; omega), hp1, getD_setG _ _ _ _ (by rw [L0.out]; omega)] at hx4
              split at hx4
              · omega
              · split at hx4
                · omega
                · split at hx4 <;> omega
            have E1 := Lib.hid hp1; have E2 := Lib.hid hp2; have E3 := Lib.hid hp3; have E4 := Lib.hid hp4
            have X1 := Lib.hid hx1; have X2 := Lib.hid hx2; have X3 := Lib.hid hx3; have X4 := Lib.hid hx4
            have H0 := H5
            have B0 := HBW
            have e1 : (i : Int) - 128 = (n1 : Int) := by omega
            have e2 : (i : Int) - 127 = (n2 : Int) := by omega
            have e3 : (i : Int) - 126 = (n3 : Int) := by omega
            have e4 : (i : Int) - 121 = (n4 : Int) := by omega
            have r1 : (n1 : Int) < 256 := by omega
            have r2 : (n2 : Int) < 256 := by omega
            have r3 : (n3 : Int) < 256 := by omega
            have r4 : (n4 : Int) < 256 := by omega
            clear hfold hx1 hx2 hx3 hx4 hp1 hp2 hp3 hp4 hn1 hn2 hn3 hn4 H5 HBW
            have d1 := icellG H0.out n1 (by rw [L0.out]; omega)
            rw [X1.out] at d1
            have fz := frozen_of_heap H0.out n1
            go_upto_region 15 with (fail)
            generalize hV : World.setCell _ _ _ = V1
            have H1 : Hid (V1.heap[g5]? = some (.cells (p1.map ivG).toArray 122 (0, 0))) := by show _ = _; rw [← hV, E1.out]; exact isetG H0.out n1 (x1 + 1)
            have B1 : Hid (Below g5 W0 V1) := by rw [← hV]; exact B0.out.setCell (Nat.le_refl _) _
            clear hV c5 d1 fz H0 B0
            have d1 := icellG H1.out n2 (by rw [L1.out]; omega)
            rw [X2.out] at d1
            have fz := frozen_of_heap H1.out n2
            go_upto_region 16 with (fail)
            generalize hV : World.setCell _ _ _ = V2
            have H2 : Hid (V2.heap[g5]? = some (.cells (p2.map ivG).toArray 122 (0, 0))) := by show _ = _; rw [← hV, E2.out]; exact isetG H1.out n2 (x2 + 1)
            have B2 : Hid (Below g5 W0 V2) := by rw [← hV]; exact B1.out.setCell (Nat.le_refl _) _
            clear hV d1 fz H1 B1
            have d1 := icellG H2.out n3 (by rw [L2.out]; omega)
            rw [X3.out] at d1
            have fz := frozen_of_heap H2.out n3
            go_upto_region 17 with (fail)
            generalize hV : World.setCell _ _ _ = V3
            have H3 : Hid (V3.heap[g5]? = some (.cells (p3.map ivG).toArray 122 (0, 0))) := by show _ = _; rw [← hV, E3.out]; exact isetG H2.out n3 (x3 + 1)
            have B3 : Hid (Below g5 W0 V3) := by rw [← hV]; exact B2.out.setCell (Nat.le_refl _) _
            clear hV d1 fz H2 B2
            have d1 := icellG H3.out n4 (by rw [L3.out]; omega)
            rw [X4.out] at d1
            have fz := frozen_of_heap H3.out n4
            obtain ⟨j, hj⟩ : ∃ j, i = j + 1 := ⟨i - 1, by omega⟩
            have HFJ : Hid (PG p4 (j + 1) V (c + 4)) := by rw [← hj]; exact HF.out
            have HCJ : Hid (c + 4 + 4 * j ≤ 20000) := by have := HC.out; show _ ≤ _; omega
            have HJ := Lib.hid hj
            clear hj
            go_wp2_with fail
            go_roundw
            case rel => exact ⟨j, p4, c + 4, by have := HJ.out; omega, by have := HJ.out; omega, by rw [show (j : Int) = (i : Int) - 1 by have := HJ.out; omega], HFJ, HCJ, by rw [E4.out]; exact isetG H3.out n4 (x4 + 1), B3.out.setCell (Nat.le_refl _) _⟩
            case measure => simp [intOf]; omega
          · have t1 : ((x : Int) % 2 == 1) = false := by simp; omega
            obtain ⟨j, hj⟩ : ∃ j, i = j + 1 := ⟨i - 1, by omega⟩
            have HFJ : Hid (PG p (j + 1) V c) := by rw [← hj]; exact HP.out.skip (by rw [HX.out]; exact ho)
            have HCJ : Hid (c + 4 * j ≤ 20000) := by have := HC.out; show _ ≤ _; omega
            have HJ := Lib.hid hj
            clear hj
            go_wp2_with fail
            go_roundw
            case rel => exact ⟨j, p, c, by have := HJ.out; omega, by have := HJ.out; omega, by rw [show (j : Int) = (i : Int) - 1 by have := HJ.out; omega], HFJ, HCJ, H5, HBW⟩
            case measure => simp [intOf]; omega
        · have q1 : ¬ ((128 : Int) ≤ (i : Int)) := by omega
          have hi7 : i = 127 := by omega
          have HEV : Hid (evF p 128 = V) := by have := HP.out.ev; rw [hi7] at this; exact this
          have HPL := Lib.hid HP.out.len
          have N4 : Hid (wr.heap[w.heap.size + 2]? = _) := (HBW.out.block _ (by have := HG5.out; omega)).trans F4.out
          have NB : Hid (Below w.heap.size w wr) := FB.out.trans (HBW.out.mono (by have := HG5.out; omega))
          clear HP HC HBW hi1 hi2 hlt hi7 F2 F3 F4 FB
          obtain ⟨wp, hwp⟩ : ∃ x, x = wr := ⟨_, rfl⟩
          subst hwp
          go_wp2_with fail
          generalize hV : wp.alloc _ = W9
          have M9 : Hid (W9.heap[wp.heap.size]? = some (.cells ((blkL 0).map bv).toArray 23 (0, 0))) := heap_of_alloc hV
          have M5 := Lib.hid (((below_of_alloc hV (Nat.le_refl _)).block _ (lt_of_heap H5.out)).trans H5.out)
          have M4 := Lib.hid (((below_of_alloc hV (Nat.le_refl _)).block _ (lt_of_heap N4.out)).trans N4.out)
          have MB := Lib.hid (NB.out.step (below_of_alloc hV (Nat.le_refl _)))
          have L5 := Lib.hid (lt_of_heap H5.out)
          have L4 := Lib.hid (lt_of_heap N4.out)
          have LW : Hid (w.heap.size ≤ wp.heap.size) := NB.out.size
          clear hV H5 N4 NB
          obtain ⟨g9, hg9⟩ : ∃ g, wp.heap.size = g := ⟨_, rfl⟩
          rw [hg9] at M9 L5 L4 LW ⊢
          clear hg9
          go_loopw [10] (fun vi wr => ∃ (i : Nat), i ≤ 128 ∧ vi = .int .i64 (i : Int) ∧ Hid (wr.heap[g9]? = some (.cells ((blkL (evF p i)).map bv).toArray 23 (0, 0))) ∧ Hid (Below g9 W9 wr)) (fun i _ => 128 - (intOf i).toNat)
          case atStart => exact ⟨0, by omega, rfl, M9, Below.refl _ _⟩
          case round =>
            clear M9
            obtain ⟨i, hi, rfl, H9, HB9⟩ := hrel
            have K5 : Hid (wr.heap[g5]? = _) := (HB9.out.block _ L5.out).trans M5.out
            by_cases hlt : i < 128
            · have q1 : (i : Int) < 128 := by omega
              have q2 : (i : Int) < 256 := by omega
              obtain ⟨x, hx⟩ : ∃ x, p.getD i 0 = x := ⟨_, rfl⟩
              have c5 := icellG K5.out i (by rw [HPL.out]; omega)
              rw [hx] at c5
              by_cases ho : x % 2 = 1
              · have t1 : ((x : Int) % 2 == 1) = true := by simp; omega
                have hor := blk_or p i hlt (by rw [hx]; exact ho)
                obtain ⟨j, hj⟩ : ∃ j, j = i / 8 := ⟨_, rfl⟩
                obtain ⟨m, hm⟩ : ∃ m, m = 7 - i % 8 := ⟨_, rfl⟩
                rw [← hj, ← hm] at hor
                have hm7 : m ≤ 7 := by omega
                have hj16 : (j : Int) < 16 := by omega
                have hjn : j < 16 := by omega
                have hB16 := blkL_len (evF p i)
                generalize blkL (evF p i) = X at H9 hor hB16
                obtain ⟨Y, HYY⟩ : ∃ Y, Hid (Y = blkL (evF p (i + 1))) := ⟨_, rfl⟩
                rw [← HYY.out] at hor
                obtain ⟨y, hy⟩ : ∃ y, X.getD j 0 = y := ⟨_, rfl⟩
                obtain ⟨z, hz⟩ : ∃ z : UInt8, UInt8.ofNat (2 ^ m) = z := ⟨_, rfl⟩
                have hzn : z.toNat = 2 ^ m := by rw [← hz, UInt8.toNat_ofNat']; exact Nat.mod_eq_of_lt (Nat.pow_lt_pow_right (by decide) (by omega))
                rw [hy, hz] at hor
                have c9 : wr.cell? ⟨g9, j, none⟩ = some (.int .u8 (y.toNat : Int)) := by
                  rw [cell_of_heap H9.out, List.getElem?_map, List.getElem?_eq_getElem (by omega), ← hy]
                  simp [List.getD, hB16, hjn, bv]
                have fz := frozen_of_heap H9.out j
                have HOR := Lib.hid hor
                have d1 : (i : Int) / 8 = (j : Int) := by omega
                have d2 : IntKind.i64.wrap (7 - (i : Int) % 8) = (m : Int) := by rw [IntKind.wrap_i64]; omega
                have d3 : 7 - (i : Int) % 8 = (m : Int) := by omega
                have hz2 : ((2 : Int) ^ m) % 256 = (z.toNat : Int) := by
                  have h2 : (2 : Nat) ^ m ≤ 128 := Nat.le_trans (Nat.pow_le_pow_right (by omega) hm7) (by decide)
                  have h3 : ((2 : Int) ^ m) = ((2 ^ m : Nat) : Int) := by simp
                  rw [h3, hzn]; omega
                have hz3 : (2 : Int) ^ m = (z.toNat : Int) := by rw [hzn]; simp
                have hmm : min m 8 = m := by omega
                have dj : IntKind.i64.wrap (j : Int) = (j : Int) := by rw [IntKind.wrap_i64]; omega
                obtain ⟨r, hr⟩ : ∃ r, r = i % 8 := ⟨_, rfl⟩
                have d5 : (i : Int).tmod 8 = (r : Int) := by rw [Int.tmod_eq_emod_of_nonneg (by omega)]; omega
                have d6 : IntKind.i64.wrap (7 - (r : Int)) = (m : Int) := by rw [IntKind.wrap_i64]; omega
                have hz4 : IntKind.u8.wrap ((2 : Int) ^ m) = (z.toNat : Int) := by rw [IntKind.wrap_u8]; exact hz2
                have hz5 : IntKind.u8.wrap (z.toNat : Int) = (z.toNat : Int) := by have := z.toNat_lt; rw [IntKind.wrap_u8]; omega
                clear hor hy hz hj hm hx hzn hr
                obtain ⟨v, hv⟩ : ∃ v : UInt8, v = y ||| z := ⟨_, rfl⟩
                have hvv : bits .or .u8 (y.toNat : Int) (z.toNat : Int) = (v.toNat : Int) := by rw [hv]; exact g_or8 y z
                rw [← hv] at HOR
                clear hv
                have C9 : Hid (wr.drew.cell? ⟨g9, j, none⟩ = some (.int .u8 (y.toNat : Int))) := c9
                have K9 : Hid (wr.drew.heap[g9]? = _) := H9.out
                have HX : Hid (But g9 j wr.drew wr.drew) := Pre.refl _
                have KB : Hid (Below g9 W9 wr.drew) := HB9.out.drew
                go_upto_region 23 with (fail)
                clear c9 c5 fz H9 HB9 K5
                refine regS_start (But g9 j) (by kernel_rfl) ?_
                try simp only [Act.put, List.setIfInBounds_toArray, List.set_cons_zero, List.set_cons_succ]
                generalize wr.drew = W1 at C9 K9 KB HX ⊢
                have c5 := C9.out
                refine regS_take (v := ?_) 0 (some 75) rfl rfl (by kernel_rfl) (by kernel_rfl) (by kernel_rfl) (fun _ _ _ h => h) (by rfl) (fun W hW => ?_) ?_
                rotate_left
                · (go_simp; try rfl)
                simp only [Act.put, List.setIfInBounds_toArray, List.set_cons_zero, List.set_cons_succ]
                refine regS_take (v := ?_) 1 (some 76) rfl rfl (by kernel_rfl) (by kernel_rfl) (by kernel_rfl) (fun _ _ _ h => h) (by rfl) (fun W hW => ?_) ?_
                rotate_left
                · (go_simp; try rfl)
                simp only [Act.put, List.setIfInBounds_toArray, List.set_cons_zero, List.set_cons_succ]
                refine regS_take (v := ?_) 2 (some 77) rfl rfl (by kernel_rfl) (by kernel_rfl) (by kernel_rfl) (fun _ _ _ h => h) (by rfl) (fun W hW => ?_) ?_
                rotate_left
                · (go_simp; try rfl)
                simp only [Act.put, List.setIfInBounds_toArray, List.set_cons_zero, List.set_cons_succ]
                refine regS_take (v := ?_) 3 (some 78) rfl rfl (by kernel_rfl) (by kernel_rfl) (by kernel_rfl) (fun _ _ _ h => h) (by rfl) (fun W hW => ?_) ?_
                rotate_left
                · (go_simp; try rfl)
                simp only [Act.put, List.setIfInBounds_toArray, List.set_cons_zero, List.set_cons_succ]
                refine regS_take (v := ?_) 4 (some 79) rfl rfl (by kernel_rfl) (by kernel_rfl) (by kernel_rfl) (fun _ _ _ h => h) (by rfl) (fun W hW => ?_) ?_
                rotate_left
                · (go_simp; try rfl)
                simp only [Act.put, List.setIfInBounds_toArray, List.set_cons_zero, List.set_cons_succ]
                refine regS_take (v := ?_) 6 (some 81) rfl rfl (by kernel_rfl) (by kernel_rfl) (by kernel_rfl) (fun _ _ _ h => h) (by rfl) (fun W hW => ?_) ?_
                rotate_left
                · (go_simp; try rfl)
                simp only [Act.put, List.setIfInBounds_toArray, List.set_cons_zero, List.set_cons_succ]
                refine regS_take (v := ?_) 7 (some 82) rfl rfl (by kernel_rfl) (by kernel_rfl) (by kernel_rfl) (fun _ _ _ h => h) (by rfl) (fun W hW => ?_) ?_
                rotate_left
                · (go_simp; try rfl)
                simp only [Act.put, List.setIfInBounds_toArray, List.set_cons_zero, List.set_cons_succ]
                refine regS_take (v := ?_) 8 (some 83) rfl rfl (by kernel_rfl) (by kernel_rfl) (by kernel_rfl) (fun _ _ _ h => h) (by rfl) (fun W hW => ?_) ?_
                rotate_left
                · (go_simp; try rfl)
                simp only [Act.put, List.setIfInBounds_toArray, List.set_cons_zero, List.set_cons_succ]
                refine regS_take (v := ?_) 9 (some 84) rfl rfl (by kernel_rfl) (by kernel_rfl) (by kernel_rfl) (fun _ _ _ h => h) (by rfl) (fun W hW => ?_) ?_
                rotate_left
                · (go_simp; try rfl)
                simp only [Act.put, List.setIfInBounds_toArray, List.set_cons_zero, List.set_cons_succ]
                refine regS_eff 5 rfl (by kernel_rfl) (fun K hK => ?_)
                go_simp
                refine hK.out _ _ (Pre.refl _) ?_
                clear hK K
                try simp only [Act.put, List.setIfInBounds_toArray, List.set_cons_zero, List.set_cons_succ]
                refine regS_take (v := ?_) 10 (some 85) rfl rfl (by kernel_rfl) (by kernel_rfl) (by kernel_rfl) (fun _ _ _ h => h) (by rfl) (fun W hW => ?_) ?_
                rotate_left
                · (go_simp; try rfl)
                simp only [Act.put, List.setIfInBounds_toArray, List.set_cons_zero, List.set_cons_succ]
                refine regS_take (v := ?_) 11 (some 86) rfl rfl (by kernel_rfl) (by kernel_rfl) (by kernel_rfl) (fun _ _ _ h => h) (by rfl) (fun W hW => ?_) ?_
                rotate_left
                · (go_simp; try rfl)
                simp only [Act.put, List.setIfInBounds_toArray, List.set_cons_zero, List.set_cons_succ]
                refine regS_eff 12 rfl (by kernel_rfl) (fun K hK => ?_)
                refine step_st1 rfl 5 (.tmp 86) (.tmp 85) rfl (store_cell (k := .u8) Try.underlying5 s8 (w := W1) C9.out (frozen_of_heap (w := W1) K9.out _)) ?_
                have hE : But g9 j W1 (W1.setCell ⟨g9, j, none⟩ (.int .u8 (v.toNat : Int))) := But.set _
                refine hK.out _ _ hE ?_
                have HX := Lib.hid (Pre.trans HX.out hE)
                clear hE hK K
                try simp only [Act.put, List.setIfInBounds_toArray, List.set_cons_zero, List.set_cons_succ]
                refine regS_done (by kernel_rfl) ?_
                go_wp2
                go_roundw
                case rel =>
                  refine ⟨i + 1, by omega, by go_num, ?_, KB.out.setCell (Nat.le_refl _) _⟩
                  have := heap_set K9.out j (bv v)
                  rw [← List.map_set, HOR.out, HYY.out] at this
                  exact this
                case measure => simp [intOf]; omega
              · have t1 : ((x : Int) % 2 == 1) = false := by simp; omega
                have HSK := Lib.hid (blk_skip p i (by rw [hx]; exact ho))
                clear hx
                go_wp2_with fail
                go_roundw
                case rel => exact ⟨i + 1, by omega, by go_num, by rw [← HSK.out]; exact H9, HB9⟩
                case measure => simp [intOf]; omega
            · have q1 : ¬ ((i : Int) < 128) := by omega
              have hi8 : i = 128 := by omega
              subst hi8
              rw [HEV.out] at H9
              have K4 : Hid (wr.heap[w.heap.size + 2]? = _) := (HB9.out.block _ L4.out).trans M4.out
              have KB : Hid (Below w.heap.size w wr) := MB.out.trans (HB9.out.mono LW.out)
              have hVL : Hid ((blkL V).length = 16) := blkL_len V
              have hiV : Hid ((Try.prog.info? 23).map (·.size) = some ((blkL V).map bv).length) := i16l (blkL V) hVL.out
              have hle : Hid (((blkL 0).map bv).length = ((blkL V).map bv).length) := by show _ = _; rw [List.length_map, List.length_map, HB0.out, hVL.out]
              obtain ⟨Y, HYV⟩ : ∃ Y, Hid (blkL V = Y) := ⟨_, rfl⟩
              rw [HYV.out] at H9 hVL hiV hle
              go_wp2_with (first
                | (refine wpList_ld rfl 23 (.tmp 9) rfl (load_arr arr16B rfl hiV.out H9.out) ?_)
                | (refine wpList_st rfl 23 (.tmp 4) (.tmp 87) rfl (store_arr (cs := Y.map bv) hiV.out (bv_one _) (old := (blkL 0).map bv) K4.out hle.out) ?_)
                | fail)
              have hres := setRow_heap wr (w.heap.size + 2) _ (Y.map bv).toArray 23 _ K4.out
              exact bodyPost_ret (results_cell_row (P := Try.prog) rfl _ _ (w.heap.size + 2) 23 (Y.map bv).toArray (0, 0) _ rfl hres arr16B rfl (by rw [List.size_toArray, List.length_map, hVL.out]; exact i16B)) rfl ⟨by rw [HYV.out], KB.out.trans (grown_below (grown_setRow _ _ _) (by omega) KB.out.size)⟩
end Go.Proofs.Ytjmpbcfbfbjenaa

/- Contracts of the document's own answers for layer 1: Little, Big, PutLittle, PutBig. -/
namespace Go.Proofs.Ytjmpbcfbfbjenaa
open Go.RowKit
set_option maxRecDepth 100000
set_option linter.unusedVariables false
set_option linter.unusedSimpArgs false

theorem ref_step (U N x : Nat) (hU : U * x < 18446744073709551616) (hN : N + U * x < 18446744073709551616) :
    ∃ V M U' : Nat, IntKind.u64.wrap ((U : Int) * (x : Int)) = (V : Int) ∧ IntKind.u64.wrap ((N : Int) + (V : Int)) = (M : Int) ∧ IntKind.u64.wrap ((U : Int) * 256) = (U' : Int) ∧ M = N + U * x ∧ U' = U * 256 % 18446744073709551616 := by
  refine ⟨U * x, N + U * x, U * 256 % 18446744073709551616, ?_, ?_, ?_, rfl, rfl⟩
  · rw [IntKind.wrap_u64, ← Int.natCast_mul]; omega
  · rw [IntKind.wrap_u64]; omega
  · rw [IntKind.wrap_u64]; omega
theorem pow_lt8 (k : Nat) (hk : k < 8) : 256 ^ (k + 1) ≤ 18446744073709551616 := by
  have h : (256 : Nat) ^ 8 = 18446744073709551616 := by decide
  rw [← h]; exact Nat.pow_le_pow_right (by decide) (by omega)
theorem unit_step (k : Nat) (hk : k < 8) : 256 ^ k % 18446744073709551616 = 256 ^ k := by
  have := pow_lt8 k hk
  rw [Nat.pow_succ] at this
  have hp : 0 < 256 ^ k := Nat.pow_pos (by decide)
  exact Nat.mod_eq_of_lt (by omega)

theorem bigN_cons (x : UInt8) (l : List UInt8) : bigN (x :: l) = x.toNat * 256 ^ l.length + bigN l := by
  have := bigN_append [x] l
  simpa [bigN] using this
/-- the last j bytes -/
def lastL (bs : List UInt8) (j : Nat) : List UInt8 := bs.drop (bs.length - j)
theorem lastL_succ (bs : List UInt8) (j : Nat) (h : j < bs.length) : lastL bs (j + 1) = bs[bs.length - 1 - j] :: lastL bs j := by
  unfold lastL
  rw [List.drop_eq_getElem_cons (by omega)]
  simp only [show bs.length - (j + 1) + 1 = bs.length - j by omega, show bs.length - (j + 1) = bs.length - 1 - j by omega]
  rw [show bs.length - 1 - j + 1 = bs.length - j by omega]
theorem lastL_len (bs : List UInt8) (j : Nat) (h : j ≤ bs.length) : (lastL bs j).length = j := by simp [lastL]; omega

theorem refPutLittle_any (x many : Nat) (w : World) (hx : x < 18446744073709551616) (hm : many ≤ 2147483647) :
    Calls Try.prog 96 #[.int .u64 (x : Int), .int .i64 (many : Int)] w fun e w' => ∃ v, e = .returned v ∧ w'.ownsRow w.heap.size 5 1 v many ((putLittle x many).map bv) ∧ Below w.heap.size w w' := by
  have HX := Lib.hid hx
  clear hx
  go_enter Try.func96, Try.ntmps96
  go_wp2_with fail
  go_loopw [0, 5, 6] (fun xv ov iv wr => ∃ (k : Nat), k ≤ many ∧ iv = .int .i64 k ∧ xv = .int .u64 ((x / 256 ^ k : Nat) : Int) ∧ Hid (wr.ownsRow w.heap.size 5 1 ov k ((putLittle x k).map bv)) ∧ Hid (Below w.heap.size w wr)) (fun _ _ i _ => many - (intOf i).toNat)
  case atStart => exact ⟨0, by omega, rfl, by simp, World.ownsRow_nil w _ _ _, Below.refl _ _⟩
  case round =>
    obtain ⟨k, hk, rfl, rfl, HO, HB⟩ := hrel
    by_cases hlt : k < many
    · have hz : ((x / 256 ^ k : Nat) : Int) % 256 = ((byteAt x k).toNat : Int) := by rw [byteAt, UInt8.toNat_ofNat']; omega
      have hy0 : x / 256 ^ k < 18446744073709551616 := Nat.lt_of_le_of_lt (Nat.div_le_self _ _) HX.out
      have HP : Hid (IntKind.u64.wrap (((x / 256 ^ k : Nat) : Int) / 256) = ((x / 256 ^ (k + 1) : Nat) : Int)) := by
        show _ = _
        rw [Nat.pow_succ, ← Nat.div_div_eq_div_mul, IntKind.wrap_u64]
        generalize x / 256 ^ k = y at hy0 ⊢
        omega
      clear hy0
      have hpl : putLittle x (k + 1) = putLittle x k ++ [byteAt x k] := by simp [putLittle, List.range_succ]
      have HPL := Lib.hid hpl
      clear hpl
      have hy : x / 256 ^ k < 18446744073709551616 := Nat.lt_of_le_of_lt (Nat.div_le_self _ _) HX.out
      generalize byteAt x k = z at hz HPL
      generalize x / 256 ^ k = y at hz HP hy ⊢
      have hzb : z.toNat < 256 := z.toNat_lt
      have HY := Lib.hid hy
      clear hy
      go_wp2_with (
        at_builtin
        refine wpList_app8 rfl (.tmp 12) (.tmp 16) rfl w.heap.size _ k (putLittle x k) rfl ?_ _ 1 1 (wr.heap.size + 1) [z] rfl ?_ ?_ ?_ ?_ ?_
        · exact HO.out.alloc _
        · exact row_of_heap (heap_alloc_new' wr _) (Nat.lt_succ_self _)
        · rfl
        · omega
        · exact Nat.le_trans HB.out.size (by simp)
        rintro v' w' hown hgr
        have HO' := Lib.hid hown
        have HB' : Hid (Below w.heap.size w w') := (HB.out.alloc HB.out.size _).grown hgr (Nat.le_trans HB.out.size (by simp)) (fun g hg => (HO.out.lt g hg).1)
        clear hown hgr)
      go_roundw
      case rel => exact ⟨k + 1, by omega, by go_num, by rw [HP.out], by rw [HPL.out]; exact HO', HB'⟩
      case measure => simp [intOf]; omega
    · go_wp2
      go_ret
      have : k = many := by omega
      subst this
      exact ⟨_, rfl, HO.out, HB.out⟩

theorem refPutLittle_neg (x : Nat) (many : Int) (w : World) (hm : many < 0) :
    Calls Try.prog 96 #[.int .u64 (x : Int), .int .i64 many] w fun e w' => e = .returned (.slice none 0 0) ∧ w = w' := by
  have hl : ¬ (0 < many) := by omega
  go_enter Try.func96, Try.ntmps96
  go_wp2_with fail
  refine wp_loop_once ?_
  go_wp2
  go_ret
  exact ⟨rfl, rfl⟩

theorem lastPut (x many j : Nat) (h : j < many) : putBig x many = (putLittle x many).reverse := putBig_rev x many

theorem refPutBig_any (x many : Nat) (w : World) (hx : x < 18446744073709551616) (hm : many ≤ 2147483647) :
    Calls Try.prog 68 #[.int .u64 (x : Int), .int .i64 (many : Int)] w fun e w' => ∃ v, e = .returned v ∧ w'.ownsRow w.heap.size 5 1 v many ((putBig x many).map bv) ∧ Below w.heap.size w w' := by
  have HX := Lib.hid hx
  clear hx
  go_enter Try.func68, Try.ntmps68
  go_wp2_with fail
  refine (refPutLittle_any x many w HX.out hm).mono ?_
  rintro e w1 ⟨v, rfl, hO, hB⟩
  obtain ⟨A, c, rfl, hl, h1, h2, hr⟩ := own_read hO
  have HL := Lib.hid hl
  have HR := Lib.hid hr
  have HB1 := Lib.hid hB
  clear hl hr hB hO h2 h1
  go_wp2_with fail
  go_loopw [6, 7] (fun ov iv wr => ∃ (k : Nat), k ≤ many ∧ iv = .int .i64 ((many : Int) - 1 - k) ∧ Hid (wr.ownsRow w1.heap.size 5 1 ov k (((putLittle x many).reverse.take k).map bv)) ∧ Hid (Below w1.heap.size w1 wr)) (fun _ i _ => (intOf i + 1).toNat)
  case atStart => exact ⟨0, by omega, by simp, by simpa [Hid] using World.ownsRow_nil w1 w1.heap.size 5 1, Below.refl _ _⟩
  case round =>
    obtain ⟨k, hk, rfl, HO, HB⟩ := hrel
    by_cases hlt : k < many
    · have t1 : (0 : Int) ≤ (many : Int) - 1 - k := by omega
      have t3 : ((many : Int) - 1 - k).toNat = many - 1 - k := by omega
      have t4 : (many : Int) - 1 - k < many := by omega
      obtain ⟨b, o, rfl, hbl, r⟩ := HR.out.at_ (by have := HL.out; simp; omega)
      have kb : many - 1 - k < (putLittle x many).length := by have := HL.out; omega
      have hc : wr.cell? ⟨b, o + (many - 1 - k), none⟩ = some (.int .u8 ((putLittle x many)[many - 1 - k].toNat : Int)) := by
        rw [HB.out.cell hbl]; exact r _ _ (by simp [kb, bv])
      have hsn : (putLittle x many).reverse.take (k + 1) = (putLittle x many).reverse.take k ++ [(putLittle x many)[many - 1 - k]] := by
        rw [List.take_succ_eq_append_getElem (by rw [List.length_reverse, HL.out]; exact hlt)]
        congr 2
        rw [List.getElem_reverse]
        simp only [HL.out]
      have HS := Lib.hid hsn
      clear hsn r
      generalize (putLittle x many)[many - 1 - k] = z at hc HS
      have hzb : z.toNat < 256 := z.toNat_lt
      clear kb
      go_wp2_with (
        at_builtin
        refine wpList_app8 rfl (.tmp 18) (.tmp 23) rfl w1.heap.size _ k ((putLittle x many).reverse.take k) rfl ?_ _ 1 1 (wr.heap.size + 1) [z] rfl ?_ ?_ ?_ ?_ ?_
        · exact HO.out.alloc _
        · exact row_of_heap (heap_alloc_new' wr _) (Nat.lt_succ_self _)
        · rfl
        · omega
        · exact Nat.le_trans HB.out.size (by simp)
        rintro v' w' hown hgr
        have HO' := Lib.hid hown
        have HB' : Hid (Below w1.heap.size w1 w') := (HB.out.alloc HB.out.size _).grown hgr (Nat.le_trans HB.out.size (by simp)) (fun g hg => (HO.out.lt g hg).1)
        clear hown hgr)
      go_roundw
      case rel => exact ⟨k + 1, by omega, by congr 1; omega, by rw [HS.out]; exact HO', HB'⟩
      case measure => simp [intOf]; omega
    · have t1 : ¬ ((0 : Int) ≤ (many : Int) - 1 - k) := by omega
      go_wp2
      go_ret
      have : k = many := by omega
      subst this
      have hO := HO.out
      rw [List.take_of_length_le (by simp [HL.out]), ← putBig_rev] at hO
      obtain ⟨h0, hO | ⟨g, cap, cur, hv, hg, rr⟩⟩ := hO
      · exact ⟨_, rfl, ⟨h0, .inl hO⟩, HB1.out.step HB.out⟩
      · exact ⟨_, rfl, ⟨h0, .inr ⟨g, cap, cur, hv, Nat.le_trans HB1.out.size hg, rr⟩⟩, HB1.out.step HB.out⟩
theorem refPutBig_neg (x : Nat) (many : Int) (w : World) (hm : many < 0) :
    Calls Try.prog 68 #[.int .u64 (x : Int), .int .i64 many] w fun e w' => e = .returned (.slice none 0 0) ∧ w = w' := by
  go_enter Try.func68, Try.ntmps68
  go_wp2_with fail
  refine (refPutLittle_neg x many w hm).mono ?_
  rintro e w1 ⟨rfl, rfl⟩
  go_wp2_with fail
  refine wp_loop_once ?_
  go_wp2
  go_ret
  exact ⟨rfl, rfl⟩
end Go.Proofs.Ytjmpbcfbfbjenaa
/- ghash.Lengths; palfreyref06.Lengths, Padded. -/
namespace Go.Proofs.Ytjmpbcfbfbjenaa
open Go.RowKit
set_option maxRecDepth 100000
set_option linter.unusedVariables false
set_option linter.unusedSimpArgs false
theorem g_own_below {w w' : World} {base : Nat} {e : TypeId} {s : Nat} {v : Value} {n : Nat} {xs : List Value} (h : w.ownsRow base e s v n xs) (hb : Below w.heap.size w w') : w'.ownsRow base e s v n xs := by
  obtain ⟨h0, h | ⟨g, cap, cur, hv, hg, hh, r⟩⟩ := h
  · exact ⟨h0, .inl h⟩
  · exact ⟨h0, .inr ⟨g, cap, cur, hv, hg, (hb.block _ (lt_of_heap hh)).trans hh, r⟩⟩
theorem g_own_ge {w : World} {base : Nat} {e : TypeId} {s : Nat} {v : Value} {n : Nat} {xs : List Value} (h : w.ownsRow base e s v n xs) {B : Nat} (hB : B ≤ base) : ∀ g, v.ownBlock = some g → B ≤ g := fun g hq => Nat.le_trans hB (h.lt g hq).1
/-- 8 times a length, as 64 bits hold it -/
def len8 (z : Int) : Nat := (8 * z % 18446744073709551616).toNat
theorem len8_lt (z : Int) : len8 z < 18446744073709551616 := by unfold len8; omega
theorem len8_wrap (z : Int) : IntKind.u64.wrap (8 * IntKind.u64.wrap z) = (len8 z : Int) := by rw [IntKind.wrap_u64, IntKind.wrap_u64]; unfold len8; omega
theorem len8_mod (z : Int) : 8 * (z % 18446744073709551616) % 18446744073709551616 = (len8 z : Int) := by unfold len8; omega
theorem len_row (p q : Nat) (hq : q < 18446744073709551616) : rowL (p * 18446744073709551616 + q) = [p, q] := by
  unfold rowL hiV loV
  rw [show (p * 18446744073709551616 + q) / 18446744073709551616 = p by omega, show (p * 18446744073709551616 + q) % 18446744073709551616 = q by omega]
theorem len_lt (p q : Nat) (hp : p < 18446744073709551616) (hq : q < 18446744073709551616) : p * 18446744073709551616 + q < 2 ^ 128 := by rw [e128]; omega
/-- two lengths as a block -/
def lenL (a b : Int) : List UInt8 := blkL (len8 a * 18446744073709551616 + len8 b)
theorem lenL_len (a b : Int) : (lenL a b).length = 16 := blkL_len _
theorem lenL_parts (a b : Int) : putBig (len8 a) 8 ++ putBig (len8 b) 8 = lenL a b := by
  have h := flatR_end (len8 a * 18446744073709551616 + len8 b)
  have hb := len8_lt b
  rw [show hiV (len8 a * 18446744073709551616 + len8 b) = len8 a by unfold hiV; omega, show loV (len8 a * 18446744073709551616 + len8 b) = len8 b by unfold loV; omega] at h
  exact h
set_option maxHeartbeats 1000000 in
theorem glen_any (a b : Int) (w : World) : Calls Try.prog 51 #[.int .i64 a, .int .i64 b] w fun e w' => e = .returned (.agg ((lenL a b).map bv).toArray) ∧ Below w.heap.size w w' := by
  have HR := Lib.hid (len_row (len8 a) (len8 b) (len8_lt b))
  have HF := Lib.hid (fun W => gflat_any (len8 a * 18446744073709551616 + len8 b) W (len_lt _ _ (len8_lt a) (len8_lt b)))
  rw [HR.out] at HF
  change Hid (∀ W, Calls _ _ _ W fun e w' => e = .returned (.agg ((lenL a b).map bv).toArray) ∧ _) at HF
  have u1 := len8_mod a
  have u2 := len8_mod b
  have u3 := len8_wrap a
  have u4 := len8_wrap b
  have HZL := Lib.hid (lenL_len a b)
  generalize lenL a b = Z at HF HZL ⊢
  generalize len8 a = p at HF u1 u3
  generalize len8 b = q at HF u2 u4
  have hi16 : Hid ((Try.prog.info? 23).map (·.size) = some (Z.map bv).length) := i16l Z HZL.out
  have hz16 : ∀ W, (zeroValue 23).run Try.prog W = .ok (.agg ((blkL 0).map bv).toArray) W := fun W => by kernel_rfl
  have HB0 : Hid ((blkL 0).length = 16) := blkL_len 0
  generalize blkL 0 = B0 at hz16 HB0
  go_enter Try.func51, Try.ntmps51
  go_wp2_with fail
  generalize hV : w.alloc _ = W0
  have F0 : Hid (W0.heap[w.heap.size]? = some (.cells (B0.map bv).toArray 23 (0, 0))) := heap_of_alloc hV
  have FB := Lib.hid (below_of_alloc hV (Nat.le_refl w.heap.size))
  clear hV
  refine (HF.out W0).mono ?_
  rintro e w1 ⟨rfl, hb1⟩
  have P0 := Lib.hid ((hb1.block _ (lt_of_heap F0.out)).trans F0.out)
  have PB := Lib.hid (FB.out.step hb1)
  clear hb1 F0 FB
  go_wp2_with (first
    | (refine wpList_st rfl 23 (.tmp 4) (.tmp 12) rfl (store_arr (cs := Z.map bv) hi16.out (bv_one _) (old := B0.map bv) P0.out (by rw [List.length_map, List.length_map, HB0.out, HZL.out])) ?_)
    | fail)
  have hres := setRow_heap w1 w.heap.size _ (Z.map bv).toArray 23 _ P0.out
  exact bodyPost_ret (results_cell_row (P := Try.prog) rfl _ _ w.heap.size 23 (Z.map bv).toArray (0, 0) _ rfl hres arr16B rfl (by rw [List.size_toArray, List.length_map, HZL.out]; exact i16B)) rfl ⟨rfl, PB.out.trans (grown_below (grown_setRow _ _ _) (Nat.le_refl _) PB.out.size)⟩
set_option maxHeartbeats 1000000 in
theorem refLen_any (a b : Int) (w : World) : Calls Try.prog 57 #[.int .i64 a, .int .i64 b] w fun e w' => ∃ v, e = .returned v ∧ w'.ownsRow w.heap.size 5 1 v 16 ((lenL a b).map bv) ∧ Below w.heap.size w w' := by
  have HA := Lib.hid (fun W => (refPutBig_any (len8 a) 8 W (len8_lt a) (by omega) : Calls Try.prog 68 #[.int .u64 (len8 a : Int), .int .i64 8] W _))
  have HB := Lib.hid (fun W => (refPutBig_any (len8 b) 8 W (len8_lt b) (by omega) : Calls Try.prog 68 #[.int .u64 (len8 b : Int), .int .i64 8] W _))
  have HP := Lib.hid (lenL_parts a b)
  have u1 := len8_mod a
  have u2 := len8_mod b
  have u3 := len8_wrap a
  have u4 := len8_wrap b
  have L1 := Lib.hid (putBig_len (len8 b) 8)
  generalize putBig (len8 a) 8 = X at HA HP
  generalize putBig (len8 b) 8 = Y at HB HP L1
  generalize lenL a b = Z at HP ⊢
  generalize len8 a = p at HA u1 u3
  generalize len8 b = q at HB u2 u4
  go_enter Try.func57, Try.ntmps57
  go_wp2_with fail
  refine (HA.out w).mono ?_
  rintro e w1 ⟨v1, rfl, hO1, hb1⟩
  have O1 := Lib.hid hO1; have B1 := Lib.hid hb1
  clear hO1 hb1
  go_wp2_with fail
  refine (HB.out w1).mono ?_
  rintro e w2 ⟨v2, rfl, hO2, hb2⟩
  obtain ⟨A2, c2, rfl, hl2, h21, h22, hr2⟩ := own_read hO2
  have R2 := Lib.hid hr2
  have O12 := Lib.hid (g_own_below O1.out hb2)
  have B2 := Lib.hid (B1.out.step hb2)
  clear hO2 hb2 hl2 h21 h22 hr2
  go_wp2_with (
    at_builtin
    refine wpList_app8 rfl (.tmp 8) (.tmp 12) rfl w.heap.size v1 8 X rfl O12.out A2 8 c2 w2.heap.size Y rfl R2.out L1.out (by omega) B2.out.size ?_
    rintro v3 w3 hown hgr
    rw [HP.out] at hown
    have O3 := Lib.hid hown
    have B3 := Lib.hid (B2.out.grown hgr B2.out.size (g_own_ge O12.out (Nat.le_refl _)))
    clear hown hgr)
  go_ret
  exact ⟨_, rfl, O3.out, B3.out⟩
end Go.Proofs.Ytjmpbcfbfbjenaa

/- Rows of rows of bytes that come in. -/
namespace Go.Proofs.Ytjmpbcfbfbjenaa
open Go.RowKit Go.ChangeShapes Go.WideShapes Go.ChangeAt
set_option maxRecDepth 100000
set_option linter.unusedVariables false
theorem open_bytes_cs {H : Type} {enc : TypeId × Value → H} {W : World} {fuel : Nat} {cs : List Value} {x : DataW H × List MemPlace}
    (hf : DataW.trod enc Try.prog W 0 (fun _ => true) true fuel 26 cs = some x) : ∃ A c bs, cs = [.slice A (bs : List UInt8).length c] ∧ Sl W A c bs := by
  rcases open_ints Try.underlying26 Try.underlying5 (by kernel_rfl) hf with ⟨hcs, _⟩ | ⟨x, l, c, zs, hcs, _, hl, hm, hz, hp, hcell, hwz⟩
  · exact ⟨none, 0, [], hcs, by simp, by simp [maxLen], .inl rfl⟩
  · obtain ⟨bs, rfl⟩ := bytes_of hwz
    have hlen : bs.length = c := by simpa using hz
    refine ⟨_, c, bs.take l, by rw [hcs, List.length_take, Nat.min_eq_left (by omega)], by rw [List.length_take]; omega, hm, ?_⟩
    by_cases h0 : l = 0
    · subst h0; exact .inl (by simp)
    · have hc0 := hcell 0 (by simp; omega)
      obtain ⟨b, o, spot⟩ := x
      have hspot : spot = none := by simpa [Addr.add] using World.cell?_spot hc0
      subst hspot
      refine .inr ⟨b, o, rfl, ?_, fun j u hu => ?_⟩
      · rcases Nat.lt_or_ge b W.heap.size with hlt | hge
        · exact hlt
        · rw [add_none] at hc0
          simp [World.cell?, Array.getElem?_eq_none hge] at hc0
      · rw [List.getElem?_map, List.getElem?_take] at hu
        split at hu
        · rename_i hj
          have hjl : j < bs.length := by omega
          have hc := hcell j (by simpa using hjl)
          rw [add_none] at hc
          rw [hc]
          rw [List.getElem?_eq_getElem hjl] at hu
          simp [hjl, List.getD] at hu ⊢
          exact hu
        · simp at hu
abbrev Part := Option Addr × Nat × List UInt8
def partV (q : Part) : Value := .slice q.1 q.2.2.length q.2.1
/-- what a walk is told of a row of rows of bytes that came in -/
def PartsAt (w : World) (y : Option Addr × Nat × List Part) : Prop :=
  y.2.2.length ≤ y.2.1 ∧ y.2.1 ≤ maxLen ∧ (∀ q ∈ y.2.2, Sl w q.1 q.2.1 q.2.2) ∧ RowAt w w.heap.size y.1 (y.2.2.map partV)
theorem build_parts {α : Type} {P : Nat → α → Prop} (n : Nat) (h : ∀ i, i < n → ∃ q, P i q) : ∃ l : List α, l.length = n ∧ ∀ i q, l[i]? = some q → P i q := by
  induction n with
  | zero => exact ⟨[], rfl, fun i q hq => by simp at hq⟩
  | succ n ih =>
    obtain ⟨l, hl, hP⟩ := ih (fun i hi => h i (by omega))
    obtain ⟨q, hq⟩ := h n (by omega)
    refine ⟨l ++ [q], by simp [hl], fun i r hr => ?_⟩
    by_cases hi : i < n
    · rw [List.getElem?_append_left (by omega)] at hr; exact hP i r hr
    · have hlt := (List.getElem?_eq_some_iff.1 hr).1
      simp at hlt
      have : i = n := by omega
      subst this
      rw [List.getElem?_append_right (by omega), hl, Nat.sub_self] at hr
      simp at hr; rw [← hr]; exact hq
theorem open_____uint8 {H : Type} {enc : TypeId × Value → H} {W : World} {base : Nat} {v : Value} {d : DataW H} {p : List MemPlace}
    (hv : Value.okWide Try.prog W .any base 112 v) (h : DataW.Trod enc Try.prog W 0 (fun _ => true) true 112 v d p) :
    ∃ y : Option Addr × Nat × List Part, v = .slice y.1 y.2.2.length y.2.1 ∧ PartsAt W y := by
  obtain ⟨a0, len0, cap0, rfl⟩ := okWide_slice Try.underlying112 hv
  obtain ⟨fuel, hf⟩ := h
  have hc1 : Try.prog.cellsOf 26 = 1 := by kernel_rfl
  rcases DataW.trod_slice Try.underlying112 hf with ⟨hcs, _⟩ | ⟨a, len, cap, elems, rest, n, _, hcs, _, _, hl, hm, hlen, hel, _, _⟩
  · simp [Value.cells] at hcs
    obtain ⟨rfl, rfl, rfl⟩ := hcs
    exact ⟨(none, 0, []), rfl, by simp, by simp [maxLen], by simp, .inl rfl⟩
  · simp [Value.cells] at hcs
    obtain ⟨rfl, rfl, rfl⟩ := hcs
    have each : ∀ i, i < len0 → ∃ q : Part, W.cell? (a.add i) = some (partV q) ∧ Sl W q.1 q.2.1 q.2.2 := by
      intro i hi
      have h1 := hel i hi
      rw [List.getElem?_eq_getElem (by omega), hc1, Nat.mul_one, Option.bind_eq_some_iff] at h1
      obtain ⟨cs', hcs, hy'⟩ := h1
      obtain ⟨A, c, bs, rfl, hs⟩ := open_bytes_cs hy'
      exact ⟨(A, c, bs), cell_of_cells?_one hcs, hs⟩
    obtain ⟨ps, hpl, hps⟩ := build_parts len0 each
    refine ⟨(some a, cap0, ps), by simp [hpl], by simp [hpl]; exact hl, hm, ?_, ?_⟩
    · intro q hq
      obtain ⟨i, hi⟩ := List.getElem?_of_mem hq
      exact (hps i q hi).2
    · by_cases h0 : len0 = 0
      · exact .inl (by simp [List.eq_nil_of_length_eq_zero (l := ps) (by omega)])
      · obtain ⟨q0, hc0, _⟩ := each 0 (by omega)
        obtain ⟨b, o, spot⟩ := a
        have hspot : spot = none := by simpa [Addr.add] using World.cell?_spot hc0
        subst hspot
        refine .inr ⟨b, o, rfl, ?_, fun j u hu => ?_⟩
        · rcases Nat.lt_or_ge b W.heap.size with hlt | hge
          · exact hlt
          · rw [add_none] at hc0
            simp [World.cell?, Array.getElem?_eq_none hge] at hc0
        · rw [List.getElem?_map] at hu
          cases hq : ps[j]? with
          | none => simp [hq] at hu
          | some q =>
            simp [hq] at hu
            rw [← hu, ← add_none]
            exact (hps j q hq).1
end Go.Proofs.Ytjmpbcfbfbjenaa

/- Two operations of a region that draws its order, free to go in either order, whose ways meet again: what is behind them once. Over any program. -/
namespace Go.Proofs.Ytjmpbcfbfbjenaa
open Go.RowKit
set_option maxRecDepth 100000
set_option linter.unusedVariables false
theorem put_comm' (a : Act) {d1 d2 : Nat} (h : d1 ≠ d2) (v1 v2 : Value) : (a.put (some d2) v2).put (some d1) v1 = (a.put (some d1) v1).put (some d2) v2 := by
  simp only [Act.put]
  rw [Array.setIfInBounds_comm _ _ (Ne.symm h)]
/-- what an operation owes -/
def Does (P : Program) (ops : Array Oper) (Q : Exit → Act → World → Prop) (o : Oper) (K : Act → World → Prop) (a : Act) (w : World) : Prop :=
  if Region.wanted o (yielded ops a.tmps) = true then Oper.wp P o a w K Q else K (a.put o.dst undef) w
theorem regB_join {P : Program} {ops : Array Oper} {Q : Exit → Act → World → Prop} (i j d1 d2 : Nat) {o o' : Oper} {B fuel : Nat} {listed : Array Bool} {a : Act} {w : World} (J : Value → Value → World → Prop)
    (hi : ops[i]? = some o) (hj : ops[j]? = some o') (hne : d1 ≠ d2) (hij : i ≠ j)
    (hr : Region.ready .any ops listed = [i, j]) (hr1 : Region.ready .any ops (listed.setIfInBounds i true) = [j]) (hr2 : Region.ready .any ops (listed.setIfInBounds j true) = [i])
    (h1 : ∀ K : Act → World → Prop, Hid (∀ v1 w1, Below B w w1 → (∀ K2 : Act → World → Prop, Hid (∀ v2 w2, Below B w1 w2 → J v1 v2 w2 → K2 ((a.put (some d1) v1).put (some d2) v2) w2) → Does P ops Q o' K2 (a.put (some d1) v1) w1) → K (a.put (some d1) v1) w1) → Does P ops Q o K a w)
    (h2 : ∀ K : Act → World → Prop, Hid (∀ v2 w1, Below B w w1 → (∀ K2 : Act → World → Prop, Hid (∀ v1 w2, Below B w1 w2 → J v1 v2 w2 → K2 ((a.put (some d2) v2).put (some d1) v1) w2) → Does P ops Q o K2 (a.put (some d2) v2) w1) → K (a.put (some d2) v2) w1) → Does P ops Q o' K a w)
    (h : ∀ v1 v2 w', Below B w w' → J v1 v2 w' → RegB P ops Q B fuel ((listed.setIfInBounds i true).setIfInBounds j true) ((a.put (some d1) v1).put (some d2) v2) w') :
    RegB P ops Q B (fuel + 2) listed a w := by
  refine regB_eff2 i j hi hj hr (fun K hK => h1 K fun v1 w1 hE hst => ?_) (fun K hK => h2 K fun v2 w1 hE hst => ?_)
  · exact hK.out _ _ hE (regB_eff j hj hr1 fun K2 hK2 => hst K2 fun v2 w2 hE2 hJ => hK2.out _ _ hE2 (h v1 v2 w2 (hE.trans hE2) hJ))
  · refine hK.out _ _ hE (regB_eff i hi hr2 fun K2 hK2 => hst K2 fun v1 w2 hE2 hJ => hK2.out _ _ hE2 ?_)
    rw [put_comm' a hne, Array.setIfInBounds_comm _ _ (Ne.symm hij)]
    exact h v1 v2 w2 (hE.trans hE2) hJ
section
variable {P : Program} {ops : Array Oper} {Q : Exit → Act → World → Prop}
theorem inv_anyH {S : World → Prop} (J : (Nat → Bool) → Act → World → Prop) (hb : below? ops.toList 0 = true) (steps : AllOps (StepOK P ops Q J) ops.toList 0) (hS : ∀ L a w, J L a w → S w) (done : ∀ L a w, (∀ j, L j = true) → J L a w → Q .normal a w) :
    ∀ (fuel : Nat) (listed : Array Bool) (a : Act) (w : World), listed.size = ops.size → listed.toList.count false ≤ fuel → J (fun j => listed.getD j true) a w → wpAnyH P .any ops Q S fuel listed a w := by
  have fin : ∀ (listed : Array Bool) (a : Act) (w : World), listed.size = ops.size → J (fun j => listed.getD j true) a w → Region.ready .any ops listed = [] → Q .normal a w := by
    intro listed a w hs hJ hr
    refine done _ a w (fun j => ?_) hJ
    induction j using Nat.strongRecOn with
    | ind j ih =>
      by_cases hj : j < ops.size
      · cases hl : listed.getD j true with
        | true => rfl
        | false =>
          exfalso
          have hm : j ∈ Region.ready .any ops listed := by
            refine mem_ready.2 ⟨hl, ops[j], by simp [hj], fun e he hbi => ?_⟩
            have hlt := below?_get (k := 0) (i := j) (o := ops[j]) hb (by simp [hj]) e he hbi
            rw [Nat.zero_add] at hlt
            have h1 := ih e.on hlt
            have h2 : e.on < listed.size := by omega
            simpa [h2] using h1
          rw [hr] at hm; cases hm
      · have : listed.size ≤ j := by omega
        simp [Array.getElem?_eq_none this]
  intro fuel
  induction fuel with
  | zero =>
    intro listed a w hs hc hJ
    have hr : Region.ready .any ops listed = [] := by
      rw [List.eq_nil_iff_forall_not_mem]
      intro i hi
      have h0 := (mem_ready.1 hi).1
      have hlt : i < listed.size := by
        rcases Nat.lt_or_ge i listed.size with h | h
        · exact h
        · simp [Array.getElem?_eq_none h] at h0
      have hf : listed[i] = false := by simpa [hlt] using h0
      have hmem : false ∈ listed.toList := by rw [← hf]; simp
      have := List.count_pos_iff.2 hmem
      omega
    exact ⟨hr, fin listed a w hs hJ hr⟩
  | succ fuel ih =>
    intro listed a w hs hc hJ
    refine ⟨fin listed a w hs hJ, fun i hi => ?_⟩
    obtain ⟨h0, o, ho, hall⟩ := mem_ready.1 hi
    have hlt : i < listed.size := by
      rcases Nat.lt_or_ge i listed.size with h | h
      · exact h
      · simp [Array.getElem?_eq_none h] at h0
    have hst := steps.get (i := i) (o := o) (by simpa using ho)
    rw [Nat.zero_add] at hst
    refine wpOp_step ho fun K hK => hst _ a w hJ h0 (fun e he hbi => ?_) K fun a' w' hJ' => hK a' w' ⟨hS _ _ _ hJ', ?_⟩
    · have := hall e he hbi
      rcases Nat.lt_or_ge e.on listed.size with h' | h'
      · simpa [h'] using this
      · simp [Array.getElem?_eq_none h']
    · refine ih _ a' w' (by simpa using hs) ?_ ?_
      · have hf : listed[i] = false := by simpa [hlt] using h0
        rw [Array.toList_setIfInBounds, List.count_set (by simpa using hlt)]
        have e1 : (listed.toList[i]'(by simpa using hlt)) = false := by simpa using hf
        rw [e1, if_pos (by rfl), if_neg (by decide)]
        omega
      · have e : (fun j => (listed.setIfInBounds i true).getD j true) = (fun j => if j = i then true else listed.getD j true) := funext fun j => getD_set_true listed i j
        rw [e]; exact hJ'
theorem regB_inv {B fuel : Nat} {listed : Array Bool} {a : Act} {w : World} (J : (Nat → Bool) → Act → World → Prop) (hs : listed.size = ops.size) (hc : listed.toList.count false ≤ fuel) (hb : below? ops.toList 0 = true)
    (hS : ∀ L a' w', J L a' w' → Below B w w') (h0 : J (fun j => listed.getD j true) a w) (steps : AllOps (StepOK P ops Q J) ops.toList 0) (done : ∀ L a w, (∀ j, L j = true) → J L a w → Q .normal a w) : RegB P ops Q B fuel listed a w :=
  inv_anyH J hb steps hS done fuel listed a w hs hc h0
end
end Go.Proofs.Ytjmpbcfbfbjenaa

/- The contracts of sha.finish, sha.Sum. -/
namespace Go.Proofs.Ytjmpbcfbfbjenaa
open Go.RowKit
set_option maxRecDepth 100000
set_option linter.unusedVariables false
set_option linter.unusedSimpArgs false
/-- the sum of a message of n bytes, of which h has all whole blocks and r the others -/
def finishL (h : List W32) (r : List UInt8) (n : Nat) : List UInt8 := outL (wholeN h (r ++ padL n) ((r.length + (padK n + 8)) / 64))
theorem ne_own (a k : Nat) {n c : Nat} : some a ≠ (Value.slice (some ⟨a + k + 1, 0, none⟩) n c).ownBlock := by
  simp [Value.ownBlock]; omega
theorem ge_own (a k : Nat) {n c : Nat} : ∀ g, (Value.slice (some ⟨a + k, 0, none⟩) n c).ownBlock = some g → a ≤ g := by
  intro g hg; simp [Value.ownBlock] at hg; omega
theorem sl_mk {w : World} {A : Option Addr} {n c : Nat} {bs : List UInt8} (hl : bs.length = n) (h1 : n ≤ c) (h2 : c ≤ maxLen) (hr : RowAt w w.heap.size A (bs.map bv)) : Sl w A c bs := ⟨by omega, h2, hr⟩
end Go.Proofs.Ytjmpbcfbfbjenaa

/- Own rows of bytes, opened, and turned at one place. -/
namespace Go.Proofs.Ytjmpbcfbfbjenaa
open Go.RowKit
set_option maxRecDepth 100000
set_option linter.unusedVariables false
set_option linter.unusedSimpArgs false
theorem o_sl_set {w : World} {g c k : Nat} {bs : List UInt8} {cur : Array Value} {t : TypeId} {fr : Nat × Nat} {x : UInt8} (h : Sl w (some ⟨g, 0, none⟩) c bs) (hc : w.heap[g]? = some (.cells cur t fr)) (hk : k < bs.length) :
    Sl (w.setCell ⟨g, k, none⟩ (.int .u8 (x.toNat : Int))) (some ⟨g, 0, none⟩) c (bs.set k x) := by
  obtain ⟨h1, h2, h3⟩ := h
  obtain ⟨b, o, he, hb, hcell⟩ := h3.at_ (by simpa using (by omega : 0 < bs.length))
  injection he with he
  injection he with he1 he2
  subst he1; subst he2
  refine ⟨by simpa using h1, h2, .inr ⟨g, 0, rfl, by simpa using hb, fun j u hu => ?_⟩⟩
  rw [List.getElem?_map, List.getElem?_set] at hu
  by_cases hj : k = j
  · subst hj
    simp [hk] at hu
    have hck := hcell k (bv bs[k]) (by simp [hk])
    rw [Nat.zero_add] at hck ⊢
    have hsz : k < cur.size := by
      simp only [World.cell?, hc] at hck
      rcases Nat.lt_or_ge k cur.size with h | h
      · exact h
      · simp [Array.getElem?_eq_none h] at hck
    simp [World.cell?, World.setCell, Array.getElem?_modify, hc, hsz, ← hu, bv]
  · rw [if_neg hj, ← List.getElem?_map] at hu
    rw [World.cell?_setCell_other _ _ _ _ (fun e => hj (by injection e with e1 e2; omega))]
    exact hcell j u hu
theorem o_open {w : World} {base : Nat} {v : Value} {n : Nat} {bs : List UInt8} (h : w.ownsRow base 5 1 v n (bs.map bv)) (hn : 0 < n) :
    ∃ g cap cur, v = .slice (some ⟨g, 0, none⟩) n cap ∧ base ≤ g ∧ w.heap[g]? = some (.cells cur 5 (0, 0)) ∧ Sl w (some ⟨g, 0, none⟩) cap bs ∧ bs.length = n := by
  obtain ⟨h0, ⟨rfl, h00⟩ | ⟨g, cap, cur, rfl, hg, hcur, hnc, hcm, hcs, htk⟩⟩ := h
  · omega
  rw [Nat.mul_one] at htk
  rw [List.length_map, Nat.mul_one] at h0
  refine ⟨g, cap, cur, rfl, hg, hcur, ⟨by omega, hcm, .inr ⟨g, 0, rfl, lt_of_heap hcur, fun j u hu => ?_⟩⟩, h0⟩
  have hj : j < n := by have h1 := (List.getElem?_eq_some_iff.1 hu).1; rw [List.length_map] at h1; omega
  rw [← htk, List.getElem?_take_of_lt hj] at hu
  rw [Nat.zero_add]
  simpa [World.cell?, hcur] using hu
theorem o_sl_cell {w : World} {g c k : Nat} {b : List UInt8} (h : Sl w (some ⟨g, 0, none⟩) c b) (hk : k < b.length) : w.cell? ⟨g, k, none⟩ = some (.int .u8 ((b.getD k 0).toNat : Int)) := by
  obtain ⟨b1, o1, he, _, hc⟩ := h.2.2.at_ (by rw [List.length_map]; omega)
  injection he with he
  injection he with he1 he2
  subst he1; subst he2
  have := hc k (bv b[k]) (by simp [hk])
  rw [Nat.zero_add] at this
  rw [this]; simp [List.getD, hk, bv]
theorem o_load_slice {P : Program} {ty e : TypeId} (hu : P.underlying ty = some (.slice e)) {W : World} {a : Addr} {v : Value} (h : W.cell? a = some v) :
    (Instr.loadAt ty (.pointer (some a))).run P W = .ok v W := by
  simp [Instr.loadAt, Instr.sureAddr, loadVar, isAgg, run_underlying hu, h]
theorem o_open' {w : World} {base : Nat} {v : Value} {n : Nat} {bs : List UInt8} (h : w.ownsRow base 5 1 v n (bs.map bv)) (hn : 0 < n) :
    ∃ g cap cur, v = .slice (some ⟨g, 0, none⟩) n cap ∧ base ≤ g ∧ w.heap[g]? = some (.cells cur 5 (0, 0)) ∧ Sl w (some ⟨g, 0, none⟩) cap bs ∧ n ≤ cap ∧ cur.size = cap ∧ bs.length = n := by
  obtain ⟨h0, ⟨rfl, h00⟩ | ⟨g, cap, cur, rfl, hg, hcur, hnc, hcm, hcs, htk⟩⟩ := h
  · omega
  rw [Nat.mul_one] at htk
  rw [List.length_map, Nat.mul_one] at h0
  refine ⟨g, cap, cur, rfl, hg, hcur, ⟨by omega, hcm, .inr ⟨g, 0, rfl, lt_of_heap hcur, fun j u hu => ?_⟩⟩, hnc, by simpa using hcs, h0⟩
  have hj : j < n := by have h1 := (List.getElem?_eq_some_iff.1 hu).1; rw [List.length_map] at h1; omega
  rw [← htk, List.getElem?_take_of_lt hj] at hu
  rw [Nat.zero_add]
  simpa [World.cell?, hcur] using hu
end Go.Proofs.Ytjmpbcfbfbjenaa

/- gcm: wrong, and hash. -/
namespace Go.Proofs.Ytjmpbcfbfbjenaa
open Go.RowKit
set_option maxRecDepth 100000
set_option linter.unusedVariables false
set_option linter.unusedSimpArgs false
/-- a key that enciphers, and has rounds -/
def GKey (w : World) (kp : Value) (E : List UInt8 → List UInt8) : Prop :=
  Enc w kp E ∧ ∃ n : Nat, 0 < n ∧ n ≤ 14 ∧ ∀ W, Below w.heap.size w W → Calls Try.prog 69 #[kp] W fun e w' => e = .returned (.int .i64 (n : Int)) ∧ W = w'
theorem GKey.ext {w w' : World} {kp : Value} {E : List UInt8 → List UInt8} (h : GKey w kp E) (hb : Below w.heap.size w w') : GKey w' kp E := by
  obtain ⟨h1, n, h2, h3, h4⟩ := h
  exact ⟨h1.ext hb, n, h2, h3, fun W hW => h4 W (hb.step hW)⟩
theorem KeyAt.gkey {w : World} {g n : Nat} {ws : List W32} (h : KeyAt w g ws n) (hn : 1 ≤ n) (hn2 : n ≤ 14) : GKey w (.pointer (some ⟨g, 0, none⟩)) (encL ws n) :=
  ⟨h.enc hn hn2, n, hn, hn2, fun W hW => rounds_any g ws n W (h.ext hW)⟩
set_option maxHeartbeats 1000000 in
theorem gwrong_any (kp : Value) (E : List UInt8 → List UInt8) (A : Option Addr) (n c : Nat) (w : World) (hE : GKey w kp E) (h0 : 0 < n) :
    Calls Try.prog 50 #[kp, .slice A n c] w fun e w' => e = .returned (.int .i64 0) ∧ w = w' := by
  obtain ⟨_, r, hr, hr2, hR⟩ := hE
  have RN := Lib.hid (hR w (Below.refl _ _))
  have t1 : ((r : Int) == 0) = false := by simp; omega
  have t2 : ((n : Int) == 0) = false := by simp; omega
  clear hR hr h0
  go_enter Try.func50, Try.ntmps50
  go_wp2_with fail
  refine RN.out.mono ?_
  rintro e w1 ⟨rfl, rfl⟩
  go_wp2
  go_ret
  exact ⟨rfl, rfl⟩
set_option maxHeartbeats 1000000 in
theorem gwrong_iv (kp : Value) (E : List UInt8 → List UInt8) (A : Option Addr) (c : Nat) (w : World) (hE : GKey w kp E) :
    Calls Try.prog 50 #[kp, .slice A 0 c] w fun e w' => e = .returned (.int .i64 6) ∧ w = w' := by
  obtain ⟨_, r, hr, hr2, hR⟩ := hE
  have RN := Lib.hid (hR w (Below.refl _ _))
  have t1 : ((r : Int) == 0) = false := by simp; omega
  clear hR hr
  go_enter Try.func50, Try.ntmps50
  go_wp2_with fail
  refine RN.out.mono ?_
  rintro e w1 ⟨rfl, rfl⟩
  go_wp2
  go_ret
  exact ⟨rfl, rfl⟩
/-- bytes with noughts behind, to whole blocks -/
def whG (b : List UInt8) : List UInt8 := b ++ List.replicate (padN b.length) 0
def joinW (ps : List Part) : List UInt8 := ps.flatMap fun q => whG q.2.2
theorem joinW_snoc (ps : List Part) (i : Nat) (q : Part) (h : ps[i]? = some q) : joinW (ps.take (i + 1)) = joinW (ps.take i) ++ whG q.2.2 := by
  rw [List.take_add_one, h, joinW, List.flatMap_append]; simp [joinW]
theorem padN_lt (n : Nat) : padN n < 16 := by unfold padN; omega
set_option maxHeartbeats 4000000 in
theorem ghashR_any (kp : Value) (E : List UInt8 → List UInt8) (A : Option Addr) (C N : Nat) (ps : List Part) (w : World) (hE : Enc w kp E) (hy : PartsAt w (A, C, ps)) (hN : ps.length = N) (hN3 : N ≤ 3) (hL : ∀ q ∈ ps, q.2.2.length ≤ 100000) :
    Calls Try.prog 52 #[kp, .slice A N C] w fun e w' => e = .returned (.agg ((gsumL (E zerB) (joinW ps)).map bv).toArray) ∧ Below w.heap.size w w' := by
  have hz : ∀ W, (zeroValue 23).run Try.prog W = .ok (.agg zeros16.toArray) W := fun W => by kernel_rfl
  have HZL : Hid (zeros16.length = 16) := rfl
  have BD : Hid (∀ W, (Instr.build 23 #[]).run Try.prog W = .ok (.agg (zerB.map bv).toArray) W) := fun W => by kernel_rfl
  have ENC := Lib.hid (fun W hW => hE.2 W hW zerB rfl)
  have HEL := Lib.hid (hE.1 zerB rfl)
  have GS := Lib.hid (fun A n c bs W hl hn hS => gsum_any (E zerB) A n c bs W HEL.out hl hn hS)
  generalize E zerB = EZ at ENC HEL GS ⊢
  generalize zerB.map bv = ZB at BD ENC
  generalize zeros16 = Z at hz HZL
  obtain ⟨h1, h2, h3, h4⟩ := hy
  simp only at h1 h2 h3 h4
  rw [hN] at h1
  have HN := Lib.hid hN; have H3 := Lib.hid h3; have H4 := Lib.hid h4; have HL := Lib.hid hL
  have GL := Lib.hid (gsumL_len EZ (joinW ps))
  obtain ⟨Q, HQ⟩ : ∃ Q, Hid (gsumL EZ (joinW ps) = Q) := ⟨_, rfl⟩
  rw [HQ.out] at GL ⊢
  clear hE hN h1 h2 h3 h4 hL
  have G := Lib.hid (heap_alloc_new' w (.cells Z.toArray 23))
  have GB : Hid (Below w.heap.size w (w.alloc (.cells Z.toArray 23))) := (Below.refl _ _).alloc (Nat.le_refl _) _
  have hs1 : Hid (w.heap.size + 1 ≤ (w.alloc (.cells Z.toArray 23)).heap.size) := by show _ ≤ _; simp
  go_enter Try.func52, Try.ntmps52
  go_upto_region 1 with (fail)
  generalize w.alloc _ = W0 at G GB hs1 ⊢
  go_wp2_with fail
  go_loopw [5, 10] (fun va vi wr => ∃ (i k : Nat) (A' : Option Addr) (c' : Nat), i ≤ N ∧ k ≤ 100016 * i ∧ vi = .int .i64 (i : Int) ∧ va = .slice A' k c' ∧ Hid ((joinW (ps.take i)).length = k) ∧ Hid (wr.ownsRow (w.heap.size + 1) 5 1 (.slice A' k c') k ((joinW (ps.take i)).map bv)) ∧ Hid (Below w.heap.size w wr) ∧
      Hid (wr.heap[w.heap.size]? = some (.cells Z.toArray 23 (0, 0)))) (fun _ i _ => N - (intOf i).toNat)
  case atStart => exact ⟨0, 0, none, 0, by omega, by omega, rfl, rfl, rfl, World.ownsRow_nil _ _ _ _, GB, G⟩
  case round =>
    clear G GB hs1
    obtain ⟨i, k, A', c', hi, hk, rfl, rfl, HK, HO, HB, HR⟩ := hrel
    by_cases hlt : i < N
    · have q1 : (i : Int) < (N : Int) := by omega
      obtain ⟨q, hq⟩ : ∃ q, ps[i]? = some q := ⟨_, List.getElem?_eq_getElem (by rw [HN.out]; exact hlt)⟩
      obtain ⟨b, o, rfl, hb, hc⟩ := H4.out.at_ (by rw [List.length_map, HN.out]; omega)
      have hSq := H3.out q (List.mem_of_getElem? hq)
      have hLq := HL.out q (List.mem_of_getElem? hq)
      have c1 : wr.cell? ⟨b, o + i, none⟩ = some (partV q) := (HB.out.cell hb).trans (hc i _ (by rw [List.getElem?_map, hq]; rfl))
      have hj := joinW_snoc ps i q hq
      obtain ⟨Aq, cq, bq⟩ := q
      obtain ⟨m, hm⟩ : ∃ m, bq.length = m := ⟨_, rfl⟩
      have c1' : wr.cell? ⟨b, o + i, none⟩ = some (.slice Aq m cq) := by rw [c1, ← hm]; rfl
      simp only at hSq hLq hj
      rw [hm] at hLq
      have HJ := Lib.hid hj; have HM := Lib.hid hm; have HSQ := Lib.hid (hSq.below HB.out); have HC1 := Lib.hid c1'
      have hs2 : Hid (w.heap.size + 1 ≤ wr.heap.size) := lt_of_heap HR.out
      have hkm : k + m ≤ 2147483647 := by omega
      clear hj hm hSq hq hc c1 c1' hb
      have c1 := HC1.out
      go_upto_region 6 with (
        at_builtin
        refine wpList_app8 rfl (.tmp 14) (.tmp 15) rfl (w.heap.size + 1) _ k (joinW (ps.take i)) rfl ?_ Aq m cq wr.heap.size bq rfl ?_ ?_ ?_ ?_ ?_
        · exact HO.out
        · exact HSQ.out.2.2
        · exact HM.out
        · exact hkm
        · exact hs2.out
        rintro v3 w3 hown hgr
        have HO3 := Lib.hid hown
        have HB3 : Hid (Below w.heap.size w w3) := HB.out.grown hgr HB.out.size (c_own_ge HO.out (Nat.le_succ _))
        have HR3 := Lib.hid ((hgr.block _ (lt_of_heap HR.out) (c_own_ne HO.out (Nat.lt_succ_self _))).trans HR.out)
        clear hown hgr)
      clear c1 HC1 HSQ HO HB HR hs2
      obtain ⟨A3, c3, rfl, hl3, h31, h32, hr3⟩ := own_read HO3.out
      clear hl3 h31 h32 hr3
      have hs3 : Hid (w.heap.size + 1 ≤ w3.heap.size) := lt_of_heap HR3.out
      have PD := Lib.hid (fun W => gpad_any m W (by omega))
      obtain ⟨p, hp⟩ : ∃ p, padN m = p := ⟨_, rfl⟩
      rw [hp] at PD
      have hp16 : p < 16 := by rw [← hp]; exact padN_lt m
      have HP := Lib.hid hp
      have hkm2 : k + m + p ≤ 2147483647 := by omega
      clear hp
      go_wp2_with fail
      refine (PD.out w3).mono ?_
      rintro e w4 ⟨rfl, rfl⟩
      go_upto_region 7 with (
        at_builtin
        refine wpList_app0 rfl (.tmp 17) (.tmp 20) rfl (w.heap.size + 1) _ (k + m) (joinW (ps.take i) ++ bq) rfl ?_ p rfl ?_ ?_ ?_
        · exact HO3.out
        · exact hkm2
        · exact hs3.out
        rintro v5 w5 hown hgr
        have HO5 := Lib.hid hown
        have HB5 : Hid (Below w.heap.size w w5) := HB3.out.grown hgr HB3.out.size (c_own_ge HO3.out (Nat.le_succ _))
        have HR5 := Lib.hid ((hgr.block _ (lt_of_heap HR3.out) (c_own_ne HO3.out (Nat.lt_succ_self _))).trans HR3.out)
        clear hown hgr)
      have HJ' : Hid (joinW (ps.take i) ++ bq ++ List.replicate p 0 = joinW (ps.take (i + 1))) := by show _ = _; rw [HJ.out, whG, HM.out, HP.out, List.append_assoc]
      have HO5' := HO5.out
      rw [HJ'.out] at HO5'
      obtain ⟨k', hk'⟩ : ∃ k', k + m + p = k' := ⟨_, rfl⟩
      rw [hk'] at HO5'
      obtain ⟨A5, c5, rfl, hl5, h51, h52, hr5⟩ := own_read HO5'
      have HO6 := Lib.hid HO5'
      have HL5 := Lib.hid hl5
      clear h51 h52 hr5 HO5' HO5 HO3 hl5
      have hk2 : k' ≤ 100016 * (i + 1) := by omega
      clear hkm hkm2
      go_wp2
      go_roundw
      case rel => exact ⟨i + 1, k', A5, c5, by omega, hk2, by go_num, rfl, HL5, HO6, HB5, HR5⟩
      case measure => simp [intOf]; omega
    · have hiN : i = N := by omega
      have HO' := HO.out
      have HK' := HK.out
      rw [List.take_of_length_le (by rw [HN.out]; omega)] at HO' HK'
      obtain ⟨A3, c3, he, hl3, h31, h32, hr3⟩ := own_read HO'
      injection he with he1 he2 he3
      subst he1; subst he3
      have HS3 := Lib.hid (sl_mk hl3 h31 h32 hr3)
      have HKJ := Lib.hid HK'
      clear hl3 h31 h32 hr3 he2 HO HO' HK HK' hiN
      generalize joinW ps = JW at HS3 HKJ HQ
      have q1 : ¬ ((i : Int) < (N : Int)) := by omega
      go_wp2_with (first
        | (refine wpList_run (o := ⟨some 24, _, _, _, _, _⟩) rfl (v := .agg ZB.toArray) (w' := wr) (exec_bld rfl (by simp only [List.map_toArray, List.map_nil]; exact BD.out wr)) ?_)
        | fail)
      refine (ENC.out wr HB.out).mono ?_
      rintro e w2 ⟨rfl, hb⟩
      have B2 : Hid (Below w.heap.size w w2) := HB.out.step hb
      have R2 := Lib.hid ((hb.block _ (lt_of_heap HR.out)).trans HR.out)
      have S2 := Lib.hid (HS3.out.below hb)
      clear hb HB HR HS3 ENC
      go_wp2_with fail
      refine (GS.out A' k c' JW w2 HKJ.out (by omega) S2.out).mono ?_
      rw [HQ.out]
      rintro e w3 ⟨rfl, hb⟩
      have B3 : Hid (Below w.heap.size w w3) := B2.out.step hb
      have R3 := Lib.hid ((hb.block _ (lt_of_heap R2.out)).trans R2.out)
      clear hb B2 R2 S2 GS
      go_wp2_with (first
        | (refine wpList_st rfl 23 (.tmp 4) (.tmp 27) rfl (store_arr (cs := Q.map bv) (i16c Q GL.out) (bv_one _) R3.out (by rw [List.length_map, GL.out]; exact HZL.out)) ?_))
      have hres := setRow_heap w3 w.heap.size _ (Q.map bv).toArray 23 _ R3.out
      exact bodyPost_ret (results_cell_row (P := Try.prog) rfl _ _ w.heap.size 23 (Q.map bv).toArray (0, 0) _ rfl hres arr16B rfl (by rw [List.size_toArray]; exact i16c Q GL.out)) rfl ⟨rfl, B3.out.trans (grown_below (grown_setRow _ _ _) (Nat.le_refl _) B3.out.size)⟩
end Go.Proofs.Ytjmpbcfbfbjenaa

/- gcm: counter, and crypt. -/
namespace Go.Proofs.Ytjmpbcfbfbjenaa
open Go.RowKit
set_option maxRecDepth 100000
set_option linter.unusedVariables false
set_option linter.unusedSimpArgs false
/-- the first counter and n more -/
def cntG (F : List UInt8) (n : Nat) : List UInt8 := F.take 12 ++ putBig (big (F.drop 12) + n) 4
theorem cntG_len (F : List UInt8) (n : Nat) (h : F.length = 16) : (cntG F n).length = 16 := by simp [cntG, putBig_len, h]
theorem cntG_splice (F : List UInt8) (n : Nat) (h : F.length = 16) : splice (F.map bv) 12 ((putBig (big (F.drop 12) + n) 4).map bv) = (cntG F n).map bv := by
  have h1 : F = F.take 12 ++ F.drop 12 := (List.take_append_drop 12 F).symm
  have h2 : (F.take 12).length = 12 := by rw [List.length_take, h]; rfl
  have h3 : (F.drop 12).length = 4 := by rw [List.length_drop, h]
  unfold cntG
  generalize big (F.drop 12) + n = x
  generalize F.take 12 = A at h1 h2 ⊢
  generalize F.drop 12 = D at h1 h3
  rw [h1, List.map_append, List.map_append]
  have := splice_split (A.map bv) (D.map bv) [] ((putBig x 4).map bv) (by simp [h3, putBig_len])
  rw [List.length_map, h2, List.append_nil, List.append_nil] at this
  exact this
theorem bigF_lt (D : List UInt8) (h : D.length = 4) : big D < 4294967296 := by
  unfold big
  rw [h, show 4 - 8 = 0 from rfl, List.drop_zero]
  have := bigN_lt D
  rw [h] at this
  simpa using this
set_option maxHeartbeats 2000000 in
theorem gcounter_any (F : List UInt8) (n : Nat) (w : World) (hF : F.length = 16) (hn : n ≤ 1000000) :
    Calls Try.prog 82 #[.agg (F.map bv).toArray, .int .i64 (n : Int)] w fun e w' => e = .returned (.agg ((cntG F n).map bv).toArray) ∧ Below w.heap.size w w' := by
  have hz : ∀ W, (zeroValue 23).run Try.prog W = .ok (.agg zeros16.toArray) W := fun W => by kernel_rfl
  have HZL : Hid (zeros16.length = 16) := rfl
  generalize zeros16 = Z at hz HZL
  have HFL := Lib.hid hF
  have D4 : Hid ((F.drop 12).length = 4) := by show _ = _; rw [List.length_drop, hF]
  have BG := Lib.hid (fun A c W h1 h2 hr => big_n A 4 c (F.drop 12) W D4.out h1 h2 hr)
  have hx := bigF_lt (F.drop 12) D4.out
  have PB := Lib.hid (fun W => putBig_any (big (F.drop 12) + n) 4 W (by omega) (by omega))
  have HSP := Lib.hid (cntG_splice F n hF)
  have HCL := Lib.hid (cntG_len F n hF)
  have HPL := Lib.hid (putBig_len (big (F.drop 12) + n) 4)
  generalize cntG F n = R at HSP HCL ⊢
  generalize putBig (big (F.drop 12) + n) 4 = T at PB HSP HPL
  obtain ⟨x, hx0⟩ : ∃ x, big (F.drop 12) = x := ⟨_, rfl⟩
  rw [hx0] at BG hx PB
  obtain ⟨y, hy⟩ : ∃ y, y = x + n := ⟨_, rfl⟩
  rw [← hy] at PB
  have u1 : (x : Int) + (n : Int) = (y : Int) := by omega
  have u2 : IntKind.u64.wrap (y : Int) = (y : Int) := by rw [IntKind.wrap_u64]; omega
  have u3 : IntKind.u64.wrap (n : Int) = (n : Int) := by rw [IntKind.wrap_u64]; omega
  have hy6 : (y : Int) ≤ 5000000000 := by omega
  clear hF hx0 hx hn hy
  have G := Lib.hid (heap2 w (.cells (F.map bv).toArray 23) (.cells Z.toArray 23))
  go_enter Try.func82, Try.ntmps82
  go_upto_region 1 with (fail)
  generalize hV : (w.alloc _).alloc _ = W0 at G ⊢
  clear hV
  have sl := arr_from arr16B s8 ⟨w.heap.size, 0, none⟩ .i64 12 (by omega) (by omega)
  rw [show (12 : Int).toNat = 12 from rfl, show cutA ⟨w.heap.size, 0, none⟩ 16 12 = ⟨w.heap.size, 12, none⟩ from by unfold cutA; rw [if_neg (by omega), Addr.add_mid]] at sl
  have H0 : Hid (W0.drew.heap[w.heap.size]? = _) := G.out.1
  have H1 : Hid (W0.drew.heap[w.heap.size + 1]? = _) := G.out.2.1
  have HB : Hid (Below w.heap.size w W0.drew) := G.out.2.2.drew
  have HX : Hid (Below w.heap.size W0.drew W0.drew) := Below.refl _ _
  have HSR : Hid (Sl W0.drew (some ⟨w.heap.size, 12, none⟩) 4 (F.drop 12)) := by
    have h := row_sub H0.out 12 4 (lt_of_heap H0.out)
    rw [List.take_of_length_le (by rw [D4.out]; omega)] at h
    exact ⟨by rw [D4.out]; omega, by decide, h⟩
  refine regB_start (w.heap.size) (by kernel_rfl) ?_
  try simp only [Act.put, List.setIfInBounds_toArray, List.set_cons_zero, List.set_cons_succ]
  refine regB_take (v := ?_) 0 (some 5) rfl rfl (by kernel_rfl) (by kernel_rfl) (by kernel_rfl) (fun _ _ _ h => h) (by rfl) (fun W hW => ?_) ?_
  rotate_left
  · (go_simp; try rfl)
  simp only [Act.put, List.setIfInBounds_toArray, List.set_cons_zero, List.set_cons_succ]
  refine regB_take (v := ?_) 1 (some 6) rfl rfl (by kernel_rfl) (by kernel_rfl) (by kernel_rfl) (fun _ _ _ h => h) (by rfl) (fun W hW => ?_) ?_
  rotate_left
  · (go_simp; try rfl)
  simp only [Act.put, List.setIfInBounds_toArray, List.set_cons_zero, List.set_cons_succ]
  refine regB_take (v := ?_) 3 (some 8) rfl rfl (by kernel_rfl) (by kernel_rfl) (by kernel_rfl) (fun _ _ _ h => h) (by rfl) (fun W hW => ?_) ?_
  rotate_left
  · (go_simp; try rfl)
  simp only [Act.put, List.setIfInBounds_toArray, List.set_cons_zero, List.set_cons_succ]
  refine regB_take (v := ?_) 4 (some 9) rfl rfl (by kernel_rfl) (by kernel_rfl) (by kernel_rfl) (fun _ _ _ h => h) (by rfl) (fun W hW => ?_) ?_
  rotate_left
  · (go_simp; try rfl)
  simp only [Act.put, List.setIfInBounds_toArray, List.set_cons_zero, List.set_cons_succ]
  refine regB_eff 2 rfl (by kernel_rfl) (fun K hK => ?_)
  go_simp
  refine (BG.out _ 4 _ (by omega) (by decide) HSR.out.2.2).mono ?_
  rintro e w2 ⟨rfl, hb⟩
  have H0 := Lib.hid ((hb.block _ (lt_of_heap H0.out)).trans H0.out)
  have H1 := Lib.hid ((hb.block _ (lt_of_heap H1.out)).trans H1.out)
  have hE := hb.mono HB.out.size
  have HB := Lib.hid (HB.out.step hb)
  clear hb
  refine hK.out _ _ hE ?_
  have HX := Lib.hid (Below.trans HX.out hE)
  clear hE hK K
  try simp only [Act.put, List.setIfInBounds_toArray, List.set_cons_zero, List.set_cons_succ]
  refine regB_take (v := ?_) 5 (some 10) rfl rfl (by kernel_rfl) (by kernel_rfl) (by kernel_rfl) (fun _ _ _ h => h) (by rfl) (fun W hW => ?_) ?_
  rotate_left
  · (go_simp; try rfl)
  simp only [Act.put, List.setIfInBounds_toArray, List.set_cons_zero, List.set_cons_succ]
  refine regB_eff 6 rfl (by kernel_rfl) (fun K hK => ?_)
  go_simp
  refine (PB.out w2).mono ?_
  rintro e w3 ⟨g, hg, rfl, hk, hb⟩
  have H0 := Lib.hid ((hb.block _ (lt_of_heap H0.out)).trans H0.out)
  have H1 := Lib.hid ((hb.block _ (lt_of_heap H1.out)).trans H1.out)
  have hE := hb.mono HB.out.size
  have HB := Lib.hid (HB.out.step hb)
  have HT := Lib.hid hk
  clear hb hg hk
  refine hK.out _ _ hE ?_
  have HX := Lib.hid (Below.trans HX.out hE)
  clear hE hK K
  try simp only [Act.put, List.setIfInBounds_toArray, List.set_cons_zero, List.set_cons_succ]
  refine regB_eff 7 rfl (by kernel_rfl) (fun K hK => ?_)
  obtain ⟨w5, hrun, hblk, _, hgr⟩ := copy_run uT s8 (sT := 26) 3 w3 w.heap.size 12 (F.map bv) 23 H0.out (some ⟨w.heap.size, 12, none⟩) (some ⟨g, 0, none⟩) 4 4 4 4 w3.heap.size (T.map bv) (by rw [List.length_map, HPL.out]; rfl) (fun _ => rfl) (sl_row HPL.out (by omega) HT.out).2.2 (by rw [List.length_map, List.length_map, HPL.out, HFL.out]; omega) (bv_one _)
  rw [HSP.out] at hblk
  have E2 := Lib.hid hblk
  have E3 := Lib.hid ((hgr.block _ (lt_of_heap H1.out) (by simp)).trans H1.out)
  have hE : Below w.heap.size w3 w5 := grown_below hgr (Nat.le_refl _) HB.out.size
  have HB := Lib.hid (HB.out.trans hE)
  refine step_cpy rfl (.tmp 5) (.tmp 11) 26 26 rfl hrun ?_
  clear hrun hblk hgr
  refine hK.out _ _ hE ?_
  have HX := Lib.hid (Below.trans HX.out hE)
  clear hE hK K
  try simp only [Act.put, List.setIfInBounds_toArray, List.set_cons_zero, List.set_cons_succ]
  refine regB_done (by kernel_rfl) ?_
  simp only [List.getElem_toArray, List.getElem_cons_succ, List.getElem_cons_zero, Act.put, List.setIfInBounds_toArray, List.set_cons_zero, List.set_cons_succ]
  go_wp2_with (first
    | (refine wpList_ld rfl 23 (.tmp 2) rfl (load_arr arr16B rfl (i16c R HCL.out) E2.out) ?_)
    | (refine wpList_st rfl 23 (.tmp 4) (.tmp 13) rfl (store_arr (cs := R.map bv) (i16c R HCL.out) (bv_one _) E3.out (by rw [List.length_map, HCL.out]; exact HZL.out)) ?_))
  have hres := setRow_heap w5 (w.heap.size + 1) _ (R.map bv).toArray 23 _ E3.out
  exact bodyPost_ret (results_cell_row (P := Try.prog) rfl _ _ (w.heap.size + 1) 23 (R.map bv).toArray (0, 0) _ rfl hres arr16B rfl (by rw [List.size_toArray]; exact i16c R HCL.out)) rfl ⟨rfl, HB.out.trans (grown_below (grown_setRow _ _ _) (by omega) HB.out.size)⟩
end Go.Proofs.Ytjmpbcfbfbjenaa

/- gcm: crypt. -/
namespace Go.Proofs.Ytjmpbcfbfbjenaa
open Go.RowKit
set_option maxRecDepth 100000
set_option linter.unusedVariables false
set_option linter.unusedSimpArgs false
/-- the text's stream -/
def gcF (E : List UInt8 → List UInt8) (F : List UInt8) : Nat → UInt8 := blkF fun i => E (cntG F (i + 1))
def gcL (E : List UInt8 → List UInt8) (F b : List UInt8) : List UInt8 := ctrL (gcF E F) 0 b
theorem gcL_len (E : List UInt8 → List UInt8) (F b : List UInt8) : (gcL E F b).length = b.length := ctrL_len _ _ _
/-- a block for itself -/
theorem gc_block (E : List UInt8 → List UInt8) (F b : List UInt8) (hF : F.length = 16) (i : Nat) (hb : b.length ≤ 16) : ctrL (strmF E (cntG F (i + 1))) 0 b = ctrL (gcF E F) (16 * i) b := by
  refine ctrL_congr _ _ b 0 (16 * i) fun j hj => ?_
  have hj16 : j < 16 := by omega
  show (E (countL (cntG F (i + 1)) ((0 + j) / 16))).getD ((0 + j) % 16) 0 = (E (cntG F ((16 * i + j) / 16 + 1))).getD ((16 * i + j) % 16) 0
  rw [show (0 + j) / 16 = 0 by omega, show (0 + j) % 16 = j by omega, show (16 * i + j) / 16 = i by omega, show (16 * i + j) % 16 = j by omega, count_zero _ (cntG_len F _ hF)]
theorem gc_step (E : List UInt8 → List UInt8) (F b : List UInt8) (hF : F.length = 16) (i lo e : Nat) (hlo : lo = 16 * i) (he : e ≤ lo + 16) (hle : lo ≤ e) (hb : lo ≤ b.length) :
    ctrL (gcF E F) 0 (b.take lo) ++ ctrL (strmF E (cntG F (i + 1))) 0 ((b.drop lo).take (e - lo)) = ctrL (gcF E F) 0 (b.take e) := by
  subst hlo
  rw [gc_block E F _ hF i (by rw [List.length_take]; omega)]
  have h := ctrL_append (gcF E F) (b.take (16 * i)) 0 ((b.drop (16 * i)).take (e - 16 * i))
  rw [List.length_take, Nat.min_eq_left hb, Nat.zero_add] at h
  rw [← h]
  congr 1
  have : e = 16 * i + (e - 16 * i) := by omega
  rw [this, List.take_add]
  congr 2
  omega
theorem min_eqs (lo n e : Nat) (h : e = min (lo + 16) n) : (if (lo : Int) + 16 < (n : Int) then (lo : Int) + 16 else (n : Int)) = (e : Int) ∧ (if (n : Int) < (lo : Int) + 16 then (n : Int) else (lo : Int) + 16) = (e : Int) ∧ min ((lo : Int) + 16) (n : Int) = (e : Int) ∧ (if (lo : Int) + 16 ≤ (n : Int) then (lo : Int) + 16 else (n : Int)) = (e : Int) := by
  refine ⟨?_, ?_, ?_, ?_⟩
  · split <;> omega
  · split <;> omega
  · omega
  · split <;> omega
set_option maxHeartbeats 4000000 in
theorem gcrypt_any (kp : Value) (E : List UInt8 → List UInt8) (F : List UInt8) (A : Option Addr) (n c : Nat) (b : List UInt8) (w : World) (hF : F.length = 16) (hE : Enc w kp E) (hl : b.length = n) (hn : n ≤ 100000) (hS : Sl w A c b) :
    Calls Try.prog 48 #[kp, .agg (F.map bv).toArray, .slice A n c] w fun e w' => ∃ v, e = .returned v ∧ w'.ownsRow w.heap.size 5 1 v n ((gcL E F b).map bv) ∧ Below w.heap.size w w' := by
  have HF := Lib.hid hF; have HE := Lib.hid hE; have HL := Lib.hid hl; have HS := Lib.hid hS
  have hmk := make_room (P := Try.prog) uT made8 rfl .i64 .i64 (n + 16) (by omega) (by omega) (w.alloc (.cells (F.map bv).toArray 23))
  have hcn : c ≤ maxLen ∧ n ≤ c := ⟨hS.2.1, by have := hS.1; omega⟩
  obtain ⟨N, hN⟩ : ∃ N, N = (n + 15) / 16 := ⟨_, rfl⟩
  have hNi : ((n : Int) + 15) / 16 = (N : Int) := by omega
  have hcap : (n : Int) + 16 = ((n + 16 : Nat) : Int) := by omega
  obtain ⟨n16, hn16⟩ : ∃ n16, n16 = n + 16 := ⟨_, rfl⟩
  rw [← hn16] at hmk hcap
  have HMX : Hid (n16 ≤ maxLen) := by show _ ≤ _; simp [maxLen]; omega
  have HNN := Lib.hid hN
  have STN : Hid (ctrL (gcF E F) 0 (b.take (min (16 * N) n)) = gcL E F b) := by show _ = _; rw [gcL, List.take_of_length_le (by omega)]
  have CT := Lib.hid (fun i W => gcounter_any F (i + 1) W hF)
  clear hF hE hl hS hN hn16
  have G := heap2 w (.cells (F.map bv).toArray 23) (.cells (Array.replicate n16 (Value.int .u8 0)) 5)
  have GO : Hid (((w.alloc (.cells (F.map bv).toArray 23)).alloc (.cells (Array.replicate n16 (Value.int .u8 0)) 5)).ownsRow (w.heap.size + 1) 5 1 (.slice (some ⟨w.heap.size + 1, 0, none⟩) 0 n16) 0 (([] : List UInt8).map bv)) := own_room (Nat.le_refl _) HMX.out G.2.1
  have G0 := Lib.hid G.1; have GB := Lib.hid G.2.2
  generalize gcL E F b = R at STN ⊢
  clear G
  go_enter Try.func48, Try.ntmps48
  go_upto_region 3 with (fail)
  generalize (w.alloc _).alloc _ = W0 at GO G0 GB ⊢
  clear hmk
  have HNI := Lib.hid hNi
  clear hNi
  go_loopw [7, 18] (fun vo vi wr => ∃ (i m : Nat) (A' : Option Addr) (c' : Nat), i ≤ N ∧ m = min (16 * i) n ∧ vi = .int .i64 (i : Int) ∧ vo = .slice A' m c' ∧ Hid (wr.ownsRow (w.heap.size + 1) 5 1 (.slice A' m c') m ((ctrL (gcF E F) 0 (b.take m)).map bv)) ∧ Hid (Below w.heap.size w wr) ∧
      Hid (wr.heap[w.heap.size]? = some (.cells (F.map bv).toArray 23 (0, 0)))) (fun _ i _ => N - (intOf i).toNat)
  case atStart => exact ⟨0, 0, _, _, by omega, by omega, rfl, rfl, GO, GB, G0⟩
  case round =>
    clear GO G0 GB
    obtain ⟨i, m, A', c', hi, hm, rfl, rfl, HO, HB, H0⟩ := hrel
    by_cases hlt : i < N
    · have q1 : (i : Int) < ((n : Int) + 15) / 16 := by have := HNI.out; omega
      have hNN := HNN.out
      obtain ⟨lo, hlo⟩ : ∃ lo, lo = 16 * i := ⟨_, rfl⟩
      obtain ⟨e, he⟩ : ∃ e, e = min (lo + 16) n := ⟨_, rfl⟩
      have hml : m = lo := by omega
      subst hml
      have u1 : 16 * (i : Int) = (m : Int) := by omega
      obtain ⟨um1, um2, um3, um4⟩ := min_eqs m n e he
      have hme : m ≤ e ∧ e ≤ n ∧ e ≤ m + 16 := by omega
      have hi5 : i ≤ 10000 := by omega
      have HM16 : Hid (e = min (16 * (i + 1)) n) := by show _ = _; rw [he, hlo]; omega
      obtain ⟨i1, hi1⟩ : ∃ i1, i1 = i + 1 := ⟨_, rfl⟩
      have u4 : (i : Int) + 1 = (i1 : Int) := by omega
      have sl := cut_mid uT s8 A n c .i64 .i64 (m : Int) (e : Int) (by omega) (by omega) (by omega)
      rw [Int.toNat_natCast, Int.toNat_natCast] at sl
      have SB : Hid (Sl wr (cutS A c m) (c - m) ((b.drop m).take (e - m))) := sl_take' (sl_cut (HS.out.below HB.out) (by rw [HL.out]; omega))
      have HBL : Hid (((b.drop m).take (e - m)).length = e - m) := by show _ = _; rw [List.length_take, List.length_drop, HL.out]; omega
      have HST := Lib.hid (gc_step E F b HF.out i m e hlo hme.2.2 hme.1 (by rw [HL.out]; omega))
      have CTR := Lib.hid (CT.out i wr (by omega))
      have CRY := Lib.hid (fun W (hW : Below w.heap.size w W) hS => Crypt_any kp E (cntG F (i + 1)) (cutS A c m) (e - m) (c - m) ((b.drop m).take (e - m)) W (cntG_len F _ HF.out) (HE.out.ext hW) HBL.out (by omega) hS)
      generalize cntG F (i + 1) = CN at CTR CRY HST
      generalize (b.drop m).take (e - m) = X at SB HBL HST CRY
      rw [← hi1] at CTR
      obtain ⟨t, ht⟩ : ∃ t, t = e - m := ⟨_, rfl⟩
      rw [← ht] at sl HBL CRY
      have hmt : m + t ≤ 2147483647 := by omega
      have HT : Hid (m + t = e) := by show _ = _; omega
      have hE8 : (e : Int) ≤ 100000 := by omega
      have hm8 : (m : Int) ≤ 100000 := by omega
      clear hlo he ht hNN hme hm hi1
      go_upto_region 6 with (fail)
      go_wp2_with (first
        | (refine wpList_ld rfl 23 (.tmp 4) rfl (load_arr arr16B rfl (i16c F HF.out) H0.out) ?_)
        | fail)
      refine CTR.out.mono ?_
      rintro e2 w2 ⟨rfl, hb⟩
      have B2 : Hid (Below w.heap.size w w2) := HB.out.step hb
      have F2 := Lib.hid ((hb.block _ (lt_of_heap H0.out)).trans H0.out)
      have O2 := Lib.hid (c_own_below HO.out hb)
      have S2 := Lib.hid (SB.out.below hb)
      clear hb HB H0 HO SB CTR
      go_wp2_with fail
      refine (CRY.out w2 B2.out S2.out).mono ?_
      rintro e3 w3 ⟨v3, rfl, hO, hb⟩
      obtain ⟨A3, c3, rfl, hl3, h31, h32, hr3⟩ := own_read hO
      have B3 : Hid (Below w.heap.size w w3) := B2.out.step hb
      have F3 := Lib.hid ((hb.block _ (lt_of_heap F2.out)).trans F2.out)
      have O3 := Lib.hid (c_own_below O2.out hb)
      have R3 := Lib.hid hr3
      have L3 := Lib.hid hl3
      have hs3 : Hid (w.heap.size + 1 ≤ w3.heap.size) := lt_of_heap F3.out
      clear hb B2 F2 O2 S2 hl3 h31 h32 hr3 hO CRY
      go_upto_region 7 with (
        at_builtin
        refine wpList_app8 rfl (.tmp 31) (.tmp 38) rfl (w.heap.size + 1) _ m (ctrL (gcF E F) 0 (b.take m)) rfl ?_ A3 t c3 w3.heap.size (ctrL (strmF E CN) 0 X) rfl ?_ ?_ ?_ ?_ ?_
        · exact O3.out
        · exact R3.out
        · exact L3.out
        · exact hmt
        · exact hs3.out
        rintro v4 w4 hown hgr
        rw [HST.out, HT.out] at hown
        have O4 := Lib.hid hown
        have B4 : Hid (Below w.heap.size w w4) := B3.out.grown hgr B3.out.size (c_own_ge O3.out (Nat.le_succ _))
        have F4 := Lib.hid ((hgr.block _ (lt_of_heap F3.out) (c_own_ne O3.out (Nat.lt_succ_self _))).trans F3.out)
        clear hown hgr)
      obtain ⟨A5, c5, rfl, hl5, h51, h52, hr5⟩ := own_read O4.out
      clear hl5 h51 h52 hr5 O3 B3 F3 R3 L3 hs3
      have q9 := HM16.out
      go_wp2
      go_roundw
      case rel => exact ⟨i + 1, e, A5, c5, by omega, q9, by go_num, rfl, O4, B4, F4⟩
      case measure => simp [intOf]; omega
    · have q1 : ¬ ((i : Int) < ((n : Int) + 15) / 16) := by have := HNI.out; omega
      have hiN : i = N := by omega
      subst hiN
      have hO := HO.out
      have hmn : m = n := by have := HNN.out; omega
      rw [hm, STN.out, ← hm, hmn] at hO
      have HO2 := Lib.hid hO
      rw [hmn]
      clear hO HO hm hmn
      go_wp2
      go_ret
      exact ⟨_, rfl, own_mono HO2.out (Nat.le_succ _), HB.out⟩
end Go.Proofs.Ytjmpbcfbfbjenaa

/- gcm: tag. -/
namespace Go.Proofs.Ytjmpbcfbfbjenaa
open Go.RowKit
set_option maxRecDepth 100000
set_option linter.unusedVariables false
set_option linter.unusedSimpArgs false
def CellG (B : Nat) (W : World) (v : Value) (X : List Value) (b : Bool) : Prop := ∃ (g : Nat) (Y : List Value), v = .pointer (some ⟨g, 0, none⟩) ∧ B ≤ g ∧ W.heap[g]? = some (.cells Y.toArray 23 (0, 0)) ∧ Y.length = 16 ∧ (b = true → Y = X)
theorem CellG.ext {B : Nat} {W W' : World} {v : Value} {X : List Value} {b : Bool} (h : CellG B W v X b) (hE : Ext W W') : CellG B W' v X b := by
  obtain ⟨g, Y, h1, h2, h3, h4⟩ := h
  exact ⟨g, Y, h1, h2, (hE.block _ (lt_of_heap h3)).trans h3, h4⟩
structure GJ (B : Nat) (w : World) (LB EB : List UInt8) (L : Nat → Bool) (v9 v10 v16 v19 : Value) (W : World) : Prop where
  b : Below B w W
  hB : B ≤ W.heap.size
  f4 : L 4 = true → v16 = .agg (LB.map bv).toArray
  f7 : L 7 = true → v19 = .agg (EB.map bv).toArray
  f8 : L 8 = true → CellG B W v9 (LB.map bv) (L 10)
  f9 : L 9 = true → CellG B W v10 (EB.map bv) (L 11)
  fd : L 8 = true → L 9 = true → v9 ≠ v10
  d10 : L 10 = true → L 8 = true
  d11 : L 11 = true → L 9 = true
theorem GJ.ext {B : Nat} {w : World} {LB EB : List UInt8} {L : Nat → Bool} {v9 v10 v16 v19 : Value} {W W' : World} (h : GJ B w LB EB L v9 v10 v16 v19 W) (hE : Ext W W') : GJ B w LB EB L v9 v10 v16 v19 W' :=
  ⟨h.b.trans (RowKit.Below.mono hE h.hB), Nat.le_trans h.hB hE.size, h.f4, h.f7, fun a => (h.f8 a).ext hE, fun a => (h.f9 a).ext hE, h.fd, h.d10, h.d11⟩
theorem ptr_neG {g g' : Nat} (h : g ≠ g') : Value.pointer (some ⟨g, 0, none⟩) ≠ .pointer (some ⟨g', 0, none⟩) := by
  intro e; injection e with e; injection e with e; injection e with e; exact h e
theorem heap_otherG {W W' : World} {g g' : Nat} {cs : Array Value} {o : Obj} (hV : W.setRow g cs = W') (hne : g' ≠ g) (h : W.heap[g']? = some o) : W'.heap[g']? = some o := by
  rw [← hV, setRow_other _ _ _ _ hne]; exact h
theorem joinW_three (A3 A4 A5 : Option Addr) (c3 c4 c5 : Nat) (aad x LB : List UInt8) (h : LB.length = 16) : joinW [(A3, c3, aad), (A4, c4, x), (A5, c5, LB)] = whG aad ++ whG x ++ LB := by
  have hw : whG LB = LB := by rw [whG, h]; simp [padN]
  simp only [joinW, List.flatMap_cons, List.flatMap_nil, hw, List.append_nil, List.append_assoc]
theorem rows_three {W : World} {q : Nat} {A3 A4 A5 : Option Addr} {c3 c4 c5 k3 k4 k5 : Nat} {aad x LB : List UInt8} {t : TypeId} {fr : Nat × Nat} (h : W.heap[q]? = some (.cells #[.slice A3 k3 c3, .slice A4 k4 c4, .slice A5 k5 c5] t fr)) (h3 : aad.length = k3) (h4 : x.length = k4) (h5 : LB.length = k5)
    (S3 : Sl W A3 c3 aad) (S4 : Sl W A4 c4 x) (S5 : Sl W A5 c5 LB) : PartsAt W (some ⟨q, 0, none⟩, 3, [(A3, c3, aad), (A4, c4, x), (A5, c5, LB)]) := by
  refine ⟨Nat.le_refl _, by simp [maxLen], ?_, .inr ⟨q, 0, rfl, lt_of_heap h, fun j u hu => ?_⟩⟩
  · intro r hr
    simp only [List.mem_cons, List.not_mem_nil, or_false] at hr
    rcases hr with rfl | rfl | rfl
    · exact S3
    · exact S4
    · exact S5
  · rw [Nat.zero_add, cell_of_heap (cs := [.slice A3 k3 c3, .slice A4 k4 c4, .slice A5 k5 c5]) h]
    rw [← h3, ← h4, ← h5]
    exact hu
def six (L : Nat → Bool) : Prop := L 0 = true ∧ L 1 = true ∧ L 2 = true ∧ L 3 = true ∧ L 5 = true ∧ L 6 = true
def mkG (kp : Value) (F : Array Value) (A3 A4 : Option Addr) (k3 c3 k4 c4 p : Nat) (v9 v10 v16 v19 : Value) : Act := { tmps := #[kp, .agg F, .slice A3 k3 c3, .slice A4 k4 c4, undef, .pointer (some ⟨p, 0, none⟩), undef, undef, .slice none 0 0, v9, v10, undef, .slice A3 k3 c3, .int .i64 (k3 : Int), .slice A4 k4 c4, .int .i64 (k4 : Int), v16, kp, .agg F, v19, undef, undef, undef, undef, undef, undef, undef, undef, undef], defers := [] }
/-- the tag of an aad and a sealed text -/
def tagG (E : List UInt8 → List UInt8) (F aad x : List UInt8) : List UInt8 := xorL (gsumL (E zerB) (whG aad ++ whG x ++ lenL (aad.length : Int) (x.length : Int))) (E F)
theorem tagG_len (E : List UInt8 → List UInt8) (F aad x : List UInt8) (h : (E F).length = 16) : (tagG E F aad x).length = 16 := by rw [tagG, xorL_len, gsumL_len, h]; rfl
set_option maxHeartbeats 8000000 in
theorem gtag_any (kp : Value) (E : List UInt8 → List UInt8) (F : List UInt8) (A3 A4 : Option Addr) (k3 c3 k4 c4 : Nat) (aad x : List UInt8) (w : World) (hF : F.length = 16) (hE : Enc w kp E) (h3 : aad.length = k3) (h4 : x.length = k4) (h31 : k3 ≤ 100000) (h41 : k4 ≤ 100000)
    (S3 : Sl w A3 c3 aad) (S4 : Sl w A4 c4 x) :
    Calls Try.prog 49 #[kp, .agg (F.map bv).toArray, .slice A3 k3 c3, .slice A4 k4 c4] w (NewRow w 16 (tagG E F aad x)) := by
  have hz : ∀ W, (zeroValue 23).run Try.prog W = .ok (.agg zeros16.toArray) W := fun W => by kernel_rfl
  have hlz : Hid (zeros16.length = 16) := rfl
  have HF := Lib.hid hF; have H3 := Lib.hid h3; have H4 := Lib.hid h4; have HS3 := Lib.hid S3; have HS4 := Lib.hid S4; have HE := Lib.hid hE
  have GL := Lib.hid (fun W => glen_any (k3 : Int) (k4 : Int) W)
  have ENC := Lib.hid (fun W hW => hE.2 W hW F hF)
  have HEL := Lib.hid (hE.1 F hF)
  have HLL := Lib.hid (lenL_len (k3 : Int) (k4 : Int))
  have HTG : Hid (tagG E F aad x = xorL (gsumL (E zerB) (whG aad ++ whG x ++ lenL (k3 : Int) (k4 : Int))) (E F)) := by show _ = _; rw [tagG, h3, h4]
  rw [HTG.out]
  generalize E F = EB at ENC HEL ⊢
  generalize lenL (k3 : Int) (k4 : Int) = LB at GL HLL ⊢
  generalize zeros16 = Z at hz hlz
  have G := Lib.hid (heap_alloc_new' w (.cells (F.map bv).toArray 23))
  have GB : Hid (Below w.heap.size w (w.alloc (.cells (F.map bv).toArray 23))) := (Below.refl _ _).alloc (Nat.le_refl _) _
  clear hF hE h3 h4 S3 S4 HTG
  obtain ⟨FV, HFV⟩ : ∃ FV, Hid ((F.map bv).toArray = FV) := ⟨_, rfl⟩
  go_enter Try.func49, Try.ntmps49
  go_upto_region 1 with (fail)
  generalize w.alloc _ = W0 at G GB ⊢
  have BX : Hid (Below w.heap.size w W0.drew) := GB.out.drew
  have H0 : Hid (W0.drew.heap[w.heap.size]? = _) := G.out
  have hsz : Hid (W0.heap.size = W0.drew.heap.size) := rfl
  have hle : Hid (w.heap.size ≤ W0.heap.size) := GB.out.size
  refine regB_start (W0.heap.size) (by kernel_rfl) ?_
  try simp only [Act.put, List.setIfInBounds_toArray, List.set_cons_zero, List.set_cons_succ]
  generalize W0.drew = WD at BX H0 hsz ⊢
  refine regB_take (v := ?_) 0 (some 12) rfl rfl (by kernel_rfl) (by kernel_rfl) (by kernel_rfl) (fun _ _ _ h => h) (by rfl) (fun W hW => ?_) ?_
  rotate_left
  · (go_simp; try rfl)
  simp only [Act.put, List.setIfInBounds_toArray, List.set_cons_zero, List.set_cons_succ]
  refine regB_take (v := ?_) 1 (some 13) rfl rfl (by kernel_rfl) (by kernel_rfl) (by kernel_rfl) (fun _ _ _ h => h) (by rfl) (fun W hW => ?_) ?_
  rotate_left
  · (go_simp; try rfl)
  simp only [Act.put, List.setIfInBounds_toArray, List.set_cons_zero, List.set_cons_succ]
  refine regB_take (v := ?_) 2 (some 14) rfl rfl (by kernel_rfl) (by kernel_rfl) (by kernel_rfl) (fun _ _ _ h => h) (by rfl) (fun W hW => ?_) ?_
  rotate_left
  · (go_simp; try rfl)
  simp only [Act.put, List.setIfInBounds_toArray, List.set_cons_zero, List.set_cons_succ]
  refine regB_take (v := ?_) 3 (some 15) rfl rfl (by kernel_rfl) (by kernel_rfl) (by kernel_rfl) (fun _ _ _ h => h) (by rfl) (fun W hW => ?_) ?_
  rotate_left
  · (go_simp; try rfl)
  simp only [Act.put, List.setIfInBounds_toArray, List.set_cons_zero, List.set_cons_succ]
  refine regB_take (v := ?_) 5 (some 17) rfl rfl (by kernel_rfl) (by kernel_rfl) (by kernel_rfl) (fun _ _ _ h => h) (by rfl) (fun W hW => ?_) ?_
  rotate_left
  · (go_simp; try rfl)
  simp only [Act.put, List.setIfInBounds_toArray, List.set_cons_zero, List.set_cons_succ]
  refine regB_load 6 (some 18) (fun W hW => load_arr arr16B rfl (i16c F HF.out) ((hW.block _ (by have := lt_of_heap H0.out; have := hsz.out; omega)).trans H0.out)) rfl rfl rfl rfl (by kernel_rfl) (by kernel_rfl) (by kernel_rfl) (fun _ _ _ h => h) (by rfl) ?_
  simp only [Act.put, List.setIfInBounds_toArray, List.set_cons_zero, List.set_cons_succ]
  have HLL0 := HLL.out
  refine regB_inv (fun L a' W => six L ∧ ∃ v9 v10 v16 v19, a' = mkG kp (F.map bv).toArray A3 A4 k3 c3 k4 c4 w.heap.size v9 v10 v16 v19 ∧ GJ W0.heap.size WD LB EB L v9 v10 v16 v19 W) (by kernel_rfl) (by decide) (by kernel_rfl) (fun L a' W h => ?_) ?_
    (And.intro ?_ (And.intro ?_ (And.intro ?_ (And.intro ?_ (And.intro ?_ (And.intro ?_ (And.intro ?_ (And.intro ?_ (And.intro ?_ (And.intro ?_ (And.intro ?_ (And.intro ?_ trivial)))))))))))) ?_
  · obtain ⟨_, v9, v10, v16, v19, rfl, H⟩ := h
    exact H.b
  · exact ⟨⟨rfl, rfl, rfl, rfl, rfl, rfl⟩, _, _, _, _, rfl, ⟨Below.refl _ _, Nat.le_of_eq hsz.out, fun h => (by cases h), fun h => (by cases h), fun h => (by cases h), fun h => (by cases h), fun h => (by cases h), fun h => (by cases h), fun h => (by cases h)⟩⟩
  · rintro L a W ⟨h6, _⟩ hLi; rw [h6.1] at hLi; cases hLi
  · rintro L a W ⟨h6, _⟩ hLi; rw [h6.2.1] at hLi; cases hLi
  · rintro L a W ⟨h6, _⟩ hLi; rw [h6.2.2.1] at hLi; cases hLi
  · rintro L a W ⟨h6, _⟩ hLi; rw [h6.2.2.2.1] at hLi; cases hLi
  · rintro L a W ⟨h6, v9, v10, v16, v19, rfl, H⟩ hLi hd K0 hK
    simp only [mkG]
    go_simp
    refine (GL.out W).mono ?_
    rintro e W' ⟨rfl, hb⟩
    have H' := H.ext hb
    exact hK.out _ _ ⟨h6, v9, v10, _, v19, rfl, ⟨H'.b, H'.hB, fun _ => rfl, fun h => H'.f7 h, fun h => H'.f8 h, fun h => H'.f9 h, fun h h' => H'.fd h h', fun h => H'.d10 h, fun h => H'.d11 h⟩⟩
  · rintro L a W ⟨h6, _⟩ hLi; rw [h6.2.2.2.2.1] at hLi; cases hLi
  · rintro L a W ⟨h6, _⟩ hLi; rw [h6.2.2.2.2.2] at hLi; cases hLi
  · rintro L a W ⟨h6, v9, v10, v16, v19, rfl, H⟩ hLi hd K0 hK
    simp only [mkG]
    go_simp
    refine (ENC.out W (BX.out.trans (H.b.mono hle.out))).mono ?_
    rintro e W' ⟨rfl, hb⟩
    have H' := H.ext hb
    exact hK.out _ _ ⟨h6, v9, v10, v16, _, rfl, ⟨H'.b, H'.hB, fun h => H'.f4 h, fun _ => rfl, fun h => H'.f8 h, fun h => H'.f9 h, fun h h' => H'.fd h h', fun h => H'.d10 h, fun h => H'.d11 h⟩⟩
  · rintro L a W ⟨h6, v9, v10, v16, v19, rfl, H⟩ hLi hd K0 hK
    simp only [mkG]
    go_simp
    have H' := H.ext ((Below.refl W.heap.size W).alloc (Nat.le_refl _) (.cells Z.toArray 23))
    have hN := heap_alloc_new' W (.cells Z.toArray 23)
    refine hK.out _ _ ⟨h6, _, v10, v16, v19, rfl, ⟨H'.b, H'.hB, fun h => H'.f4 h, fun h => H'.f7 h, fun _ => ⟨W.heap.size, Z, rfl, H.hB, hN, hlz.out, fun h => ?_⟩, fun h => H'.f9 h, fun _ h' => ?_, fun _ => rfl, fun h => H'.d11 h⟩⟩
    · have := H.d10 h; rw [this] at hLi; cases hLi
    · obtain ⟨g3, Y3, rfl, _, h3, _⟩ := H.f9 h'
      exact ptr_neG (by have := lt_of_heap h3; omega)
  · rintro L a W ⟨h6, v9, v10, v16, v19, rfl, H⟩ hLi hd K0 hK
    simp only [mkG]
    go_simp
    have H' := H.ext ((Below.refl W.heap.size W).alloc (Nat.le_refl _) (.cells Z.toArray 23))
    have hN := heap_alloc_new' W (.cells Z.toArray 23)
    refine hK.out _ _ ⟨h6, v9, _, v16, v19, rfl, ⟨H'.b, H'.hB, fun h => H'.f4 h, fun h => H'.f7 h, fun h => H'.f8 h, fun _ => ⟨W.heap.size, Z, rfl, H.hB, hN, hlz.out, fun h => ?_⟩, fun h' _ => ?_, fun h => H'.d10 h, fun _ => rfl⟩⟩
    · have := H.d11 h; rw [this] at hLi; cases hLi
    · obtain ⟨g3, Y3, rfl, _, h3, _⟩ := H.f8 h'
      exact ptr_neG (by have := lt_of_heap h3; omega)
  · rintro L a W ⟨h6, v9, v10, v16, v19, rfl, H⟩ hLi hd K0 hK
    have d4 := hd ⟨4, .data⟩ (by simp) rfl
    have d8 := hd ⟨8, .data⟩ (by simp) rfl
    have d9 := hd ⟨9, .phase⟩ (by simp) rfl
    obtain rfl := H.f4 d4
    have hne := H.fd d8 d9
    obtain ⟨g2, Y2, rfl, hq2, h2, l2, _⟩ := H.f8 d8
    obtain ⟨g3, Y3, rfl, hq3, h3, l3, e3⟩ := H.f9 d9
    have hn : g3 ≠ g2 := fun e => hne (by rw [e])
    refine step_st1 rfl 23 (.tmp 9) (.tmp 16) rfl (store_arr (cs := LB.map bv) (i16c LB HLL0) (bv_one _) h2 (by rw [List.length_map, HLL0]; exact l2)) ?_
    generalize hV : World.setRow _ _ _ = W'
    have hbl : Below W0.heap.size W W' := below_of_setRow hV hq2 H.hB
    exact hK.out _ _ ⟨h6, _, _, _, v19, rfl, ⟨H.b.trans hbl, Nat.le_trans H.hB hbl.size, fun _ => rfl, fun h => H.f7 h, fun _ => ⟨g2, LB.map bv, rfl, hq2, heap_of_setRow hV h2, by rw [List.length_map, HLL0], fun _ => rfl⟩, fun _ => ⟨g3, Y3, rfl, hq3, heap_otherG hV hn h3, l3, fun h => e3 h⟩, fun _ _ => hne, fun _ => d8, fun h => H.d11 h⟩⟩
  · rintro L a W ⟨h6, v9, v10, v16, v19, rfl, H⟩ hLi hd K0 hK
    have d7 := hd ⟨7, .data⟩ (by simp) rfl
    have d8 := hd ⟨8, .phase⟩ (by simp) rfl
    have d9 := hd ⟨9, .data⟩ (by simp) rfl
    obtain rfl := H.f7 d7
    have hne := H.fd d8 d9
    obtain ⟨g2, Y2, rfl, hq2, h2, l2, e2⟩ := H.f8 d8
    obtain ⟨g3, Y3, rfl, hq3, h3, l3, _⟩ := H.f9 d9
    have hn : g2 ≠ g3 := fun e => hne (by rw [e])
    refine step_st1 rfl 23 (.tmp 10) (.tmp 19) rfl (store_arr (cs := EB.map bv) (i16c EB HEL.out) (bv_one _) h3 (by rw [List.length_map, HEL.out]; exact l3)) ?_
    generalize hV : World.setRow _ _ _ = W'
    have hbl : Below W0.heap.size W W' := below_of_setRow hV hq3 H.hB
    exact hK.out _ _ ⟨h6, _, _, v16, _, rfl, ⟨H.b.trans hbl, Nat.le_trans H.hB hbl.size, fun h => H.f4 h, fun _ => rfl, fun _ => ⟨g2, Y2, rfl, hq2, heap_otherG hV hn h2, l2, fun h => e2 h⟩, fun _ => ⟨g3, EB.map bv, rfl, hq3, heap_of_setRow hV h3, by rw [List.length_map, HEL.out], fun _ => rfl⟩, fun _ _ => hne, fun h => H.d10 h, fun _ => d9⟩⟩
  rintro L a W hL ⟨_, v9, v10, v16, v19, rfl, H⟩
  obtain ⟨g2, Y2, rfl, hq2, h2, l2, e2⟩ := H.f8 (hL 8)
  obtain ⟨g3, Y3, rfl, hq3, h3, l3, e3⟩ := H.f9 (hL 9)
  obtain rfl := e2 (hL 10)
  obtain rfl := e3 (hL 11)
  obtain rfl := H.f4 (hL 4)
  obtain rfl := H.f7 (hL 7)
  have H2 := Lib.hid h2; have H3' := Lib.hid h3; have HB : Hid (Below w.heap.size w W) := BX.out.trans (H.b.mono hle.out)
  have HQ2 : Hid (w.heap.size ≤ g2) := Nat.le_trans hle.out hq2
  clear h2 h3 H hL l2 l3 e2 e3 hq2 hq3 BX H0 GL ENC
  have ar1 := arr_all arr16B s8 ⟨g2, 0, none⟩
  have ar2 := arr_all arr16B s8 ⟨g3, 0, none⟩
  simp only [mkG]
  go_wp2_with fail
  have N1 := Lib.hid (heap_alloc_new' W (.cells #[.slice A3 k3 c3, .slice A4 k4 c4, .slice (some ⟨g2, 0, none⟩) 16 16] 26))
  have E1 : Hid (Ext W (W.alloc (.cells #[.slice A3 k3 c3, .slice A4 k4 c4, .slice (some ⟨g2, 0, none⟩) 16 16] 26))) := (Below.refl _ _).alloc (Nat.le_refl _) _
  generalize W.alloc _ = W1 at N1 E1 ⊢
  generalize W.heap.size = q at N1 ⊢
  have B1 : Hid (Below w.heap.size w W1) := HB.out.step E1.out
  have K2 := Lib.hid ((E1.out.block _ (lt_of_heap H2.out)).trans H2.out)
  have K3 := Lib.hid ((E1.out.block _ (lt_of_heap H3'.out)).trans H3'.out)
  have PA := Lib.hid (rows_three N1.out H3.out H4.out HLL0 (HS3.out.below B1.out) (HS4.out.below B1.out) (sl_row HLL0 (by omega) K2.out))
  have HJW := Lib.hid (joinW_three A3 A4 (some ⟨g2, 0, none⟩) c3 c4 16 aad x LB HLL0)
  have hlens : ∀ r ∈ [(A3, c3, aad), (A4, c4, x), (some (⟨g2, 0, none⟩ : Addr), 16, LB)], r.2.2.length ≤ 100000 := by
    intro r hr
    simp only [List.mem_cons, List.not_mem_nil, or_false] at hr
    rcases hr with rfl | rfl | rfl
    · show aad.length ≤ _; rw [H3.out]; exact h31
    · show x.length ≤ _; rw [H4.out]; exact h41
    · show LB.length ≤ _; rw [HLL0]; omega
  have HASH := Lib.hid (ghashR_any kp E (some ⟨q, 0, none⟩) 3 3 [(A3, c3, aad), (A4, c4, x), (some ⟨g2, 0, none⟩, 16, LB)] W1 (HE.out.ext B1.out) PA.out rfl (by omega) hlens)
  rw [HJW.out] at HASH
  have GSL := Lib.hid (gsumL_len (E zerB) (whG aad ++ whG x ++ LB))
  obtain ⟨T, HTT⟩ : ∃ T, Hid (gsumL (E zerB) (whG aad ++ whG x ++ LB) = T) := ⟨_, rfl⟩
  rw [HTT.out] at HASH GSL
  clear hlens PA HJW N1 E1 HB H2 H3' ar1
  refine HASH.out.mono ?_
  rintro e w2 ⟨rfl, hb⟩
  have B2 : Hid (Below w.heap.size w w2) := B1.out.step hb
  have K4 := Lib.hid ((hb.block _ (lt_of_heap K3.out)).trans K3.out)
  clear hb B1 K3 K2 HASH
  go_upto_region 3 with (first
    | (refine wpList_st rfl 23 (.tmp 11) (.tmp 25) rfl (store_arr (cs := T.map bv) (i16c T GSL.out) (bv_one _) (heap_alloc_new' w2 _) (by rw [List.length_map, GSL.out]; exact hlz.out)) ?_
       generalize hV : World.setRow _ _ _ = W3
       have M3 := Lib.hid (heap_of_setRow hV (heap_alloc_new' w2 _))
       have MB := Lib.hid (((Below.refl w2.heap.size w2).alloc (Nat.le_refl _) _).trans (below_of_setRow hV (Nat.le_refl w2.heap.size) (by simp)))
       clear hV)
    | fail)
  have B3 : Hid (Below w.heap.size w W3) := B2.out.step MB.out
  have K5 := Lib.hid ((MB.out.block _ (lt_of_heap K4.out)).trans K4.out)
  clear B2 K4 MB
  generalize w2.heap.size = q3 at M3 ⊢
  have ar1 := arr_all arr16B s8 ⟨q3, 0, none⟩
  have HX : Hid (Ext W3 W3.drew) := (Below.refl _ _).drew
  have XC := Lib.hid (fun A B W hS hS' => xor_n A B 16 16 16 16 16 T EB W GSL.out HEL.out rfl hS hS' (by omega) (by omega))
  obtain ⟨R, HR⟩ : ∃ R, Hid (xorL T EB = R) := ⟨_, rfl⟩
  rw [HR.out] at XC
  refine reg_start (by kernel_rfl) ?_
  try simp only [Act.put, List.setIfInBounds_toArray, List.set_cons_zero, List.set_cons_succ]
  refine reg_take (v := ?_) 0 (some 26) rfl rfl (by kernel_rfl) (by kernel_rfl) (by kernel_rfl) (fun _ _ _ h => h) (by rfl) (fun W hW => ?_) ?_
  rotate_left
  · (go_simp; try rfl)
  simp only [Act.put, List.setIfInBounds_toArray, List.set_cons_zero, List.set_cons_succ]
  refine reg_take (v := ?_) 1 (some 27) rfl rfl (by kernel_rfl) (by kernel_rfl) (by kernel_rfl) (fun _ _ _ h => h) (by rfl) (fun W hW => ?_) ?_
  rotate_left
  · (go_simp; try rfl)
  simp only [Act.put, List.setIfInBounds_toArray, List.set_cons_zero, List.set_cons_succ]
  refine reg_eff 2 rfl (by kernel_rfl) (fun K hK => ?_)
  go_simp
  refine (XC.out _ _ _ ((sl_row GSL.out (by omega) M3.out).below HX.out) ((sl_row HEL.out (by omega) K5.out).below HX.out)).mono ?_
  rintro e w4 ⟨g, hg, rfl, hk, hE⟩
  have K6 := Lib.hid hk
  have HG := Lib.hid hg
  clear hk hg
  refine hK.out _ _ hE ?_
  have HX := Lib.hid (Ext.trans HX.out hE)
  clear hE hK K
  try simp only [Act.put, List.setIfInBounds_toArray, List.set_cons_zero, List.set_cons_succ]
  refine reg_take (v := ?_) 3 (some 8) rfl rfl (by kernel_rfl) (by kernel_rfl) (by kernel_rfl) (fun _ _ _ h => h) (by rfl) (fun W hW => ?_) ?_
  rotate_left
  · (go_simp; try rfl)
  simp only [Act.put, List.setIfInBounds_toArray, List.set_cons_zero, List.set_cons_succ]
  refine reg_done (by kernel_rfl) ?_
  have B4 : Hid (Below w.heap.size w w4) := B3.out.step HX.out
  go_wp2
  go_ret
  exact ⟨g, Nat.le_trans B3.out.size HG.out, rfl, by rw [HTT.out, HR.out]; exact K6.out, B4.out⟩
end Go.Proofs.Ytjmpbcfbfbjenaa

/- gcm: First, and both. -/
namespace Go.Proofs.Ytjmpbcfbfbjenaa
open Go.RowKit
set_option maxRecDepth 100000
set_option linter.unusedVariables false
set_option linter.unusedSimpArgs false
def one15 : List UInt8 := [0, 0, 0, 0, 0, 0, 0, 0, 0, 0, 0, 0, 0, 0, 0, 1]
def firstG (E : List UInt8 → List UInt8) (iv : List UInt8) : List UInt8 := if iv.length = 12 then iv ++ [0, 0, 0, 1] else gsumL (E zerB) (whG iv ++ lenL 0 (iv.length : Int))
theorem firstG_len (E : List UInt8 → List UInt8) (iv : List UInt8) : (firstG E iv).length = 16 := by
  unfold firstG; split
  · rename_i h; simp [h]
  · exact gsumL_len _ _
theorem first_splice (iv : List UInt8) (h : iv.length = 12) : splice (one15.map bv) 0 (iv.map bv) = (iv ++ [0, 0, 0, 1]).map bv := by
  have := splice_split [] ((List.replicate 12 (0 : UInt8)).map bv) (([0, 0, 0, 1] : List UInt8).map bv) (iv.map bv) (by simp [h])
  simp only [List.length_nil, List.nil_append] at this
  rw [List.map_append, ← this]
  rfl
theorem joinW_two (A3 A5 : Option Addr) (c3 c5 : Nat) (aad LB : List UInt8) (h : LB.length = 16) : joinW [(A3, c3, aad), (A5, c5, LB)] = whG aad ++ LB := by
  have hw : whG LB = LB := by rw [whG, h]; simp [padN]
  simp only [joinW, List.flatMap_cons, List.flatMap_nil, hw, List.append_nil]
theorem rows_two {W : World} {q : Nat} {A3 A5 : Option Addr} {c3 c5 k3 k5 : Nat} {aad LB : List UInt8} {t : TypeId} {fr : Nat × Nat} (h : W.heap[q]? = some (.cells #[.slice A3 k3 c3, .slice A5 k5 c5] t fr)) (h3 : aad.length = k3) (h5 : LB.length = k5)
    (S3 : Sl W A3 c3 aad) (S5 : Sl W A5 c5 LB) : PartsAt W (some ⟨q, 0, none⟩, 2, [(A3, c3, aad), (A5, c5, LB)]) := by
  refine ⟨Nat.le_refl _, by simp [maxLen], ?_, .inr ⟨q, 0, rfl, lt_of_heap h, fun j u hu => ?_⟩⟩
  · intro r hr
    simp only [List.mem_cons, List.not_mem_nil, or_false] at hr
    rcases hr with rfl | rfl
    · exact S3
    · exact S5
  · rw [Nat.zero_add, cell_of_heap (cs := [.slice A3 k3 c3, .slice A5 k5 c5]) h]
    rw [← h3, ← h5]
    exact hu
set_option maxHeartbeats 4000000 in
theorem gfirst_any (kp : Value) (E : List UInt8 → List UInt8) (A : Option Addr) (n c : Nat) (iv : List UInt8) (w : World) (hE : GKey w kp E) (hl : iv.length = n) (h0 : 0 < n) (hn : n ≤ 100000) (hS : Sl w A c iv) :
    Calls Try.prog 23 #[kp, .slice A n c] w fun e w' => e = .returned (.agg ((firstG E iv).map bv).toArray) ∧ Below w.heap.size w w' := by
  have hz : ∀ W, (zeroValue 23).run Try.prog W = .ok (.agg zeros16.toArray) W := fun W => by kernel_rfl
  have hlz : Hid (zeros16.length = 16) := rfl
  have BD : Hid (∀ W, (Instr.build 23 #[(15, .int .u8 1)]).run Try.prog W = .ok (.agg (one15.map bv).toArray) W) := fun W => by kernel_rfl
  have H15 : Hid (one15.length = 16) := rfl
  generalize zeros16 = Z at hz hlz
  have HE := Lib.hid hE; have HL := Lib.hid hl; have HS := Lib.hid hS
  have WR := Lib.hid (fun W (hW : Below w.heap.size w W) => gwrong_any kp E A n c W (hE.ext hW) h0)
  have G := Lib.hid (heap_alloc_new' w (.cells Z.toArray 23))
  have GB : Hid (Below w.heap.size w (w.alloc (.cells Z.toArray 23))) := (Below.refl _ _).alloc (Nat.le_refl _) _
  have FL := Lib.hid (firstG_len E iv)
  by_cases h12 : n = 12
  · have HSP := Lib.hid (first_splice iv (hl.trans h12))
    have HFE : Hid (firstG E iv = iv ++ [0, 0, 0, 1]) := by show _ = _; rw [firstG, if_pos (hl.trans h12)]
    rw [← HFE.out] at HSP
    generalize firstG E iv = R at HSP FL ⊢
    generalize one15 = O at BD HSP H15
    have t12 : ((n : Int) == 12) = true := by simp [h12]
    have HN12 := Lib.hid h12
    clear hE hl hS h12 h0
    go_enter Try.func23, Try.ntmps23
    go_upto_region 1 with (fail)
    generalize w.alloc _ = W0 at G GB ⊢
    go_wp2_with fail
    refine (WR.out W0 GB.out).mono ?_
    rintro e w1 ⟨rfl, rfl⟩
    go_upto_region 5 with (first
      | (refine wpList_run (o := ⟨some 17, _, _, _, _, _⟩) rfl (v := .agg (O.map bv).toArray) (w' := W0) (exec_bld rfl (by simp only [List.map_toArray, List.map_cons, List.map_nil]; exact BD.out _)) ?_)
      | (refine wpList_st rfl 23 (.tmp 5) (.tmp 17) rfl (store_arr (cs := O.map bv) (i16c O H15.out) (bv_one _) (heap_alloc_new' W0 _) (by rw [List.length_map, H15.out]; exact hlz.out)) ?_
         generalize hV : World.setRow _ _ _ = W3
         have M3 := Lib.hid (heap_of_setRow hV (heap_alloc_new' W0 _))
         have MB := Lib.hid (((Below.refl W0.heap.size W0).alloc (Nat.le_refl _) _).trans (below_of_setRow hV (Nat.le_refl W0.heap.size) (by simp)))
         clear hV)
      | fail)
    have B3 : Hid (Below w.heap.size w W3) := GB.out.step MB.out
    have G3 := Lib.hid ((MB.out.block _ (lt_of_heap G.out)).trans G.out)
    have HQ : Hid (w.heap.size < W0.heap.size) := lt_of_heap G.out
    clear MB GB G WR
    generalize W0.heap.size = q at M3 HQ ⊢
    have ar := arr_all arr16B s8 ⟨q, 0, none⟩
    have S3 := Lib.hid (HS.out.below B3.out)
    obtain ⟨W4, hcopy, hblk, _, hgr⟩ := copy_run uT s8 (sT := 26) 3 W3 q 0 (O.map bv) 23 M3.out (some ⟨q, 0, none⟩) A 16 16 n c W3.heap.size (iv.map bv) (by rw [List.length_map, HL.out, HN12.out]; rfl) (fun _ => rfl) S3.out.2.2 (by rw [List.length_map, List.length_map, HL.out, H15.out, HN12.out]; omega) (bv_one _)
    rw [HSP.out] at hblk
    have M4 := Lib.hid hblk
    have B4 : Hid (Below w.heap.size w W4) := B3.out.trans (grown_below hgr (Nat.le_of_lt HQ.out) B3.out.size)
    have G4 := Lib.hid ((hgr.block _ (lt_of_heap G3.out) (by have := HQ.out; simp; omega)).trans G3.out)
    clear hblk hgr B3 G3 M3
    go_wp2_with (first
      | (refine wpList_ld rfl 23 (.tmp 5) rfl (load_arr arr16B rfl (i16c R FL.out) M4.out) ?_)
      | (refine wpList_st rfl 23 (.tmp 4) (.tmp 21) rfl (store_arr (cs := R.map bv) (i16c R FL.out) (bv_one _) G4.out (by rw [List.length_map, FL.out]; exact hlz.out)) ?_))
    have hres := setRow_heap W4 w.heap.size _ (R.map bv).toArray 23 _ G4.out
    exact bodyPost_ret (results_cell_row (P := Try.prog) rfl _ _ w.heap.size 23 (R.map bv).toArray (0, 0) _ rfl hres arr16B rfl (by rw [List.size_toArray]; exact i16c R FL.out)) rfl ⟨rfl, B4.out.trans (grown_below (grown_setRow _ _ _) (Nat.le_refl _) B4.out.size)⟩
  · have HFE : Hid (firstG E iv = gsumL (E zerB) (whG iv ++ lenL 0 (n : Int))) := by show _ = _; rw [firstG, if_neg (by omega), hl]
    rw [HFE.out] at FL ⊢
    have t12 : ((n : Int) == 12) = false := by simp; omega
    have GL := Lib.hid (fun W => glen_any 0 (n : Int) W)
    have HLL := Lib.hid (lenL_len 0 (n : Int))
    generalize lenL 0 (n : Int) = LB at GL HLL FL ⊢
    clear hE hl hS h12 h0
    go_enter Try.func23, Try.ntmps23
    go_upto_region 1 with (fail)
    generalize w.alloc _ = W0 at G GB ⊢
    go_wp2_with fail
    refine (WR.out W0 GB.out).mono ?_
    rintro e w1 ⟨rfl, rfl⟩
    go_wp2_with fail
    refine (GL.out W0).mono ?_
    rintro e w1 ⟨rfl, hb⟩
    have B1 : Hid (Below w.heap.size w w1) := GB.out.step hb
    have G1 := Lib.hid ((hb.block _ (lt_of_heap G.out)).trans G.out)
    clear hb GB G WR GL
    go_upto_region 8 with (first
      | (refine wpList_st rfl 23 (.tmp 6) (.tmp 24) rfl (store_arr (cs := LB.map bv) (i16c LB HLL.out) (bv_one _) (heap_alloc_new' w1 _) (by rw [List.length_map, HLL.out]; exact hlz.out)) ?_
         generalize hV : World.setRow _ _ _ = W3
         have M3 := Lib.hid (heap_of_setRow hV (heap_alloc_new' w1 _))
         have MB := Lib.hid (((Below.refl w1.heap.size w1).alloc (Nat.le_refl _) _).trans (below_of_setRow hV (Nat.le_refl w1.heap.size) (by simp)))
         clear hV)
      | fail)
    have B3 : Hid (Below w.heap.size w W3) := B1.out.step MB.out
    have G3 := Lib.hid ((MB.out.block _ (lt_of_heap G1.out)).trans G1.out)
    clear MB B1 G1
    generalize w1.heap.size = q at M3 ⊢
    have ar := arr_all arr16B s8 ⟨q, 0, none⟩
    go_wp2_with fail
    have N1 := Lib.hid (heap_alloc_new' W3 (.cells #[.slice A n c, .slice (some ⟨q, 0, none⟩) 16 16] 26))
    have E1 : Hid (Ext W3 (W3.alloc (.cells #[.slice A n c, .slice (some ⟨q, 0, none⟩) 16 16] 26))) := (Below.refl _ _).alloc (Nat.le_refl _) _
    generalize W3.alloc _ = W4 at N1 E1 ⊢
    generalize W3.heap.size = q2 at N1 ⊢
    have B4 : Hid (Below w.heap.size w W4) := B3.out.step E1.out
    have G4 := Lib.hid ((E1.out.block _ (lt_of_heap G3.out)).trans G3.out)
    have K2 := Lib.hid ((E1.out.block _ (lt_of_heap M3.out)).trans M3.out)
    have PA := Lib.hid (rows_two N1.out HL.out HLL.out (HS.out.below B4.out) (sl_row HLL.out (by omega) K2.out))
    have HJW := Lib.hid (joinW_two A (some ⟨q, 0, none⟩) c 16 iv LB HLL.out)
    have hlens : ∀ r ∈ [(A, c, iv), (some (⟨q, 0, none⟩ : Addr), 16, LB)], r.2.2.length ≤ 100000 := by
      intro r hr
      simp only [List.mem_cons, List.not_mem_nil, or_false] at hr
      rcases hr with rfl | rfl
      · show iv.length ≤ _; rw [HL.out]; exact hn
      · show LB.length ≤ _; rw [HLL.out]; omega
    have HASH := Lib.hid (ghashR_any kp E (some ⟨q2, 0, none⟩) 2 2 [(A, c, iv), (some ⟨q, 0, none⟩, 16, LB)] W4 (HE.out.1.ext B4.out) PA.out rfl (by omega) hlens)
    rw [HJW.out] at HASH
    obtain ⟨R, HR⟩ : ∃ R, Hid (gsumL (E zerB) (whG iv ++ LB) = R) := ⟨_, rfl⟩
    rw [HR.out] at HASH FL
    clear hlens PA HJW N1 E1 B3 G3 K2
    refine HASH.out.mono ?_
    rintro e w5 ⟨rfl, hb⟩
    have B5 : Hid (Below w.heap.size w w5) := B4.out.step hb
    have G5 := Lib.hid ((hb.block _ (lt_of_heap G4.out)).trans G4.out)
    clear hb B4 G4 HASH
    go_wp2_with (first
      | (refine wpList_st rfl 23 (.tmp 4) (.tmp 29) rfl (store_arr (cs := R.map bv) (i16c R FL.out) (bv_one _) G5.out (by rw [List.length_map, FL.out]; exact hlz.out)) ?_))
    have hres := setRow_heap w5 w.heap.size _ (R.map bv).toArray 23 _ G5.out
    exact bodyPost_ret (results_cell_row (P := Try.prog) rfl _ _ w.heap.size 23 (R.map bv).toArray (0, 0) _ rfl hres arr16B rfl (by rw [List.size_toArray]; exact i16c R FL.out)) rfl ⟨by rw [HR.out], B5.out.trans (grown_below (grown_setRow _ _ _) (Nat.le_refl _) B5.out.size)⟩
set_option maxHeartbeats 1000000 in
theorem gboth_any (F : FuncId) (cap : Array Value) (R : Value → Int → World → Prop) (kp : Value) (E : List UInt8 → List UInt8) (A : Option Addr) (n c : Nat) (iv : List UInt8) (w : World) (hE : GKey w kp E) (hl : iv.length = n) (h0 : 0 < n) (hn : n ≤ 100000) (hS : Sl w A c iv)
    (hcall : ∀ args W, (callFunc F args).run Try.prog W = .ok (.enter F args) W)
    (hF : ∀ W, Ext w W → Calls Try.prog F (#[.agg ((firstG E iv).map bv).toArray] ++ cap) W fun e W' => ∃ v x, e = .returned (.tuple #[v, .int .i64 x]) ∧ Ext W W' ∧ R v x W') :
    Calls Try.prog 46 #[kp, .slice A n c, .func (.func F) #[] cap] w fun e w' => ∃ v x, e = .returned (.tuple #[v, .int .i64 x]) ∧ Ext w w' ∧ R v x w' := by
  have WR := Lib.hid (gwrong_any kp E A n c w hE h0)
  have FI := Lib.hid (gfirst_any kp E A n c iv w hE hl h0 hn hS)
  have HF := Lib.hid hF
  generalize firstG E iv = X at FI HF
  clear hE hl h0 hS hF
  go_enter Try.func46, Try.ntmps46
  go_wp2_with fail
  refine WR.out.mono ?_
  rintro e w1 ⟨rfl, rfl⟩
  go_wp2_with fail
  refine FI.out.mono ?_
  rintro e w1 ⟨rfl, hb⟩
  have B1 : Hid (Ext w w1) := hb
  clear hb
  go_wp2_with fail
  refine (HF.out w1 B1.out).mono ?_
  rintro e w2 ⟨v, x, rfl, hE, hR⟩
  have HR := Lib.hid hR
  have B2 := Lib.hid (B1.out.trans hE)
  clear hE hR
  go_wp2
  go_ret2
  exact ⟨v, x, rfl, B2.out, HR.out⟩
end Go.Proofs.Ytjmpbcfbfbjenaa

/- gcm: what Seal and Open hand to both; Seal and Open. -/
namespace Go.Proofs.Ytjmpbcfbfbjenaa
open Go.RowKit
set_option maxRecDepth 100000
set_option linter.unusedVariables false
set_option linter.unusedSimpArgs false
/-- bytes, sealed -/
def sealG (E : List UInt8 → List UInt8) (F aad b : List UInt8) : List UInt8 := gcL E F b ++ tagG E F aad (gcL E F b)
theorem sealG_len (E : List UInt8 → List UInt8) (F aad b : List UInt8) (h : (E F).length = 16) : (sealG E F aad b).length = b.length + 16 := by rw [sealG, List.length_append, gcL_len, tagG_len _ _ _ _ h]
theorem box_extG {W W' : World} {g : Nat} {v : Value} {t : TypeId} {fr : Nat × Nat} (h : W.heap[g]? = some (.cells #[v] t fr)) (hE : Below W.heap.size W W') : W'.heap[g]? = some (.cells #[v] t fr) := (hE.block _ (lt_of_heap h)).trans h
theorem box_cellG {W : World} {g : Nat} {v : Value} {t : TypeId} {fr : Nat × Nat} (h : W.heap[g]? = some (.cells #[v] t fr)) : W.cell? ⟨g, 0, none⟩ = some v := by rw [cell_of_heap (cs := [v]) h]; rfl
theorem ge_ownG {a g : Nat} (h : a ≤ g) {n c : Nat} : ∀ k, (Value.slice (some ⟨g, 0, none⟩) n c).ownBlock = some k → a ≤ k := by
  intro k hk
  simp [Value.ownBlock] at hk
  omega
set_option maxHeartbeats 4000000 in
theorem gseal1_any (p : Nat) (E : List UInt8 → List UInt8) (F : List UInt8) (g1 g2 g3 : Nat) (A3 A4 : Option Addr) (k3 c3 k4 c4 : Nat) (aad x : List UInt8) (w : World) (hF : F.length = 16) (hE : Enc w (.pointer (some ⟨p, 0, none⟩)) E) (h3 : aad.length = k3) (h4 : x.length = k4) (h31 : k3 ≤ 1000) (h41 : k4 ≤ 1000)
    (S3 : Sl w A3 c3 aad) (S4 : Sl w A4 c4 x) (H1 : w.heap[g1]? = some (.cells #[.pointer (some ⟨p, 0, none⟩)] 27 (0, 0))) (H2 : w.heap[g2]? = some (.cells #[.slice A4 k4 c4] 26 (0, 0))) (H3 : w.heap[g3]? = some (.cells #[.slice A3 k3 c3] 26 (0, 0))) :
    Calls Try.prog 47 #[.agg (F.map bv).toArray, .pointer (some ⟨g1, 0, none⟩), .pointer (some ⟨g2, 0, none⟩), .pointer (some ⟨g3, 0, none⟩)] w fun e w' =>
      ∃ v, e = .returned (.tuple #[v, .int .i64 0]) ∧ w'.ownsRow w.heap.size 5 1 v (k4 + 16) ((sealG E F aad x).map bv) ∧ Below w.heap.size w w' := by
  have HF := Lib.hid hF; have HS3 := Lib.hid S3; have HS4 := Lib.hid S4; have HH1 := Lib.hid H1; have HH2 := Lib.hid H2; have HH3 := Lib.hid H3
  have CR := Lib.hid (fun W (hW : Below w.heap.size w W) hS => gcrypt_any (.pointer (some ⟨p, 0, none⟩)) E F A4 k4 c4 x W hF (hE.ext hW) h4 (by omega) hS)
  have HCL : Hid ((gcL E F x).length = k4) := by show _ = _; rw [gcL_len]; exact h4
  have TA := Lib.hid (fun A c W (hW : Below w.heap.size w W) hS3 hS => gtag_any (.pointer (some ⟨p, 0, none⟩)) E F A3 A k3 c3 k4 c aad (gcL E F x) W hF (hE.ext hW) h3 HCL.out (by omega) (by omega) hS3 hS)
  have HSE : Hid (gcL E F x ++ tagG E F aad (gcL E F x) = sealG E F aad x) := rfl
  have HTL := Lib.hid (tagG_len E F aad (gcL E F x) (hE.1 F hF))
  generalize tagG E F aad (gcL E F x) = T at TA HSE HTL
  generalize gcL E F x = C at CR HCL TA HSE
  generalize sealG E F aad x = R at HSE ⊢
  have G := Lib.hid (heap_alloc_new' w (.cells (F.map bv).toArray 23))
  have GB : Hid (Below w.heap.size w (w.alloc (.cells (F.map bv).toArray 23))) := (Below.refl _ _).alloc (Nat.le_refl _) _
  have hk31 : k4 + 16 ≤ 2147483647 := by omega
  clear hF hE h3 h4 S3 S4 H1 H2 H3
  go_enter Try.func47, Try.ntmps47
  go_upto_region 1 with (fail)
  generalize w.alloc _ = W0 at G GB ⊢
  have c1 := box_cellG (box_extG HH1.out GB.out)
  have c2 := box_cellG (box_extG HH2.out GB.out)
  go_upto_region 2 with (first
    | (refine wpList_ld rfl 23 (.tmp 4) rfl (load_arr arr16B rfl (i16c F HF.out) G.out) ?_))
  refine (CR.out W0 GB.out (HS4.out.below GB.out)).mono ?_
  rintro e w1 ⟨v1, rfl, hO, hb1⟩
  obtain ⟨A1, cc1, rfl, hl3, h31', h32, hr3⟩ := own_read hO
  have S1 := Lib.hid (sl_mk hl3 h31' h32 hr3)
  have O1 := Lib.hid hO
  have B1 : Hid (Below w.heap.size w w1) := GB.out.step hb1
  have F1 := Lib.hid ((hb1.block _ (lt_of_heap G.out)).trans G.out)
  have hge : Hid (w.heap.size ≤ W0.heap.size) := GB.out.size
  clear hl3 h31' h32 hr3 hO hb1 c1 c2 GB G CR
  have c1 := box_cellG (box_extG HH1.out B1.out)
  have c3' := box_cellG (box_extG HH3.out B1.out)
  go_wp2_with (first
    | (refine wpList_ld rfl 23 (.tmp 4) rfl (load_arr arr16B rfl (i16c F HF.out) F1.out) ?_))
  refine (TA.out A1 cc1 w1 B1.out (HS3.out.below B1.out) S1.out).mono ?_
  rintro e w2 ⟨g2', hg2, rfl, hk2, hb2⟩
  have B2 : Hid (Below w.heap.size w w2) := B1.out.step hb2
  have O2 := Lib.hid (c_own_below (own_mono O1.out hge.out) hb2)
  have T2 := Lib.hid hk2
  have HS2 : Hid (w.heap.size ≤ w2.heap.size) := B2.out.size
  clear hg2 hk2 hb2 c1 c3' B1 F1 O1 S1 TA
  go_wp2_with (first
    | (at_builtin
       refine wpList_app8 rfl (.tmp 12) (.tmp 17) rfl w.heap.size _ k4 C rfl ?_ (some ⟨g2', 0, none⟩) 16 16 w2.heap.size T rfl ?_ ?_ ?_ ?_ ?_
       · exact O2.out
       · exact (sl_row HTL.out (by omega) T2.out).2.2
       · exact HTL.out
       · exact hk31
       · exact HS2.out
       rintro v4 w4 hown hgr
       have HO4 := Lib.hid hown
       have B4 : Hid (Below w.heap.size w w4) := B2.out.grown hgr B2.out.size (c_own_ge O2.out (Nat.le_refl _))
       clear hown hgr)
    | fail)
  go_ret2
  exact ⟨_, rfl, by rw [← HSE.out]; exact HO4.out, B4.out⟩
theorem gcallSeal : ∀ args W, (callFunc 47 args).run Try.prog W = .ok (.enter 47 args) W := fun _ _ => by kernel_rfl
theorem gcallOpen : ∀ args W, (callFunc 61 args).run Try.prog W = .ok (.enter 61 args) W := fun _ _ => by kernel_rfl
theorem heap_thr (w : World) (o1 o2 o3 : Obj) : (((w.alloc o1).alloc o2).alloc o3).heap[w.heap.size]? = some o1 ∧ (((w.alloc o1).alloc o2).alloc o3).heap[w.heap.size + 1]? = some o2 ∧ (((w.alloc o1).alloc o2).alloc o3).heap[w.heap.size + 2]? = some o3 ∧ Below w.heap.size w (((w.alloc o1).alloc o2).alloc o3) := heap3 w o1 o2 o3
set_option maxHeartbeats 2000000 in
theorem gseal_any (p : Nat) (E : List UInt8 → List UInt8) (iv aad x : List UInt8) (A2 A3 A4 : Option Addr) (k2 c2 k3 c3 k4 c4 : Nat) (w : World) (hE : GKey w (.pointer (some ⟨p, 0, none⟩)) E) (h2 : iv.length = k2) (h20 : 0 < k2) (h21 : k2 ≤ 1000) (h3 : aad.length = k3) (h4 : x.length = k4) (h31 : k3 ≤ 1000) (h41 : k4 ≤ 1000)
    (S2 : Sl w A2 c2 iv) (S3 : Sl w A3 c3 aad) (S4 : Sl w A4 c4 x) :
    Calls Try.prog 22 #[.pointer (some ⟨p, 0, none⟩), .slice A2 k2 c2, .slice A3 k3 c3, .slice A4 k4 c4] w fun e w' =>
      ∃ v, e = .returned (.tuple #[v, .int .i64 0]) ∧ w'.ownsRow w.heap.size 5 1 v (k4 + 16) ((sealG E (firstG E iv) aad x).map bv) ∧ Below w.heap.size w w' := by
  have G := heap_thr w (.cells #[.pointer (some ⟨p, 0, none⟩)] 27) (.cells #[.slice A3 k3 c3] 26) (.cells #[.slice A4 k4 c4] 26)
  have BA : Hid (Calls Try.prog 46 #[.pointer (some ⟨p, 0, none⟩), .slice A2 k2 c2, .func (.func 47) #[] #[.pointer (some ⟨w.heap.size, 0, none⟩), .pointer (some ⟨w.heap.size + 2, 0, none⟩), .pointer (some ⟨w.heap.size + 1, 0, none⟩)]] (((w.alloc (.cells #[.pointer (some ⟨p, 0, none⟩)] 27)).alloc (.cells #[.slice A3 k3 c3] 26)).alloc (.cells #[.slice A4 k4 c4] 26)) fun e w' =>
      ∃ v y, e = .returned (.tuple #[v, .int .i64 y]) ∧ Ext (((w.alloc (.cells #[.pointer (some ⟨p, 0, none⟩)] 27)).alloc (.cells #[.slice A3 k3 c3] 26)).alloc (.cells #[.slice A4 k4 c4] 26)) w' ∧ (y = 0 ∧ w'.ownsRow w.heap.size 5 1 v (k4 + 16) ((sealG E (firstG E iv) aad x).map bv))) := by
    generalize ((w.alloc _).alloc _).alloc _ = W0 at G ⊢
    refine gboth_any 47 _ (fun v y w' => y = 0 ∧ w'.ownsRow w.heap.size 5 1 v (k4 + 16) ((sealG E (firstG E iv) aad x).map bv)) _ E A2 k2 c2 iv W0 (hE.ext G.2.2.2) h2 h20 (by omega) (S2.below G.2.2.2) gcallSeal fun W hW => ?_
    have hb := G.2.2.2.step hW
    refine (gseal1_any p E (firstG E iv) w.heap.size (w.heap.size + 2) (w.heap.size + 1) A3 A4 k3 c3 k4 c4 aad x W (firstG_len _ _) (hE.1.ext hb) h3 h4 h31 h41 (S3.below hb) (S4.below hb) (box_extG G.1 hW) (box_extG G.2.2.1 hW) (box_extG G.2.1 hW)).mono ?_
    rintro e w' ⟨v, rfl, hO, hB⟩
    exact ⟨v, 0, rfl, hB, rfl, own_mono hO hb.size⟩
  have GB := Lib.hid G.2.2.2
  clear G hE h2 h3 h4 S2 S3 S4
  generalize sealG E (firstG E iv) aad x = R at BA ⊢
  go_enter Try.func22, Try.ntmps22
  go_wp2_with fail
  refine BA.out.mono ?_
  rintro e w' ⟨v, y, rfl, hE, rfl, hO⟩
  have HO := Lib.hid hO
  have HB : Hid (Below w.heap.size w w') := GB.out.step hE
  clear hO hE
  go_wp2
  go_ret2
  exact ⟨_, rfl, HO.out, HB.out⟩
/-- what opening comes to -/
def OpenG (w : World) (E : List UInt8 → List UInt8) (F aad b : List UInt8) (m : Nat) (v : Value) (x : Int) (w' : World) : Prop :=
  if tagG E F aad (b.take m) = b.drop m then x = 0 ∧ w'.ownsRow w.heap.size 5 1 v m ((gcL E F (b.take m)).map bv) else v = .slice none 0 0 ∧ x = 7
set_option maxHeartbeats 8000000 in
theorem gopen1_any (p : Nat) (E : List UInt8 → List UInt8) (F : List UInt8) (g1 g2 g3 : Nat) (A3 A4 : Option Addr) (k3 c3 k4 c4 m : Nat) (aad x : List UInt8) (w : World) (hF : F.length = 16) (hE : Enc w (.pointer (some ⟨p, 0, none⟩)) E) (h3 : aad.length = k3) (h4 : x.length = k4) (h31 : k3 ≤ 1000) (h41 : k4 ≤ 1000) (hm : k4 = m + 16)
    (S3 : Sl w A3 c3 aad) (S4 : Sl w A4 c4 x) (H1 : w.heap[g1]? = some (.cells #[.pointer (some ⟨p, 0, none⟩)] 27 (0, 0))) (H2 : w.heap[g2]? = some (.cells #[.slice A4 k4 c4] 26 (0, 0))) (H3 : w.heap[g3]? = some (.cells #[.slice A3 k3 c3] 26 (0, 0))) :
    Calls Try.prog 61 #[.agg (F.map bv).toArray, .pointer (some ⟨g2, 0, none⟩), .pointer (some ⟨g1, 0, none⟩), .pointer (some ⟨g3, 0, none⟩)] w fun e w' =>
      ∃ v y, e = .returned (.tuple #[v, .int .i64 y]) ∧ Below w.heap.size w w' ∧ OpenG w E F aad x m v y w' := by
  have HF := Lib.hid hF; have HS3 := Lib.hid S3; have HS4 := Lib.hid S4; have HH1 := Lib.hid H1; have HH2 := Lib.hid H2; have HH3 := Lib.hid H3
  have htl : (x.take m).length = m := by rw [List.length_take, h4]; omega
  have hdl : (x.drop m).length = 16 := by rw [List.length_drop, h4]; omega
  have ST := Lib.hid (sl_take' (q := m) S4)
  have SD := Lib.hid (sl_cut (k := m) S4 (by omega))
  have CR := Lib.hid (fun W (hW : Below w.heap.size w W) hS => gcrypt_any (.pointer (some ⟨p, 0, none⟩)) E F A4 m c4 (x.take m) W hF (hE.ext hW) htl (by omega) hS)
  have TA := Lib.hid (fun W (hW : Below w.heap.size w W) hS3 hS => gtag_any (.pointer (some ⟨p, 0, none⟩)) E F A3 A4 k3 c3 m c4 aad (x.take m) W hF (hE.ext hW) h3 htl (by omega) (by omega) hS3 hS)
  have HTL := Lib.hid (tagG_len E F aad (x.take m) (hE.1 F hF))
  have EQ := Lib.hid (fun A W hS hS' => equal_n A (cutS A4 c4 m) 16 16 16 (c4 - m) (tagG E F aad (x.take m)) (x.drop m) W HTL.out hdl hS hS' (by omega) (by omega))
  have PN := Lib.hid (fun (h : decide (tagG E F aad (x.take m) = x.drop m) = false) (w' : World) => (show OpenG w E F aad x m (.slice none 0 0) 7 w' from by unfold OpenG; rw [if_neg (of_decide_eq_false h)]; exact ⟨rfl, rfl⟩))
  have PY := Lib.hid (fun (h : decide (tagG E F aad (x.take m) = x.drop m) = true) (v : Value) (w' : World) (ho : w'.ownsRow w.heap.size 5 1 v m ((gcL E F (x.take m)).map bv)) => (show OpenG w E F aad x m v 0 w' from by unfold OpenG; rw [if_pos (of_decide_eq_true h)]; exact ⟨rfl, ho⟩))
  generalize OpenG w E F aad x m = PO at PN PY ⊢
  generalize tagG E F aad (x.take m) = T at TA HTL EQ PN PY
  generalize gcL E F (x.take m) = C at CR PY
  generalize x.take m = X1 at ST TA CR
  generalize x.drop m = X2 at SD EQ PN PY
  have sl1 := cut_to uT s8 A4 k4 c4 .i64 (m : Int) (by omega) (by have := S4.1; omega)
  have sl2 := cut_from uT s8 A4 k4 c4 .i64 (m : Int) (by omega) (by omega)
  rw [Int.toNat_natCast] at sl1 sl2
  rw [show k4 - m = 16 by omega] at sl2
  have u1 : (k4 : Int) - 16 = (m : Int) := by omega
  have u2 : IntKind.i64.wrap ((k4 : Int) - 16) = (m : Int) := by rw [IntKind.wrap_i64]; omega
  have u3 : IntKind.i64.wrap (m : Int) = (m : Int) := by rw [IntKind.wrap_i64]; omega
  have hmc : m ≤ c4 := by have := S4.1; omega
  have hmk : m ≤ k4 := by omega
  have h16 : ¬ ((k4 : Int) < 16) := by omega
  have G := Lib.hid (heap_alloc_new' w (.cells (F.map bv).toArray 23))
  have GB : Hid (Below w.heap.size w (w.alloc (.cells (F.map bv).toArray 23))) := (Below.refl _ _).alloc (Nat.le_refl _) _
  clear hF hE h3 h4 S3 S4 H1 H2 H3 htl hdl hm
  go_enter Try.func61, Try.ntmps61
  go_upto_region 1 with (fail)
  generalize w.alloc _ = W0 at G GB ⊢
  have c2 := box_cellG (box_extG HH2.out GB.out)
  go_upto_region 3 with (fail)
  clear c2
  have HX : Hid (Ext W0 W0.drew) := (Below.refl _ _).drew
  refine reg_start (by kernel_rfl) ?_
  try simp only [Act.put, List.setIfInBounds_toArray, List.set_cons_zero, List.set_cons_succ]
  refine reg_load 0 (some 12) (fun W hW => o_load_slice uT (box_cellG (box_extG HH2.out (GB.out.step (HX.out.trans hW))))) rfl rfl rfl rfl (by kernel_rfl) (by kernel_rfl) (by kernel_rfl) (fun _ _ _ h => h) (by rfl) ?_
  simp only [Act.put, List.setIfInBounds_toArray, List.set_cons_zero, List.set_cons_succ]
  refine reg_load 1 (some 13) (fun W hW => o_load_slice uT (box_cellG (box_extG HH2.out (GB.out.step (HX.out.trans hW))))) rfl rfl rfl rfl (by kernel_rfl) (by kernel_rfl) (by kernel_rfl) (fun _ _ _ h => h) (by rfl) ?_
  simp only [Act.put, List.setIfInBounds_toArray, List.set_cons_zero, List.set_cons_succ]
  refine reg_take (v := ?_) 2 (some 14) rfl rfl (by kernel_rfl) (by kernel_rfl) (by kernel_rfl) (fun _ _ _ h => h) (by rfl) (fun W hW => ?_) ?_
  rotate_left
  · (go_simp; try rfl)
  simp only [Act.put, List.setIfInBounds_toArray, List.set_cons_zero, List.set_cons_succ]
  refine reg_take (v := ?_) 3 (some 15) rfl rfl (by kernel_rfl) (by kernel_rfl) (by kernel_rfl) (fun _ _ _ h => h) (by rfl) (fun W hW => ?_) ?_
  rotate_left
  · (go_simp; try rfl)
  simp only [Act.put, List.setIfInBounds_toArray, List.set_cons_zero, List.set_cons_succ]
  refine reg_take (v := ?_) 4 (some 16) rfl rfl (by kernel_rfl) (by kernel_rfl) (by kernel_rfl) (fun _ _ _ h => h) (by rfl) (fun W hW => ?_) ?_
  rotate_left
  · (go_simp; try rfl)
  simp only [Act.put, List.setIfInBounds_toArray, List.set_cons_zero, List.set_cons_succ]
  refine reg_load 5 (some 17) (fun W hW => o_load_slice uT (box_cellG (box_extG HH2.out (GB.out.step (HX.out.trans hW))))) rfl rfl rfl rfl (by kernel_rfl) (by kernel_rfl) (by kernel_rfl) (fun _ _ _ h => h) (by rfl) ?_
  simp only [Act.put, List.setIfInBounds_toArray, List.set_cons_zero, List.set_cons_succ]
  refine reg_load 6 (some 18) (fun W hW => o_load_slice uT (box_cellG (box_extG HH2.out (GB.out.step (HX.out.trans hW))))) rfl rfl rfl rfl (by kernel_rfl) (by kernel_rfl) (by kernel_rfl) (fun _ _ _ h => h) (by rfl) ?_
  simp only [Act.put, List.setIfInBounds_toArray, List.set_cons_zero, List.set_cons_succ]
  refine reg_take (v := ?_) 7 (some 19) rfl rfl (by kernel_rfl) (by kernel_rfl) (by kernel_rfl) (fun _ _ _ h => h) (by rfl) (fun W hW => ?_) ?_
  rotate_left
  · (go_simp; try rfl)
  simp only [Act.put, List.setIfInBounds_toArray, List.set_cons_zero, List.set_cons_succ]
  refine reg_take (v := ?_) 8 (some 20) rfl rfl (by kernel_rfl) (by kernel_rfl) (by kernel_rfl) (fun _ _ _ h => h) (by rfl) (fun W hW => ?_) ?_
  rotate_left
  · (go_simp; try rfl)
  simp only [Act.put, List.setIfInBounds_toArray, List.set_cons_zero, List.set_cons_succ]
  refine reg_take (v := ?_) 9 (some 21) rfl rfl (by kernel_rfl) (by kernel_rfl) (by kernel_rfl) (fun _ _ _ h => h) (by rfl) (fun W hW => ?_) ?_
  rotate_left
  · (go_simp; try rfl)
  simp only [Act.put, List.setIfInBounds_toArray, List.set_cons_zero, List.set_cons_succ]
  refine reg_take (v := ?_) 10 (some 7) rfl rfl (by kernel_rfl) (by kernel_rfl) (by kernel_rfl) (fun _ _ _ h => h) (by rfl) (fun W hW => ?_) ?_
  rotate_left
  · (go_simp; try rfl)
  simp only [Act.put, List.setIfInBounds_toArray, List.set_cons_zero, List.set_cons_succ]
  refine reg_take (v := ?_) 11 (some 8) rfl rfl (by kernel_rfl) (by kernel_rfl) (by kernel_rfl) (fun _ _ _ h => h) (by rfl) (fun W hW => ?_) ?_
  rotate_left
  · (go_simp; try rfl)
  simp only [Act.put, List.setIfInBounds_toArray, List.set_cons_zero, List.set_cons_succ]
  refine reg_done (by kernel_rfl) ?_
  have B1 : Hid (Below w.heap.size w W0.drew) := GB.out.step HX.out
  have F1 : Hid (W0.drew.heap[w.heap.size]? = _) := G.out
  generalize W0.drew = w1 at B1 F1 ⊢
  clear G GB HX
  have c1 := box_cellG (box_extG HH1.out B1.out)
  have c3' := box_cellG (box_extG HH3.out B1.out)
  go_wp2_with (first
    | (refine wpList_ld rfl 23 (.tmp 4) rfl (load_arr arr16B rfl (i16c F HF.out) F1.out) ?_))
  refine (TA.out w1 B1.out (HS3.out.below B1.out) (ST.out.below B1.out)).mono ?_
  rintro e w2 ⟨g2', hg2, rfl, hk2, hb2⟩
  have B2 : Hid (Below w.heap.size w w2) := B1.out.step hb2
  have F2 := Lib.hid ((hb2.block _ (lt_of_heap F1.out)).trans F1.out)
  have T2 := Lib.hid hk2
  clear hg2 hk2 hb2 c1 c3' B1 F1 TA
  go_wp2_with fail
  refine (EQ.out _ w2 (sl_row HTL.out (by omega) T2.out) (SD.out.below B2.out)).mono ?_
  rintro e w3 ⟨rfl, hb⟩
  have B3 : Hid (Below w.heap.size w w3) := B2.out.step hb
  have F3 := Lib.hid ((hb.block _ (lt_of_heap F2.out)).trans F2.out)
  clear hb B2 F2 T2 EQ SD
  generalize hbb : decide (T = X2) = bb at PN PY
  have PN := PN.out; have PY := PY.out
  cases bb with
  | false =>
    have PN' := Lib.hid (PN rfl)
    clear hbb PN PY
    go_wp2_with fail
    go_ret2
    exact ⟨_, _, rfl, B3.out, PN'.out _⟩
  | true =>
    have PY' := Lib.hid (PY rfl)
    clear hbb PN PY
    have c1 := box_cellG (box_extG HH1.out B3.out)
    go_wp2_with (first
      | (refine wpList_ld rfl 23 (.tmp 4) rfl (load_arr arr16B rfl (i16c F HF.out) F3.out) ?_))
    refine (CR.out w3 B3.out (ST.out.below B3.out)).mono ?_
    rintro e w4 ⟨v, rfl, hO, hb⟩
    have B4 : Hid (Below w.heap.size w w4) := B3.out.step hb
    have O4 := Lib.hid (own_mono hO B3.out.size)
    clear hO hb c1
    go_wp2
    go_ret2
    exact ⟨_, _, rfl, B4.out, PY'.out _ _ O4.out⟩
set_option maxHeartbeats 2000000 in
theorem gopen_any (p : Nat) (E : List UInt8 → List UInt8) (iv aad x : List UInt8) (A2 A3 A4 : Option Addr) (k2 c2 k3 c3 k4 c4 m : Nat) (w : World) (hE : GKey w (.pointer (some ⟨p, 0, none⟩)) E) (h2 : iv.length = k2) (h20 : 0 < k2) (h21 : k2 ≤ 1000) (h3 : aad.length = k3) (h4 : x.length = k4) (h31 : k3 ≤ 1000) (h41 : k4 ≤ 1000) (hm : k4 = m + 16)
    (S2 : Sl w A2 c2 iv) (S3 : Sl w A3 c3 aad) (S4 : Sl w A4 c4 x) :
    Calls Try.prog 30 #[.pointer (some ⟨p, 0, none⟩), .slice A2 k2 c2, .slice A3 k3 c3, .slice A4 k4 c4] w fun e w' =>
      ∃ v y, e = .returned (.tuple #[v, .int .i64 y]) ∧ OpenG w E (firstG E iv) aad x m v y w' ∧ Below w.heap.size w w' := by
  have G := heap_thr w (.cells #[.pointer (some ⟨p, 0, none⟩)] 27) (.cells #[.slice A3 k3 c3] 26) (.cells #[.slice A4 k4 c4] 26)
  have BA : Hid (Calls Try.prog 46 #[.pointer (some ⟨p, 0, none⟩), .slice A2 k2 c2, .func (.func 61) #[] #[.pointer (some ⟨w.heap.size + 2, 0, none⟩), .pointer (some ⟨w.heap.size, 0, none⟩), .pointer (some ⟨w.heap.size + 1, 0, none⟩)]] (((w.alloc (.cells #[.pointer (some ⟨p, 0, none⟩)] 27)).alloc (.cells #[.slice A3 k3 c3] 26)).alloc (.cells #[.slice A4 k4 c4] 26)) fun e w' =>
      ∃ v y, e = .returned (.tuple #[v, .int .i64 y]) ∧ Ext (((w.alloc (.cells #[.pointer (some ⟨p, 0, none⟩)] 27)).alloc (.cells #[.slice A3 k3 c3] 26)).alloc (.cells #[.slice A4 k4 c4] 26)) w' ∧ OpenG w E (firstG E iv) aad x m v y w') := by
    generalize ((w.alloc _).alloc _).alloc _ = W0 at G ⊢
    refine gboth_any 61 _ (fun v y w' => OpenG w E (firstG E iv) aad x m v y w') _ E A2 k2 c2 iv W0 (hE.ext G.2.2.2) h2 h20 (by omega) (S2.below G.2.2.2) gcallOpen fun W hW => ?_
    have hb := G.2.2.2.step hW
    refine (gopen1_any p E (firstG E iv) w.heap.size (w.heap.size + 2) (w.heap.size + 1) A3 A4 k3 c3 k4 c4 m aad x W (firstG_len _ _) (hE.1.ext hb) h3 h4 h31 h41 hm (S3.below hb) (S4.below hb) (box_extG G.1 hW) (box_extG G.2.2.1 hW) (box_extG G.2.1 hW)).mono ?_
    rintro e w' ⟨v, y, rfl, hB, hO⟩
    refine ⟨v, y, rfl, hB, ?_⟩
    unfold OpenG at hO ⊢
    split
    · rename_i h; rw [if_pos h] at hO; exact ⟨hO.1, own_mono hO.2 hb.size⟩
    · rename_i h; rw [if_neg h] at hO; exact hO
  have GB := Lib.hid G.2.2.2
  clear G hE h2 h3 h4 S2 S3 S4 hm
  generalize OpenG w E (firstG E iv) aad x m = R at BA ⊢
  go_enter Try.func30, Try.ntmps30
  go_wp2_with fail
  refine BA.out.mono ?_
  rintro e w' ⟨v, y, rfl, hE, hO⟩
  have HO := Lib.hid hO
  have HB : Hid (Below w.heap.size w w') := GB.out.step hE
  clear hO hE
  go_wp2
  go_ret2
  exact ⟨_, _, rfl, HO.out, HB.out⟩
end Go.Proofs.Ytjmpbcfbfbjenaa

/- A key, whether it is long, an IV and an aad that come in (layer 10). -/
namespace Go.Proofs.Ytjmpbcfbfbjenaa
open Go.RowKit Go.ChangeShapes Go.WideShapes Go.ChangeAt
set_option maxRecDepth 100000
set_option linter.unusedVariables false
set_option linter.unusedSimpArgs false
structure KeyX where
  (k : List UInt8) (lg : Bool) (A2 : Option Addr) (c2 : Nat) (iv : List UInt8) (A3 : Option Addr) (c3 : Nat) (a : List UInt8)
def KeyX.cells (y : KeyX) : List Value := y.k.map bv ++ [.bool y.lg, .slice y.A2 y.iv.length y.c2, .slice y.A3 y.a.length y.c3]
def KeyX.ok (y : KeyX) (w : World) : Prop := y.k.length = 32 ∧ Sl w y.A2 y.c2 y.iv ∧ Sl w y.A3 y.c3 y.a
theorem split35 (L : List Value) (h : L.length = 35) : L = L.take 32 ++ ((L.drop 32).take 1 ++ ((L.drop 33).take 1 ++ (L.drop 34).take 1)) := by
  have h1 := List.take_append_drop 32 L
  have h2 := List.take_append_drop 1 (L.drop 32)
  have h3 := List.take_append_drop 1 (L.drop 33)
  rw [List.drop_drop] at h2 h3
  have h4 : (L.drop 34).take 1 = L.drop 34 := List.take_of_length_le (by simp; omega)
  rw [h4, show L.drop 34 = L.drop (33 + 1) from rfl, h3, show L.drop 33 = L.drop (32 + 1) from rfl, h2, h1]
theorem open_palfreylaw10_Key {H : Type} {enc : TypeId × Value → H} {W : World} {base : Nat} {v : Value} {d : DataW H} {p : List MemPlace}
    (hv : Value.okWide Try.prog W .any base 44 v) (h : DataW.Trod enc Try.prog W 0 (fun _ => true) true 44 v d p) :
    ∃ y : KeyX, v = .agg y.cells.toArray ∧ y.ok W := by
  obtain ⟨cs, rfl, hsz⟩ := okWide_struct Try.underlying44 hv
  obtain ⟨fuel, hf⟩ := h
  obtain ⟨y0, y1, y2, y3, m, _, hl, h0, h1, h2, h3⟩ := Go.Joins.trod_struct4 Try.underlying44 hf
  simp only [Value.cells] at hl h0 h1 h2 h3
  have hc : Try.prog.cellsOf 44 = 35 := by kernel_rfl
  have c0 : Try.prog.cellsOf 22 = 32 := by kernel_rfl
  have c1 : Try.prog.cellsOf 4 = 1 := by kernel_rfl
  have c2 : Try.prog.cellsOf 26 = 1 := by kernel_rfl
  rw [hc] at hl
  rw [c0] at h0
  rw [c1] at h1
  rw [c2] at h2 h3
  obtain ⟨z0, e0, hz0, w0⟩ := cells_ints Try.underlying22 Try.underlying5 (by kernel_rfl) c0 h0
  obtain ⟨b, e1, _⟩ := DataW.trod_bool Try.underlying4 h1
  obtain ⟨k, rfl⟩ := bytes_of w0
  obtain ⟨A2, c2', iv, e2, s2⟩ := open_bytes_cs h2
  obtain ⟨A3, c3, a, e3, s3⟩ := open_bytes_cs h3
  refine ⟨⟨k, b, A2, c2', iv, A3, c3, a⟩, ?_, by simpa using hz0, s2, s3⟩
  congr 1
  apply Array.ext'
  have hs := split35 cs.toList hl
  simp only [List.drop_zero] at e0
  rw [e0, e1, e2, e3] at hs
  rw [hs]
  simp [KeyX.cells, Function.comp_def]
  exact fun _ _ => rfl
end Go.Proofs.Ytjmpbcfbfbjenaa

/- Layer 10's laws' own functions: short, bytes, keys, awake. -/
namespace Go.Proofs.Ytjmpbcfbfbjenaa
open Go.RowKit
set_option maxRecDepth 100000
set_option linter.unusedVariables false
set_option linter.unusedSimpArgs false
theorem keyX_cells {W : World} {g : Nat} {y : KeyX} {t : TypeId} {fr : Nat × Nat} (h : W.heap[g]? = some (.cells y.cells.toArray t fr)) (hk : y.k.length = 32) :
    W.cell? ⟨g, 32, none⟩ = some (.bool y.lg) ∧ W.cell? ⟨g, 33, none⟩ = some (.slice y.A2 y.iv.length y.c2) ∧ W.cell? ⟨g, 34, none⟩ = some (.slice y.A3 y.a.length y.c3) := by
  refine ⟨?_, ?_, ?_⟩ <;> rw [cell_of_heap h, KeyX.cells, List.getElem?_append_right (by simp [hk]), List.length_map, hk] <;> rfl
theorem keyX_len (y : KeyX) (hk : y.k.length = 32) : y.cells.length = 35 := by simp [KeyX.cells, hk]
theorem iKeyX : (Try.prog.info? 44).map (·.size) = some 35 := by kernel_rfl
theorem ld_keyX {W : World} {g : Nat} {y : KeyX} {t : TypeId} {fr : Nat × Nat} (h : W.heap[g]? = some (.cells y.cells.toArray t fr)) (hk : y.k.length = 32) : (Instr.loadAt 44 (.pointer (some ⟨g, 0, none⟩))).run Try.prog W = .ok (.agg y.cells.toArray) W :=
  run_loadAt_mid W g 0 44 y.cells _ (fun j v hv => by rw [cell_of_heap h, Nat.zero_add]; exact hv) Try.underlying44 rfl (by rw [keyX_len y hk]; exact iKeyX)
/-- which bytes of it are the key -/
def keyBX (k : List UInt8) (b : Bool) : List UInt8 := if b then k else k.take 16
def keyWX (b : Bool) : Nat := if b then 8 else 4
theorem keyBX_len (k : List UInt8) (b : Bool) (hk : k.length = 32) : (keyBX k b).length = 4 * keyWX b := by
  cases b <;> simp [keyBX, keyWX, hk]
theorem keyX_sl {W : World} {g : Nat} {y : KeyX} {t : TypeId} {fr : Nat × Nat} (h : W.heap[g]? = some (.cells y.cells.toArray t fr)) (hk : y.k.length = 32) : Sl W (some ⟨g, 0, none⟩) 32 (keyBX y.k y.lg) := by
  refine ⟨by rw [keyBX_len y.k y.lg hk]; cases y.lg <;> simp [keyWX], by simp [maxLen], .inr ⟨g, 0, rfl, lt_of_heap h, fun j u hu => ?_⟩⟩
  have hj := (List.getElem?_eq_some_iff.1 hu).1
  rw [List.length_map, keyBX_len y.k y.lg hk] at hj
  have hj32 : j < 32 := by cases hlg : y.lg <;> rw [hlg] at hj <;> simp [keyWX] at hj <;> omega
  rw [Nat.zero_add, cell_of_heap h, KeyX.cells, List.getElem?_append_left (by simp [hk]; exact hj32)]
  rw [← hu]
  cases hlg : y.lg
  · rw [hlg] at hj
    simp only [keyBX, Bool.false_eq_true, if_false, List.map_take]
    rw [List.getElem?_take_of_lt (by simpa [keyWX] using hj)]
  · rfl
def shortX (y : KeyX) : Bool := decide (y.iv.length ≤ 100) && decide (y.a.length ≤ 100)
set_option maxHeartbeats 1000000 in
theorem xshort_any (y : KeyX) (w : World) (hk : y.k.length = 32) : Calls Try.prog 20 #[.agg y.cells.toArray] w fun e w' => e = .returned (.bool (shortX y)) ∧ Below w.heap.size w w' := by
  have H := keyX_cells (heap_alloc_new' w (.cells y.cells.toArray 44)) hk
  have HB : Hid (Below w.heap.size w (w.alloc (.cells y.cells.toArray 44))) := (Below.refl _ _).alloc (Nat.le_refl _) _
  unfold shortX
  clear hk
  generalize y.cells.toArray = Z at H HB ⊢
  generalize y.iv.length = n1 at H ⊢
  generalize y.a.length = n2 at H ⊢
  obtain ⟨h0, h1, h2⟩ := H
  rcases Nat.lt_or_ge 100 n1 with q1 | q1
  · have e1 : decide (n1 ≤ 100) = false := by simp; omega
    rw [e1, Bool.false_and]
    have i1 : ¬ ((n1 : Int) ≤ 100) := by omega
    clear e1
    go_enter Try.func20, Try.ntmps20
    go_wp2
    go_ret
    exact ⟨rfl, HB.out⟩
  · have e1 : decide (n1 ≤ 100) = true := by simp; omega
    have i1 : ((n1 : Int) ≤ 100) := by omega
    rw [e1, Bool.true_and]
    clear e1
    rcases Nat.lt_or_ge 100 n2 with q2 | q2
    · have e2 : decide (n2 ≤ 100) = false := by simp; omega
      have i2 : ¬ ((n2 : Int) ≤ 100) := by omega
      rw [e2]
      clear e2
      go_enter Try.func20, Try.ntmps20
      go_wp2
      go_ret
      exact ⟨rfl, HB.out⟩
    · have e2 : decide (n2 ≤ 100) = true := by simp; omega
      have i2 : ((n2 : Int) ≤ 100) := by omega
      rw [e2]
      clear e2
      go_enter Try.func20, Try.ntmps20
      go_wp2
      go_ret
      exact ⟨rfl, HB.out⟩
theorem arr32X : Try.prog.underlying 22 = some (.array 32 5) := Try.underlying22
set_option maxHeartbeats 1000000 in
theorem xbytes_any (y : KeyX) (w : World) (hk : y.k.length = 32) :
    Calls Try.prog 28 #[.agg y.cells.toArray] w fun e w' => e = .returned (.slice (some ⟨w.heap.size, 0, none⟩) (4 * keyWX y.lg) 32) ∧ Sl w' (some ⟨w.heap.size, 0, none⟩) 32 (keyBX y.k y.lg) ∧ Below w.heap.size w w' := by
  have HA := heap_alloc_new' w (.cells y.cells.toArray 44)
  have HS := Lib.hid (keyX_sl HA hk)
  have hc := (keyX_cells HA hk).1
  have HB : Hid (Below w.heap.size w (w.alloc (.cells y.cells.toArray 44))) := (Below.refl _ _).alloc (Nat.le_refl _) _
  have sl := arr_to arr32X s8 ⟨w.heap.size, 0, none⟩ .i64 16 (by omega) (by omega)
  rw [show (16 : Int).toNat = 16 from rfl] at sl
  have sl2 := arr_all arr32X s8 ⟨w.heap.size, 0, none⟩
  clear HA hk
  generalize y.cells.toArray = Z at HS hc HB ⊢
  generalize keyBX y.k y.lg = KB at HS ⊢
  cases hlg : y.lg
  · rw [hlg] at hc
    go_enter Try.func28, Try.ntmps28
    go_wp2
    go_ret
    exact ⟨rfl, HS.out, HB.out⟩
  · rw [hlg] at hc
    go_enter Try.func28, Try.ntmps28
    go_wp2
    go_ret
    exact ⟨rfl, HS.out, HB.out⟩
set_option maxHeartbeats 1000000 in
theorem xkeys_any (y : KeyX) (w : World) (hk : y.k.length = 32) :
    Calls Try.prog 21 #[.agg y.cells.toArray] w fun e w' => ∃ g E, e = .returned (.tuple #[.pointer (some ⟨g, 0, none⟩), .bool true]) ∧ E = encL (expandL (keyBX y.k y.lg)) (keyWX y.lg + 6) ∧ GKey w' (.pointer (some ⟨g, 0, none⟩)) E ∧ Below w.heap.size w w' := by
  have HBY := Lib.hid (fun W => xbytes_any y W hk)
  have HLD := Lib.hid (ld_keyX (heap_alloc_new' w (.cells y.cells.toArray 44)) hk)
  have HKL := Lib.hid (keyBX_len y.k y.lg hk)
  have HW : Hid (keyWX y.lg = 4 ∨ keyWX y.lg = 8) := by show _ ∨ _; cases y.lg <;> simp [keyWX]
  have GB : Hid (Below w.heap.size w (w.alloc (.cells y.cells.toArray 44))) := (Below.refl _ _).alloc (Nat.le_refl _) _
  generalize y.cells.toArray = Z at HBY HLD GB ⊢
  generalize keyBX y.k y.lg = KB at HBY HKL ⊢
  generalize keyWX y.lg = nk at HBY HKL HW ⊢
  clear hk
  go_enter Try.func21, Try.ntmps21
  go_upto_region 1 with (fail)
  generalize w.alloc _ = W0 at HLD GB ⊢
  go_wp2_with (first
    | (refine wpList_ld rfl 44 (.tmp 1) rfl HLD.out ?_)
    | fail)
  refine (HBY.out W0).mono ?_
  rintro e w1 ⟨rfl, hS1, hb1⟩
  have S1 := Lib.hid hS1; have B1 := Lib.hid (GB.out.step hb1)
  clear hS1 hb1
  go_wp2_with fail
  refine (expand_any (some ⟨W0.heap.size, 0, none⟩) (4 * nk) 32 nk KB w1 HKL.out rfl HW.out S1.out).mono ?_
  rintro e w2 ⟨g, rfl, hg, hK, hb2⟩
  have K2 := Lib.hid (KeyAt.gkey hK (by omega) (by rcases HW.out with h | h <;> omega)); have B2 := Lib.hid (B1.out.step hb2)
  clear hK hb2 hg
  go_wp2
  go_ret2
  exact ⟨g, _, rfl, rfl, K2.out, B2.out⟩
def z16 : List UInt8 := List.replicate 16 0
def z12 : List UInt8 := List.replicate 12 0
def exF : List UInt8 := [0, 0, 0, 0, 0, 0, 0, 0, 0, 0, 0, 0, 0, 0, 0, 1]
theorem ex_gcm : (encL (expandL z16) 10 exF).take 4 = [88, 226, 252, 206] := by decide +kernel
theorem hash_zero (h : List UInt8) (hh : h.length = 16) : gsumL h (whG [] ++ whG [] ++ lenL 0 0) = zerB := by
  have e : whG [] ++ whG [] ++ lenL 0 0 = zerB := by decide
  rw [e]
  have : gsumL h zerB = gmulL (mixF zerB fun k => byteF zerB (16 * 0 + k)) h := rfl
  rw [this, show (mixF zerB fun k => byteF zerB (16 * 0 + k)) = zerB from by decide, gmul_comm _ _ rfl hh, gmul_zero]
theorem seal_empty : (sealG (encL (expandL z16) 10) (firstG (encL (expandL z16) 10) z12) [] []).take 4 = [88, 226, 252, 206] := by
  have hf : firstG (encL (expandL z16) 10) z12 = exF := rfl
  rw [hf]
  have hs : sealG (encL (expandL z16) 10) exF [] [] = tagG (encL (expandL z16) 10) exF [] [] := rfl
  rw [hs, tagG]
  have hw : (expandL z16).length = 60 := expandL_len _ (by decide)
  have hlen : ∀ x, x.length = 16 → (encL (expandL z16) 10 x).length = 16 := fun x hx => by rw [encL, encT, outL_len, addW_len _ _ _ (shiftW_len _ _) (by omega)]
  have h0 : gsumL (encL (expandL z16) 10 zerB) (whG [] ++ whG [] ++ lenL ((([] : List UInt8).length : Nat) : Int) ((([] : List UInt8).length : Nat) : Int)) = zerB := hash_zero _ (hlen _ rfl)
  rw [h0]
  have hx : xorL zerB (encL (expandL z16) 10 exF) = encL (expandL z16) 10 exF := xorL_zeros _ (hlen _ rfl)
  rw [hx]
  exact ex_gcm
end Go.Proofs.Ytjmpbcfbfbjenaa

/- Layer 10's laws' own awake; what was sealed is opened. -/
namespace Go.Proofs.Ytjmpbcfbfbjenaa
open Go.RowKit
set_option maxRecDepth 100000
set_option linter.unusedVariables false
set_option linter.unusedSimpArgs false
theorem slX_none (W : World) : Sl W none 0 [] := ⟨by simp, by simp [maxLen], .inl rfl⟩
theorem getD_take4 (X : List UInt8) (h : X.take 4 = [88, 226, 252, 206]) : X.getD 0 0 = 88 ∧ X.getD 1 0 = 226 ∧ X.getD 2 0 = 252 ∧ X.getD 3 0 = 206 := by
  have e : ∀ i, i < 4 → X.getD i 0 = ([88, 226, 252, 206] : List UInt8).getD i 0 := fun i hi => by
    rw [← h, List.getD_eq_getElem?_getD, List.getD_eq_getElem?_getD, List.getElem?_take_of_lt hi]
  exact ⟨e 0 (by decide), e 1 (by decide), e 2 (by decide), e 3 (by decide)⟩
set_option maxHeartbeats 4000000 in
theorem awake10_any (w : World) : Calls Try.prog 24 #[] w fun e w' => e = .returned (.bool true) ∧ Below w.heap.size w w' := by
  have hmk1 : ∀ W, (Instr.makeSlice 26 (.int .i64 16) (.int .i64 16)).run Try.prog W = .ok (.slice (some ⟨W.heap.size, 0, none⟩) 16 16) (W.alloc (.cells (z16.map bv).toArray 5)) := fun W => by
    rw [z16, List.map_replicate]; exact make_run (P := Try.prog) uT made8 rfl .i64 .i64 16 (by omega) (by omega) W
  have hmk2 : ∀ W, (Instr.makeSlice 26 (.int .i64 12) (.int .i64 12)).run Try.prog W = .ok (.slice (some ⟨W.heap.size, 0, none⟩) 12 12) (W.alloc (.cells (z12.map bv).toArray 5)) := fun W => by
    rw [z12, List.map_replicate]; exact make_run (P := Try.prog) uT made8 rfl .i64 .i64 12 (by omega) (by omega) W
  have L1 : Hid (z16.length = 16) := List.length_replicate
  have L2 : Hid (z12.length = 12) := List.length_replicate
  have EX := Lib.hid (fun A W S => expand_any A 16 16 4 z16 W L1.out rfl (.inl rfl) S)
  have SE := Lib.hid (fun g A2 W hE S2 => gseal_any g (encL (expandL z16) 10) z12 [] [] A2 none none 12 12 0 0 0 0 W hE L2.out (by omega) (by omega) rfl rfl (by omega) (by omega) S2 (slX_none W) (slX_none W))
  obtain ⟨x0, x1, x2, x3⟩ := getD_take4 _ seal_empty
  have HX0 := Lib.hid x0; have HX1 := Lib.hid x1; have HX2 := Lib.hid x2; have HX3 := Lib.hid x3
  clear x0 x1 x2 x3
  generalize sealG (encL (expandL z16) 10) (firstG (encL (expandL z16) 10) z12) [] [] = X at SE HX0 HX1 HX2 HX3
  generalize expandL z16 = ws at EX SE
  generalize z16 = Z1 at hmk1 L1 EX
  generalize z12 = Z2 at hmk2 L2 SE
  go_enter Try.func24, Try.ntmps24
  go_wp2_with fail
  have N1 := Lib.hid (heap_alloc_new' w (.cells (Z1.map bv).toArray 5))
  have B0 : Hid (Below w.heap.size w (w.alloc (.cells (Z1.map bv).toArray 5))) := (Below.refl _ _).alloc (Nat.le_refl _) _
  generalize w.alloc _ = W0 at N1 B0 ⊢
  refine (EX.out _ W0 (sl_row L1.out (by omega) N1.out)).mono ?_
  rintro e w1 ⟨g, rfl, _, hK, hb⟩
  have K1 := Lib.hid (KeyAt.gkey hK (by omega) (by omega))
  have B1 : Hid (Below w.heap.size w w1) := B0.out.step hb
  clear hK hb N1 EX B0
  go_wp2_with fail
  have N2 := Lib.hid (heap_alloc_new' w1 (.cells (Z2.map bv).toArray 5))
  have E2 : Hid (Ext w1 (w1.alloc (.cells (Z2.map bv).toArray 5))) := (Below.refl _ _).alloc (Nat.le_refl _) _
  generalize w1.alloc _ = W2 at N2 E2 ⊢
  refine (SE.out g _ W2 (K1.out.ext E2.out) (sl_row L2.out (by omega) N2.out)).mono ?_
  rintro e w3 ⟨v, rfl, hO, hb⟩
  have B3 : Hid (Below w.heap.size w w3) := (B1.out.step E2.out).step hb
  obtain ⟨g5, cap, cur, rfl, _, _, hS5, _⟩ := o_open hO (by omega)
  have hl5 : X.length = 16 := by have := hO.1; simpa using this
  have c0 := o_sl_cell hS5 (k := 0) (by omega)
  have c1 := o_sl_cell hS5 (k := 1) (by omega)
  have c2 := o_sl_cell hS5 (k := 2) (by omega)
  have c3 := o_sl_cell hS5 (k := 3) (by omega)
  rw [HX0.out] at c0
  rw [HX1.out] at c1
  rw [HX2.out] at c2
  rw [HX3.out] at c3
  clear hO hS5 hb SE B1 K1 N2 E2 hl5 hmk1 hmk2
  have t0 : ((88 : UInt8).toNat : Int) = 88 := rfl
  have t1 : ((226 : UInt8).toNat : Int) = 226 := rfl
  have t2 : ((252 : UInt8).toNat : Int) = 252 := rfl
  have t3 : ((206 : UInt8).toNat : Int) = 206 := rfl
  rw [t0] at c0
  rw [t1] at c1
  rw [t2] at c2
  rw [t3] at c3
  go_wp2
  go_ret
  exact ⟨rfl, B3.out⟩
/-- what was sealed is opened to what it was -/
theorem openG_seal {w w' : World} {E : List UInt8 → List UInt8} {F aad b : List UInt8} {m : Nat} {v : Value} {y : Int} (hm : b.length = m) (h : OpenG w E F aad (sealG E F aad b) m v y w') :
    y = 0 ∧ w'.ownsRow w.heap.size 5 1 v m (b.map bv) := by
  have hl : (gcL E F b).length = m := by rw [gcL_len]; exact hm
  have e1 : (sealG E F aad b).take m = gcL E F b := by rw [sealG, List.take_left' hl]
  have e2 : (sealG E F aad b).drop m = tagG E F aad (gcL E F b) := by rw [sealG, List.drop_left' hl]
  unfold OpenG at h
  rw [e1, e2, if_pos rfl] at h
  have hb : gcL E F (gcL E F b) = b := ctrL_back _ _ _
  rw [hb] at h
  exact h
end Go.Proofs.Ytjmpbcfbfbjenaa

/- gcm: what comes of no key, of a wiped one, of an empty iv. -/
namespace Go.Proofs.Ytjmpbcfbfbjenaa
open Go.RowKit
set_option maxRecDepth 100000
set_option linter.unusedVariables false
set_option linter.unusedSimpArgs false
theorem gwrong_nil (A : Option Addr) (n c : Nat) (w : World) : Calls Try.prog 50 #[.pointer none, .slice A n c] w fun e w' => e = .returned (.int .i64 5) ∧ w = w' := by
  go_enter Try.func50, Try.ntmps50
  go_wp2_with fail
  refine (rounds_nil w).mono ?_
  rintro e w1 ⟨rfl, rfl⟩
  go_wp2
  go_ret
  exact ⟨rfl, rfl⟩
/-- keys and an iv with which something is wrong -/
def BadG (w : World) (kp : Value) (A : Option Addr) (n c : Nat) (x : Int) : Prop := x ≠ 0 ∧ ∀ W, Below w.heap.size w W → Calls Try.prog 50 #[kp, .slice A n c] W fun e w' => e = .returned (.int .i64 x) ∧ W = w'
theorem BadG.ext {w w' : World} {kp : Value} {A : Option Addr} {n c : Nat} {x : Int} (h : BadG w kp A n c x) (hb : Below w.heap.size w w') : BadG w' kp A n c x := ⟨h.1, fun W hW => h.2 W (hb.step hW)⟩
theorem badG_nil (w : World) (A : Option Addr) (n c : Nat) : BadG w (.pointer none) A n c 5 := ⟨by decide, fun W _ => gwrong_nil A n c W⟩
theorem badG_iv {w : World} {kp : Value} {E : List UInt8 → List UInt8} (h : GKey w kp E) (A : Option Addr) (c : Nat) : BadG w kp A 0 c 6 := ⟨by decide, fun W hW => gwrong_iv kp E A c W (h.ext hW)⟩
set_option maxHeartbeats 1000000 in
theorem gboth_bad (fv : Value) (kp : Value) (A : Option Addr) (n c : Nat) (x : Int) (w : World) (h : BadG w kp A n c x) :
    Calls Try.prog 46 #[kp, .slice A n c, fv] w fun e w' => e = .returned (.tuple #[.slice none 0 0, .int .i64 x]) ∧ w = w' := by
  have WR := Lib.hid (h.2 w (Below.refl _ _))
  have e1 : (x != 0) = true := by simp [h.1]
  clear h
  go_enter Try.func46, Try.ntmps46
  go_wp2_with fail
  refine WR.out.mono ?_
  rintro e w1 ⟨rfl, rfl⟩
  go_wp2
  go_ret2
  exact ⟨rfl, rfl⟩
set_option maxHeartbeats 1000000 in
theorem gseal_bad (kp : Value) (A2 A3 A4 : Option Addr) (k2 c2 k3 c3 k4 c4 : Nat) (x : Int) (w : World) (hp : ∃ P, kp = .pointer P) (h : BadG w kp A2 k2 c2 x) :
    Calls Try.prog 22 #[kp, .slice A2 k2 c2, .slice A3 k3 c3, .slice A4 k4 c4] w fun e w' => e = .returned (.tuple #[.slice none 0 0, .int .i64 x]) ∧ Below w.heap.size w w' := by
  obtain ⟨P, rfl⟩ := hp
  have H := Lib.hid h
  clear h
  go_enter Try.func22, Try.ntmps22
  go_wp2_with fail
  generalize hV : World.alloc _ _ = W0
  have B0 : Hid (Below w.heap.size w W0) := by rw [← hV]; exact (((Below.refl w.heap.size w).alloc (Nat.le_refl _) _).alloc (by simp) _).alloc (by simp; omega) _
  clear hV
  refine (gboth_bad _ _ A2 k2 c2 x W0 (H.out.ext B0.out)).mono ?_
  rintro e w1 ⟨rfl, rfl⟩
  go_wp2
  go_ret2
  exact ⟨rfl, B0.out⟩
set_option maxHeartbeats 1000000 in
theorem gopen_bad (kp : Value) (A2 A3 A4 : Option Addr) (k2 c2 k3 c3 k4 c4 : Nat) (x : Int) (w : World) (hp : ∃ P, kp = .pointer P) (h : BadG w kp A2 k2 c2 x) :
    Calls Try.prog 30 #[kp, .slice A2 k2 c2, .slice A3 k3 c3, .slice A4 k4 c4] w fun e w' => e = .returned (.tuple #[.slice none 0 0, .int .i64 x]) ∧ Below w.heap.size w w' := by
  obtain ⟨P, rfl⟩ := hp
  have H := Lib.hid h
  clear h
  go_enter Try.func30, Try.ntmps30
  go_wp2_with fail
  generalize hV : World.alloc _ _ = W0
  have B0 : Hid (Below w.heap.size w W0) := by rw [← hV]; exact (((Below.refl w.heap.size w).alloc (Nat.le_refl _) _).alloc (by simp) _).alloc (by simp; omega) _
  clear hV
  refine (gboth_bad _ _ A2 k2 c2 x W0 (H.out.ext B0.out)).mono ?_
  rintro e w1 ⟨rfl, rfl⟩
  go_wp2
  go_ret2
  exact ⟨rfl, B0.out⟩
set_option maxHeartbeats 2000000 in
theorem gfirst_bad (kp : Value) (A : Option Addr) (n c : Nat) (x : Int) (w : World) (hp : ∃ P, kp = .pointer P) (h : BadG w kp A n c x) :
    Calls Try.prog 23 #[kp, .slice A n c] w fun e w' => e = .returned (.agg ((List.replicate 16 (0 : UInt8)).map bv).toArray) ∧ Below w.heap.size w w' := by
  obtain ⟨P, rfl⟩ := hp
  have hz : ∀ W, (zeroValue 23).run Try.prog W = .ok (.agg zeros16.toArray) W := fun W => by kernel_rfl
  have hlz : Hid (zeros16.length = 16) := rfl
  have HZ : Hid ((List.replicate 16 (0 : UInt8)).map bv = zeros16) := rfl
  have BD : Hid (∀ W, (Instr.build 23 #[]).run Try.prog W = .ok (.agg zeros16.toArray) W) := fun W => by kernel_rfl
  have h1 : Hid (∀ v ∈ zeros16, v.oneCell' = true) := by show _; rw [← HZ.out]; exact bv_one _
  have hi : Hid ((Try.prog.info? 23).map (·.size) = some zeros16.length) := i16B
  rw [HZ.out]
  generalize zeros16 = Z at hz hlz BD h1 hi ⊢
  have H := Lib.hid h.2
  have e1 : (x != 0) = true := by simp [h.1]
  clear h HZ
  go_enter Try.func23, Try.ntmps23
  go_wp2_with fail
  generalize hV : World.alloc _ _ = W0
  have B0 : Hid (Below w.heap.size w W0) := below_of_alloc hV (Nat.le_refl _)
  have F0 : Hid (W0.heap[w.heap.size]? = some (.cells Z.toArray 23 (0, 0))) := heap_of_alloc hV
  clear hV
  refine (H.out W0 B0.out).mono ?_
  rintro e w1 ⟨rfl, rfl⟩
  go_wp2_with (first
    | (refine wpList_run (o := ⟨some 12, .build _ _, _, _, _, _⟩) rfl (exec_build rfl (by simp only [List.map_toArray, List.map_nil]; exact BD.out _)) ?_)
    | (refine wpList_st rfl 23 (.tmp 4) (.tmp 12) rfl (store_arr (cs := Z) (old := Z) hi.out h1.out F0.out rfl) ?_)
    | fail)
  have hres := setRow_heap W0 w.heap.size _ Z.toArray 23 _ F0.out
  exact bodyPost_ret (results_cell_row (P := Try.prog) rfl _ _ w.heap.size 23 Z.toArray (0, 0) _ rfl hres arr16B rfl (by rw [List.size_toArray]; exact hi.out)) rfl ⟨rfl, B0.out.trans (grown_below (grown_setRow _ _ _) (Nat.le_refl _) B0.out.size)⟩
set_option maxHeartbeats 2000000 in
theorem gopen1_short (F : List UInt8) (p1 p3 : Value) (g2 : Nat) (A4 : Option Addr) (k4 c4 : Nat) (w : World) (h : k4 < 16) (H2 : w.heap[g2]? = some (.cells #[.slice A4 k4 c4] 26 (0, 0))) :
    Calls Try.prog 61 #[.agg (F.map bv).toArray, .pointer (some ⟨g2, 0, none⟩), p1, p3] w fun e w' => e = .returned (.tuple #[.slice none 0 0, .int .i64 17]) ∧ Below w.heap.size w w' := by
  have HH2 := Lib.hid H2
  have h16 : (k4 : Int) < 16 := by omega
  have GB : Hid (Below w.heap.size w (w.alloc (.cells (F.map bv).toArray 23))) := (Below.refl _ _).alloc (Nat.le_refl _) _
  clear H2 h
  go_enter Try.func61, Try.ntmps61
  go_upto_region 1 with (fail)
  generalize w.alloc _ = W0 at GB ⊢
  have c2 := box_cellG (box_extG HH2.out GB.out)
  go_wp2
  go_ret2
  exact ⟨rfl, GB.out⟩
set_option maxHeartbeats 2000000 in
theorem gopen_short (p : Nat) (E : List UInt8 → List UInt8) (iv : List UInt8) (A2 A3 A4 : Option Addr) (k2 c2 k3 c3 k4 c4 : Nat) (w : World) (hE : GKey w (.pointer (some ⟨p, 0, none⟩)) E) (h2 : iv.length = k2) (h20 : 0 < k2) (h21 : k2 ≤ 1000) (h4 : k4 < 16) (S2 : Sl w A2 c2 iv) :
    Calls Try.prog 30 #[.pointer (some ⟨p, 0, none⟩), .slice A2 k2 c2, .slice A3 k3 c3, .slice A4 k4 c4] w fun e w' => e = .returned (.tuple #[.slice none 0 0, .int .i64 17]) ∧ Below w.heap.size w w' := by
  have G := heap_thr w (.cells #[.pointer (some ⟨p, 0, none⟩)] 27) (.cells #[.slice A3 k3 c3] 26) (.cells #[.slice A4 k4 c4] 26)
  have BA : Hid (Calls Try.prog 46 #[.pointer (some ⟨p, 0, none⟩), .slice A2 k2 c2, .func (.func 61) #[] #[.pointer (some ⟨w.heap.size + 2, 0, none⟩), .pointer (some ⟨w.heap.size, 0, none⟩), .pointer (some ⟨w.heap.size + 1, 0, none⟩)]] (((w.alloc (.cells #[.pointer (some ⟨p, 0, none⟩)] 27)).alloc (.cells #[.slice A3 k3 c3] 26)).alloc (.cells #[.slice A4 k4 c4] 26)) fun e w' =>
      ∃ v y, e = .returned (.tuple #[v, .int .i64 y]) ∧ Ext (((w.alloc (.cells #[.pointer (some ⟨p, 0, none⟩)] 27)).alloc (.cells #[.slice A3 k3 c3] 26)).alloc (.cells #[.slice A4 k4 c4] 26)) w' ∧ (v = .slice none 0 0 ∧ y = 17)) := by
    generalize ((w.alloc _).alloc _).alloc _ = W0 at G ⊢
    refine gboth_any 61 _ (fun v y w' => v = .slice none 0 0 ∧ y = 17) _ E A2 k2 c2 iv W0 (hE.ext G.2.2.2) h2 h20 (by omega) (S2.below G.2.2.2) gcallOpen fun W hW => ?_
    refine (gopen1_short (firstG E iv) _ _ (w.heap.size + 2) A4 k4 c4 W h4 (box_extG G.2.2.1 hW)).mono ?_
    rintro e w' ⟨rfl, hB⟩
    exact ⟨_, _, rfl, hB, rfl, rfl⟩
  have GB := Lib.hid G.2.2.2
  clear G hE h2 h4 S2
  go_enter Try.func30, Try.ntmps30
  go_wp2_with fail
  refine BA.out.mono ?_
  rintro e w' ⟨v, y, rfl, hE, rfl, rfl⟩
  have HB : Hid (Below w.heap.size w w') := GB.out.step hE
  clear hE
  go_wp2
  go_ret2
  exact ⟨rfl, HB.out⟩
end Go.Proofs.Ytjmpbcfbfbjenaa

/- Contracts of the document's own Xor, Left, Count. -/
namespace Go.Proofs.Ytjmpbcfbfbjenaa
open Go.RowKit
set_option maxRecDepth 100000
set_option linter.unusedVariables false
set_option linter.unusedSimpArgs false

theorem nat_or_xor (x y : Nat) (hx : x < 256) (hy : y < 256) : x ||| y = (x ^^^ y) + (x &&& y) := by
  have hA : (BitVec.ofNat 16 x).toNat = x := by rw [BitVec.toNat_ofNat]; omega
  have hB : (BitVec.ofNat 16 y).toNat = y := by rw [BitVec.toNat_ofNat]; omega
  generalize BitVec.ofNat 16 x = a at hA
  generalize BitVec.ofNat 16 y = b at hB
  have h1 : (a ^^^ b) &&& (a &&& b) = 0#16 := by
    apply BitVec.eq_of_getLsbD_eq; intro i hi
    simp only [BitVec.getLsbD_and, BitVec.getLsbD_xor, BitVec.getLsbD_zero]
    cases a.getLsbD i <;> cases b.getLsbD i <;> rfl
  have h2 : (a ^^^ b) ||| (a &&& b) = a ||| b := by
    apply BitVec.eq_of_getLsbD_eq; intro i hi
    simp only [BitVec.getLsbD_and, BitVec.getLsbD_xor, BitVec.getLsbD_or]
    cases a.getLsbD i <;> cases b.getLsbD i <;> rfl
  have h3 := congrArg BitVec.toNat ((BitVec.add_eq_or_of_and_eq_zero _ _ h1).trans h2)
  rw [BitVec.toNat_add, BitVec.toNat_xor, BitVec.toNat_and, BitVec.toNat_or, hA, hB] at h3
  have b1 : x ^^^ y < 2 ^ 8 := Nat.xor_lt_two_pow (by omega) (by omega)
  have b2 : x &&& y < 2 ^ 8 := Nat.and_lt_two_pow _ (by omega)
  omega
theorem sub8 (x y : UInt8) : IntKind.u8.wrap (bits .or .u8 (x.toNat : Int) (y.toNat : Int) - bits .and .u8 (x.toNat : Int) (y.toNat : Int)) = ((x ^^^ y).toNat : Int) := by
  have hx := x.toNat_lt
  have hy := y.toNat_lt
  rw [u8_or_nat _ _ hx hy, u8_and_nat _ _ hx hy, UInt8.toNat_xor, IntKind.wrap_u8', nat_or_xor _ _ hx hy]
  have b1 : x.toNat ^^^ y.toNat < 2 ^ 8 := Nat.xor_lt_two_pow (by omega) (by omega)
  omega

theorem rot_one (x : BitVec 32) : (x.toNat * 2 + x.toNat / 2147483648) % 4294967296 = (x.rotateLeft 1).toNat := by
  rw [BitVec.rotateLeft_def]
  have h1 : (x <<< (1 % 32)) &&& (x >>> (32 - 1 % 32)) = 0#32 := by
    apply BitVec.eq_of_getLsbD_eq; intro i hi
    simp only [BitVec.getLsbD_and, BitVec.getLsbD_shiftLeft, BitVec.getLsbD_ushiftRight, BitVec.getLsbD_zero]
    by_cases h0 : i = 0
    · simp [h0]
    · have : x.getLsbD (32 - 1 % 32 + i) = false := BitVec.getLsbD_of_ge _ _ (by omega)
      simp [this]
  rw [← BitVec.add_eq_or_of_and_eq_zero _ _ h1, BitVec.toNat_add, BitVec.toNat_shiftLeft, BitVec.toNat_ushiftRight, Nat.shiftLeft_eq, Nat.shiftRight_eq_div_pow]
  simp only [Nat.reduceMod, Nat.reduceSub, Nat.reducePow, Nat.pow_one]
  omega
theorem rotl_succ (x : BitVec 32) (i : Nat) : rotl x ((i + 1 : Nat) : Int) = (rotl x (i : Int)).rotateLeft 1 := by
  have h := turns_math x (i : Int) 1
  rw [show ((i + 1 : Nat) : Int) = (i : Int) + 1 by omega, ← h]
  rfl
theorem rotl_mod (x : BitVec 32) (n : Int) (k : Nat) (hk : (n % 32) = (k : Int)) : rotl x (k : Int) = rotl x n := by
  unfold rotl; rw [← hk, Int.emod_emod_of_dvd n (by decide)]

theorem tmod32 (n : Int) : (wrap64 (n.tmod 32 + 32)).tmod 32 = (((n % 32).toNat : Nat) : Int) := by
  have h1 : -32 < n.tmod 32 ∧ n.tmod 32 < 32 ∧ (n.tmod 32) % 32 = n % 32 := by
    rw [Int.tmod_eq_emod]
    split <;> omega
  have h2 : wrap64 (n.tmod 32 + 32) = n.tmod 32 + 32 := by unfold wrap64; omega
  rw [h2, Int.tmod_eq_emod_of_nonneg (by omega)]
  omega
theorem mul2_div (x : BitVec 32) : (x.toNat : Int) * 2 % 4294967296 + (x.toNat : Int) / 2147483648 = ((x.rotateLeft 1).toNat : Int) := by
  rw [← rot_one]; have := x.isLt; omega

/-! ### Count -/
def cnt (c d : List UInt8) (j : Nat) : Nat := bigN (lastL c j) + bigN (lastL d j)
def cntRow (c d : List UInt8) (j : Nat) : List UInt8 := c.take (16 - j) ++ putBig (cnt c d j) j
theorem cnt_succ (c d : List UInt8) (j : Nat) (hc : c.length = 16) (hd : d.length = 16) (hj : j < 16) :
    cnt c d (j + 1) = ((c.getD (15 - j) 0).toNat + (d.getD (15 - j) 0).toNat) * 256 ^ j + cnt c d j := by
  unfold cnt
  rw [lastL_succ c j (by omega), lastL_succ d j (by omega), bigN_cons, bigN_cons, lastL_len c j (by omega), lastL_len d j (by omega)]
  have e1 : c[c.length - 1 - j] = c.getD (15 - j) 0 := by simp [List.getD, hc, show 15 - j < 16 by omega]
  have e2 : d[d.length - 1 - j] = d.getD (15 - j) 0 := by simp [List.getD, hd, show 15 - j < 16 by omega]
  rw [e1, e2, Nat.add_mul]; omega
theorem cnt_step (c d : List UInt8) (j : Nat) (hc : c.length = 16) (hd : d.length = 16) (hj : j < 16) :
    let s := (c.getD (15 - j) 0).toNat + (d.getD (15 - j) 0).toNat + cnt c d j / 256 ^ j
    cnt c d (j + 1) / 256 ^ (j + 1) = s / 256 ∧ (cntRow c d j).set (15 - j) (UInt8.ofNat (s % 256)) = cntRow c d (j + 1) := by
  intro s
  have hs : cnt c d (j + 1) / 256 ^ j = s := by
    rw [cnt_succ c d j hc hd hj, Nat.add_comm, Nat.add_mul_div_right _ _ (Nat.pow_pos (by decide))]
    show _ = (c.getD (15 - j) 0).toNat + (d.getD (15 - j) 0).toNat + cnt c d j / 256 ^ j
    omega
  refine ⟨by rw [Nat.pow_succ, ← Nat.div_div_eq_div_mul, hs], ?_⟩
  have h1 : c.take (16 - j) = c.take (16 - (j + 1)) ++ [c.getD (15 - j) 0] := by
    rw [show 16 - j = (16 - (j + 1)) + 1 by omega, List.take_succ_eq_append_getElem (by omega)]
    congr 2
    simp [List.getD, hc, show 16 - (j + 1) = 15 - j by omega, show 15 - j < 16 by omega]
  have hl : (c.take (16 - (j + 1))).length = 15 - j := by rw [List.length_take]; omega
  have h2 : putBig (cnt c d (j + 1)) (j + 1) = [UInt8.ofNat (s % 256)] ++ putBig (cnt c d j) j := by
    rw [show j + 1 = 1 + j from Nat.add_comm _ _, putBig_split, Nat.add_comm 1 j, hs]
    congr 1
    · simp only [putBig, List.range_succ, List.range_zero, List.nil_append, List.map_cons, List.map_nil, byteAt, Nat.pow_zero, Nat.div_one]
      congr 1
      rw [← UInt8.toNat_inj, UInt8.toNat_ofNat', UInt8.toNat_ofNat']; omega
    · rw [← putBig_mod (cnt c d (j + 1)) j j (Nat.le_refl _), ← putBig_mod (cnt c d j) j j (Nat.le_refl _)]
      congr 1
      rw [cnt_succ c d j hc hd hj, Nat.add_comm, Nat.add_mul_mod_self_right]
  unfold cntRow
  rw [h1, h2, List.append_assoc, List.set_append_right _ _ (by omega), hl, Nat.sub_self, List.singleton_append, List.set_cons_zero]
  rfl
theorem cnt_end (c : List UInt8) (n : Nat) (hc : c.length = 16) (hn : n < 18446744073709551616) : cntRow c (putBig n 16) 16 = countL c n := by
  unfold cntRow cnt countL
  have e1 : lastL c 16 = c := by simp [lastL, hc]
  have e2 : lastL (putBig n 16) 16 = putBig n 16 := by simp [lastL, putBig_len]
  have h128 : (256 : Nat) ^ 16 = 340282366920938463463374607431768211456 := by decide
  rw [e1, e2, bigN_put, Nat.mod_eq_of_lt (by rw [h128]; omega), show 16 - 16 = 0 from rfl, List.take_zero, List.nil_append, ← h128, putBig_mod _ _ _ (Nat.le_refl _)]
theorem cnt_carry (c d : List UInt8) (j : Nat) (hc : c.length = 16) (hd : d.length = 16) (hj : j ≤ 16) : cnt c d j / 256 ^ j ≤ 1 := by
  have h1 := bigN_lt (lastL c j)
  have h2 := bigN_lt (lastL d j)
  rw [lastL_len c j (by omega)] at h1
  rw [lastL_len d j (by omega)] at h2
  have : cnt c d j < 2 * 256 ^ j := by unfold cnt; omega
  have := Nat.div_lt_of_lt_mul (Nat.mul_comm 2 _ ▸ this)
  omega
theorem cntRow_len (c d : List UInt8) (j : Nat) (hc : c.length = 16) (hj : j ≤ 16) : (cntRow c d j).length = 16 := by
  simp [cntRow, putBig_len, hc]; omega
theorem cntRow_get (c d : List UInt8) (j : Nat) (hc : c.length = 16) (hj : j < 16) : (cntRow c d j)[15 - j]? = some (c.getD (15 - j) 0) := by
  unfold cntRow
  rw [List.getElem?_append_left (by rw [List.length_take]; omega), List.getElem?_take, if_pos (by omega)]
  simp [List.getD, hc, show 15 - j < 16 by omega]
end Go.Proofs.Ytjmpbcfbfbjenaa

/- Contract of the document's own Count. -/
namespace Go.Proofs.Ytjmpbcfbfbjenaa
open Go.RowKit
set_option maxRecDepth 100000
set_option linter.unusedVariables false
set_option linter.unusedSimpArgs false

theorem w64_in (n : Int) (h : -9223372036854775808 ≤ n ∧ n ≤ 9223372036854775807) : wrap64 n = n := by unfold wrap64; omega

theorem cnt_facts (x y : UInt8) (ca : Nat) (hca : ca ≤ 1) : ∃ s : Nat, s = x.toNat + y.toNat + ca ∧ s < 1024 ∧ Hid (IntKind.i64.wrap (x.toNat : Int) = (x.toNat : Int)) ∧ Hid (IntKind.i64.wrap (y.toNat : Int) = (y.toNat : Int)) ∧
    Hid (IntKind.i64.wrap ((x.toNat : Int) + (y.toNat : Int)) = (x.toNat : Int) + (y.toNat : Int)) ∧ Hid (IntKind.i64.wrap ((x.toNat : Int) + (y.toNat : Int) + (ca : Int)) = (s : Int)) := by
  have hx : x.toNat < 256 := x.toNat_lt
  have hy : y.toNat < 256 := y.toNat_lt
  generalize x.toNat = x at *
  generalize y.toNat = y at *
  exact ⟨x + y + ca, rfl, by omega, IntWalk.i64_in _ (by omega), IntWalk.i64_in _ (by omega), IntWalk.i64_in _ (by omega), (IntWalk.i64_in _ (by omega)).trans (by omega)⟩

set_option maxHeartbeats 2000000 in
theorem refCount_any (c : List UInt8) (n : Nat) (w : World) (hc : c.length = 16) (hn : n < 18446744073709551616) :
    Calls Try.prog 35 #[.agg (c.map bv).toArray, .int .u64 (n : Int)] w fun e w' => e = .returned (.agg ((countL c n).map bv).toArray) ∧ Below w.heap.size w w' := by
  have HC := Lib.hid hc
  have HN := Lib.hid hn
  clear hc hn
  go_enter Try.func35, Try.ntmps35
  go_wp2_with fail
  generalize hW : (w.alloc _).alloc _ = W0
  have F0 : W0.heap[w.heap.size]? = some (.cells (c.map bv).toArray 23 (0, 0)) := by rw [← hW]; exact heap_alloc2_old w _ _
  have F1 : W0.heap[w.heap.size + 1]? = some (.cells (List.replicate 16 (Value.int .u8 0)).toArray 23 (0, 0)) := by rw [← hW]; exact heap_alloc2_new w _ _
  have FB : Below w.heap.size w W0 := by rw [← hW]; exact two_below w _ _
  have G0 := Lib.hid F0
  have G1 := Lib.hid F1
  have GB := Lib.hid FB
  clear F0 F1 FB hW
  refine (refPutBig_any n 16 _ HN.out (by omega)).mono ?_
  rintro e w1 ⟨v, rfl, hO, hB1⟩
  obtain ⟨A, cp, rfl, hl, _, _, hr⟩ := own_read hO
  have hdl := putBig_len n 16
  have HD : Hid (cntRow c (putBig n 16) 16 = countL c n) := cnt_end c n HC.out HN.out
  generalize putBig n 16 = d at hr hdl HD hO hl
  obtain ⟨b, o, rfl, hbl, r⟩ := hr.at_ (by simp [hdl])
  have hbW : W0.heap.size ≤ b := by
    have := (hO.lt b rfl).1; exact this
  have R := Lib.hid r
  have HDL := Lib.hid hdl
  have K0 := Lib.hid ((hB1.block _ (lt_of_heap G0.out)).trans G0.out)
  have K1 := Lib.hid ((hB1.block _ (lt_of_heap G1.out)).trans G1.out)
  have KB := Lib.hid (GB.out.step hB1)
  have hbne : b ≠ w.heap.size := by have := lt_of_heap G0.out; omega
  have HBNE := Lib.hid hbne
  clear hr r hdl hl hO hB1 G0 G1 GB hbW hbne
  go_wp2_with fail
  go_loopw [6, 7, 8] (fun cv iv sv wr => ∃ (j : Nat), j ≤ 16 ∧ iv = .int .i64 (15 - (j : Int)) ∧ cv = .int .i64 ((cnt c d j / 256 ^ j : Nat) : Int) ∧
      Hid (wr.heap[w.heap.size]? = some (.cells ((cntRow c d j).map bv).toArray 23 (0, 0))) ∧ Hid (wr.heap[w.heap.size + 1]? = some (.cells (List.replicate 16 (Value.int .u8 0)).toArray 23 (0, 0))) ∧
      Hid (Below w.heap.size w wr) ∧ Hid (wr.heap[b]? = w1.heap[b]?)) (fun _ i _ _ => (intOf i + 1).toNat)
  case atStart => exact ⟨0, by omega, by simp, by simp [cnt, lastL, bigN], by simpa [cntRow, putBig, List.take_of_length_le, HC.out] using K0, K1, KB, rfl⟩
  case round =>
    obtain ⟨j, hj, rfl, rfl, L0, L1, LB, LD⟩ := hrel
    by_cases hlt : j < 16
    · have hst := cnt_step c d j HC.out HDL.out hlt
      have hca := cnt_carry c d j HC.out HDL.out hj
      have c1 : wr.cell? ⟨w.heap.size, 15 - j, none⟩ = some (.int .u8 ((c.getD (15 - j) 0).toNat : Int)) := by
        rw [cell_of_heap L0.out, List.getElem?_map, cntRow_get c d j HC.out hlt]; rfl
      have c2 : wr.cell? ⟨b, o + (15 - j), none⟩ = some (.int .u8 ((d.getD (15 - j) 0).toNat : Int)) := by
        have := R.out (15 - j) (bv (d.getD (15 - j) 0)) (by simp [List.getD, HDL.out, show 15 - j < 16 by omega])
        rw [World.cell?_of_block (w := w1) (w' := wr) LD.out]; exact this
      have fz : wr.frozen? ⟨w.heap.size, 15 - j, none⟩ = false := frozen_of_heap L0.out _
      generalize cnt c d j / 256 ^ j = ca at hst hca ⊢
      generalize c.getD (15 - j) 0 = x at c1 hst
      generalize d.getD (15 - j) 0 = y at c2 hst
      have hx : x.toNat < 256 := x.toNat_lt
      have hy : y.toNat < 256 := y.toNat_lt
      obtain ⟨s, hs, hsb, U1, U2, U3, U4⟩ := cnt_facts x y ca hca
      simp only [← hs] at hst
      have HST := Lib.hid hst
      clear hs
      have e1 : (15 - (j : Int)).toNat = 15 - j := by omega
      have e2 : 0 ≤ 15 - (j : Int) := by omega
      have e3 : 15 - (j : Int) < 16 := by omega
      have HX : Hid (Ext wr wr.drew) := (Below.refl _ _).drew
      have hbw : b < wr.heap.size := block_lt_of_cell c2
      clear hst
      go_wp2_with fail
      have u4 := U4.out
      have u3 := U3.out
      have u2 := U2.out
      have u1 := U1.out
      refine reg_start (by kernel_rfl) ?_
      try simp only [Act.put, List.setIfInBounds_toArray, List.set_cons_zero, List.set_cons_succ]
      refine reg_take (v := ?_) 0 (some 15) rfl rfl (by kernel_rfl) (by kernel_rfl) (by kernel_rfl) (fun _ _ _ h => h) (by rfl) (fun W hW => ?_) ?_
      rotate_left
      · (go_simp; try rfl)
      simp only [Act.put, List.setIfInBounds_toArray, List.set_cons_zero, List.set_cons_succ]
      refine reg_take (v := ?_) 1 (some 16) rfl rfl (by kernel_rfl) (by kernel_rfl) (by kernel_rfl) (fun _ _ _ h => h) (by rfl) (fun W hW => ?_) ?_
      rotate_left
      · (go_simp; try rfl)
      simp only [Act.put, List.setIfInBounds_toArray, List.set_cons_zero, List.set_cons_succ]
      refine reg_load 2 (some 17) (fun W hW => load_cell Try.underlying5 ((hW.cell (lt_of_heap L0.out)).trans c1)) rfl rfl rfl rfl (by kernel_rfl) (by kernel_rfl) (by kernel_rfl) (fun _ _ _ h => h) (by rfl) ?_
      simp only [Act.put, List.setIfInBounds_toArray, List.set_cons_zero, List.set_cons_succ]
      refine reg_take (v := ?_) 3 (some 18) rfl rfl (by kernel_rfl) (by kernel_rfl) (by kernel_rfl) (fun _ _ _ h => h) (by rfl) (fun W hW => ?_) ?_
      rotate_left
      · (go_simp; try rfl)
      simp only [Act.put, List.setIfInBounds_toArray, List.set_cons_zero, List.set_cons_succ]
      refine reg_take (v := ?_) 4 (some 19) rfl rfl (by kernel_rfl) (by kernel_rfl) (by kernel_rfl) (fun _ _ _ h => h) (by rfl) (fun W hW => ?_) ?_
      rotate_left
      · (go_simp; try rfl)
      simp only [Act.put, List.setIfInBounds_toArray, List.set_cons_zero, List.set_cons_succ]
      refine reg_take (v := ?_) 5 (some 20) rfl rfl (by kernel_rfl) (by kernel_rfl) (by kernel_rfl) (fun _ _ _ h => h) (by rfl) (fun W hW => ?_) ?_
      rotate_left
      · (go_simp; try rfl)
      simp only [Act.put, List.setIfInBounds_toArray, List.set_cons_zero, List.set_cons_succ]
      refine reg_take (v := ?_) 6 (some 21) rfl rfl (by kernel_rfl) (by kernel_rfl) (by kernel_rfl) (fun _ _ _ h => h) (by rfl) (fun W hW => ?_) ?_
      rotate_left
      · (go_simp; try rfl)
      simp only [Act.put, List.setIfInBounds_toArray, List.set_cons_zero, List.set_cons_succ]
      refine reg_load 7 (some 22) (fun W hW => load_cell Try.underlying5 ((hW.cell hbw).trans c2)) rfl rfl rfl rfl (by kernel_rfl) (by kernel_rfl) (by kernel_rfl) (fun _ _ _ h => h) (by rfl) ?_
      simp only [Act.put, List.setIfInBounds_toArray, List.set_cons_zero, List.set_cons_succ]
      refine reg_take (v := ?_) 8 (some 23) rfl rfl (by kernel_rfl) (by kernel_rfl) (by kernel_rfl) (fun _ _ _ h => h) (by rfl) (fun W hW => ?_) ?_
      rotate_left
      · (go_simp; try rfl)
      simp only [Act.put, List.setIfInBounds_toArray, List.set_cons_zero, List.set_cons_succ]
      refine reg_take (v := ?_) 9 (some 24) rfl rfl (by kernel_rfl) (by kernel_rfl) (by kernel_rfl) (fun _ _ _ h => h) (by rfl) (fun W hW => ?_) ?_
      rotate_left
      · (go_simp; try rfl)
      simp only [Act.put, List.setIfInBounds_toArray, List.set_cons_zero, List.set_cons_succ]
      refine reg_take (v := ?_) 10 (some 25) rfl rfl (by kernel_rfl) (by kernel_rfl) (by kernel_rfl) (fun _ _ _ h => h) (by rfl) (fun W hW => ?_) ?_
      rotate_left
      · (go_simp; try rfl)
      simp only [Act.put, List.setIfInBounds_toArray, List.set_cons_zero, List.set_cons_succ]
      refine reg_take (v := ?_) 11 (some 26) rfl rfl (by kernel_rfl) (by kernel_rfl) (by kernel_rfl) (fun _ _ _ h => h) (by rfl) (fun W hW => ?_) ?_
      rotate_left
      · (go_simp; try rfl)
      simp only [Act.put, List.setIfInBounds_toArray, List.set_cons_zero, List.set_cons_succ]
      refine reg_take (v := ?_) 12 (some 8) rfl rfl (by kernel_rfl) (by kernel_rfl) (by kernel_rfl) (fun _ _ _ h => h) (by rfl) (fun W hW => ?_) ?_
      rotate_left
      · (go_simp; try rfl)
      simp only [Act.put, List.setIfInBounds_toArray, List.set_cons_zero, List.set_cons_succ]
      refine reg_done (by kernel_rfl) ?_
      clear u1 u2 u3 u4
      have hb8 : (s : Int) % 256 = ((UInt8.ofNat (s % 256)).toNat : Int) := by rw [UInt8.toNat_ofNat']; omega
      generalize UInt8.ofNat (s % 256) = z at hb8 HST
      have hz : z.toNat < 256 := z.toNat_lt
      go_wp2
      go_roundw
      case rel =>
        refine ⟨j + 1, by omega, by congr 1; omega, ?_, ?_, ?_, ?_, ?_⟩
        · rw [HST.out.1]; congr 1
        · have := heap_set (w := wr.drew) L0.out (15 - j) (bv z)
          rw [← List.map_set, HST.out.2] at this
          exact this
        · exact (Below.heap_setCell wr.drew _ _ _ (by simp)).trans L1.out
        · exact LB.out.drew.setCell (Nat.le_refl _) _
        · exact (Below.heap_setCell wr.drew _ _ _ HBNE.out).trans LD.out
      case measure => simp [intOf]; omega
    · have t1 : ¬ ((0 : Int) ≤ 15 - (j : Int)) := by omega
      have hj16 : j = 16 := by omega
      have L0' := L0.out
      rw [hj16, HD.out] at L0'
      have M0 := Lib.hid L0'
      clear L0 L0' hj16
      have hl16 : (countL c n).length = 16 := by simp [countL, putBig_len]
      have HL := Lib.hid hl16
      clear hl16
      go_wp2_with (first
        | (refine wpList_ld rfl 23 (.tmp 2) rfl (load_arr arr16T rfl (by rw [List.length_map, HL.out]; exact i16) M0.out) ?_)
        | (refine wpList_st rfl 23 (.tmp 4) (.tmp 34) rfl (store_arr (by rw [List.length_map, HL.out]; exact i16) (bv_one _) L1.out (by simp [HL.out])) ?_))
      have hres := setRow_heap wr (w.heap.size + 1) _ ((countL c n).map bv).toArray 23 _ L1.out
      exact bodyPost_ret (results_cell_row (P := Try.prog) rfl _ _ (w.heap.size + 1) 23 ((countL c n).map bv).toArray (0, 0) _ rfl hres arr16T rfl (by simp [HL.out, i16])) rfl ⟨rfl, LB.out.trans (grown_below (grown_setRow _ _ _) (by omega) LB.out.size)⟩
end Go.Proofs.Ytjmpbcfbfbjenaa

/- palfreyref08.Crypt. -/
namespace Go.Proofs.Ytjmpbcfbfbjenaa
open Go.RowKit
set_option maxRecDepth 100000
set_option linter.unusedVariables false
set_option linter.unusedSimpArgs false
theorem cell_eqA {W W0 : World} (h : W = W0) {a : Addr} {v : Value} (hc : W0.cell? a = some v) : W.cell? a = some v := by rw [h]; exact hc
theorem GrowA.app {g : Nat} {w W W' : World} {vb : Option Nat} (h : GrowA g w W) (hg : W.grownBy W' vb) (hv : ∀ k, vb = some k → w.heap.size ≤ k) : GrowA g w W' :=
  ⟨hg.os.trans h.os, hg.tape.trans h.tape, hg.output.trans h.output, Nat.le_trans h.size hg.size, fun i hi hne => (hg.block i (Nat.lt_of_lt_of_le hi h.size) (fun e => absurd (hv i e.symm) (by omega))).trans (h.block i hi hne)⟩
theorem KeysAt.grow {g gk R : Nat} {w W : World} {RK : Nat → List UInt8} (hk : ∀ r, r < R → w.rangeAt gk (r * 16) ((RK r).map bv)) (hl : gk < w.heap.size) (hn : gk ≠ g) (h : GrowA g w W) : KeysAt W (some ⟨gk, 0, none⟩) R RK :=
  ⟨gk, rfl, Nat.lt_of_lt_of_le hl h.size, fun r hr => h.range hn hl (hk r hr)⟩
theorem ctr_take_step (f : Nat → UInt8) (b : List UInt8) (i : Nat) (hi : i < b.length) : ctrL f 0 (b.take (i + 1)) = ctrL f 0 (b.take i) ++ [b.getD i 0 ^^^ f i] := by
  rw [List.take_succ_eq_append_getElem hi, ctrL_append, List.length_take, Nat.min_eq_left (by omega), Nat.zero_add]
  simp [ctrL, List.getD, hi]
theorem strm_at (E : List UInt8 → List UInt8) (iv : List UInt8) (i : Nat) : strmF E iv i = (E (countL iv (i / 16))).getD (i % 16) 0 := rfl
theorem ta_sl_cell {w : World} {A : Option Addr} {c i : Nat} {bs : List UInt8} (h : Sl w A c bs) (hi : i < bs.length) : ∃ b o, A = some ⟨b, o, none⟩ ∧ b < w.heap.size ∧ w.cell? ⟨b, o + i, none⟩ = some (.int .u8 ((bs.getD i 0).toNat : Int)) := by
  obtain ⟨b, o, hA, hb, hc⟩ := ka_sl_cell h hi
  exact ⟨b, o, hA, hb, hc i hi⟩
set_option maxHeartbeats 8000000 in
theorem refCtr_any (key : List UInt8) (nk : Nat) (A : Option Addr) (n c : Nat) (iv : List UInt8) (Ab : Option Addr) (m cb : Nat) (b : List UInt8) (w : World) (hl : key.length = n) (hn : n = 4 * nk) (hk : nk = 4 ∨ nk = 8) (hiv : iv.length = 16) (hm : b.length = m) (hm31 : m ≤ 100000) (hS : Sl w A c key) (hSb : Sl w Ab cb b) :
    Calls Try.prog 10 #[.slice A n c, .agg (iv.map bv).toArray, .slice Ab m cb] w fun e w' => ∃ v, e = .returned v ∧ w'.ownsRow w.heap.size 5 1 v m ((ctrL (strmF (encL (expandL key) (nk + 6)) iv) 0 b).map bv) ∧ Below w.heap.size w w' := by
  have HIV := Lib.hid hiv; have HM := Lib.hid hm; have HS := Lib.hid hS; have HSb := Lib.hid hSb
  have HRK := Lib.hid (fun A c W hS => refKeys_row A n c nk key W hl hn hk hS)
  have HRE := Lib.hid (fun x A cc W hx hA => refEncK_any key nk x A cc W hk (hl.trans hn) hx hA)
  have HRT := Lib.hid (fun W => refTable_any W)
  have hwl : (expandL key).length = 60 := expandL_len key (by omega)
  have HEL : Hid (∀ x, x.length = 16 → (encL (expandL key) (nk + 6) x).length = 16) := fun x hx => by rw [encL, encT, outL_len, addW_len _ _ _ (shiftW_len _ _) (by omega)]
  have HCL : Hid (∀ k, (countL iv k).length = 16) := fun k => putBig_len _ _
  have HST := Lib.hid (fun i (hi : i < b.length) => ctr_take_step (strmF (encL (expandL key) (nk + 6)) iv) b i hi)
  have HSA := Lib.hid (fun i => strm_at (encL (expandL key) (nk + 6)) iv i)
  have hz16 : ∀ W, (zeroValue 23).run Try.prog W = .ok (.agg zeros16.toArray) W := fun W => by kernel_rfl
  have hz := zero256B
  have HZL := Lib.hid zeros256_len
  have HTL : Hid ((sboxL.map bv).length = 256) := by show _ = _; rw [List.length_map, sboxL_len]
  have HI : Hid ((Try.prog.info? 48).map (·.size) = some (sboxL.map bv).length) := by show _ = _; rw [HTL.out]; exact i256B
  have hone : Hid (∀ v ∈ sboxL.map bv, v.oneCell' = true) := bv_one _
  have HZ16 : Hid (zeros16 = (List.replicate 16 (0 : UInt8)).map bv) := rfl
  have HR16 : Hid ((List.replicate 16 (0 : UInt8)).length = 16) := rfl
  have HB0 : Hid (ctrL (strmF (encL (expandL key) (nk + 6)) iv) 0 (b.take 0) = []) := by show _ = _; rw [List.take_zero]; rfl
  have HBE : Hid (ctrL (strmF (encL (expandL key) (nk + 6)) iv) 0 (b.take m) = ctrL (strmF (encL (expandL key) (nk + 6)) iv) 0 b) := by show _ = _; rw [List.take_of_length_le (by omega)]
  obtain ⟨CT, HCT⟩ : ∃ CT : Nat → List UInt8, Hid (∀ i, ctrL (strmF (encL (expandL key) (nk + 6)) iv) 0 (b.take i) = CT i) := ⟨fun i => _, fun _ => rfl⟩
  rw [HCT.out] at HB0 HBE
  rw [← HBE.out]
  have HST : Hid (∀ i, i < m → CT (i + 1) = CT i ++ [b.getD i 0 ^^^ strmF (encL (expandL key) (nk + 6)) iv i]) := fun i hi => by rw [← HCT.out, ← HCT.out]; exact HST.out i (by rw [hm]; exact hi)
  clear HCT HBE
  generalize strmF (encL (expandL key) (nk + 6)) iv = SF at HST HSA
  generalize encL (expandL key) (nk + 6) = E at HRE HEL HSA
  have HCO := Lib.hid (fun k W h => refCount_any iv k W hiv h)
  generalize countL iv = CI at HCL HSA HCO
  generalize rkB (expandL key) = RK at HRK HRE
  generalize zeros256 = Z at hz HZL
  generalize zeros16 = Z16 at hz16 HZ16
  generalize sboxL.map bv = TB at HRK HRE HRT HTL HI hone
  obtain ⟨r7, hr7⟩ : ∃ r7, r7 = nk + 7 := ⟨_, rfl⟩
  rw [← hr7] at HRK HRE
  obtain ⟨XR, HXR⟩ : ∃ X, Hid (CT m = X) := ⟨_, rfl⟩
  rw [HXR.out]
  clear hl hn hk hiv hm hS hSb hr7 hwl
  go_enter Try.func10, Try.ntmps10
  go_upto_region 1 with (fail)
  generalize hV : w.alloc _ = W0
  have F0 : Hid (W0.heap[w.heap.size]? = some (.cells (iv.map bv).toArray 23 (0, 0))) := heap_of_alloc hV
  have FB := Lib.hid (below_of_alloc hV (Nat.le_refl w.heap.size))
  clear hV
  go_wp2_with fail
  refine (HRT.out W0).mono ?_
  rintro e w1 ⟨rfl, hb1⟩
  have F1 := Lib.hid ((hb1.block _ (lt_of_heap F0.out)).trans F0.out)
  have B1 := Lib.hid (FB.out.step hb1)
  clear hb1 F0 FB
  go_upto_region 2 with (first
    | (refine wpList_st rfl 48 (.tmp 7) (.tmp 12) rfl (store_arr (cs := TB) (old := Z) HI.out hone.out (heap_alloc_new' w1 _) (by rw [HZL.out, HTL.out])) ?_
       generalize hV : World.setRow _ _ _ = W2
       have M2 := Lib.hid (heap_of_setRow hV (heap_alloc_new' w1 _))
       have MB := Lib.hid (((Below.refl w1.heap.size w1).alloc (Nat.le_refl _) _).trans (below_of_setRow hV (Nat.le_refl w1.heap.size) (by simp)))
       clear hV)
    | fail)
  have F2 := Lib.hid ((MB.out.block _ (lt_of_heap F1.out)).trans F1.out)
  have B2 := Lib.hid (B1.out.step MB.out)
  have S2 := Lib.hid (HS.out.below B2.out)
  clear F1 B1 MB
  obtain ⟨g7, hg7⟩ : ∃ g, w1.heap.size = g := ⟨_, rfl⟩
  rw [hg7] at M2 ⊢
  clear hg7
  go_wp2_with (first
    | (refine wpList_ld rfl 48 (.tmp 7) rfl (load_arr arr256B rfl HI.out M2.out) ?_)
    | fail)
  refine (HRK.out A c W2 S2.out).mono ?_
  rintro e w3 ⟨A8, c8, rfl, hK, hb3⟩
  obtain ⟨gk, rfl, hgk, hkr⟩ := hK
  have F3 := Lib.hid ((hb3.block _ (lt_of_heap F2.out)).trans F2.out)
  have M3 := Lib.hid ((hb3.block _ (lt_of_heap M2.out)).trans M2.out)
  have B3 := Lib.hid (B2.out.step hb3)
  have HGK := Lib.hid hgk; have HKR := Lib.hid hkr
  clear hb3 F2 M2 B2 S2 hgk hkr
  go_upto_region 5 with (fail)
  generalize hV : w3.alloc _ = W4
  have G4 : Hid (W4.heap[w3.heap.size]? = some (.cells Z16.toArray 23 (0, 0))) := heap_of_alloc hV
  have XB := Lib.hid (below_of_alloc hV (Nat.le_refl w3.heap.size))
  have Z4 : Hid (W4.heap.size = w3.heap.size + 1) := by show _ = _; rw [← hV]; simp
  clear hV
  obtain ⟨g10, hg10⟩ : ∃ g, w3.heap.size = g := ⟨_, rfl⟩
  have L0 : Hid (w.heap.size < g10) := by rw [← hg10]; exact lt_of_heap F3.out
  have L7 : Hid (g7 < g10) := by rw [← hg10]; exact lt_of_heap M3.out
  have LK : Hid (gk < g10) := by rw [← hg10]; exact HGK.out
  rw [hg10] at G4 XB Z4 ⊢
  have F4 := Lib.hid ((XB.out.block _ L0.out).trans F3.out)
  have M4 := Lib.hid ((XB.out.block _ L7.out).trans M3.out)
  have KR4 : Hid (∀ r, r < r7 → W4.rangeAt gk (r * 16) ((RK r).map bv)) := fun r hr => range_heap (XB.out.block _ LK.out) (HKR.out r hr)
  have B4 : Hid (Below w.heap.size w W4) := B3.out.step (by rw [hg10]; exact XB.out)
  have SB4 := Lib.hid (HSb.out.below B4.out)
  have KL4 : Hid (gk < W4.heap.size) := by have h1 := LK.out; have h2 := Z4.out; show _ < _; omega
  rw [HZ16.out] at G4
  clear hg10 F3 M3 B3 XB HGK HKR HZ16
  have N0 : Hid (w.heap.size ≠ g10) := by have := L0.out; show _ ≠ _; omega
  have N7 : Hid (g7 ≠ g10) := by have := L7.out; show _ ≠ _; omega
  have NK : Hid (gk ≠ g10) := by have := LK.out; show _ ≠ _; omega
  obtain ⟨q, hq⟩ : ∃ q, q = W4.heap.size := ⟨_, rfl⟩
  have HQ := Lib.hid hq
  have HQ10 : Hid (g10 < q) := by have h2 := Z4.out; show _ < _; omega
  clear hq Z4
  go_wp2_with fail
  go_loopw [9, 11] (fun s9 vi wr => ∃ (i : Nat) (X : List UInt8) (v9 : Value), i ≤ m ∧ v9 = s9 ∧ vi = .int .i64 (i : Int) ∧ Hid (X.length = 16) ∧ Hid (¬ i % 16 = 0 → X = E (CI (i / 16))) ∧ Hid (wr.heap[g10]? = some (.cells (X.map bv).toArray 23 (0, 0))) ∧ Hid (wr.ownsRow q 5 1 v9 i ((CT i).map bv)) ∧ Hid (GrowA g10 W4 wr)) (fun _ i _ => m - (intOf i).toNat)
  case atStart => exact ⟨0, _, _, by omega, rfl, rfl, HR16, fun h => absurd rfl h, G4, by show World.ownsRow _ _ _ _ _ _ _; rw [HB0.out]; exact World.ownsRow_nil _ _ _ _, Pre.refl _⟩
  case round =>
    clear G4
    obtain ⟨i, X, v9, hi, rfl, rfl, HXL, HXE, HG, HO, HGR⟩ := hrel
    by_cases hlt : i < m
    · have e1 : (i : Int) < (m : Int) := by omega
      obtain ⟨r, hr⟩ : ∃ r, r = i % 16 := ⟨_, rfl⟩
      obtain ⟨k, hk⟩ : ∃ k, k = i / 16 := ⟨_, rfl⟩
      have u0 : (i : Int) % 16 = (r : Int) := by omega
      have u3 : (i : Int).tmod 16 = (r : Int) := by rw [Int.tmod_eq_emod_of_nonneg (by omega)]; exact u0
      have u4 : (i : Int) / 16 = (k : Int) := by omega
      have u5 : (i : Int).tdiv 16 = (k : Int) := by rw [Int.tdiv_eq_ediv_of_nonneg (by omega)]; exact u4
      have r16 : (r : Int) < 16 := by omega
      have hr16 : r < 16 := by omega
      have u6 : IntKind.i64.wrap (k : Int) = (k : Int) := by rw [IntKind.wrap_i64]; omega
      have u7 : IntKind.u64.wrap (k : Int) = (k : Int) := by rw [IntKind.wrap_u64]; omega
      have u8 : IntKind.i64.wrap (r : Int) = (r : Int) := by rw [IntKind.wrap_i64]; omega
      have hk64 : k < 18446744073709551616 := by omega
      have hnx : Hid (¬ (i + 1) % 16 = 0 → (i + 1) / 16 = k) := by intro h; omega
      have HSi := HST.out i hlt
      rw [HSA.out, ← hr, ← hk] at HSi
      rw [← hr, ← hk] at HXE
      have HIM : Hid (i < m ∧ m ≤ 100000) := ⟨hlt, hm31⟩
      obtain ⟨Y, HY⟩ : ∃ Y, Hid (E (CI k) = Y) := ⟨_, rfl⟩
      have HYL : Hid (Y.length = 16) := by rw [← HY.out]; exact HEL.out _ (HCL.out k)
      rw [HY.out] at HSi HXE
      have HSi := Lib.hid HSi
      clear hr hk
      go_upto_if 24 with (fail)
      go_cut [24] from 25 to 32 (fun v24 wx => Hid (wx.heap[g10]? = some (.cells (Y.map bv).toArray 23 (0, 0))) ∧ Hid (wx.ownsRow q 5 1 v9 i ((CT i).map bv)) ∧ Hid (GrowA g10 W4 wx))
      case first =>
        by_cases h0 : r = 0
        · have q2 : ((r : Int) == 0) = true := by simp [h0]
          clear h0
          have CO := Lib.hid (fun W => HCO.out k W hk64)
          have RE := Lib.hid (fun A cc W hA => HRE.out (CI k) A cc W (HCL.out k) hA)
          have HCK := Lib.hid (HCL.out k)
          generalize CI k = C at CO RE HY HCK
          rw [HY.out] at RE
          go_upto_region 9 with (fail)
          have OO : Hid (∀ W, GrowA g10 wr W → W.ownsRow q 5 1 v9 i ((CT i).map bv)) := fun W hW => by
            have h2 := HO.out
            obtain ⟨h0, h | ⟨g, cap, cur, hv, hg, hh, rr⟩⟩ := h2
            · exact ⟨h0, .inl h⟩
            · exact ⟨h0, .inr ⟨g, cap, cur, hv, hg, hW.heap (by have := HQ10.out; omega) hh, rr⟩⟩
          have HX : Hid (GrowA g10 wr wr.drew) := GrowA.drew _ _
          refine regS_start (GrowA g10) (by kernel_rfl) ?_
          try simp only [Act.put, List.setIfInBounds_toArray, List.set_cons_zero, List.set_cons_succ]
          refine regS_load 0 (some 25) (fun W hW => load_arr arr256B rfl HI.out (hW.heap N7.out (HX.out.heap N7.out (HGR.out.heap N7.out M4.out)))) rfl rfl rfl rfl (by kernel_rfl) (by kernel_rfl) (by kernel_rfl) (fun _ _ _ h => h) (by rfl) ?_
          simp only [Act.put, List.setIfInBounds_toArray, List.set_cons_zero, List.set_cons_succ]
          refine regS_take (v := ?_) 1 (some 26) rfl rfl (by kernel_rfl) (by kernel_rfl) (by kernel_rfl) (fun _ _ _ h => h) (by rfl) (fun W hW => ?_) ?_
          rotate_left
          · (go_simp; try rfl)
          simp only [Act.put, List.setIfInBounds_toArray, List.set_cons_zero, List.set_cons_succ]
          refine regS_load 2 (some 27) (fun W hW => load_arr arr16B rfl (r_i16 iv HIV.out) (hW.heap N0.out (HX.out.heap N0.out (HGR.out.heap N0.out F4.out)))) rfl rfl rfl rfl (by kernel_rfl) (by kernel_rfl) (by kernel_rfl) (fun _ _ _ h => h) (by rfl) ?_
          simp only [Act.put, List.setIfInBounds_toArray, List.set_cons_zero, List.set_cons_succ]
          refine regS_take (v := ?_) 3 (some 28) rfl rfl (by kernel_rfl) (by kernel_rfl) (by kernel_rfl) (fun _ _ _ h => h) (by rfl) (fun W hW => ?_) ?_
          rotate_left
          · (go_simp; try rfl)
          simp only [Act.put, List.setIfInBounds_toArray, List.set_cons_zero, List.set_cons_succ]
          refine regS_take (v := ?_) 4 (some 29) rfl rfl (by kernel_rfl) (by kernel_rfl) (by kernel_rfl) (fun _ _ _ h => h) (by rfl) (fun W hW => ?_) ?_
          rotate_left
          · (go_simp; try rfl)
          simp only [Act.put, List.setIfInBounds_toArray, List.set_cons_zero, List.set_cons_succ]
          refine regS_take (v := ?_) 5 (some 30) rfl rfl (by kernel_rfl) (by kernel_rfl) (by kernel_rfl) (fun _ _ _ h => h) (by rfl) (fun W hW => ?_) ?_
          rotate_left
          · (go_simp; try rfl)
          simp only [Act.put, List.setIfInBounds_toArray, List.set_cons_zero, List.set_cons_succ]
          refine regS_eff 6 rfl (by kernel_rfl) (fun K hK => ?_)
          go_simp
          refine (CO.out _).mono ?_
          rintro e w5 ⟨rfl, hb⟩
          have P5 := Lib.hid ((hb.block _ (lt_of_heap (w := wr.drew) HG.out)).trans HG.out)
          have hE := GrowA.of_ext (g := g10) hb
          clear hb
          refine hK.out _ _ hE ?_
          have HX := Lib.hid (Pre.trans HX.out hE)
          clear hE hK K
          try simp only [Act.put, List.setIfInBounds_toArray, List.set_cons_zero, List.set_cons_succ]
          refine regS_eff 7 rfl (by kernel_rfl) (fun K hK => ?_)
          go_simp
          refine (RE.out _ c8 _ (KeysAt.grow (g := g10) KR4.out KL4.out NK.out (HGR.out.trans HX.out))).mono ?_
          rintro e w6 ⟨rfl, hb⟩
          have P6 := Lib.hid ((hb.block _ (lt_of_heap P5.out)).trans P5.out)
          have hE := GrowA.of_ext (g := g10) hb
          clear hb
          refine hK.out _ _ hE ?_
          have HX := Lib.hid (Pre.trans HX.out hE)
          clear hE hK K
          try simp only [Act.put, List.setIfInBounds_toArray, List.set_cons_zero, List.set_cons_succ]
          refine regS_eff 8 rfl (by kernel_rfl) (fun K hK => ?_)
          refine step_st1 rfl 23 (.tmp 10) (.tmp 32) rfl (store_arr (cs := Y.map bv) (r_i16 _ HYL.out) (bv_one _) P6.out (by rw [List.length_map, List.length_map, HXL.out, HYL.out])) ?_
          generalize hV : World.setRow _ _ _ = W7
          have hres := Lib.hid (heap_of_setRow hV P6.out)
          have hE : GrowA g10 w6 W7 := by rw [← hV]; exact GrowA.setRow _ _ _
          clear hV
          refine hK.out _ _ hE ?_
          have HX := Lib.hid (Pre.trans HX.out hE)
          clear hE hK K
          try simp only [Act.put, List.setIfInBounds_toArray, List.set_cons_zero, List.set_cons_succ]
          refine regS_done (by kernel_rfl) ?_
          go_wp2_with fail
          go_meet
          exact ⟨hres, OO.out _ HX.out, HGR.out.trans HX.out⟩
        · have q2 : ((r : Int) == 0) = false := by simp; omega
          have hXY : Hid (X = Y) := HXE.out h0
          clear h0
          go_wp2_with fail
          go_meet
          exact ⟨by rw [← hXY.out]; exact HG.out, HO, HGR⟩
      case rest =>
        obtain ⟨G5, O5, R5⟩ := hcut
        have BW : Hid (Below w.heap.size w wc) := B4.out.trans (R5.out.below (Nat.le_of_lt L0.out) B4.out.size)
        obtain ⟨pb, ob, rfl, hpb, cx⟩ := ta_sl_cell (HSb.out.below BW.out) (i := i) (by rw [HM.out]; exact hlt)
        have cy := bcellT G5.out r (by rw [HYL.out]; exact hr16)
        generalize b.getD i 0 = x at cx HSi
        generalize Y.getD r 0 = y at cy HSi
        obtain ⟨z, hz⟩ : ∃ z, z = x ^^^ y := ⟨_, rfl⟩
        have hzz : bits .xor .u8 (x.toNat : Int) (y.toNat : Int) = (z.toNat : Int) := by rw [hz]; exact xor8 x y
        rw [← hz] at HSi
        have hi31 : i + 1 ≤ 2147483647 := by omega
        have LS : Hid (q ≤ wc.heap.size) := by have h1 := R5.out.size; have h2 := HQ.out; show _ ≤ _; omega
        clear hz hpb BW
        go_upto_region 10 with (fail)
        have HS : Hid (wc.drew = wc.drew) := rfl
        have CX : Hid (wc.drew.cell? ⟨pb, ob + i, none⟩ = _) := cx
        have CY : Hid (wc.drew.cell? ⟨g10, r, none⟩ = _) := cy
        clear cx cy
        refine regK_start (9) (fun W => W = wc.drew) (by kernel_rfl) ?_
        try simp only [Act.put, List.setIfInBounds_toArray, List.set_cons_zero, List.set_cons_succ]
        refine regK_take (v := ?_) 0 (some 33) rfl rfl (by kernel_rfl) (by kernel_rfl) (by kernel_rfl) (fun _ _ _ h => h) (by rfl) (by kernel_rfl) HS.out (fun W => ?_) ?_
        rotate_left
        · (go_simp; try rfl)
        simp only [Act.put, List.setIfInBounds_toArray, List.set_cons_zero, List.set_cons_succ]
        refine regK_take (v := ?_) 1 (some 34) rfl rfl (by kernel_rfl) (by kernel_rfl) (by kernel_rfl) (fun _ _ _ h => h) (by rfl) (by kernel_rfl) HS.out (fun W => ?_) ?_
        rotate_left
        · (go_simp; try rfl)
        simp only [Act.put, List.setIfInBounds_toArray, List.set_cons_zero, List.set_cons_succ]
        refine regK_take (v := ?_) 2 (some 35) rfl rfl (by kernel_rfl) (by kernel_rfl) (by kernel_rfl) (fun _ _ _ h => h) (by rfl) (by kernel_rfl) HS.out (fun W => ?_) ?_
        rotate_left
        · (go_simp; try rfl)
        simp only [Act.put, List.setIfInBounds_toArray, List.set_cons_zero, List.set_cons_succ]
        refine regK_take (v := ?_) 3 (some 36) rfl rfl (by kernel_rfl) (by kernel_rfl) (by kernel_rfl) (fun _ _ _ h => h) (by rfl) (by kernel_rfl) HS.out (fun W => ?_) ?_
        rotate_left
        · (go_simp; try rfl)
        simp only [Act.put, List.setIfInBounds_toArray, List.set_cons_zero, List.set_cons_succ]
        refine regK_load 4 (some 37) (fun W hW => load_cell Try.underlying5 (cell_eqA hW CX.out)) rfl rfl rfl rfl (by kernel_rfl) (by kernel_rfl) (by kernel_rfl) (fun _ _ _ h => h) (by rfl) (by kernel_rfl) HS.out ?_
        simp only [Act.put, List.setIfInBounds_toArray, List.set_cons_zero, List.set_cons_succ]
        refine regK_take (v := ?_) 5 (some 38) rfl rfl (by kernel_rfl) (by kernel_rfl) (by kernel_rfl) (fun _ _ _ h => h) (by rfl) (by kernel_rfl) HS.out (fun W => ?_) ?_
        rotate_left
        · (go_simp; try rfl)
        simp only [Act.put, List.setIfInBounds_toArray, List.set_cons_zero, List.set_cons_succ]
        refine regK_take (v := ?_) 6 (some 39) rfl rfl (by kernel_rfl) (by kernel_rfl) (by kernel_rfl) (fun _ _ _ h => h) (by rfl) (by kernel_rfl) HS.out (fun W => ?_) ?_
        rotate_left
        · (go_simp; try rfl)
        simp only [Act.put, List.setIfInBounds_toArray, List.set_cons_zero, List.set_cons_succ]
        refine regK_take (v := ?_) 7 (some 40) rfl rfl (by kernel_rfl) (by kernel_rfl) (by kernel_rfl) (fun _ _ _ h => h) (by rfl) (by kernel_rfl) HS.out (fun W => ?_) ?_
        rotate_left
        · (go_simp; try rfl)
        simp only [Act.put, List.setIfInBounds_toArray, List.set_cons_zero, List.set_cons_succ]
        refine regK_load 8 (some 41) (fun W hW => load_cell Try.underlying5 (cell_eqA hW CY.out)) rfl rfl rfl rfl (by kernel_rfl) (by kernel_rfl) (by kernel_rfl) (fun _ _ _ h => h) (by rfl) (by kernel_rfl) HS.out ?_
        simp only [Act.put, List.setIfInBounds_toArray, List.set_cons_zero, List.set_cons_succ]
        refine regK_bar 9 rfl (by kernel_rfl) (by kernel_rfl) (fun K hK => ?_)
        go_simp
        refine hK.out _ _ trivial ?_
        clear hK K
        try simp only [Act.put, List.setIfInBounds_toArray, List.set_cons_zero, List.set_cons_succ]
        refine regS_eff 10 rfl (by kernel_rfl) (fun K hK => ?_)
        go_simp
        refine hK.out _ _ trivial ?_
        clear hK K
        try simp only [Act.put, List.setIfInBounds_toArray, List.set_cons_zero, List.set_cons_succ]
        refine regS_eff 11 rfl (by kernel_rfl) (fun K hK => ?_)
        obtain ⟨v6, w6, hrun, hown, hgr, _⟩ := append_row_at (P := Try.prog) (wc.drew.alloc (.cells ([z].map bv).toArray 5)) q 26 uT made8 rfl v9 i ((CT i).map bv) (k_alloc O5.out.drew _) (wc.heap.size + 1) (some ⟨wc.heap.size, 0, none⟩) 1 1 ([z].map bv) (row_of_heap (bs := [z]) (heap_alloc_new' wc.drew (.cells ([z].map bv).toArray 5)) (Nat.lt_succ_self _)) rfl (bv_one _) (by omega) (by simp [maxLen]; omega) (Nat.le_trans LS.out (by simp))
        rw [← List.map_append, ← HSi.out] at hown
        have O6 := Lib.hid hown
        have R6 : Hid (GrowA g10 W4 w6) := ((R5.out.trans (GrowA.drew _ _)).trans (GrowA.of_ext ((Below.refl _ _).alloc (Nat.le_refl _) _))).app hgr (ka_own_ge O5.out (by have := HQ.out; omega))
        have G6 : Hid (w6.heap[g10]? = some (.cells (Y.map bv).toArray 23 (0, 0))) := (hgr.block g10 (Nat.lt_of_lt_of_le (Nat.lt_of_lt_of_le HQ10.out LS.out) (by simp)) (fun e => absurd (ka_own_ge O5.out (Nat.le_refl _) g10 e.symm) (by have := HQ10.out; omega))).trans ((((Below.refl wc.drew.heap.size wc.drew).alloc (Nat.le_refl _) (.cells ([z].map bv).toArray 5)).block g10 (Nat.lt_of_lt_of_le HQ10.out LS.out)).trans G5.out)
        refine step_app rfl (.tmp 33) (.tmp 43) 26 26 rfl hrun ?_
        clear hrun hown hgr
        refine hK.out _ _ trivial ?_
        clear hK K
        try simp only [Act.put, List.setIfInBounds_toArray, List.set_cons_zero, List.set_cons_succ]
        refine regS_take (v := ?_) 12 (some 9) rfl rfl (by kernel_rfl) (by kernel_rfl) (by kernel_rfl) (fun _ _ _ h => h) (by rfl) (fun W hW => ?_) ?_
        rotate_left
        · (go_simp; try rfl)
        simp only [Act.put, List.setIfInBounds_toArray, List.set_cons_zero, List.set_cons_succ]
        refine regS_done (by kernel_rfl) ?_
        go_wp2
        go_roundw
        case rel => exact ⟨i + 1, Y, _, HIM.out.1, rfl, by go_num, HYL, fun h => by rw [hnx.out h]; exact HY.out.symm, G6, O6, R6⟩
        case measure => simp [intOf]; omega
    · have e1 : ¬ ((i : Int) < (m : Int)) := by omega
      have him : i = m := by omega
      rw [him, HXR.out] at HO
      have BW : Hid (Below w.heap.size w wr) := B4.out.trans (HGR.out.below (Nat.le_of_lt L0.out) B4.out.size)
      have O9 : Hid (wr.ownsRow w.heap.size 5 1 v9 m (XR.map bv)) := ka_own_le HO.out (by have h1 := HQ.out; have h2 := B4.out.size; omega)
      clear him
      go_wp2_with fail
      go_ret
      exact ⟨_, rfl, O9.out, BW.out⟩
end Go.Proofs.Ytjmpbcfbfbjenaa

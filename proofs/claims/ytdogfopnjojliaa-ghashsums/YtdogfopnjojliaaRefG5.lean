/- palfreyref06.Sum. -/
import Derived.Test.YtdogfopnjojliaaRefG4
namespace Go.Proofs.Ytdogfopnjojliaa
open Go.RowKit
set_option linter.unusedVariables false
set_option linter.unusedSimpArgs false
theorem g_sl_cell {w : World} {A : Option Addr} {c i : Nat} {bs : List UInt8} (h : Sl w A c bs) (hi : i < bs.length) : ∃ b o, A = some ⟨b, o, none⟩ ∧ b < w.heap.size ∧ w.cell? ⟨b, o + i, none⟩ = some (.int .u8 ((bs.getD i 0).toNat : Int)) := by
  obtain ⟨b, o, rfl, hb, hc⟩ := h.2.2.at_ (by rw [List.length_map]; omega)
  refine ⟨b, o, rfl, hb, ?_⟩
  have := hc i (bv bs[i]) (by simp [hi])
  rw [this]; simp [List.getD, hi, bv]
theorem gsF_next (h y : List UInt8) (f : Nat → UInt8) (j : Nat) : gmulL (mixF (gsF h y f j) fun k => f (16 * j + k)) h = gsF h y f (j + 1) := rfl
set_option maxHeartbeats 4000000 in
theorem refGsum_any (h : List UInt8) (A : Option Addr) (n c : Nat) (bs : List UInt8) (w : World) (hh : h.length = 16) (hl : bs.length = n) (hn : n ≤ 2147000000) (hS : Sl w A c bs) :
    Calls Try.prog 15 #[.agg (h.map bv).toArray, .slice A n c] w fun e w' => e = .returned (.agg ((gsumL h bs).map bv).toArray) ∧ Below w.heap.size w w' := by
  have HH := Lib.hid hh; have HL := Lib.hid hl; have HS := Lib.hid hS
  have PA := Lib.hid (fun W hS => refGpad_any A n c bs W hl hn hS)
  have hnp : (n + padN n) = 16 * ((n + 15) / 16) := by unfold padN; omega
  have HPL : Hid ((bs ++ List.replicate (padN n) (0 : UInt8)).length = 16 * ((n + 15) / 16)) := by show _ = _; rw [List.length_append, List.length_replicate, hl]; exact hnp
  rw [hnp] at PA
  have HPG : Hid (∀ i, (bs ++ List.replicate (padN n) (0 : UInt8)).getD i 0 = byteF bs i) := fun i => byteF_padded bs _ i
  have HRS : Hid (gsumL h bs = gsF h zerB (byteF bs) ((n + 15) / 16)) := by show _ = _; rw [gsumL, hl]
  have hi16h : Hid ((Try.prog.info? 22).map (·.size) = some (h.map bv).length) := i16l h hh
  have hz16 : ∀ W, (zeroValue 22).run Try.prog W = .ok (.agg (zerB.map bv).toArray) W := fun W => by kernel_rfl
  have HZ0 : Hid (zerB.length = 16) := rfl
  obtain ⟨N, hN⟩ : ∃ N, N = (n + 15) / 16 := ⟨_, rfl⟩
  rw [← hN] at PA HPL HRS
  have hN31 : 16 * N ≤ 2147000015 := by omega
  rw [HRS.out]
  have HGL := Lib.hid (fun j => gsF_len h zerB (byteF bs) j rfl)
  have HGN := Lib.hid (fun j => gsF_next h zerB (byteF bs) j)
  have HG0 : Hid (gsF h zerB (byteF bs) 0 = zerB) := rfl
  generalize gsF h zerB (byteF bs) = G at HGL HGN HG0 ⊢
  generalize zerB = Z at hz16 HZ0 HG0
  generalize bs ++ List.replicate (padN n) (0 : UInt8) = P at PA HPL HPG
  obtain ⟨M, hM⟩ : ∃ M, M = 16 * N := ⟨_, rfl⟩
  rw [← hM] at PA HPL hN31
  have HMN := Lib.hid hM
  obtain ⟨GN, HGE⟩ : ∃ GN, Hid (G N = GN) := ⟨_, rfl⟩
  rw [HGE.out]
  clear hh hl hS hn hnp hN hM HRS
  go_enter Try.func15, Try.ntmps15
  go_wp2_with fail
  generalize hV : (w.alloc _).alloc _ = W0
  have F2 : Hid (W0.heap[w.heap.size]? = some (.cells (h.map bv).toArray 22 (0, 0))) := by rw [← hV]; exact (heap2 w _ _).1
  have F4 : Hid (W0.heap[w.heap.size + 1]? = some (.cells (Z.map bv).toArray 22 (0, 0))) := by rw [← hV]; exact (heap2 w _ _).2.1
  have FB : Hid (Below w.heap.size w W0) := by rw [← hV]; exact (heap2 w _ _).2.2
  clear hV
  refine (PA.out W0 (HS.out.below FB.out)).mono ?_
  rintro e w1 ⟨v1, rfl, hO1, hb1⟩
  obtain ⟨A1, c1, rfl, hl1, h11, h12, hr1⟩ := own_read hO1
  have S1 : Hid (Sl w1 A1 c1 P) := ⟨by omega, h12, hr1⟩
  have P2 := Lib.hid ((hb1.block _ (lt_of_heap F2.out)).trans F2.out)
  have P4 := Lib.hid ((hb1.block _ (lt_of_heap F4.out)).trans F4.out)
  have PB := Lib.hid (FB.out.step hb1)
  clear hO1 hl1 h11 h12 hr1 hb1 F2 F4 FB PA
  go_wp2_with fail
  generalize hV : w1.alloc _ = W6
  have M6 : Hid (W6.heap[w1.heap.size]? = some (.cells ((G 0).map bv).toArray 22 (0, 0))) := by show _ = _; rw [HG0.out]; exact heap_of_alloc hV
  have X6 := below_of_alloc hV (Nat.le_refl w1.heap.size)
  have M2 := Lib.hid ((X6.block _ (lt_of_heap P2.out)).trans P2.out)
  have M4 := Lib.hid ((X6.block _ (lt_of_heap P4.out)).trans P4.out)
  have MB := Lib.hid (PB.out.step X6)
  have S6 := Lib.hid (S1.out.below X6)
  have L2 := Lib.hid (lt_of_heap P2.out)
  have L4 := Lib.hid (lt_of_heap P4.out)
  have LR := Lib.hid (fun (hp : 0 < P.length) => S1.out.2.2.at_ (by rw [List.length_map]; exact hp))
  have LW := Lib.hid PB.out.size
  clear hV X6 P2 P4 PB S1
  obtain ⟨g6, hg6⟩ : ∃ g, w1.heap.size = g := ⟨_, rfl⟩
  rw [hg6] at M6 L2 L4 LW LR ⊢
  clear hg6
  go_loopw [7] (fun vi wr => ∃ (j i : Nat), j ≤ N ∧ Hid (i = 16 * j) ∧ vi = .int .i64 (i : Int) ∧ Hid (wr.heap[g6]? = some (.cells ((G j).map bv).toArray 22 (0, 0))) ∧ Hid (Below g6 W6 wr)) (fun i _ => 16 * N - (intOf i).toNat)
  case atStart => exact ⟨0, 0, Nat.zero_le _, rfl, rfl, M6, Below.refl _ _⟩
  case round =>
    clear M6
    obtain ⟨j, i, hj, HI, rfl, H6, HB⟩ := hrel
    by_cases hlt : j < N
    · have q1 : (i : Int) < (M : Int) := by have h1 := HI.out; have h2 := HMN.out; omega
      have hi31 : i + 16 ≤ M := by have h1 := HI.out; have h2 := HMN.out; omega
      obtain ⟨S, HSG⟩ : ∃ S, Hid (G j = S) := ⟨_, rfl⟩
      have HSL : Hid (S.length = 16) := by show _ = _; rw [← HSG.out]; exact HGL.out j
      rw [HSG.out] at H6
      have HNX := HGN.out j
      rw [HSG.out, ← HI.out] at HNX
      have HFX : Hid (∀ k, P.getD (i + k) 0 = (fun k => byteF bs (i + k)) k) := fun k => HPG.out (i + k)
      generalize (fun k => byteF bs (i + k)) = f at HNX HFX
      have HNX := Lib.hid HNX
      go_wp2_with fail
      obtain ⟨wo, hwo⟩ : ∃ x, x = wr := ⟨_, rfl⟩
      subst hwo
      go_loopw [8] (fun vk wr => ∃ (k : Nat), k ≤ 16 ∧ vk = .int .i64 (k : Int) ∧ Hid (wr.heap[g6]? = some (.cells ((mixK S f k).map bv).toArray 22 (0, 0))) ∧ Hid (Below g6 W6 wr)) (fun k _ => 16 - (intOf k).toNat)
      case atStart => exact ⟨0, Nat.zero_le _, rfl, by show _ = _; rw [mixK_zero]; exact H6, HB⟩
      case round =>
        clear H6 HB
        obtain ⟨k, hk, rfl, H6, HB⟩ := hrel
        by_cases hltk : k < 16
        · have q2 : (k : Int) < 16 := by omega
          obtain ⟨q, hq⟩ : ∃ q, q = i + k := ⟨_, rfl⟩
          have o1 : IntKind.i64.wrap ((i : Int) + (k : Int)) = (q : Int) := by rw [IntKind.wrap_i64]; omega
          have q3 : (q : Int) < (M : Int) := by omega
          have hqP : q < P.length := by rw [HPL.out]; omega
          obtain ⟨b0, o0, hA, hb0, hc0⟩ := g_sl_cell S6.out (i := q) hqP
          obtain ⟨b1, o1', hA', hb1, _⟩ := LR.out (by omega)
          rw [hA] at hA'
          injection hA' with hA'
          injection hA' with e1 e2
          subst e1; subst e2
          have HFK := HFX.out k
          rw [← hq] at HFK
          rw [HFK] at hc0
          have HST := mixK_step S f k HSL.out hltk
          obtain ⟨x, hx⟩ : ∃ x, S.getD k 0 = x := ⟨_, rfl⟩
          generalize f k = y at hc0 HST
          rw [hx] at HST
          obtain ⟨z, hz⟩ : ∃ z : UInt8, z = x ^^^ y := ⟨_, rfl⟩
          rw [← hz] at HST
          have hzz : bits .xor .u8 (x.toNat : Int) (y.toNat : Int) = (z.toNat : Int) := by rw [hz]; exact xor8 x y
          have HST := Lib.hid HST
          have c6 : wr.cell? ⟨g6, k, none⟩ = some (.int .u8 (x.toNat : Int)) := by
            rw [cell_of_heap H6.out, List.getElem?_map, List.getElem?_eq_getElem (by rw [mixK_len S f k HSL.out hk]; exact hltk)]
            have hg := mixK_get S f k HSL.out hltk
            rw [hx, List.getD_eq_getElem?_getD, List.getElem?_eq_getElem (by rw [mixK_len S f k HSL.out hk]; exact hltk)] at hg
            simp at hg
            simp [bv, hg]
          have C6 : Hid (wr.drew.cell? ⟨g6, k, none⟩ = some (.int .u8 (x.toNat : Int))) := c6
          have K6 : Hid (wr.drew.heap[g6]? = _) := H6.out
          have KB : Hid (Below g6 W6 wr.drew) := HB.out.drew
          have C9 : Hid (wr.drew.cell? ⟨b0, o0 + q, none⟩ = some (.int .u8 (y.toNat : Int))) := (KB.out.cell hb1).trans hc0
          have hne : Hid (b0 ≠ g6 ∧ b0 < wr.drew.heap.size) := ⟨by omega, Nat.lt_of_lt_of_le hb0 KB.out.size⟩
          have HX : Hid (But g6 k wr.drew wr.drew) := Pre.refl _
          clear c6 hc0 hx hz hq HFK hb0 hb1 H6 HB hqP
          subst hA
          go_upto_region 9 with (fail)
          refine regS_start (But g6 k) (by kernel_rfl) ?_
          try simp only [Act.put, List.setIfInBounds_toArray, List.set_cons_zero, List.set_cons_succ]
          generalize wr.drew = W1 at C6 K6 KB C9 hne HX ⊢
          have c6 := C6.out
          refine regS_take (v := ?_) 0 (some 21) rfl rfl (by kernel_rfl) (by kernel_rfl) (by kernel_rfl) (fun _ _ _ h => h) (by rfl) (fun W hW => ?_) ?_
          rotate_left
          · (go_simp; try rfl)
          simp only [Act.put, List.setIfInBounds_toArray, List.set_cons_zero, List.set_cons_succ]
          refine regS_take (v := ?_) 1 (some 22) rfl rfl (by kernel_rfl) (by kernel_rfl) (by kernel_rfl) (fun _ _ _ h => h) (by rfl) (fun W hW => ?_) ?_
          rotate_left
          · (go_simp; try rfl)
          simp only [Act.put, List.setIfInBounds_toArray, List.set_cons_zero, List.set_cons_succ]
          refine regS_take (v := ?_) 2 (some 23) rfl rfl (by kernel_rfl) (by kernel_rfl) (by kernel_rfl) (fun _ _ _ h => h) (by rfl) (fun W hW => ?_) ?_
          rotate_left
          · (go_simp; try rfl)
          simp only [Act.put, List.setIfInBounds_toArray, List.set_cons_zero, List.set_cons_succ]
          refine regS_take (v := ?_) 4 (some 25) rfl rfl (by kernel_rfl) (by kernel_rfl) (by kernel_rfl) (fun _ _ _ h => h) (by rfl) (fun W hW => ?_) ?_
          rotate_left
          · (go_simp; try rfl)
          simp only [Act.put, List.setIfInBounds_toArray, List.set_cons_zero, List.set_cons_succ]
          refine regS_take (v := ?_) 5 (some 26) rfl rfl (by kernel_rfl) (by kernel_rfl) (by kernel_rfl) (fun _ _ _ h => h) (by rfl) (fun W hW => ?_) ?_
          rotate_left
          · (go_simp; try rfl)
          simp only [Act.put, List.setIfInBounds_toArray, List.set_cons_zero, List.set_cons_succ]
          refine regS_take (v := ?_) 6 (some 27) rfl rfl (by kernel_rfl) (by kernel_rfl) (by kernel_rfl) (fun _ _ _ h => h) (by rfl) (fun W hW => ?_) ?_
          rotate_left
          · (go_simp; try rfl)
          simp only [Act.put, List.setIfInBounds_toArray, List.set_cons_zero, List.set_cons_succ]
          refine regS_take (v := ?_) 7 (some 28) rfl rfl (by kernel_rfl) (by kernel_rfl) (by kernel_rfl) (fun _ _ _ h => h) (by rfl) (fun W hW => ?_) ?_
          rotate_left
          · (go_simp; try rfl)
          simp only [Act.put, List.setIfInBounds_toArray, List.set_cons_zero, List.set_cons_succ]
          refine regS_take (v := ?_) 8 (some 29) rfl rfl (by kernel_rfl) (by kernel_rfl) (by kernel_rfl) (fun _ _ _ h => h) (by rfl) (fun W hW => ?_) ?_
          rotate_left
          · (go_simp; try rfl)
          simp only [Act.put, List.setIfInBounds_toArray, List.set_cons_zero, List.set_cons_succ]
          refine regS_load 9 (some 30) (fun W hW => load_cell Try.underlying5 ((hW.2 _ _ hne.out.2 (fun e => hne.out.1 e.1)).trans C9.out)) rfl rfl rfl rfl (by kernel_rfl) (by kernel_rfl) (by kernel_rfl) (fun _ _ _ h => h) (by rfl) ?_
          simp only [Act.put, List.setIfInBounds_toArray, List.set_cons_zero, List.set_cons_succ]
          refine regS_eff 3 rfl (by kernel_rfl) (fun K hK => ?_)
          go_simp
          refine hK.out _ _ (Pre.refl _) ?_
          clear hK K
          try simp only [Act.put, List.setIfInBounds_toArray, List.set_cons_zero, List.set_cons_succ]
          refine regS_take (v := ?_) 10 (some 31) rfl rfl (by kernel_rfl) (by kernel_rfl) (by kernel_rfl) (fun _ _ _ h => h) (by rfl) (fun W hW => ?_) ?_
          rotate_left
          · (go_simp; try rfl)
          simp only [Act.put, List.setIfInBounds_toArray, List.set_cons_zero, List.set_cons_succ]
          refine regS_take (v := ?_) 11 (some 32) rfl rfl (by kernel_rfl) (by kernel_rfl) (by kernel_rfl) (fun _ _ _ h => h) (by rfl) (fun W hW => ?_) ?_
          rotate_left
          · (go_simp; try rfl)
          simp only [Act.put, List.setIfInBounds_toArray, List.set_cons_zero, List.set_cons_succ]
          refine regS_eff 12 rfl (by kernel_rfl) (fun K hK => ?_)
          refine step_st1 rfl 5 (.tmp 32) (.tmp 31) rfl (store_cell (k := .u8) Try.underlying5 s8 (w := W1) C6.out (frozen_of_heap (w := W1) K6.out _)) ?_
          have hE : But g6 k W1 (W1.setCell ⟨g6, k, none⟩ (.int .u8 (z.toNat : Int))) := But.set _
          refine hK.out _ _ hE ?_
          have HX := Lib.hid (Pre.trans HX.out hE)
          clear hE hK K
          try simp only [Act.put, List.setIfInBounds_toArray, List.set_cons_zero, List.set_cons_succ]
          refine regS_done (by kernel_rfl) ?_
          go_wp2
          go_roundw
          case rel =>
            refine ⟨k + 1, by omega, by go_num, ?_, KB.out.setCell (Nat.le_refl _) _⟩
            have := heap_set K6.out k (bv z)
            rw [← List.map_set, HST.out] at this
            exact this
          case measure => simp [intOf]; omega
        · have q2 : ¬ ((k : Int) < 16) := by omega
          have hk16 : k = 16 := by omega
          have HME := mixK_end S f HSL.out
          rw [hk16, HME] at H6
          have HML := Lib.hid (mixF_len S f)
          have K2 : Hid (wr.heap[w.heap.size]? = _) := (HB.out.block _ L2.out).trans M2.out
          have HMI := Lib.hid (i16l (mixF S f) HML.out)
          have GM := Lib.hid (fun W => refGmul_any (mixF S f) h W HML.out HH.out)
          rw [HNX.out] at GM
          have HYL := Lib.hid (HGL.out (j + 1))
          obtain ⟨Y, HYG⟩ : ∃ Y, Hid (G (j + 1) = Y) := ⟨_, rfl⟩
          rw [HYG.out] at GM HYL
          have HYI := Lib.hid (i16l Y HYL.out)
          generalize mixF S f = MX at H6 HML HMI GM
          clear hk16 hk HME HNX hltk
          go_wp2_with (first
            | (refine wpList_ld rfl 22 (.tmp 6) rfl (load_arr arr16B rfl HMI.out H6.out) ?_)
            | (refine wpList_ld rfl 22 (.tmp 2) rfl (load_arr arr16B rfl hi16h.out K2.out) ?_)
            | fail)
          refine (GM.out wr).mono ?_
          rintro e w5 ⟨rfl, hb5⟩
          have H7 := Lib.hid ((hb5.block _ (lt_of_heap H6.out)).trans H6.out)
          have HB7 : Hid (Below g6 W6 w5) := HB.out.trans (hb5.mono (Nat.le_of_lt (lt_of_heap H6.out)))
          clear hb5 H6 HB
          go_wp2_with (first
            | (refine wpList_st rfl 22 (.tmp 6) (.tmp 35) rfl (store_arr (cs := Y.map bv) HYI.out (bv_one _) (old := MX.map bv) H7.out (by rw [List.length_map, List.length_map, HYL.out, HML.out])) ?_
               generalize hV : World.setRow _ _ _ = W8
               have H8 := Lib.hid (heap_of_setRow hV H7.out)
               have HB8 : Hid (Below g6 W6 W8) := by rw [← hV]; exact HB7.out.trans (grown_below (grown_setRow _ _ _) (Nat.le_refl _) (Nat.le_of_lt (lt_of_heap H7.out)))
               clear hV)
            | fail)
          go_roundw
          case rel => exact ⟨j + 1, i + 16, by omega, by have := HI.out; show _ = _; omega, by go_num, by rw [HYG.out]; exact H8, HB8⟩
          case measure => have h1 := HI.out; simp [intOf]; omega
    · have q1 : ¬ ((i : Int) < (M : Int)) := by have h1 := HI.out; have h2 := HMN.out; omega
      have hjN : j = N := by omega
      rw [hjN, HGE.out] at H6
      have HYL : Hid (GN.length = 16) := by show _ = _; rw [← HGE.out]; exact HGL.out N
      have HYI := Lib.hid (i16l GN HYL.out)
      have K4 : Hid (wr.heap[w.heap.size + 1]? = _) := (HB.out.block _ L4.out).trans M4.out
      have KB : Hid (Below w.heap.size w wr) := MB.out.trans (HB.out.mono LW.out)
      clear hjN
      go_wp2_with (first
        | (refine wpList_ld rfl 22 (.tmp 6) rfl (load_arr arr16B rfl HYI.out H6.out) ?_)
        | (refine wpList_st rfl 22 (.tmp 4) (.tmp 36) rfl (store_arr (cs := GN.map bv) HYI.out (bv_one _) (old := Z.map bv) K4.out (by rw [List.length_map, List.length_map, HYL.out, HZ0.out])) ?_)
        | fail)
      have hres := setRow_heap wr (w.heap.size + 1) _ (GN.map bv).toArray 22 _ K4.out
      exact bodyPost_ret (results_cell_row (P := Try.prog) rfl _ _ (w.heap.size + 1) 22 (GN.map bv).toArray (0, 0) _ rfl hres arr16B rfl (by rw [List.size_toArray, List.length_map, HYL.out]; exact i16B)) rfl ⟨rfl, KB.out.trans (grown_below (grown_setRow _ _ _) (by omega) KB.out.size)⟩
end Go.Proofs.Ytdogfopnjojliaa

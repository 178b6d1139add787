/- Joined: Aes8 Aes9 Aes3 Aes4 Aes6 Aes10 Ctr1 Own3 Alg9 Cha1 Cha2 Cha3 Cha4 Cha5 Cha6 LiftC LiftK LawsC1 Aed1. -/
import Derived.Test.YtimgggpojbpfkaaGreatDoorJoin1
import Derived.StillTailTactics
import Derived.Test.YtimgggpojbpfkaaGreatDoorSha3
import Derived.Test.YtimgggpojbpfkaaGreatDoorReg3
import Derived.Test.YtimgggpojbpfkaaGreatDoorSha4
import Derived.Test.YtimgggpojbpfkaaGreatDoorBits3
import Derived.Test.YtimgggpojbpfkaaGreatDoorLift
import Derived.Deep.Strs
import Derived.Deep.MidRow
import Derived.Laws.Cover3
/- The contract of aes.expanded. -/
namespace Go.Proofs.YtimgggpojbpfkaaGreatDoor
open Go.RowKit
set_option linter.unusedVariables false
set_option maxRecDepth 100000
set_option linter.unusedSimpArgs false
/-- the words of a key, noughts behind, and the first constant; then a word more, i of them told -/
def keyRow (nk : Nat) (key : List UInt8) (i : Nat) : List W32 := (List.range i).map (wordAt key) ++ List.replicate (60 - i) 0
def lastW (T : List UInt8) (nk : Nat) (p : List W32 × W32) (i : Nat) : W32 :=
  if i % nk = 0 then subW T (rotl (p.1.getD (nk + i - 1) 0) 8) ^^^ p.2 else if i % nk = 4 then subW T (p.1.getD (nk + i - 1) 0) else p.1.getD (nk + i - 1) 0
def expStep (T : List UInt8) (nk : Nat) (p : List W32 × W32) (i : Nat) : List W32 × W32 :=
  (p.1.set (nk + i) (p.1.getD i 0 ^^^ lastW T nk p i), if i % nk = 0 then dblW p.2 else p.2)
def expN (T : List UInt8) (nk : Nat) (key : List UInt8) : Nat → List W32 × W32
  | 0 => (keyRow nk key nk, 16777216#32)
  | i + 1 => expStep T nk (expN T nk key i) i
def expandL (key : List UInt8) : List W32 := (expN sboxL (key.length / 4) key (4 * (key.length / 4 + 7) - key.length / 4)).1
theorem keyRow_len (nk : Nat) (key : List UInt8) (i : Nat) (hi : i ≤ 60) : (keyRow nk key i).length = 60 := by simp [keyRow]; omega
theorem keyRow_step (nk : Nat) (key : List UInt8) (i : Nat) (hi : i < 60) : (keyRow nk key i).set i (wordAt key i) = keyRow nk key (i + 1) := by
  unfold keyRow
  rw [List.range_succ, List.map_append, List.append_assoc, show 60 - i = (60 - (i + 1)) + 1 by omega, List.replicate_succ]
  rw [List.set_append_right _ _ (by simp)]
  simp
theorem expN_len (T : List UInt8) (nk : Nat) (key : List UInt8) (i : Nat) (hk : nk ≤ 60) : (expN T nk key i).1.length = 60 := by
  induction i with
  | zero => exact keyRow_len nk key nk hk
  | succ i ih => simp [expN, expStep, ih]
theorem arr60W : Tryz.prog.underlying 80 = some (.array 60 76) := Tryz.underlying80
theorem i60W : (Tryz.prog.info? 80).map (·.size) = some 60 := by kernel_rfl
def zeros60 : List Value := List.replicate 60 (Value.int .u32 0)
theorem zeros60_len : zeros60.length = 60 := by unfold zeros60; exact List.length_replicate
theorem zero60 (W : World) : (zeroValue 80).run Tryz.prog W = .ok (.agg zeros60.toArray) W := by kernel_rfl
theorem zeros_row (nk : Nat) (key : List UInt8) : zeros60 = (keyRow nk key 0).map wv := by unfold zeros60 keyRow; rw [List.map_append, List.map_replicate]; rfl
set_option maxRecDepth 100000 in
set_option maxHeartbeats 4000000 in
theorem expanded_any (A : Option Addr) (n c nk : Nat) (key : List UInt8) (w : World) (hl : key.length = n) (hn : n = 4 * nk) (hk : nk = 4 ∨ nk = 8) (hS : Sl w A c key) :
    Calls Tryz.prog 56 #[.slice A n c] w fun e w' => e = .returned (.agg ((expandL key).map wv).toArray) ∧ Below w.heap.size w w' := by
  have hex : expandL key = (expN sboxL nk key (4 * (nk + 7) - nk)).1 := by unfold expandL; rw [hl, hn, show 4 * nk / 4 = nk by omega]
  rw [hex]
  clear hex
  have HL := Lib.hid hl; have HN := Lib.hid hn; have HS := Lib.hid hS; have HKK := Lib.hid hk
  have hnk : 4 ≤ nk ∧ nk ≤ 8 := by omega
  have hc : Hid (n ≤ c) := by have := hS.1; show _ ≤ _; omega
  have u0 : (n : Int) / 4 = (nk : Int) := by omega
  have hn32 : n ≤ 32 := by omega
  clear hl hn hS hk
  have HF := Lib.hid (fun W => forward_any W)
  have hsl := Lib.hid sboxL_len
  have HI : Hid ((Tryz.prog.info? 119).map (·.size) = some (sboxL.map bv).length) := by show _ = _; rw [subCells]; exact iTb
  have HE : Hid (zeros256.length = (sboxL.map bv).length) := by show _ = _; rw [subCells, zeros256_len]
  generalize sboxL = T at HF hsl HI HE ⊢
  have hz := zero60
  have hz2 := zeroTb
  go_enter Tryz.func56, Tryz.ntmps56
  go_upto_region 2 with (fail)
  generalize hV : (w.alloc _).alloc _ = W0
  have F0 : Hid (W0.heap[w.heap.size]? = some (.cells zeros60.toArray 80 (0, 0))) := by rw [← hV]; exact (heap2 w _ _).1
  have F1 : Hid (W0.heap[w.heap.size + 1]? = some (.cells ((keyRow nk key 0).map wv).toArray 80 (0, 0))) := by rw [← zeros_row, ← hV]; exact (heap2 w _ _).2.1
  have FB : Hid (Below w.heap.size w W0) := by rw [← hV]; exact (heap2 w _ _).2.2
  clear hV
  generalize hg1 : w.heap.size + 1 = g1 at F1 ⊢
  have HG1 : Hid (w.heap.size + 1 = g1) := hg1
  clear hg1
  go_wp2_with fail
  go_loopw [14] (fun vi wr => ∃ (i : Nat), i ≤ nk ∧ vi = .int .i64 (i : Int) ∧ Hid (Below w.heap.size w wr) ∧ Hid (wr.heap[w.heap.size]? = some (.cells zeros60.toArray 80 (0, 0))) ∧ Hid (wr.heap[g1]? = some (.cells ((keyRow nk key i).map wv).toArray 80 (0, 0)))) (fun i _ => nk - (intOf i).toNat)
  case atStart => exact ⟨0, by omega, rfl, FB, F0, F1⟩
  case round =>
    clear F0 F1 FB
    obtain ⟨i, hi, rfl, HB, H0, H1⟩ := hrel
    by_cases hlt : i < nk
    · have q1 : (i : Int) < (nk : Int) := by omega
      obtain ⟨q, hq⟩ : ∃ q, q = 4 * i := ⟨_, rfl⟩
      obtain ⟨q4, hq4⟩ : ∃ q4, q4 = q + 4 := ⟨_, rfl⟩
      have u1 : 4 * (i : Int) = (q : Int) := by omega
      have u2 : (q : Int) + 4 = (q4 : Int) := by omega
      have hqn : q + 4 ≤ n := by have := HN.out; omega
      have sl := cut_mid uT s8 A n c .i64 .i64 (q : Int) (q4 : Int) (by omega) (by omega) (by have := hc.out; omega)
      rw [Int.toNat_natCast, Int.toNat_natCast, show q4 - q = 4 by omega] at sl
      have hX : Hid (big ((key.drop q).take 4) = (wordAt key i).toNat) := by show _ = _; rw [hq]; exact word_big key i
      have hXl : Hid (((key.drop q).take 4).length = 4) := by show _ = _; have := HL.out; simp; omega
      have HSl : Hid (Sl wr (cutS A c q) (c - q) ((key.drop q).take 4)) := by
        have h1 := sl_cut (HS.out.below HB.out) (k := q) (by have := HL.out; omega)
        refine ⟨?_, h1.2.1, ?_⟩
        · have := hXl.out; have := hc.out; omega
        · have := h1.2.2.take 4; rw [← List.map_take] at this; exact this
      have HST := Lib.hid (keyRow_step nk key i (by omega))
      generalize wordAt key i = x at hX HST
      generalize (key.drop q).take 4 = X at hX hXl HSl
      have HQ := Lib.hid hq; have HQ4 := Lib.hid hq4
      clear hq hq4
      go_wp2_with fail
      refine (big_n (cutS A c q) 4 (c - q) X wr hXl.out (by have := HSl.out.1; have := hXl.out; omega) HSl.out.2.1 HSl.out.2.2).mono ?_
      rw [hX.out]
      rintro e w1 ⟨rfl, hB1⟩
      have hx : (x.toNat : Int) % 4294967296 = (x.toNat : Int) := by have := x.isLt; omega
      have H0' := Lib.hid ((hB1.block _ (lt_of_heap H0.out)).trans H0.out)
      have H1' := Lib.hid ((hB1.block _ (lt_of_heap H1.out)).trans H1.out)
      have HB' := Lib.hid (HB.out.step hB1)
      have c2 := wcell H1'.out i (by rw [keyRow_len nk key i (by omega)]; omega)
      have fz := frozen_of_heap H1'.out i
      generalize (keyRow nk key i).getD i 0 = z0 at c2
      have q60 : (i : Int) < 60 := by omega
      clear hB1 H0 H1 HB
      go_wp2
      go_roundw
      case rel =>
        have k1 := HG1.out
        refine ⟨i + 1, by omega, by go_num, ?_, ?_, ?_⟩
        · exact HB'.out.setCell (show w.heap.size ≤ g1 by omega) _
        · exact (Below.heap_setCell w1 _ _ _ (show w.heap.size ≠ g1 by omega)).trans H0'.out
        · have := heap_set (w := w1) H1'.out i (wv x)
          rw [← List.map_set, HST.out] at this
          exact this
      case measure => simp [intOf]; omega
    · have q1 : ¬ ((i : Int) < (nk : Int)) := by omega
      have H1' : Hid (wr.heap[g1]? = some (.cells ((expN T nk key 0).1.map wv).toArray 80 (0, 0))) := by have := H1.out; rw [show i = nk by omega] at this; exact this
      clear H1
      go_wp2_with fail
      refine (HF.out wr).mono ?_
      rintro e w1 ⟨rfl, hB1⟩
      have P0 := Lib.hid ((hB1.block _ (lt_of_heap H0.out)).trans H0.out)
      have P1 := Lib.hid ((hB1.block _ (lt_of_heap H1'.out)).trans H1'.out)
      have PB := Lib.hid (HB.out.step hB1)
      have hl0 := Lib.hid (lt_of_heap P0.out)
      have hl1 := Lib.hid (lt_of_heap P1.out)
      clear hB1 H0 H1' HB
      obtain ⟨M, hM⟩ : ∃ M, M = 4 * (nk + 7) - nk := ⟨_, rfl⟩
      have uM : 4 * ((nk : Int) + 7) - (nk : Int) = (M : Int) := by omega
      have hM52 : nk + M ≤ 60 := by omega
      have HM := Lib.hid hM
      clear hM
      go_upto_region 11 with (first
        | (refine wpList_st rfl 119 (.tmp 6) (.tmp 29) rfl (store_arr (cs := T.map bv) (old := zeros256) HI.out (bv_one _) (heap_alloc_new' w1 _) HE.out) ?_
           generalize hV : World.setRow _ _ _ = W5
           have M0 := Lib.hid (heap_of_setRow hV (heap_alloc_new' w1 _))
           have MB := Lib.hid (((Below.refl w1.heap.size w1).alloc (Nat.le_refl _) _).trans (below_of_setRow hV (Nat.le_refl w1.heap.size) (by simp)))
           clear hV)
        | fail)
      have N0 := Lib.hid ((MB.out.block _ hl0.out).trans P0.out)
      have N1 := Lib.hid ((MB.out.block _ hl1.out).trans P1.out)
      have NB := Lib.hid (PB.out.step MB.out)
      clear P0 P1 PB MB
      go_loopw [7, 35] (fun vc vi wr => ∃ (i : Nat) (ws : List W32) (cn : W32), i ≤ M ∧ vi = .int .i64 (i : Int) ∧ vc = .int .u32 (cn.toNat : Int) ∧ Hid ((ws, cn) = expN T nk key i) ∧ Hid (Below w.heap.size w wr) ∧ Hid (wr.heap[w.heap.size]? = some (.cells zeros60.toArray 80 (0, 0))) ∧
         Hid (wr.heap[g1]? = some (.cells (ws.map wv).toArray 80 (0, 0))) ∧ Hid (wr.heap[w1.heap.size]? = some (.cells (T.map bv).toArray 119 (0, 0)))) (fun _ i _ => M - (intOf i).toNat)
      case atStart => exact ⟨0, _, 16777216#32, by omega, rfl, rfl, rfl, NB, N0, N1, M0⟩
      case round =>
        clear N0 N1 NB M0
        obtain ⟨i, ws, cn, hi, rfl, rfl, HP, HB, H0, H1, H6⟩ := hrel
        have hwl : ws.length = 60 := by have := expN_len T nk key i (by omega); rw [← HP.out] at this; exact this
        by_cases hlt : i < M
        · have q1 : (i : Int) < (M : Int) := by omega
          obtain ⟨a, ha⟩ : ∃ a, a = nk + i := ⟨_, rfl⟩
          obtain ⟨b, hb⟩ : ∃ b, b = nk + i - 1 := ⟨_, rfl⟩
          obtain ⟨m, hm⟩ : ∃ m, m = i % nk := ⟨_, rfl⟩
          have r1 : (nk : Int) + (i : Int) = (a : Int) := by omega
          have r2 : (a : Int) - 1 = (b : Int) := by omega
          have r3 : (i : Int) % (nk : Int) = (m : Int) := by rw [hm]; simp
          have r4 : (i : Int).tmod (nk : Int) = (m : Int) := by rw [Int.tmod_eq_emod_of_nonneg (by omega)]; exact r3
          have r5 : ((nk : Int) == 0) = false := by simp; omega
          have r6 : ¬ ((nk : Int) = 0) := by omega
          have qa : (a : Int) < 60 := by omega
          have qb : (b : Int) < 60 := by omega
          have qi : (i : Int) < 60 := by omega
          have ca := wcell H1.out a (by omega)
          have cb := wcell H1.out b (by omega)
          have ci := wcell H1.out i (by omega)
          have fz := frozen_of_heap H1.out a
          have HEX : Hid (expStep T nk (ws, cn) i = expN T nk key (i + 1)) := by show _ = _; rw [HP.out]; rfl
          have HLD : Hid (lastW T nk (ws, cn) i = if m = 0 then subW T (rotl (ws.getD b 0) 8) ^^^ cn else if m = 4 then subW T (ws.getD b 0) else ws.getD b 0) := by show _ = _; rw [hm, hb]; rfl
          have HCD : Hid ((if i % nk = 0 then dblW cn else cn) = if m = 0 then dblW cn else cn) := by show _ = _; rw [hm]
          generalize ws.getD a 0 = xa at ca
          generalize ws.getD b 0 = xb at cb HLD
          obtain ⟨xi, hxi⟩ : ∃ xi, ws.getD i 0 = xi := ⟨_, rfl⟩
          rw [hxi] at ci
          have HXI : Hid (ws.getD i 0 = xi) := hxi
          have HA : Hid (nk + i = a) := ha.symm
          clear ha hb hm hxi hwl
          have HH6 := Lib.hid H6.out
          by_cases hm0 : m = 0
          · have t0 : ((m : Int) == 0) = true := by simp [hm0]
            obtain ⟨y, hy⟩ : ∃ y, y = rotl xb 8 := ⟨_, rfl⟩
            obtain ⟨z, hz3⟩ : ∃ z, z = subW T y := ⟨_, rfl⟩
            obtain ⟨z2, hz4⟩ : ∃ z2, z2 = z ^^^ cn := ⟨_, rfl⟩
            obtain ⟨c2, hc2⟩ : ∃ c2, c2 = dblW cn := ⟨_, rfl⟩
            have HLW : Hid (lastW T nk (ws, cn) i = z2) := by show _ = _; rw [HLD.out, if_pos hm0, hz4, hz3, hy]
            have HCON : Hid ((if i % nk = 0 then dblW cn else cn) = c2) := by show _ = _; rw [HCD.out, if_pos hm0, hc2]
            have x1 : bits .xor .u32 (z.toNat : Int) (cn.toNat : Int) = (z2.toNat : Int) := by rw [hz4]; exact xor32 _ _
            have HY := Lib.hid hy; have HZ3 := Lib.hid hz3; have HC2 := Lib.hid hc2
            clear hy hz3 hz4 hc2 hm0 HLD HCD
            go_wp2_with fail
            refine (left_any xb 8 wr).mono ?_
            rw [← HY.out]
            rintro e w3 ⟨rfl, rfl⟩
            go_wp2_with fail
            refine (word_any w1.heap.size T y wr hsl.out H6.out).mono ?_
            rw [← HZ3.out]
            rintro e w3 ⟨he, rfl⟩
            have he' : e = .returned (.int .u32 (z.toNat : Int)) := he
            clear he
            subst he'
            go_wp2_with fail
            refine (double_any cn wr).mono ?_
            rw [← HC2.out]
            rintro e w3 ⟨he, rfl⟩
            have he' : e = .returned (.int .u32 (c2.toNat : Int)) := he
            clear he
            subst he'
            go_wp2
            go_roundw
            case rel =>
              have k1 := HG1.out
              have k6 := hl1.out
              have k0 := hl0.out
              refine ⟨i + 1, ws.set a (xi ^^^ z2), c2, by omega, by go_num, rfl, ?_, ?_, ?_, ?_, ?_⟩
              · show _ = _
                rw [← HEX.out, expStep, HLW.out, HCON.out, HA.out, HXI.out]
              · exact HB.out.setCell (show w.heap.size ≤ g1 by omega) _
              · exact (Below.heap_setCell wr _ _ _ (show w.heap.size ≠ g1 by omega)).trans H0.out
              · have h1 : (ws.map wv).set a (Value.int .u32 (bits .xor .u32 (xi.toNat : Int) (z2.toNat : Int))) = (ws.set a (xi ^^^ z2)).map wv := by
                  rw [xor32, List.map_set]; rfl
                have := heap_set H1.out a (Value.int .u32 (bits .xor .u32 (xi.toNat : Int) (z2.toNat : Int)))
                rw [h1] at this
                exact this
              · exact (Below.heap_setCell wr _ _ _ (show w1.heap.size ≠ g1 by omega)).trans H6.out
            case measure => simp [intOf]; omega
          · have t0 : ((m : Int) == 0) = false := by simp; omega
            by_cases hm4 : m = 4
            · have t4 : ((m : Int) == 4) = true := by simp [hm4]
              obtain ⟨z, hz3⟩ : ∃ z, z = subW T xb := ⟨_, rfl⟩
              have HLW : Hid (lastW T nk (ws, cn) i = z) := by show _ = _; rw [HLD.out, if_neg hm0, if_pos hm4, hz3]
              have HCON : Hid ((if i % nk = 0 then dblW cn else cn) = cn) := by show _ = _; rw [HCD.out, if_neg hm0]
              have HZ3 := Lib.hid hz3
              clear hz3 hm0 hm4 HLD HCD
              go_wp2_with fail
              refine (word_any w1.heap.size T xb wr hsl.out H6.out).mono ?_
              rw [← HZ3.out]
              rintro e w3 ⟨he, rfl⟩
              have he' : e = .returned (.int .u32 (z.toNat : Int)) := he
              clear he
              subst he'
              go_wp2
              go_roundw
              case rel =>
                have k1 := HG1.out
                have k6 := hl1.out
                have k0 := hl0.out
                refine ⟨i + 1, ws.set a (xi ^^^ z), cn, by omega, by go_num, rfl, ?_, ?_, ?_, ?_, ?_⟩
                · show _ = _
                  rw [← HEX.out, expStep, HLW.out, HCON.out, HA.out, HXI.out]
                · exact HB.out.setCell (show w.heap.size ≤ g1 by omega) _
                · exact (Below.heap_setCell wr _ _ _ (show w.heap.size ≠ g1 by omega)).trans H0.out
                · have h1 : (ws.map wv).set a (Value.int .u32 (bits .xor .u32 (xi.toNat : Int) (z.toNat : Int))) = (ws.set a (xi ^^^ z)).map wv := by
                    rw [xor32, List.map_set]; rfl
                  have := heap_set H1.out a (Value.int .u32 (bits .xor .u32 (xi.toNat : Int) (z.toNat : Int)))
                  rw [h1] at this
                  exact this
                · exact (Below.heap_setCell wr _ _ _ (show w1.heap.size ≠ g1 by omega)).trans H6.out
              case measure => simp [intOf]; omega
            · have t4 : ((m : Int) == 4) = false := by simp; omega
              have HLW : Hid (lastW T nk (ws, cn) i = xb) := by show _ = _; rw [HLD.out, if_neg hm0, if_neg hm4]
              have HCON : Hid ((if i % nk = 0 then dblW cn else cn) = cn) := by show _ = _; rw [HCD.out, if_neg hm0]
              clear hm0 hm4 HLD HCD
              go_wp2
              go_roundw
              case rel =>
                have k1 := HG1.out
                have k6 := hl1.out
                have k0 := hl0.out
                refine ⟨i + 1, ws.set a (xi ^^^ xb), cn, by omega, by go_num, rfl, ?_, ?_, ?_, ?_, ?_⟩
                · show _ = _
                  rw [← HEX.out, expStep, HLW.out, HCON.out, HA.out, HXI.out]
                · exact HB.out.setCell (show w.heap.size ≤ g1 by omega) _
                · exact (Below.heap_setCell wr _ _ _ (show w.heap.size ≠ g1 by omega)).trans H0.out
                · have h1 : (ws.map wv).set a (Value.int .u32 (bits .xor .u32 (xi.toNat : Int) (xb.toNat : Int))) = (ws.set a (xi ^^^ xb)).map wv := by
                    rw [xor32, List.map_set]; rfl
                  have := heap_set H1.out a (Value.int .u32 (bits .xor .u32 (xi.toNat : Int) (xb.toNat : Int)))
                  rw [h1] at this
                  exact this
                · exact (Below.heap_setCell wr _ _ _ (show w1.heap.size ≠ g1 by omega)).trans H6.out
              case measure => simp [intOf]; omega
        · have q1 : ¬ ((i : Int) < (M : Int)) := by omega
          have H1' : Hid (wr.heap[g1]? = some (.cells ((expN T nk key M).1.map wv).toArray 80 (0, 0))) := by
            have := H1.out; rw [show ws = (expN T nk key M).1 from by rw [← show i = M by omega, ← HP.out]] at this; exact this
          have hl60 : Hid (((expN T nk key M).1.map wv).length = 60) := by show _ = _; rw [List.length_map]; exact expN_len T nk key M (by omega)
          have hone : Hid (∀ v ∈ (expN T nk key M).1.map wv, v.oneCell' = true) := wv_one _
          obtain ⟨L, HLL⟩ : ∃ L, Hid ((expN T nk key M).1.map wv = L) := ⟨_, rfl⟩
          rw [HLL.out] at H1' hl60 hone
          have hi60 : Hid ((Tryz.prog.info? 80).map (·.size) = some L.length) := by show _ = _; rw [hl60.out]; exact i60W
          have hle : Hid (zeros60.length = L.length) := by show _ = _; rw [hl60.out, zeros60_len]
          clear H1
          go_wp2_with (first
            | (refine wpList_ld rfl 80 (.tmp 3) rfl (load_arr arr60W rfl hi60.out H1'.out) ?_)
            | (refine wpList_st rfl 80 (.tmp 2) (.tmp 70) rfl (store_arr (cs := L) (old := zeros60) hi60.out hone.out H0.out hle.out) ?_))
          have hres := setRow_heap wr w.heap.size _ L.toArray 80 _ H0.out
          exact bodyPost_ret (results_cell_row (P := Tryz.prog) rfl _ _ w.heap.size 80 L.toArray (0, 0) _ rfl hres arr60W rfl (by rw [List.size_toArray, hl60.out]; exact i60W)) rfl ⟨by rw [← HLL.out, HM.out], HB.out.trans (grown_below (grown_setRow _ _ _) (Nat.le_refl _) HB.out.size)⟩
end Go.Proofs.YtimgggpojbpfkaaGreatDoor

/- The contracts of Expand, Rounds, Wipe. -/
namespace Go.Proofs.YtimgggpojbpfkaaGreatDoor
open Go.RowKit
set_option linter.unusedVariables false
set_option maxRecDepth 100000
set_option linter.unusedSimpArgs false
theorem fill_fold (off : Nat) : ∀ (L : List Value) (k : Nat) (cs : Array Value), off + k + L.length ≤ cs.size →
    ((L.zipIdx k).foldl (fun (cs : Array Value) (p : Value × Nat) => cs.setIfInBounds (off + p.2) p.1) cs).toList = cs.toList.take (off + k) ++ L ++ cs.toList.drop (off + k + L.length)
  | [], k, cs, _ => by simp
  | v :: rest, k, cs, h => by
    rw [List.zipIdx_cons, List.foldl_cons, fill_fold off rest (k + 1) _ (by simp at h ⊢; omega)]
    have hk : off + k < cs.toList.length := by simp at h ⊢; omega
    simp only [Array.toList_setIfInBounds]
    rw [show off + (k + 1) = (off + k) + 1 by omega, List.take_succ_eq_append_getElem (by simpa using hk)]
    simp only [List.getElem_set_self, List.length_cons]
    rw [List.take_set_of_le (by omega), List.drop_set_of_lt (by omega), show off + k + 1 + rest.length = off + k + (rest.length + 1) by omega]
    simp
def zeros61 : List Value := zeros60 ++ [.int .i64 0]
theorem built_fill (parts : List (Nat × Value)) : Tryz.prog.built 83 parts = Instr.fill (fun i => #[(0, 60), (60, 1)][i]?) zeros61.toArray parts := by kernel_rfl
theorem fill_cons {place : Nat → Option (Nat × Nat)} {cells : Array Value} {i : Nat} {v : Value} {rest : List (Nat × Value)} {off size : Nat} (h : place i = some (off, size)) (hs : v.cells.size = size) (ho : off + size ≤ cells.size) :
    Instr.fill place cells ((i, v) :: rest) = Instr.fill place (v.cells.zipIdx.foldl (fun (cs : Array Value) (p : Value × Nat) => cs.setIfInBounds (off + p.2) p.1) cells) rest := by
  rw [Instr.fill]
  simp only [h]
  rw [if_neg (by rw [hs]; simp; omega)]
theorem fold_arr (off : Nat) (L : List Value) (cs : List Value) (h : off + L.length ≤ cs.length) :
    L.toArray.zipIdx.foldl (fun (cs : Array Value) (p : Value × Nat) => cs.setIfInBounds (off + p.2) p.1) cs.toArray = (splice cs off L).toArray := by
  have h1 := fill_fold off L 0 cs.toArray (by simpa using h)
  simp only [Nat.add_zero] at h1
  apply Array.ext'
  rw [← Array.foldl_toList]
  simp only [Array.toList_zipIdx]
  rw [h1]; simp [splice]
theorem exec_build {P : Program} {o : Oper} {a : Act} {W : World} {t : TypeId} {parts : Array (Nat × Operand)} {v : Value} (ho : o.op = .build t parts) (hrun : (Instr.build t (parts.map fun (i, x) => (i, a.eval x))).run P W = .ok v W) : (execOp a.eval o).run P W = .ok (.value v) W := by
  unfold execOp
  simp only [ho, Sem.run_bind, hrun, Result.andThen_ok, Sem.run_pure]
theorem built_keys (L : List Value) (n : Int) (hl : L.length = 60) : Tryz.prog.built 83 [(0, .agg L.toArray), (1, .int .i64 n)] = some (L ++ [Value.int .i64 n]).toArray := by
  have hz : zeros61.length = 61 := by simp [zeros61, zeros60_len]
  rw [built_fill]
  generalize zeros61 = Z at hz
  rw [fill_cons (off := 0) (size := 60) rfl (by simpa [Value.cells] using hl) (by simp [hz])]
  have e1 : (Value.agg L.toArray).cells = L.toArray := rfl
  rw [e1, fold_arr 0 L Z (by rw [hl, hz]; omega)]
  have hs1 : (splice Z 0 L).length = 61 := by simp [splice, hl, hz]
  rw [fill_cons (off := 60) (size := 1) rfl rfl (by simp [hs1])]
  have e2 : (Value.int .i64 n).cells = [Value.int .i64 n].toArray := rfl
  rw [e2, fold_arr 60 [Value.int .i64 n] (splice Z 0 L) (by rw [hs1]; simp)]
  rw [Instr.fill]
  congr 2
  obtain ⟨z, hzz⟩ : ∃ z, Z.drop 60 = [z] := by
    have : (Z.drop 60).length = 1 := by simp [hz]
    match Z.drop 60, this with
    | [z], _ => exact ⟨z, rfl⟩
  have e3 : splice Z 0 L = L ++ [z] := by simp [splice, hl, hzz]
  rw [e3]
  simp [splice, hl]
/-- round keys lie at block g -/
def KeyAt (w : World) (g : Nat) (ws : List W32) (n : Nat) : Prop := ws.length = 60 ∧ w.heap[g]? = some (.cells (keyCells ws n).toArray 83 (0, 0))
theorem KeyAt.ext {w w' : World} {g : Nat} {ws : List W32} {n : Nat} (h : KeyAt w g ws n) (hb : Below w.heap.size w w') : KeyAt w' g ws n := ⟨h.1, (hb.block _ (lt_of_heap h.2)).trans h.2⟩
def KeyIn (w : World) (g : Nat) (ws : List W32) (n : Nat) : Prop := ws.length = 60 ∧ KIn w g ws n
theorem KeyIn.ext {w w' : World} {g : Nat} {ws : List W32} {n : Nat} (h : KeyIn w g ws n) (hb : Below w.heap.size w w') : KeyIn w' g ws n := ⟨h.1, h.2.ext hb⟩
theorem KeyAt.toIn {w : World} {g : Nat} {ws : List W32} {n : Nat} (h : KeyAt w g ws n) : KeyIn w g ws n := ⟨h.1, kin_of h.2⟩
theorem expandL_len (key : List UInt8) (h : key.length ≤ 32) : (expandL key).length = 60 := expN_len _ _ _ _ (by omega)
set_option maxHeartbeats 1000000 in
theorem expand_any (A : Option Addr) (n c nk : Nat) (key : List UInt8) (w : World) (hl : key.length = n) (hn : n = 4 * nk) (hk : nk = 4 ∨ nk = 8) (hS : Sl w A c key) :
    Calls Tryz.prog 34 #[.slice A n c] w fun e w' => ∃ g, e = .returned (.tuple #[.pointer (some ⟨g, 0, none⟩), .int .i64 0]) ∧ w.heap.size ≤ g ∧ KeyAt w' g (expandL key) (nk + 6) ∧ Below w.heap.size w w' := by
  have HX := Lib.hid (expanded_any A n c nk key w hl hn hk hS)
  have hwl : (expandL key).length = 60 := expandL_len key (by omega)
  generalize expandL key = ws at HX hwl ⊢
  have HB := Lib.hid (built_keys (ws.map wv) ((nk + 6 : Nat) : Int) (by rw [List.length_map]; exact hwl))
  have HWL := Lib.hid hwl
  have u1 : (n : Int) / 4 = (nk : Int) := by omega
  have u2 : (nk : Int) + 6 = ((nk + 6 : Nat) : Int) := by omega
  generalize nk + 6 = r at HB u2 ⊢
  have hb : Hid (∀ W, (Instr.build 83 #[(0, .agg (ws.map wv).toArray), (1, .int .i64 (r : Int))]).run Tryz.prog W = .ok (.agg (keyCells ws r).toArray) W) := fun W => run_build W _ _ _ HB.out
  have hn8 : nk ≤ 8 := by omega
  have hn32 : n ≤ 32 := by omega
  have hc : ((n : Int) != 16) = false ∨ ((n : Int) != 16) = true ∧ ((n : Int) != 32) = false := by
    rcases hk with h | h
    · left; simp; omega
    · right; simp; omega
  clear hl hn hk hS hwl HB
  rcases hc with t1 | ⟨t1, t2⟩
  all_goals
    go_enter Tryz.func34, Tryz.ntmps34
    go_wp2_with fail
    refine HX.out.mono ?_
    rintro e w1 ⟨rfl, hB1⟩
    have HB1 := Lib.hid hB1
    clear hB1
    obtain ⟨KC, HKC⟩ : ∃ KC, Hid ((keyCells ws r).toArray = KC) := ⟨_, rfl⟩
    go_wp2_with (first
      | (refine wpList_run (o := ⟨some 18, _, _, _, _, _⟩) rfl (v := .agg (keyCells ws r).toArray) (w' := w1) (exec_build rfl (by simp only [List.map_toArray, List.map_cons, List.map_nil]; exact hb.out w1)) ?_
         rw [HKC.out])
      | fail)
    go_ret2
    exact ⟨_, rfl, HB1.out.size, ⟨HWL.out, by rw [HKC.out]; exact heap_alloc_new' w1 _⟩, HB1.out.alloc HB1.out.size _⟩
set_option maxHeartbeats 1000000 in
theorem expand_no (A : Option Addr) (n c : Nat) (w : World) (h1 : n ≠ 16) (h2 : n ≠ 32) : Calls Tryz.prog 34 #[.slice A n c] w fun e w' => e = .returned (.tuple #[.pointer none, .int .i64 5]) ∧ w = w' := by
  have t1 : ((n : Int) != 16) = true := by simp; omega
  have t2 : ((n : Int) != 32) = true := by simp; omega
  clear h1 h2
  go_enter Tryz.func34, Tryz.ntmps34
  go_wp2
  go_ret2
  exact ⟨rfl, rfl⟩
theorem rounds_nil (w : World) : Calls Tryz.prog 100 #[.pointer none] w fun e w' => e = .returned (.int .i64 0) ∧ w = w' := by
  go_enter Tryz.func100, Tryz.ntmps100
  go_wp2
  go_ret
  exact ⟨rfl, rfl⟩
theorem roundsIn_any (g : Nat) (ws : List W32) (n : Nat) (w : World) (H : KeyIn w g ws n) : Calls Tryz.prog 100 #[.pointer (some ⟨g, 0, none⟩)] w fun e w' => e = .returned (.int .i64 (n : Int)) ∧ w = w' := by
  have c := kinN H.2 H.1
  clear H
  go_enter Tryz.func100, Tryz.ntmps100
  go_wp2
  go_ret
  exact ⟨rfl, rfl⟩
theorem rounds_any (g : Nat) (ws : List W32) (n : Nat) (w : World) (H : KeyAt w g ws n) : Calls Tryz.prog 100 #[.pointer (some ⟨g, 0, none⟩)] w fun e w' => e = .returned (.int .i64 (n : Int)) ∧ w = w' := roundsIn_any g ws n w H.toIn
end Go.Proofs.YtimgggpojbpfkaaGreatDoor

/- The contract of aes.flat. -/
namespace Go.Proofs.YtimgggpojbpfkaaGreatDoor
open Go.RowKit
set_option linter.unusedVariables false
set_option maxRecDepth 100000
set_option linter.unusedSimpArgs false
def flatN (h : List W32) (i : Nat) : List UInt8 := outL (h.take i) ++ List.replicate (16 - 4 * i) 0
theorem flatN_len (h : List W32) (i : Nat) (hh : h.length = 4) (hi : i ≤ 4) : (flatN h i).length = 16 := by
  simp [flatN, outL_len, hh]; omega
theorem flatN_step (h : List W32) (i : Nat) (hh : h.length = 4) (hi : i < 4) : splice ((flatN h i).map bv) (4 * i) ((putBig (h.getD i 0).toNat 4).map bv) = (flatN h (i + 1)).map bv := by
  have e0 : List.replicate (16 - 4 * i) (0 : UInt8) = List.replicate 4 0 ++ List.replicate (16 - 4 * (i + 1)) 0 := by
    rw [List.replicate_append_replicate]; congr 1; omega
  have e1 : (flatN h i).map bv = (outL (h.take i)).map bv ++ (List.replicate 4 (0 : UInt8)).map bv ++ (List.replicate (16 - 4 * (i + 1)) (0 : UInt8)).map bv := by
    rw [flatN, e0, List.map_append, List.map_append, List.append_assoc]
  have hl : ((outL (h.take i)).map bv).length = 4 * i := by rw [List.length_map, outL_len, List.length_take, hh]; omega
  have e2 : outL (h.take (i + 1)) = outL (h.take i) ++ putBig (h.getD i 0).toNat 4 := by
    have hi' : i < h.length := by omega
    rw [List.take_succ_eq_append_getElem hi', outL, List.flatMap_append]
    simp [outL, List.getD, hi']
  rw [e1, ← hl, splice_split _ _ _ _ (by simp [putBig_len]), flatN, e2, List.map_append, List.map_append]
theorem flatN_end (h : List W32) (hh : h.length = 4) : flatN h 4 = outL h := by
  simp [flatN, List.take_of_length_le, hh]
theorem arr16B : Tryz.prog.underlying 64 = some (.array 16 5) := Tryz.underlying64
theorem i16B : (Tryz.prog.info? 64).map (·.size) = some 16 := by kernel_rfl
set_option maxHeartbeats 2000000 in
theorem flat_any (h : List W32) (w : World) (hh : h.length = 4) :
    Calls Tryz.prog 107 #[.agg (h.map wv).toArray] w fun e w' => e = .returned (.agg ((outL h).map bv).toArray) ∧ Below w.heap.size w w' := by
  have HH := Lib.hid hh
  clear hh
  go_enter Tryz.func107, Tryz.ntmps107
  go_wp2_with fail
  generalize hV : ((w.alloc _).alloc _).alloc _ = W0
  have F0 : Hid (W0.heap[w.heap.size]? = some (.cells (h.map wv).toArray 135 (0, 0))) := by rw [← hV]; exact (heap3 w _ _ _).1
  have F1 : Hid (W0.heap[w.heap.size + 1]? = some (.cells (List.replicate 16 (Value.int .u8 0)).toArray 64 (0, 0))) := by rw [← hV]; exact (heap3 w _ _ _).2.1
  have F2 : Hid (W0.heap[w.heap.size + 1 + 1]? = some (.cells ((flatN h 0).map bv).toArray 64 (0, 0))) := by rw [← hV]; exact (heap3 w _ _ _).2.2.1
  have FB : Hid (Below w.heap.size w W0) := by rw [← hV]; exact (heap3 w _ _ _).2.2.2
  clear hV
  generalize hg2 : w.heap.size + 1 + 1 = g2 at F2 ⊢
  generalize hg1 : w.heap.size + 1 = g1 at F1 ⊢
  have HG2 : Hid (w.heap.size + 1 + 1 = g2) := hg2
  have HG1 : Hid (w.heap.size + 1 = g1) := hg1
  clear hg1 hg2
  go_loopw [5] (fun vi wr => ∃ (i : Nat), i ≤ 4 ∧ vi = .int .i64 (i : Int) ∧ Hid (Below w.heap.size w wr) ∧ Hid (wr.heap[w.heap.size]? = some (.cells (h.map wv).toArray 135 (0, 0))) ∧ Hid (wr.heap[g1]? = some (.cells (List.replicate 16 (Value.int .u8 0)).toArray 64 (0, 0))) ∧
     Hid (wr.heap[g2]? = some (.cells ((flatN h i).map bv).toArray 64 (0, 0)))) (fun i _ => 4 - (intOf i).toNat)
  case atStart => exact ⟨0, by omega, rfl, FB, F0, F1, F2⟩
  case round =>
    clear F0 F1 F2 FB
    obtain ⟨i, hi, rfl, HB, H0, H1, H2⟩ := hrel
    by_cases hlt : i < 4
    · have e1 : (i : Int) < 4 := by omega
      obtain ⟨q, hq⟩ : ∃ q, q = 4 * i := ⟨_, rfl⟩
      have sl := arr_from arr16B s8 ⟨g2, 0, none⟩ .i64 (q : Int) (by omega) (by omega)
      rw [Int.toNat_natCast, show cutA ⟨g2, 0, none⟩ 16 q = ⟨g2, q, none⟩ from by unfold cutA; rw [if_neg (by omega), Addr.add_mid, Nat.zero_add]] at sl
      have u1 : IntKind.i64.wrap (4 * (i : Int)) = (q : Int) := by rw [IntKind.wrap_i64]; omega
      have c0 := wcell H0.out i (by rw [HH.out]; exact hlt)
      have HST := Lib.hid (flatN_step h i HH.out hlt)
      rw [← hq] at HST
      generalize h.getD i 0 = x at c0 HST
      have hx := x.isLt
      have u2 : IntKind.u64.wrap (x.toNat : Int) = (x.toNat : Int) := by rw [IntKind.wrap_u64]; omega
      have HQ : Hid (q + 4 ≤ 16) := by show _ ≤ _; omega
      have HL32 := Lib.hid (flatN_len h i HH.out hi)
      clear hq
      have HX : Hid (Below g2 wr wr.drew) := (Below.refl _ _).drew
      have q2 : w.heap.size < g2 := by have := HG2.out; omega
      have hg2w : Hid (g2 ≤ wr.heap.size) := Nat.le_of_lt (lt_of_heap H2.out)
      go_wp2_with fail
      refine regB_start (g2) (by kernel_rfl) ?_
      try simp only [Act.put, List.setIfInBounds_toArray, List.set_cons_zero, List.set_cons_succ]
      refine regB_take (v := ?_) 0 (some 8) rfl rfl (by kernel_rfl) (by kernel_rfl) (by kernel_rfl) (fun _ _ _ h => h) (by rfl) (fun W hW => ?_) ?_
      rotate_left
      · (go_simp; try rfl)
      simp only [Act.put, List.setIfInBounds_toArray, List.set_cons_zero, List.set_cons_succ]
      refine regB_take (v := ?_) 1 (some 9) rfl rfl (by kernel_rfl) (by kernel_rfl) (by kernel_rfl) (fun _ _ _ h => h) (by rfl) (fun W hW => ?_) ?_
      rotate_left
      · (go_simp; try rfl)
      simp only [Act.put, List.setIfInBounds_toArray, List.set_cons_zero, List.set_cons_succ]
      refine regB_take (v := ?_) 2 (some 10) rfl rfl (by kernel_rfl) (by kernel_rfl) (by kernel_rfl) (fun _ _ _ h => h) (by rfl) (fun W hW => ?_) ?_
      rotate_left
      · (go_simp; try rfl)
      simp only [Act.put, List.setIfInBounds_toArray, List.set_cons_zero, List.set_cons_succ]
      refine regB_take (v := ?_) 3 (some 11) rfl rfl (by kernel_rfl) (by kernel_rfl) (by kernel_rfl) (fun _ _ _ h => h) (by rfl) (fun W hW => ?_) ?_
      rotate_left
      · (go_simp; try rfl)
      simp only [Act.put, List.setIfInBounds_toArray, List.set_cons_zero, List.set_cons_succ]
      refine regB_take (v := ?_) 4 (some 12) rfl rfl (by kernel_rfl) (by kernel_rfl) (by kernel_rfl) (fun _ _ _ h => h) (by rfl) (fun W hW => ?_) ?_
      rotate_left
      · (go_simp; try rfl)
      simp only [Act.put, List.setIfInBounds_toArray, List.set_cons_zero, List.set_cons_succ]
      refine regB_load 5 (some 13) (fun W hW => load_cell Tryz.underlying76 ((hW.cell q2).trans c0)) rfl rfl rfl rfl (by kernel_rfl) (by kernel_rfl) (by kernel_rfl) (fun _ _ _ h => h) (by rfl) ?_
      simp only [Act.put, List.setIfInBounds_toArray, List.set_cons_zero, List.set_cons_succ]
      refine regB_take (v := ?_) 6 (some 14) rfl rfl (by kernel_rfl) (by kernel_rfl) (by kernel_rfl) (fun _ _ _ h => h) (by rfl) (fun W hW => ?_) ?_
      rotate_left
      · (go_simp; try rfl)
      simp only [Act.put, List.setIfInBounds_toArray, List.set_cons_zero, List.set_cons_succ]
      refine regB_eff 7 rfl (by kernel_rfl) (fun K hK => ?_)
      go_simp
      refine (putBig_any x.toNat 4 _ (by omega) (by omega)).mono ?_
      rintro e w3 ⟨g3, hg3, rfl, hk3, hE0⟩
      have F3 : Hid (w3.heap[g2]? = _) := (hE0.block _ (lt_of_heap (w := wr.drew) H2.out)).trans H2.out
      have F1' : Hid (w3.heap[g1]? = _) := (hE0.block _ (lt_of_heap (w := wr.drew) H1.out)).trans H1.out
      have F0' : Hid (w3.heap[w.heap.size]? = _) := (hE0.block _ (lt_of_heap (w := wr.drew) H0.out)).trans H0.out
      have FB' : Hid (Below w.heap.size w w3) := Below.step (w1 := wr.drew) HB.out.drew hE0
      have R3 := Lib.hid (row_of_heap hk3 (Nat.lt_succ_self g3))
      have hE : Below g2 wr.drew w3 := RowKit.Below.mono hE0 hg2w.out
      clear hE0 hk3 hg3
      refine hK.out _ _ hE ?_
      have HX := Lib.hid (Below.trans HX.out hE)
      clear hE hK K
      try simp only [Act.put, List.setIfInBounds_toArray, List.set_cons_zero, List.set_cons_succ]
      refine regB_eff 8 rfl (by kernel_rfl) (fun K hK => ?_)
      obtain ⟨w5, hrun, hblk, _, hgr⟩ := copy_run uT s8 (sT := 22) 3 w3 g2 q ((flatN h i).map bv) 64 F3.out (some ⟨g2, q, none⟩) (some ⟨g3, 0, none⟩) (16 - q) (16 - q) 4 4 (g3 + 1) ((putBig x.toNat 4).map bv) (by have := HQ.out; simp [putBig_len]; omega) (fun _ => rfl) R3.out (by have := HQ.out; have := HL32.out; simp [putBig_len]; omega) (bv_one _)
      rw [HST.out] at hblk
      have E2 := Lib.hid hblk
      have EG := Lib.hid hgr
      refine step_cpy rfl (.tmp 10) (.tmp 15) 22 22 rfl hrun ?_
      have hE : Below g2 w3 w5 := grown_below hgr (Nat.le_refl _) (Nat.le_of_lt (lt_of_heap F3.out))
      clear hrun hblk hgr
      refine hK.out _ _ hE ?_
      have HX := Lib.hid (Below.trans HX.out hE)
      clear hE hK K
      try simp only [Act.put, List.setIfInBounds_toArray, List.set_cons_zero, List.set_cons_succ]
      refine regB_done (by kernel_rfl) ?_
      clear u1 u2
      go_wp2
      go_roundw
      case rel =>
        have q3 := HG2.out
        have q1 := HG1.out
        refine ⟨i + 1, by omega, by go_num, ?_, ?_, ?_, E2⟩
        · exact FB'.out.trans (grown_below EG.out (by omega) FB'.out.size)
        · exact (EG.out.block _ (lt_of_heap F0'.out) (by simp; omega)).trans F0'.out
        · exact (EG.out.block _ (lt_of_heap F1'.out) (by simp; omega)).trans F1'.out
      case measure => simp [intOf]; omega
    · have H2' : Hid (wr.heap[g2]? = some (.cells ((outL h).map bv).toArray 64 (0, 0))) := by have := H2.out; rw [show i = 4 by omega, flatN_end h HH.out] at this; exact this
      have hl : Hid (((outL h).map bv).length = 16) := by show _ = _; rw [List.length_map, outL_len, HH.out]
      obtain ⟨L, HL⟩ : ∃ L, Hid (outL h = L) := ⟨_, rfl⟩
      rw [HL.out] at hl H2'
      go_wp2_with (first
        | (refine wpList_ld rfl 64 (.tmp 3) rfl (load_arr arr16B rfl (by rw [hl.out]; exact i16B) H2'.out) ?_)
        | (refine wpList_st rfl 64 (.tmp 2) (.tmp 18) rfl (store_arr (cs := L.map bv) (by rw [hl.out]; exact i16B) (bv_one _) H1.out (by rw [hl.out]; simp)) ?_))
      have hres := setRow_heap wr g1 _ (L.map bv).toArray 64 _ H1.out
      rw [HL.out]
      exact bodyPost_ret (results_cell_row (P := Tryz.prog) rfl _ _ g1 64 (L.map bv).toArray (0, 0) _ rfl hres arr16B rfl (by rw [List.size_toArray, hl.out]; exact i16B)) rfl ⟨rfl, HB.out.trans (grown_below (grown_setRow _ _ _) (by have := HG1.out; omega) HB.out.size)⟩
end Go.Proofs.YtimgggpojbpfkaaGreatDoor

/- The contract of aes.columns. -/
namespace Go.Proofs.YtimgggpojbpfkaaGreatDoor
open Go.RowKit
set_option linter.unusedVariables false
set_option maxRecDepth 100000
set_option linter.unusedSimpArgs false
/-- a block as its four columns -/
def colsL (b : List UInt8) : List W32 := (List.range 4).map (wordAt b)
def colN (b : List UInt8) (i : Nat) : List W32 := (List.range i).map (wordAt b) ++ List.replicate (4 - i) 0
theorem colN_step (b : List UInt8) (i : Nat) (hi : i < 4) : (colN b i).set i (wordAt b i) = colN b (i + 1) := by
  unfold colN
  rw [List.range_succ, List.map_append, List.append_assoc, show 4 - i = (4 - (i + 1)) + 1 by omega, List.replicate_succ]
  rw [List.set_append_right _ _ (by simp)]
  simp
theorem colN_len (b : List UInt8) (i : Nat) (hi : i ≤ 4) : (colN b i).length = 4 := by simp [colN]; omega
theorem colN_zero (b : List UInt8) : ((colN b 0).map wv) = List.replicate 4 (Value.int .u32 0) := by simp [colN, wv]
theorem colN_end (b : List UInt8) : colN b 4 = colsL b := by simp [colN, colsL]
theorem colsL_len (b : List UInt8) : (colsL b).length = 4 := by simp [colsL]
set_option maxHeartbeats 2000000 in
theorem columns_any (b : List UInt8) (w : World) (hb : b.length = 16) :
    Calls Tryz.prog 102 #[.agg (b.map bv).toArray] w fun e w' => e = .returned (.agg ((colsL b).map wv).toArray) ∧ Below w.heap.size w w' := by
  have HBL := Lib.hid hb
  clear hb
  go_enter Tryz.func102, Tryz.ntmps102
  go_wp2_with fail
  generalize hV : ((w.alloc _).alloc _).alloc _ = W0
  have F0 : Hid (W0.heap[w.heap.size]? = some (.cells (b.map bv).toArray 64 (0, 0))) := by rw [← hV]; exact (heap3 w _ _ _).1
  have F1 : Hid (W0.heap[w.heap.size + 1]? = some (.cells (List.replicate 4 (Value.int .u32 0)).toArray 135 (0, 0))) := by rw [← hV]; exact (heap3 w _ _ _).2.1
  have F2 : Hid (W0.heap[w.heap.size + 1 + 1]? = some (.cells ((colN b 0).map wv).toArray 135 (0, 0))) := by rw [← hV, colN_zero]; exact (heap3 w _ _ _).2.2.1
  have FB : Hid (Below w.heap.size w W0) := by rw [← hV]; exact (heap3 w _ _ _).2.2.2
  clear hV
  generalize hg2 : w.heap.size + 1 + 1 = g2 at F2 ⊢
  generalize hg1 : w.heap.size + 1 = g1 at F1 ⊢
  have HG2 : Hid (w.heap.size + 1 + 1 = g2) := hg2
  have HG1 : Hid (w.heap.size + 1 = g1) := hg1
  clear hg1 hg2
  go_loopw [5] (fun vi wr => ∃ (i : Nat), i ≤ 4 ∧ vi = .int .i64 (i : Int) ∧ Hid (Below w.heap.size w wr) ∧ Hid (wr.heap[w.heap.size]? = some (.cells (b.map bv).toArray 64 (0, 0))) ∧ Hid (wr.heap[g1]? = some (.cells (List.replicate 4 (Value.int .u32 0)).toArray 135 (0, 0))) ∧
     Hid (wr.heap[g2]? = some (.cells ((colN b i).map wv).toArray 135 (0, 0)))) (fun i _ => 4 - (intOf i).toNat)
  case atStart => exact ⟨0, by omega, rfl, FB, F0, F1, F2⟩
  case round =>
    obtain ⟨i, hi, rfl, HB, H0, H1, H2⟩ := hrel
    by_cases hlt : i < 4
    · have e1 : (i : Int) < 4 := by omega
      have sl := arr_mid arr16B s8 ⟨w.heap.size, 0, none⟩ .i64 .i64 (4 * (i : Int)) (4 * (i : Int) + 4) (by omega) (by omega) (by omega)
      have e2 : (4 * (i : Int)).toNat = 4 * i := by omega
      have e3 : (4 * (i : Int) + 4).toNat = 4 * i + 4 := by omega
      rw [e2, e3, show 4 * i + 4 - 4 * i = 4 by omega, show cutA ⟨w.heap.size, 0, none⟩ 16 (4 * i) = ⟨w.heap.size, 4 * i, none⟩ from by unfold cutA; rw [if_neg (by omega), Addr.add_mid, Nat.zero_add]] at sl
      clear e2 e3
      have HWB := Lib.hid (word_big b i)
      have HST := Lib.hid (colN_step b i (by omega))
      go_wp2_with fail
      refine (big_n (some ⟨w.heap.size, 4 * i, none⟩) 4 (16 - 4 * i) ((b.drop (4 * i)).take 4) wr ?_ ?_ ?_ ?_).mono ?_
      · rw [List.length_take, List.length_drop, HBL.out]; omega
      · omega
      · simp [maxLen]; omega
      · exact row_sub H0.out (4 * i) 4 (lt_of_heap H0.out)
      rintro e w1 ⟨rfl, hb1⟩
      rw [HWB.out]
      generalize wordAt b i = x at HST
      have hx := x.isLt
      have H0' : Hid (w1.heap[w.heap.size]? = _) := (hb1.block _ (lt_of_heap H0.out)).trans H0.out
      have H1' : Hid (w1.heap[g1]? = _) := (hb1.block _ (lt_of_heap H1.out)).trans H1.out
      have H2' : Hid (w1.heap[g2]? = _) := (hb1.block _ (lt_of_heap H2.out)).trans H2.out
      have HB' : Hid (Below w.heap.size w w1) := HB.out.step hb1
      have c1 := wcell H2'.out i (by rw [colN_len _ _ (by omega)]; omega)
      have fz := frozen_of_heap H2'.out i
      have hmod : (x.toNat : Int) % 4294967296 = (x.toNat : Int) := by omega
      clear hb1 H0 H1 H2 HB HWB
      go_wp2
      go_roundw
      case rel =>
        have q2 := HG2.out
        have q1 := HG1.out
        refine ⟨i + 1, by omega, by go_num, ?_, ?_, ?_, ?_⟩
        · exact HB'.out.setCell (show w.heap.size ≤ g2 by omega) _
        · exact (Below.heap_setCell w1 _ _ _ (show w.heap.size ≠ g2 by omega)).trans H0'.out
        · exact (Below.heap_setCell w1 _ _ _ (show g1 ≠ g2 by omega)).trans H1'.out
        · have := heap_set H2'.out i (wv x)
          rw [← List.map_set, HST.out] at this
          exact this
      case measure => simp [intOf]; omega
    · have H2' : Hid (wr.heap[g2]? = some (.cells ((colsL b).map wv).toArray 135 (0, 0))) := by have := H2.out; rw [show i = 4 by omega, colN_end] at this; exact this
      have hl : Hid (((colsL b).map wv).length = 4) := by show _ = _; rw [List.length_map, colsL_len]
      obtain ⟨L, HL⟩ : ∃ L, Hid (colsL b = L) := ⟨_, rfl⟩
      rw [HL.out] at hl H2'
      go_wp2_with (first
        | (refine wpList_ld rfl 135 (.tmp 3) rfl (load_arr arr4W rfl (by rw [hl.out]; exact i4W) H2'.out) ?_)
        | (refine wpList_st rfl 135 (.tmp 2) (.tmp 19) rfl (store_arr (cs := L.map wv) (by rw [hl.out]; exact i4W) (wv_one _) H1.out (by rw [hl.out]; simp)) ?_))
      have hres := setRow_heap wr g1 _ (L.map wv).toArray 135 _ H1.out
      rw [HL.out]
      exact bodyPost_ret (results_cell_row (P := Tryz.prog) rfl _ _ g1 135 (L.map wv).toArray (0, 0) _ rfl hres arr4W rfl (by rw [List.size_toArray, hl.out]; exact i4W)) rfl ⟨rfl, HB.out.trans (grown_below (grown_setRow _ _ _) (by have := HG1.out; omega) HB.out.size)⟩
end Go.Proofs.YtimgggpojbpfkaaGreatDoor

/- The contract of aes.shifted. -/
namespace Go.Proofs.YtimgggpojbpfkaaGreatDoor
open Go.RowKit
set_option linter.unusedVariables false
set_option maxRecDepth 100000
set_option linter.unusedSimpArgs false
/-- column c of the block s, each row turned round by n columns, the first r rows of it -/
def shCol (n : Nat) (s : List W32) (c : Nat) : Nat → W32
  | 0 => 0
  | r + 1 => shCol n s c r ||| (s.getD ((c + n * r) % 4) 0 &&& (4278190080#32 >>> (8 * r)))
def shiftW (n : Nat) (s : List W32) : List W32 := (List.range 4).map fun c => shCol n s c 4
def shN (n : Nat) (s : List W32) (c r : Nat) : List W32 := (List.range c).map (fun j => shCol n s j 4) ++ (shCol n s c r :: List.replicate (3 - c) 0)
def shD (n : Nat) (s : List W32) (c : Nat) : List W32 := (List.range c).map (fun j => shCol n s j 4) ++ List.replicate (4 - c) 0
theorem shD_N (n : Nat) (s : List W32) (c : Nat) (hc : c < 4) : shD n s c = shN n s c 0 := by
  unfold shD shN; rw [show 4 - c = (3 - c) + 1 by omega, List.replicate_succ]; rfl
theorem shN_D (n : Nat) (s : List W32) (c : Nat) (hc : c < 4) : shN n s c 4 = shD n s (c + 1) := by
  unfold shD shN; rw [List.range_succ, List.map_append, List.append_assoc, show 4 - (c + 1) = 3 - c by omega]; rfl
theorem shN_step (n : Nat) (s : List W32) (c r : Nat) : (shN n s c r).set c (shCol n s c (r + 1)) = shN n s c (r + 1) := by
  unfold shN; rw [List.set_append_right _ _ (by simp)]; simp
theorem shN_get (n : Nat) (s : List W32) (c r : Nat) : (shN n s c r).getD c 0 = shCol n s c r := by
  unfold shN; rw [List.getD_eq_getElem?_getD, List.getElem?_append_right (by simp)]; simp
theorem shN_len (n : Nat) (s : List W32) (c r : Nat) (hc : c < 4) : (shN n s c r).length = 4 := by simp [shN]; omega
theorem shD_len (n : Nat) (s : List W32) (c : Nat) (hc : c ≤ 4) : (shD n s c).length = 4 := by simp [shD]; omega
theorem shD_end (n : Nat) (s : List W32) : shD n s 4 = shiftW n s := by simp [shD, shiftW]
theorem shiftW_len (n : Nat) (s : List W32) : (shiftW n s).length = 4 := by simp [shiftW]
theorem shrK (e : Nat) (he : e ≤ 24) : (4278190080 : Int) / 2 ^ e = ((4278190080#32 >>> e).toNat : Int) := by
  rw [shr32]; rfl
set_option maxHeartbeats 2000000 in
theorem shifted_any (n : Nat) (s : List W32) (w : World) (hn : n ≤ 3) (hs : s.length = 4) :
    Calls Tryz.prog 105 #[.int .i64 (n : Int), .agg (s.map wv).toArray] w fun e w' => e = .returned (.agg ((shiftW n s).map wv).toArray) ∧ Below w.heap.size w w' := by
  have HSL := Lib.hid hs
  clear hs
  go_enter Tryz.func105, Tryz.ntmps105
  go_wp2_with fail
  generalize hV : ((w.alloc _).alloc _).alloc _ = W0
  have F0 : Hid (W0.heap[w.heap.size]? = some (.cells (s.map wv).toArray 135 (0, 0))) := by rw [← hV]; exact (heap3 w _ _ _).1
  have F1 : Hid (W0.heap[w.heap.size + 1]? = some (.cells (List.replicate 4 (Value.int .u32 0)).toArray 135 (0, 0))) := by rw [← hV]; exact (heap3 w _ _ _).2.1
  have F2 : Hid (W0.heap[w.heap.size + 1 + 1]? = some (.cells ((shD n s 0).map wv).toArray 135 (0, 0))) := by rw [← hV]; exact (heap3 w _ _ _).2.2.1
  have FB : Hid (Below w.heap.size w W0) := by rw [← hV]; exact (heap3 w _ _ _).2.2.2
  clear hV
  generalize hg2 : w.heap.size + 1 + 1 = g2 at F2 ⊢
  generalize hg1 : w.heap.size + 1 = g1 at F1 ⊢
  have HG2 : Hid (w.heap.size + 1 + 1 = g2) := hg2
  have HG1 : Hid (w.heap.size + 1 = g1) := hg1
  clear hg1 hg2
  go_loopw [8] (fun vi wr => ∃ (c : Nat), c ≤ 4 ∧ vi = .int .i64 (c : Int) ∧ Hid (Below w.heap.size w wr) ∧ Hid (wr.heap[w.heap.size]? = some (.cells (s.map wv).toArray 135 (0, 0))) ∧ Hid (wr.heap[g1]? = some (.cells (List.replicate 4 (Value.int .u32 0)).toArray 135 (0, 0))) ∧
     Hid (wr.heap[g2]? = some (.cells ((shD n s c).map wv).toArray 135 (0, 0)))) (fun i _ => 4 - (intOf i).toNat)
  case atStart => exact ⟨0, by omega, rfl, FB, F0, F1, F2⟩
  case round =>
    clear F0 F1 F2 FB
    obtain ⟨c, hc, rfl, HB, H0, H1, H2⟩ := hrel
    by_cases hlc : c < 4
    · have q1 : (c : Int) < 4 := by omega
      rw [shD_N n s c hlc] at H2
      obtain ⟨wo, hwo⟩ : ∃ x, x = wr := ⟨_, rfl⟩
      subst hwo
      go_wp2_with fail
      go_loopw [11] (fun vi wr => ∃ (r : Nat), r ≤ 4 ∧ vi = .int .i64 (r : Int) ∧ Hid (Below w.heap.size w wr) ∧ Hid (wr.heap[w.heap.size]? = some (.cells (s.map wv).toArray 135 (0, 0))) ∧ Hid (wr.heap[g1]? = some (.cells (List.replicate 4 (Value.int .u32 0)).toArray 135 (0, 0))) ∧
         Hid (wr.heap[g2]? = some (.cells ((shN n s c r).map wv).toArray 135 (0, 0)))) (fun i _ => 4 - (intOf i).toNat)
      case atStart => exact ⟨0, by omega, rfl, HB, H0, H1, H2⟩
      case round =>
        clear HB H0 H1 H2
        obtain ⟨r, hr, rfl, HB, H0, H1, H2⟩ := hrel
        by_cases hlr : r < 4
        · have q2 : (r : Int) < 4 := by omega
          have c2 := wcell H2.out c (by rw [shN_len n s c r hlc]; exact hlc)
          rw [shN_get] at c2
          have fz := frozen_of_heap H2.out c
          have HST := Lib.hid (shN_step n s c r)
          obtain ⟨p, hp⟩ : ∃ p, p = n * r := ⟨_, rfl⟩
          have hp9 : p ≤ 9 := by
            rw [hp]
            exact Nat.le_trans (Nat.mul_le_mul hn (show r ≤ 3 by omega)) (by decide)
          obtain ⟨q, hq⟩ : ∃ q, q = c + p := ⟨_, rfl⟩
          obtain ⟨m, hm⟩ : ∃ m, m = q % 4 := ⟨_, rfl⟩
          obtain ⟨e, he⟩ : ∃ e, e = 8 * r := ⟨_, rfl⟩
          obtain ⟨K, hK⟩ : ∃ K, K = 4278190080#32 >>> e := ⟨_, rfl⟩
          have hco : shCol n s c (r + 1) = shCol n s c r ||| (s.getD m 0 &&& K) := by rw [hm, hq, hp, hK, he]; rfl
          rw [hco] at HST
          have c0 := wcell H0.out m (by rw [HSL.out]; omega)
          have o1 : IntKind.i64.wrap ((n : Int) * (r : Int)) = (p : Int) := by rw [hp, IntKind.wrap_i64, ← Int.natCast_mul]; rw [hp] at hp9; omega
          have o2 : IntKind.i64.wrap ((c : Int) + (p : Int)) = (q : Int) := by rw [IntKind.wrap_i64]; omega
          have o3 : (q : Int).tmod 4 = (m : Int) := by rw [Int.tmod_eq_emod_of_nonneg (by omega)]; omega
          have o3' : (q : Int) % 4 = (m : Int) := by omega
          have o4 : IntKind.i64.wrap (8 * (r : Int)) = (e : Int) := by rw [IntKind.wrap_i64]; omega
          have o5 : IntKind.u64.wrap (e : Int) = (e : Int) := by rw [IntKind.wrap_u64]; omega
          have o6 : IntKind.i64.wrap (m : Int) = (m : Int) := by rw [IntKind.wrap_i64]; omega
          have q3 : (m : Int) < 4 := by omega
          have he32 : min e 32 = e := by omega
          have o7 : (4278190080 : Int) / 2 ^ e = (K.toNat : Int) := by rw [hK]; exact shrK e (by omega)
          generalize s.getD m 0 = y at c0 HST
          generalize shCol n s c r = z at c2 HST
          clear hp hq hm he hK hco hp9
          go_wp2_with fail
          go_still_tail 18, (by kernel_rfl)
          change wpList _ _ _ _ _ wr.drew
          clear o1 o2 o3 o3' o4 o5 o6 o7 he32
          go_wp2
          go_roundw
          case rel =>
            have k2 := HG2.out
            have k1 := HG1.out
            refine ⟨r + 1, by omega, by go_num, ?_, ?_, ?_, ?_⟩
            · exact HB.out.drew.setCell (show w.heap.size ≤ g2 by omega) _
            · exact (Below.heap_setCell wr.drew _ _ _ (show w.heap.size ≠ g2 by omega)).trans H0.out
            · exact (Below.heap_setCell wr.drew _ _ _ (show g1 ≠ g2 by omega)).trans H1.out
            · have h1 : ((shN n s c r).map wv).set c (Value.int .u32 (bits .or .u32 (z.toNat : Int) (bits .and .u32 (y.toNat : Int) (K.toNat : Int)))) = (shN n s c (r + 1)).map wv := by
                rw [and32, or32, ← HST.out, List.map_set]; rfl
              have := heap_set (w := wr.drew) H2.out c (Value.int .u32 (bits .or .u32 (z.toNat : Int) (bits .and .u32 (y.toNat : Int) (K.toNat : Int))))
              rw [h1] at this
              exact this
          case measure => simp [intOf]; omega
        · have H2' := H2.out
          rw [show r = 4 by omega, shN_D n s c hlc] at H2'
          have K2 := Lib.hid H2'
          clear H2' H2
          go_wp2
          go_roundw
          case rel => exact ⟨c + 1, by omega, by go_num, HB, H0, H1, K2⟩
          case measure => simp [intOf]; omega
    · have H2' : Hid (wr.heap[g2]? = some (.cells ((shiftW n s).map wv).toArray 135 (0, 0))) := by have := H2.out; rw [show c = 4 by omega, shD_end] at this; exact this
      have hl4 : Hid (((shiftW n s).map wv).length = 4) := by show _ = _; rw [List.length_map, shiftW_len]
      clear H2
      obtain ⟨L, HLL⟩ : ∃ L, Hid ((shiftW n s).map wv = L) := ⟨_, rfl⟩
      have hone : Hid (∀ v ∈ L, v.oneCell' = true) := by show ∀ v ∈ L, _; rw [← HLL.out]; exact wv_one _
      rw [HLL.out] at H2' hl4
      go_wp2_with (first
        | (refine wpList_ld rfl 135 (.tmp 5) rfl (load_arr arr4W rfl (by rw [hl4.out]; exact i4W) H2'.out) ?_)
        | (refine wpList_st rfl 135 (.tmp 4) (.tmp 34) rfl (store_arr (cs := L) (by rw [hl4.out]; exact i4W) hone.out H1.out (by rw [hl4.out]; simp)) ?_))
      have hres := setRow_heap wr g1 _ L.toArray 135 _ H1.out
      exact bodyPost_ret (results_cell_row (P := Tryz.prog) rfl _ _ g1 135 L.toArray (0, 0) _ rfl hres arr4W rfl (by rw [List.size_toArray, hl4.out]; exact i4W)) rfl ⟨by rw [HLL.out], HB.out.trans (grown_below (grown_setRow _ _ _) (by have := HG1.out; omega) HB.out.size)⟩
end Go.Proofs.YtimgggpojbpfkaaGreatDoor

/- The contract of (*Keys).Encrypt. -/
namespace Go.Proofs.YtimgggpojbpfkaaGreatDoor
open Go.RowKit
set_option linter.unusedVariables false
set_option maxRecDepth 100000
set_option linter.unusedSimpArgs false
/-- a block behind i rounds -/
def encN (T : List UInt8) (ws : List W32) (b : List UInt8) : Nat → List W32
  | 0 => addW ws 0 (colsL b)
  | i + 1 => addW ws (i + 1) ((shiftW 1 ((encN T ws b i).map (subW T))).map mixW)
def encT (T : List UInt8) (ws : List W32) (n : Nat) (b : List UInt8) : List UInt8 := outL (addW ws n (shiftW 1 ((encN T ws b (n - 1)).map (subW T))))
def encL (ws : List W32) (n : Nat) (b : List UInt8) : List UInt8 := encT sboxL ws n b
theorem encN_len (T : List UInt8) (ws : List W32) (b : List UInt8) (i : Nat) (hw : ws.length = 60) (hi : i ≤ 14) : (encN T ws b i).length = 4 := by
  cases i with
  | zero => exact addW_len _ _ _ (colsL_len b) (by omega)
  | succ i => exact addW_len _ _ _ (by rw [List.length_map]; exact shiftW_len _ _) (by omega)
def zeros16 : List Value := (List.replicate 16 (0 : UInt8)).map bv
theorem zeros16_len : zeros16.length = 16 := rfl
set_option maxHeartbeats 2000000 in
theorem enc_none (v : Value) (b : List UInt8) (w : World) (hb : b.length = 16) (hr : ∀ W, Below w.heap.size w W → Calls Tryz.prog 100 #[v] W fun e w' => e = .returned (.int .i64 0) ∧ W = w') :
    Calls Tryz.prog 67 #[v, .agg (b.map bv).toArray] w fun e w' => e = .returned (.agg ((List.replicate 16 (0 : UInt8)).map bv).toArray) ∧ Below w.heap.size w w' := by
  have HR := Lib.hid hr
  have hz : ∀ W, (zeroValue 64).run Tryz.prog W = .ok (.agg zeros16.toArray) W := fun W => by kernel_rfl
  have hone : Hid (∀ v ∈ zeros16, v.oneCell' = true) := bv_one _
  clear hr
  go_enter Tryz.func67, Tryz.ntmps67
  go_upto_region 1 with (fail)
  generalize hV : (w.alloc _).alloc _ = W0
  have F1 : Hid (W0.heap[w.heap.size + 1]? = some (.cells zeros16.toArray 64 (0, 0))) := by rw [← hV]; exact (heap2 w _ _).2.1
  have FB : Hid (Below w.heap.size w W0) := by rw [← hV]; exact (heap2 w _ _).2.2
  clear hV
  go_wp2_with fail
  refine (HR.out W0 FB.out).mono ?_
  rintro e w1 ⟨rfl, rfl⟩
  go_wp2_with (first
    | (refine wpList_run (o := ⟨some 13, _, _, _, _, _⟩) rfl (v := .agg zeros16.toArray) (w' := W0) (by kernel_rfl) ?_
       generalize hZ : zeros16 = Z at F1 hone ⊢)
    | (refine wpList_st rfl 64 (.tmp 4) (.tmp 13) rfl (store_arr (cs := Z) (old := Z) (by rw [← hZ]; exact i16B) hone.out F1.out rfl) ?_))
  have hres := setRow_heap W0 (w.heap.size + 1) _ Z.toArray 64 _ F1.out
  refine bodyPost_ret (results_cell_row (P := Tryz.prog) rfl _ _ (w.heap.size + 1) 64 Z.toArray (0, 0) _ rfl hres arr16B rfl (by rw [← hZ]; exact i16B)) rfl ⟨by rw [← hZ]; rfl, FB.out.trans (grown_below (grown_setRow _ _ _) (Nat.le_succ _) FB.out.size)⟩
set_option maxHeartbeats 4000000 in
theorem encIn_any (g n : Nat) (ws : List W32) (b : List UInt8) (w : World) (hb : b.length = 16) (hn : 1 ≤ n) (hn2 : n ≤ 14) (H : KeyIn w g ws n) :
    Calls Tryz.prog 67 #[.pointer (some ⟨g, 0, none⟩), .agg (b.map bv).toArray] w fun e w' => e = .returned (.agg ((encL ws n b).map bv).toArray) ∧ Below w.heap.size w w' := by
  have HBL := Lib.hid hb; have HK := Lib.hid H
  have HKX : Hid (∀ W, Below w.heap.size w W → KeyIn W g ws n) := fun W hW => H.ext hW
  have HW : Hid (ws.length = 60) := H.1
  have hz : ∀ W, (zeroValue 64).run Tryz.prog W = .ok (.agg zeros16.toArray) W := fun W => by kernel_rfl
  have hz2 := zeroTb
  have e0 : ((n : Int) == 0) = false := by simp; omega
  obtain ⟨n1, hn1⟩ : ∃ n1, n1 = n - 1 := ⟨_, rfl⟩
  have u1 : (n : Int) - 1 = (n1 : Int) := by omega
  have HN1 := Lib.hid hn1
  have HF := Lib.hid (fun W => forward_any W)
  have hsl := Lib.hid sboxL_len
  have HI : Hid ((Tryz.prog.info? 119).map (·.size) = some (sboxL.map bv).length) := by show _ = _; rw [subCells]; exact iTb
  have HE : Hid (zeros256.length = (sboxL.map bv).length) := by show _ = _; rw [subCells, zeros256_len]
  unfold encL
  generalize sboxL = T at HF hsl HI HE ⊢
  have hi16 : Hid ((Tryz.prog.info? 64).map (·.size) = some (b.map bv).length) := by show _ = _; rw [List.length_map, hb]; exact i16B
  have hn14 : n1 ≤ 13 := by omega
  clear hb H hn1
  go_enter Tryz.func67, Tryz.ntmps67
  go_upto_region 1 with (fail)
  generalize hV : (w.alloc _).alloc _ = W0
  have F0 : Hid (W0.heap[w.heap.size]? = some (.cells (b.map bv).toArray 64 (0, 0))) := by rw [← hV]; exact (heap2 w _ _).1
  have F1 : Hid (W0.heap[w.heap.size + 1]? = some (.cells zeros16.toArray 64 (0, 0))) := by rw [← hV]; exact (heap2 w _ _).2.1
  have FB : Hid (Below w.heap.size w W0) := by rw [← hV]; exact (heap2 w _ _).2.2
  clear hV
  generalize hg1 : w.heap.size + 1 = g1 at F1 ⊢
  have HG1 : Hid (w.heap.size + 1 = g1) := hg1
  clear hg1
  go_wp2_with fail
  refine (roundsIn_any g ws n W0 (HKX.out _ FB.out)).mono ?_
  rintro e w1 ⟨rfl, rfl⟩
  go_wp2_with fail
  refine (HF.out W0).mono ?_
  rintro e w1 ⟨rfl, hB1⟩
  have P0 := Lib.hid ((hB1.block _ (lt_of_heap F0.out)).trans F0.out)
  have P1 := Lib.hid ((hB1.block _ (lt_of_heap F1.out)).trans F1.out)
  have PB := Lib.hid (FB.out.step hB1)
  have hl0 := Lib.hid (lt_of_heap P0.out)
  have hl1 := Lib.hid (lt_of_heap P1.out)
  clear hB1 F0 F1 FB
  go_upto_region 5 with (first
    | (refine wpList_st rfl 119 (.tmp 6) (.tmp 14) rfl (store_arr (cs := T.map bv) (old := zeros256) HI.out (bv_one _) (heap_alloc_new' w1 _) HE.out) ?_
       generalize hV : World.setRow _ _ _ = W5
       have M6 := Lib.hid (heap_of_setRow hV (heap_alloc_new' w1 _))
       have MB := Lib.hid (((Below.refl w1.heap.size w1).alloc (Nat.le_refl _) _).trans (below_of_setRow hV (Nat.le_refl w1.heap.size) (by simp)))
       clear hV)
    | fail)
  have N0 := Lib.hid ((MB.out.block _ hl0.out).trans P0.out)
  have N1 := Lib.hid ((MB.out.block _ hl1.out).trans P1.out)
  have NB := Lib.hid (PB.out.step MB.out)
  clear P0 P1 PB MB hl0
  generalize hg6 : w1.heap.size = g6 at M6 hl1 ⊢
  clear hg6
  have hS0 : Hid ((encN T ws b 0).length = 4) := encN_len T ws b 0 HW.out (by omega)
  have HE0 : Hid (addW ws 0 (colsL b) = encN T ws b 0) := rfl
  go_wp2_with (first
    | (refine wpList_ld rfl 64 (.tmp 3) rfl (load_arr arr16B rfl hi16.out N0.out) ?_)
    | fail)
  refine (columns_any b W5 HBL.out).mono ?_
  rintro e w2 ⟨rfl, hB2⟩
  have HB2 := Lib.hid hB2
  clear hB2
  go_wp2_with fail
  refine (add_any g ws n 0 (colsL b) w2 (colsL_len b) HW.out (by omega) (HKX.out _ (NB.out.step HB2.out)).2).mono ?_
  rw [HE0.out]
  rintro e w3 ⟨rfl, hB3⟩
  have HB3 := Lib.hid (HB2.out.step hB3)
  have Q1 := Lib.hid ((HB3.out.block _ (lt_of_heap N1.out)).trans N1.out)
  have Q6 := Lib.hid ((HB3.out.block _ (lt_of_heap M6.out)).trans M6.out)
  have QB := Lib.hid (NB.out.step HB3.out)
  have hq1 := Lib.hid (lt_of_heap Q1.out)
  have hq6 := Lib.hid (lt_of_heap Q6.out)
  clear hB3 HB2 HB3 N0 N1 NB M6
  generalize hY0 : encN T ws b 0 = Y0 at hS0 HE0 ⊢
  have HY0 := Lib.hid hY0
  clear hY0
  have hi4 : Hid ((Tryz.prog.info? 135).map (·.size) = some (Y0.map wv).length) := by show _ = _; rw [List.length_map, hS0.out]; exact i4W
  have hle4 : Hid ((List.replicate 4 (Value.int .u32 0)).length = (Y0.map wv).length) := by show _ = _; rw [List.length_map, hS0.out]; rfl
  go_upto_region 6 with (first
    | (refine wpList_st rfl 135 (.tmp 7) (.tmp 18) rfl (store_arr (cs := Y0.map wv) (old := List.replicate 4 (Value.int .u32 0)) hi4.out (wv_one _) (heap_alloc_new' w3 _) hle4.out) ?_
       generalize hV : World.setRow _ _ _ = W7
       have M7 := Lib.hid (heap_of_setRow hV (heap_alloc_new' w3 _))
       have MB := Lib.hid (((Below.refl w3.heap.size w3).alloc (Nat.le_refl _) _).trans (below_of_setRow hV (Nat.le_refl w3.heap.size) (by simp)))
       clear hV)
    | fail)
  have R1 := Lib.hid ((MB.out.block _ hq1.out).trans Q1.out)
  have R6 := Lib.hid ((MB.out.block _ hq6.out).trans Q6.out)
  have RB := Lib.hid (QB.out.step MB.out)
  have hwg : Hid (w.heap.size ≤ w3.heap.size) := QB.out.size
  clear Q1 Q6 QB MB
  generalize hg7 : w3.heap.size = g7 at M7 hq1 hq6 hwg ⊢
  clear hg7
  rw [← HY0.out] at M7
  go_wp2_with fail
  go_loopw [21] (fun vi wr => ∃ (i : Nat), i ≤ n1 ∧ vi = .int .i64 (i : Int) ∧ Hid (Below w.heap.size w wr) ∧ Hid (wr.heap[g1]? = some (.cells zeros16.toArray 64 (0, 0))) ∧ Hid (wr.heap[g6]? = some (.cells (T.map bv).toArray 119 (0, 0))) ∧
     Hid (wr.heap[g7]? = some (.cells ((encN T ws b i).map wv).toArray 135 (0, 0)))) (fun i _ => n1 - (intOf i).toNat)
  case atStart => exact ⟨0, by omega, rfl, RB, R1, R6, M7⟩
  case round =>
    clear RB R1 R6 M7 hi4 hle4 hS0 HY0 HE0
    obtain ⟨i, hi, rfl, HB, H1, H6, H7⟩ := hrel
    have hSl := Lib.hid (encN_len T ws b i HW.out (by omega))
    by_cases hlt : i < n1
    · have q1 : (i : Int) < (n1 : Int) := by omega
      obtain ⟨i1, hi1⟩ : ∃ i1, i1 = i + 1 := ⟨_, rfl⟩
      have u2 : (i : Int) + 1 = (i1 : Int) := by omega
      have HST : Hid (addW ws i1 ((shiftW 1 ((encN T ws b i).map (subW T))).map mixW) = encN T ws b (i + 1)) := by show _ = _; rw [hi1]; rfl
      have hSl1 := Lib.hid (encN_len T ws b (i + 1) HW.out (by omega))
      have HI1 := Lib.hid hi1
      have hi14 : Hid (i1 ≤ 14) := by show _ ≤ _; omega
      clear hi1
      generalize encN T ws b i = Y at HST hSl H7
      obtain ⟨Y1, HY1⟩ : ∃ Y1, Hid (encN T ws b (i + 1) = Y1) := ⟨_, rfl⟩
      rw [HY1.out] at HST hSl1
      have hi4 : Hid ((Tryz.prog.info? 135).map (·.size) = some (Y.map wv).length) := by show _ = _; rw [List.length_map, hSl.out]; exact i4W
      go_wp2_with (first
        | (refine wpList_ld rfl 135 (.tmp 7) rfl (load_arr arr4W rfl hi4.out H7.out) ?_)
        | fail)
      refine (all_any g6 T Y wr hSl.out hsl.out H6.out).mono ?_
      have hl2 : Hid ((Y.map (subW T)).length = 4) := by show _ = _; rw [List.length_map, hSl.out]
      generalize Y.map (subW T) = Y2 at HST hl2 ⊢
      rintro e w2 ⟨rfl, hB2⟩
      have HB2 := Lib.hid hB2
      clear hB2
      go_wp2_with fail
      refine (shifted_any 1 Y2 w2 (by omega) hl2.out).mono ?_
      have hl3 := Lib.hid (shiftW_len 1 Y2)
      generalize shiftW 1 Y2 = Y3 at HST hl3 ⊢
      rintro e w3' ⟨rfl, hB3⟩
      have HB3 := Lib.hid (HB2.out.step hB3)
      clear hB3 HB2
      go_wp2_with fail
      refine (each_mix Y3 w3' hl3.out).mono ?_
      have hl4 : Hid ((Y3.map mixW).length = 4) := by show _ = _; rw [List.length_map, hl3.out]
      generalize Y3.map mixW = Y4 at HST hl4 ⊢
      rintro e w4 ⟨rfl, hB4⟩
      have HB4 := Lib.hid (HB3.out.step hB4)
      clear hB4 HB3
      go_wp2_with fail
      refine (add_any g ws n i1 Y4 w4 hl4.out HW.out hi14.out (HKX.out _ (HB.out.step HB4.out)).2).mono ?_
      rw [HST.out]
      rintro e w5 ⟨rfl, hB5⟩
      have HB5 := Lib.hid (HB4.out.step hB5)
      have K1 := Lib.hid ((HB5.out.block _ (lt_of_heap H1.out)).trans H1.out)
      have K6 := Lib.hid ((HB5.out.block _ (lt_of_heap H6.out)).trans H6.out)
      have K7 := Lib.hid ((HB5.out.block _ (lt_of_heap H7.out)).trans H7.out)
      have KB := Lib.hid (HB.out.step HB5.out)
      have hi4b : Hid ((Tryz.prog.info? 135).map (·.size) = some (Y1.map wv).length) := by show _ = _; rw [List.length_map, hSl1.out]; exact i4W
      have hle : Hid ((Y.map wv).length = (Y1.map wv).length) := by show _ = _; rw [List.length_map, List.length_map, hSl.out, hSl1.out]
      clear hB5 HB4 HB5 H1 H6 H7 HB
      go_wp2_with (first
        | (refine wpList_st rfl 135 (.tmp 7) (.tmp 31) rfl (store_arr (cs := Y1.map wv) hi4b.out (wv_one _) K7.out hle.out) ?_
           generalize hV : World.setRow _ _ _ = W8
           have L7 := Lib.hid (heap_of_setRow hV K7.out)
           have L1 := Lib.hid (heap_of_other hV (Nat.ne_of_lt hq1.out) K1.out)
           have L6 := Lib.hid (heap_of_other hV (Nat.ne_of_lt hq6.out) K6.out)
           have LB := Lib.hid (KB.out.trans (below_of_setRow hV hwg.out KB.out.size))
           clear hV)
        | fail)
      go_roundw
      case rel =>
        refine ⟨i + 1, by omega, by go_num, LB, L1, L6, ?_⟩
        rw [HY1.out]; exact L7
      case measure => simp [intOf]; omega
    · have q1 : ¬ ((i : Int) < (n1 : Int)) := by omega
      have HEN : Hid (outL (addW ws n (shiftW 1 ((encN T ws b i).map (subW T)))) = encT T ws n b) := by show _ = _; unfold encT; rw [← HN1.out, show i = n1 by omega]
      obtain ⟨R, hR⟩ : ∃ R, Hid (encT T ws n b = R) := ⟨_, rfl⟩
      rw [hR.out] at HEN
      generalize encN T ws b i = Y at HEN hSl H7
      have hi4 : Hid ((Tryz.prog.info? 135).map (·.size) = some (Y.map wv).length) := by show _ = _; rw [List.length_map, hSl.out]; exact i4W
      go_wp2_with (first
        | (refine wpList_ld rfl 135 (.tmp 7) rfl (load_arr arr4W rfl hi4.out H7.out) ?_)
        | fail)
      refine (all_any g6 T Y wr hSl.out hsl.out H6.out).mono ?_
      have hl2 : Hid ((Y.map (subW T)).length = 4) := by show _ = _; rw [List.length_map, hSl.out]
      generalize Y.map (subW T) = Y2 at HEN hl2 ⊢
      rintro e w2 ⟨rfl, hB2⟩
      have HB2 := Lib.hid hB2
      clear hB2
      go_wp2_with fail
      refine (shifted_any 1 Y2 w2 (by omega) hl2.out).mono ?_
      have hl3 := Lib.hid (shiftW_len 1 Y2)
      generalize shiftW 1 Y2 = Y3 at HEN hl3 ⊢
      rintro e w3' ⟨rfl, hB3⟩
      have HB3 := Lib.hid (HB2.out.step hB3)
      clear hB3 HB2
      go_wp2_with fail
      refine (add_any g ws n n Y3 w3' hl3.out HW.out hn2 (HKX.out _ (HB.out.step HB3.out)).2).mono ?_
      have hl4 := Lib.hid (addW_len ws n Y3 hl3.out (by rw [HW.out]; omega))
      generalize addW ws n Y3 = Y4 at HEN hl4 ⊢
      rintro e w4 ⟨rfl, hB4⟩
      have HB4 := Lib.hid (HB3.out.step hB4)
      clear hB4 HB3
      go_wp2_with fail
      refine (flat_any Y4 w4 hl4.out).mono ?_
      have hZl : Hid (((outL Y4).map bv).length = 16) := by show _ = _; rw [List.length_map, outL_len, hl4.out]
      rw [HEN.out]
      rw [HEN.out] at hZl
      rintro e w5 ⟨rfl, hB5⟩
      have HB5 := Lib.hid (HB4.out.step hB5)
      have K1 := Lib.hid ((HB5.out.block _ (lt_of_heap H1.out)).trans H1.out)
      have KB := Lib.hid (HB.out.step HB5.out)
      have hi16b : Hid ((Tryz.prog.info? 64).map (·.size) = some (R.map bv).length) := by show _ = _; rw [hZl.out]; exact i16B
      have hle : Hid (zeros16.length = (R.map bv).length) := by show _ = _; rw [hZl.out]; rfl
      clear hB5 HB4 HB5 H1 H6 H7 HB
      go_wp2_with (first
        | (refine wpList_st rfl 64 (.tmp 4) (.tmp 39) rfl (store_arr (cs := R.map bv) (old := zeros16) hi16b.out (bv_one _) K1.out hle.out) ?_)
        | fail)
      have hres := setRow_heap w5 g1 _ (R.map bv).toArray 64 _ K1.out
      exact bodyPost_ret (results_cell_row (P := Tryz.prog) rfl _ _ g1 64 (R.map bv).toArray (0, 0) _ rfl hres arr16B rfl (by rw [List.size_toArray, hZl.out]; exact i16B)) rfl ⟨by rw [hR.out], KB.out.trans (grown_below (grown_setRow _ _ _) (by have := HG1.out; omega) KB.out.size)⟩
theorem enc_any (g n : Nat) (ws : List W32) (b : List UInt8) (w : World) (hb : b.length = 16) (hn : 1 ≤ n) (hn2 : n ≤ 14) (H : KeyAt w g ws n) :
    Calls Tryz.prog 67 #[.pointer (some ⟨g, 0, none⟩), .agg (b.map bv).toArray] w fun e w' => e = .returned (.agg ((encL ws n b).map bv).toArray) ∧ Below w.heap.size w w' := encIn_any g n ws b w hb hn hn2 H.toIn
end Go.Proofs.YtimgggpojbpfkaaGreatDoor

/- Package ctr: crypt, Crypt. -/
namespace Go.Proofs.YtimgggpojbpfkaaGreatDoor
open Go.RowKit
set_option linter.unusedVariables false
set_option maxRecDepth 100000
set_option linter.unusedSimpArgs false
theorem c_own_below {w w' : World} {base : Nat} {e : TypeId} {s : Nat} {v : Value} {n : Nat} {xs : List Value} (h : w.ownsRow base e s v n xs) (hb : Below w.heap.size w w') : w'.ownsRow base e s v n xs := by
  obtain ⟨h0, h | ⟨g, cap, cur, hv, hg, hh, r⟩⟩ := h
  · exact ⟨h0, .inl h⟩
  · exact ⟨h0, .inr ⟨g, cap, cur, hv, hg, (hb.block _ (lt_of_heap hh)).trans hh, r⟩⟩
theorem c_own_ge {w : World} {base : Nat} {e : TypeId} {s : Nat} {v : Value} {n : Nat} {xs : List Value} (h : w.ownsRow base e s v n xs) {B : Nat} (hB : B ≤ base) : ∀ g, v.ownBlock = some g → B ≤ g := fun g hq => Nat.le_trans hB (h.lt g hq).1
theorem c_own_ne {w : World} {base : Nat} {e : TypeId} {s : Nat} {v : Value} {n : Nat} {xs : List Value} (h : w.ownsRow base e s v n xs) {g : Nat} (hB : g < base) : some g ≠ v.ownBlock := fun hq => by have := (h.lt g hq.symm).1; omega
theorem own_mono {w : World} {base b' : Nat} {e : TypeId} {s : Nat} {v : Value} {n : Nat} {xs : List Value} (h : w.ownsRow base e s v n xs) (hb : b' ≤ base) : w.ownsRow b' e s v n xs := by
  obtain ⟨h0, h | ⟨g, cap, cur, hv, hg, r⟩⟩ := h
  · exact ⟨h0, .inl h⟩
  · exact ⟨h0, .inr ⟨g, cap, cur, hv, Nat.le_trans hb hg, r⟩⟩
theorem c_hid_mp {J J' : Act → World → Prop} (h : Hid (J = J')) {a : Act} {w : World} (hh : J' a w) : J a w := by rw [h.out]; exact hh
/-- a label in a scope, behind code of which none jumps, to which its own code jumps back -/
theorem c_scope_label {P : Program} {a : Act} {w : World} {Q : Exit → Act → World → Prop} {ahead rest : Code} (l : Nat) (J : Act → World → Prop) (μ : Act → World → Nat) (hf : findLabel (ahead.seq ((Code.label l).seq rest)) l = some (Code.skip.seq rest)) (h0 : ahead.wp P (fun e a w => e = .normal ∧ J a w) a w)
    (pass : ∀ a w, J a w → rest.wp P (Exit.jump l (fun a' w' => J a' w' ∧ μ a' w' < μ a w) Q) a w) : (Code.scope (ahead.seq ((Code.label l).seq rest))).wp P Q a w := by
  refine wp_scope_jumps l J μ hf (wp_seq (Code.wp_mono ?_ h0)) (fun a w h => wp_seq (wp_skip (pass a w h)))
  rintro e a w ⟨rfl, hJ⟩
  refine wp_seq (wp_label ?_)
  refine Code.wp_mono ?_ (pass a w hJ)
  intro e a w h
  cases e <;> first | exact h | exact ⟨h.1, h.2.1⟩
theorem make_room {P : Program} {t e : TypeId} {z : Value} {bytes : Nat} (ht : P.underlying t = some (.slice e)) (hi : (P.info? e).map (fun i => (i.zero, i.size, i.bytes)) = some (some z, 1, bytes)) (hz : z.cells = #[z])
    (kl kc : IntKind) (n : Nat) (hb : bytes * n ≤ 281474976710656) (h63 : n ≤ 9223372036854775807) (W : World) :
    (Instr.makeSlice t (.int kl 0) (.int kc (n : Int))).run P W = .ok (.slice (some ⟨W.heap.size, 0, none⟩) 0 n) (W.alloc (.cells (List.replicate n z).toArray e)) := by
  obtain ⟨i, hi, h1, h2, h3⟩ := info_parts hi
  have hr := run_make (P := P) W t e i z ht hi h1 kl kc 0 n (by omega) (by omega) (by rw [h3, ← Int.natCast_mul]; omega) (by omega)
  rw [Int.toNat_natCast, h2, Nat.mul_one, madeCells_one z hz] at hr
  exact hr
theorem own_room {w : World} {g n base : Nat} {z : Value} {e : TypeId} (hb : base ≤ g) (hn : n ≤ maxLen) (h : w.heap[g]? = some (.cells (Array.replicate n z) e (0, 0))) : w.ownsRow base e 1 (.slice (some ⟨g, 0, none⟩) 0 n) 0 [] :=
  ⟨rfl, .inr ⟨g, n, _, rfl, hb, h, Nat.zero_le _, hn, by simp, by simp⟩⟩
/-- a block's cells from r on, as a slice -/
theorem sl_from {W : World} {g r : Nat} {x : List UInt8} {t : TypeId} {fr : Nat × Nat} (hx : x.length = 16) (hr : r < 16) (hk : W.heap[g]? = some (.cells (x.map bv).toArray t fr)) : Sl W (some (cutA ⟨g, 0, none⟩ 16 r)) (16 - r) (x.drop r) := by
  have h := sl_cut (sl_row hx (by omega) hk) (k := r) (by omega)
  have e : cutS (some ⟨g, 0, none⟩) 16 r = some (cutA ⟨g, 0, none⟩ 16 r) := by
    unfold cutS cutA; split <;> rfl
  rw [e] at h
  exact h
theorem i16c (l : List UInt8) (h : l.length = 16) : (Tryz.prog.info? 64).map (·.size) = some (l.map bv).length := by rw [List.length_map, h]; exact i16B
/-- what enciphers, as calls see it -/
def Enc (w : World) (kp : Value) (E : List UInt8 → List UInt8) : Prop :=
  (∀ x, x.length = 16 → (E x).length = 16) ∧ ∀ W, Below w.heap.size w W → ∀ x, x.length = 16 → Calls Tryz.prog 67 #[kp, .agg (x.map bv).toArray] W fun e w' => e = .returned (.agg ((E x).map bv).toArray) ∧ Below W.heap.size W w'
theorem Enc.ext {w w' : World} {kp : Value} {E : List UInt8 → List UInt8} (h : Enc w kp E) (hb : Below w.heap.size w w') : Enc w' kp E := ⟨h.1, fun W hW x hx => h.2 W (hb.step hW) x hx⟩
theorem KeyAt.enc {w : World} {g n : Nat} {ws : List W32} (h : KeyAt w g ws n) (hn : 1 ≤ n) (hn2 : n ≤ 14) : Enc w (.pointer (some ⟨g, 0, none⟩)) (encL ws n) :=
  ⟨fun x hx => by rw [encL, encT, outL_len, addW_len _ _ _ (shiftW_len _ _) (by have := h.1; omega)], fun W hW x hx => enc_any g n ws x W hx hn hn2 (h.ext hW)⟩
theorem enc_nil (w : World) : Enc w (.pointer none) (fun _ => List.replicate 16 0) :=
  ⟨fun _ _ => by simp, fun W _ x hx => enc_none _ x W hx (fun W' _ => rounds_nil W')⟩
/-- the stream of what enciphers, and an iv -/
def strmF (E : List UInt8 → List UInt8) (iv : List UInt8) : Nat → UInt8 := blkF fun i => E (countL iv i)
theorem c_left {n j m t : Nat} (h : m = n - j ∧ j ≤ n) (h2 : t ≤ m) : Hid (m - t = n - (j + t) ∧ j + t ≤ n) := by
  show _ ∧ _; omega
set_option maxHeartbeats 4000000 in
theorem ctrc_any (kp : Value) (E : List UInt8 → List UInt8) (iv : List UInt8) (p : Nat) (A : Option Addr) (n c : Nat) (bs : List UInt8) (w : World) (hiv : iv.length = 16) (hE : Enc w kp E) (hl : bs.length = n) (hn : p + n ≤ 2147483647) (hS : Sl w A c bs) :
    Calls Tryz.prog 57 #[kp, .agg (iv.map bv).toArray, .int .i64 (p : Int), .slice A n c] w fun e w' => ∃ v, e = .returned v ∧ w'.ownsRow w.heap.size 5 1 v n ((ctrL (strmF E iv) p bs).map bv) ∧ Below w.heap.size w w' := by
  have hz : ∀ W, (zeroValue 64).run Tryz.prog W = .ok (.agg zeros16.toArray) W := fun W => by kernel_rfl
  have HZL : Hid (zeros16.length = 16) := rfl
  generalize zeros16 = Z at hz HZL
  have HIV := Lib.hid hiv; have HE := Lib.hid hE; have HL := Lib.hid hl; have HS := Lib.hid hS; have HN := Lib.hid hn
  have STEP : Hid (∀ j m, j ≤ n → m = min (n - j) (16 - (p + j) % 16) → ctrL (strmF E iv) p (bs.take j) ++ xorL (bs.drop j) ((E (countL iv ((p + j) / 16))).drop ((p + j) % 16)) = ctrL (strmF E iv) p (bs.take (j + m))) := fun j m h1 h2 => ctr_step (fun i => E (countL iv i)) p j m bs (hE.1 _ (countL_len _ _)) (by omega) (by omega)
  have ST0 : Hid (ctrL (strmF E iv) p (bs.take 0) = []) := by show _ = _; rw [List.take_zero]; rfl
  have STN : Hid (ctrL (strmF E iv) p (bs.take n) = ctrL (strmF E iv) p bs) := by show _ = _; rw [List.take_of_length_le (by omega)]
  have hmk := make_room (P := Tryz.prog) uT made8 rfl .i64 .i64 n (by omega) (by omega) (w.alloc (.cells (iv.map bv).toArray 64))
  have hn31 : n ≤ 2147483647 := by omega
  have HMX : Hid (n ≤ maxLen) := by show _ ≤ _; simp [maxLen]; omega
  clear hiv hE hl hn hS
  obtain ⟨q, HQ⟩ : ∃ q, Hid (w.heap.size = q) := ⟨_, rfl⟩
  generalize ctrL (strmF E iv) p = CT at STEP ST0 STN ⊢
  go_enter Tryz.func57, Tryz.ntmps57
  go_wp2
  have G := heap2 w (.cells (iv.map bv).toArray 64) (.cells (Array.replicate n (Value.int .u8 0)) 5)
  obtain ⟨J, HJ0⟩ : ∃ J : Act → World → Prop, Hid (J = fun a' w' => ∃ (j s : Nat) (A' : Option Addr) (m c' : Nat) (v9 u4 u6 u7 u8 u10 u11 u12 u13 u14 u15 u16 u17 u18 u19 u20 u21 u22 u23 u24 u25 u26 u27 u28 u29 u30 u31 u32 u33 u34 u35 u36 u37 u38 u39 u40 u41 : Value),
      a' = { tmps := #[kp, .agg (iv.map bv).toArray, .int .i64 (s : Int), .slice A' m c', u4, .pointer (some ⟨q, 0, none⟩), u6, u7, u8, v9, u10, u11, u12, u13, u14, u15, u16, u17, u18, u19, u20, u21, u22, u23, u24, u25, u26, u27, u28, u29, u30, u31, u32, u33, u34, u35, u36, u37, u38, u39, u40, u41], defers := [] } ∧
      Hid (s = p + j) ∧ Hid (m = n - j ∧ j ≤ n) ∧ Hid (Sl w A' c' (bs.drop j)) ∧ Hid (Below w.heap.size w w') ∧ Hid (w'.heap[q]? = some (.cells (iv.map bv).toArray 64 (0, 0))) ∧
      Hid (w'.ownsRow (q + 1) 5 1 v9 j ((CT (bs.take j)).map bv))) := ⟨_, rfl⟩
  rw [HQ.out]
  refine c_scope_label 0 J (fun a' _ => (sliceLen (a'.tmps.getD 3 undef))) rfl ?first ?pass
  case first =>
    go_wp2
    rw [HJ0.out]
    refine ⟨0, p, A, n, c, _, _, _, _, _, _, _, _, _, _, _, _, _, _, _, _, _, _, _, _, _, _, _, _, _, _, _, _, _, _, _, _, _, _, _, _, _, rfl, ?_, ?_, HS, ?_, ?_, ?_⟩
    · exact rfl
    · show _ ∧ _; omega
    · exact G.2.2
    · show _ = _; rw [← HQ.out]; exact G.1
    · show World.ownsRow _ _ _ _ _ _ _; rw [ST0.out]; exact own_room (by have := HQ.out; omega) HMX.out G.2.1
  case pass =>
    clear G hmk
    intro a' w' hJ'
    rw [HJ0.out] at hJ'
    obtain ⟨j, s, A', m, c', v9, u4, u6, u7, u8, u10, u11, u12, u13, u14, u15, u16, u17, u18, u19, u20, u21, u22, u23, u24, u25, u26, u27, u28, u29, u30, u31, u32, u33, u34, u35, u36, u37, u38, u39, u40, u41, rfl, HSJ, HJ, HA, HB, H0, HO⟩ := hJ'
    have hdl : (bs.drop j).length = m := by have h1 := HL.out; have h2 := HJ.out; rw [List.length_drop]; omega
    by_cases hm : 0 < m
    · have e1 : (0 : Int) < (m : Int) := by omega
      obtain ⟨k, hk⟩ : ∃ k, k = s / 16 := ⟨_, rfl⟩
      obtain ⟨r, hr⟩ : ∃ r, r = s % 16 := ⟨_, rfl⟩
      obtain ⟨t, ht⟩ : ∃ t, t = min m (16 - r) := ⟨_, rfl⟩
      have u1 : (s : Int) / 16 = (k : Int) := by omega
      have u2 : (s : Int) % 16 = (r : Int) := by omega
      have hks : k < 18446744073709551616 := by have h1 := HSJ.out; have h2 := HJ.out; have h3 := HN.out; omega
      have hs31 : s ≤ 2147483647 := by have h1 := HSJ.out; have h2 := HJ.out; have h3 := HN.out; omega
      have hm31 : m ≤ 2147483647 := by have h2 := HJ.out; omega
      have hk31 : k ≤ 2147483647 := by omega
      have hr16 : r < 16 := by omega
      have hjt : Hid (j + t ≤ 2147483647) := by have h1 := HSJ.out; have h2 := HJ.out; have h3 := HN.out; show _ ≤ _; omega
      have HST := Lib.hid (STEP.out j t HJ.out.2 (by have h1 := HSJ.out; have h2 := HJ.out; rw [← h1, ← hr]; omega))
      rw [← HSJ.out, ← hk, ← hr] at HST
      have HT := Lib.hid ht
      have ht16 : Hid (t ≤ m ∧ t ≤ 16 ∧ 0 < t ∧ 0 < m) := by show _ ∧ _ ∧ _ ∧ _; omega
      have hcut := cut_from uT s8 A' m c' .i64 (t : Int) (by omega) (by omega)
      rw [Int.toNat_natCast] at hcut
      obtain ⟨X, hX⟩ : ∃ X, X = bs.drop j := ⟨_, rfl⟩
      rw [← hX] at HST
      have HXL : Hid (X.length = m) := by show _ = _; rw [hX]; exact hdl
      have HXS : Hid (Sl w A' c' X) := by show Sl _ _ _ _; rw [hX]; exact HA.out
      have HCL := Lib.hid (countL_len iv k)
      have HC := Lib.hid (fun W => count_any iv k W HIV.out hks)
      generalize countL iv k = CB at HST HCL HC
      have HEL := Lib.hid (HE.out.1 CB HCL.out)
      have HEC := Lib.hid (fun W hW => HE.out.2 W hW CB HCL.out)
      generalize E CB = EB at HST HEL HEC
      clear hX hdl ht hk hr
      go_wp2_with (first
        | (refine wpList_ld rfl 64 (.tmp 5) rfl (load_arr arr16B rfl (i16c iv HIV.out) H0.out) ?_)
        | fail)
      refine (HC.out w').mono ?_
      rintro e w1 ⟨rfl, hb1⟩
      have B1 := Lib.hid (HB.out.step hb1)
      have O1 := Lib.hid (c_own_below HO.out hb1)
      have I1 := Lib.hid ((hb1.block _ (lt_of_heap H0.out)).trans H0.out)
      clear hb1 HC
      go_wp2_with fail
      refine (HEC.out w1 B1.out).mono ?_
      rintro e w2 ⟨rfl, hb2⟩
      have B2 := Lib.hid (B1.out.step hb2)
      have O2 := Lib.hid (c_own_below O1.out hb2)
      have I2 := Lib.hid ((hb2.block _ (lt_of_heap I1.out)).trans I1.out)
      clear hb2 B1 O1 I1 HEC
      have sl := arr_from arr16B s8 ⟨w2.heap.size, 0, none⟩ .i64 (r : Int) (by omega) (by omega)
      rw [Int.toNat_natCast] at sl
      go_wp2_with (first
        | (refine wpList_st rfl 64 (.tmp 10) (.tmp 24) rfl (store_arr (cs := EB.map bv) (old := Z) (i16c EB HEL.out) (bv_one _) (heap_alloc_new' w2 _) (by rw [List.length_map, HEL.out, HZL.out])) ?_
           generalize hV : World.setRow _ _ _ = W3
           have M3 := Lib.hid (heap_of_setRow hV (heap_alloc_new' w2 _))
           have MB := Lib.hid (((Below.refl w2.heap.size w2).alloc (Nat.le_refl _) _).trans (below_of_setRow hV (Nat.le_refl w2.heap.size) (by simp)))
           clear hV)
        | fail)
      have B3 := Lib.hid (B2.out.step MB.out)
      have O3 := Lib.hid (c_own_below O2.out MB.out)
      have I3 := Lib.hid ((MB.out.block _ (lt_of_heap I2.out)).trans I2.out)
      clear MB B2 O2 I2
      generalize w2.heap.size = g10 at M3 ⊢
      refine (xor_n A' (some (cutA ⟨g10, 0, none⟩ 16 r)) m (16 - r) t c' (16 - r) X (EB.drop r) W3 HXL.out (by rw [List.length_drop, HEL.out]) HT.out.symm (HXS.out.below B3.out) (sl_from HEL.out hr16 M3.out) hm31 (by omega)).mono ?_
      rintro e w4 ⟨g3, hg3, rfl, hk3, hb4⟩
      have B4 := Lib.hid (B3.out.step hb4)
      have O4 := Lib.hid (c_own_below O3.out hb4)
      have I4 := Lib.hid ((hb4.block _ (lt_of_heap I3.out)).trans I3.out)
      have R4 := Lib.hid (row_of_heap hk3 (Nat.lt_succ_self g3))
      have XL : Hid ((xorL X (EB.drop r)).length = t) := by show _ = _; rw [xorL_len, List.length_drop, HEL.out, HXL.out, HT.out]
      generalize xorL X (EB.drop r) = XR at HST R4 XL
      clear hb4 hk3 hg3 B3 O3 I3
      have hq4 : Hid (q + 1 ≤ w4.heap.size) := lt_of_heap I4.out
      go_wp2_with (
        at_builtin
        refine wpList_app8 rfl (.tmp 30) (.tmp 31) rfl (q + 1) v9 j (CT (bs.take j)) rfl O4.out (some ⟨g3, 0, none⟩) t t (g3 + 1) XR rfl R4.out XL.out hjt.out hq4.out ?_
        rintro v5 w5 hown hgr
        rw [HST.out] at hown
        have O5 := Lib.hid hown
        have B5 := Lib.hid (B4.out.grown hgr (by have := hq4.out; have := HQ.out; omega) (c_own_ge O4.out (by have := HQ.out; omega)))
        have I5 := Lib.hid ((hgr.block _ (lt_of_heap I4.out) (c_own_ne O4.out (Nat.lt_succ_self q))).trans I4.out)
        clear hown hgr)
      go_step3
      have hA := sl_cut HA.out (k := t) (by have h1 := HL.out; have h2 := HJ.out; have h3 := ht16.out; rw [List.length_drop]; omega)
      rw [List.drop_drop] at hA
      have hwr : wrap64 ((s : Int) + (t : Int)) = ((s + t : Nat) : Int) := by have h1 := HSJ.out; have h2 := HJ.out; have h3 := HN.out; have h4 := ht16.out; rw [wrap64]; omega
      refine ⟨rfl, c_hid_mp HJ0 ⟨j + t, s + t, cutS A' c' t, m - t, c' - t, v5, _, _, _, _, _, _, _, _, _, _, _, _, _, _, _, _, _, _, _, _, _, _, _, _, _, _, _, _, _, _, _, _, _, _, _, _, by rw [hwr], ?_, ?_, ?_, B5, I5, O5⟩, ?_⟩
      · have h1 := HSJ.out; show _ = _; omega
      · exact c_left HJ.out ht16.out.1
      · exact hA
      · exact Nat.sub_lt ht16.out.2.2.2 ht16.out.2.2.1
    · have hj : j = n := by have h2 := HJ.out; omega
      have e1 : ¬ ((0 : Int) < (m : Int)) := by omega
      rw [hj, STN.out] at HO
      clear hdl
      go_wp2_with fail
      simp only [Exit.jump]
      go_ret
      exact ⟨_, rfl, own_mono HO.out (by have := HQ.out; omega), HB.out⟩
set_option maxHeartbeats 1000000 in
theorem Crypt_any (kp : Value) (E : List UInt8 → List UInt8) (iv : List UInt8) (A : Option Addr) (n c : Nat) (bs : List UInt8) (w : World) (hiv : iv.length = 16) (hE : Enc w kp E) (hl : bs.length = n) (hn : n ≤ 2147483647) (hS : Sl w A c bs) :
    Calls Tryz.prog 35 #[kp, .agg (iv.map bv).toArray, .slice A n c] w fun e w' => ∃ v, e = .returned v ∧ w'.ownsRow w.heap.size 5 1 v n ((ctrL (strmF E iv) 0 bs).map bv) ∧ Below w.heap.size w w' := by
  have HIV := Lib.hid hiv
  have hB0 : Below w.heap.size w (w.alloc (.cells (iv.map bv).toArray 64)) := (Below.refl _ _).alloc (Nat.le_refl _) _
  have HC := Lib.hid (ctrc_any kp E iv 0 A n c bs (w.alloc (.cells (iv.map bv).toArray 64)) hiv (hE.ext hB0) hl (by omega) (hS.below hB0))
  have HB0 := Lib.hid hB0
  clear hiv hE hl hS hB0
  generalize ctrL (strmF E iv) 0 bs = R at HC ⊢
  go_enter Tryz.func35, Tryz.ntmps35
  go_wp2_with (first
    | (refine wpList_ld rfl 64 (.tmp 4) rfl (load_arr arr16B rfl (i16c iv HIV.out) (heap_alloc_new' w _)) ?_)
    | fail)
  refine HC.out.mono ?_
  rintro e w1 ⟨v, rfl, hO, hB⟩
  have HO := Lib.hid hO; have HB1 := Lib.hid (HB0.out.step hB)
  clear hO hB
  go_wp2_with fail
  go_ret
  exact ⟨_, rfl, own_mono HO.out (by simp), HB1.out⟩
end Go.Proofs.YtimgggpojbpfkaaGreatDoor

/- Several own rows of bytes, side by side, made and appended to in whatever order. -/
namespace Go.Proofs.YtimgggpojbpfkaaGreatDoor
open Go.RowKit
set_option linter.unusedVariables false
set_option linter.unusedSimpArgs false
set_option maxRecDepth 100000
/-- N rows: row i is made by operation b + s i, what it gets is appended by operation c + s i -/
structure Rows3 (B N b c s : Nat) (n : Nat → Nat) (bs : Nat → List UInt8) (L : Nat → Bool) (vs : Nat → Value) (W : World) : Prop where
  sz : B ≤ W.heap.size
  o : ∀ i, i < N → L (b + s * i) = true → L (c + s * i) = false → W.ownsRow B 5 1 (vs (b + s * i)) 0 (([] : List UInt8).map bv)
  p : ∀ i, i < N → L (c + s * i) = true → W.ownsRow B 5 1 (vs (c + s * i)) (n i) ((bs i).map bv)
  dn : ∀ i, i < N → L (c + s * i) = true → L (b + s * i) = true
  tw : ∀ i j, i < N → j < N → i ≠ j → L (b + s * i) = true → L (b + s * j) = true → Two (if L (c + s * i) = true then vs (c + s * i) else vs (b + s * i)) (if L (c + s * j) = true then vs (c + s * j) else vs (b + s * j))
theorem Rows3.cur {B N b c s : Nat} {n : Nat → Nat} {bs : Nat → List UInt8} {L : Nat → Bool} {vs : Nat → Value} {W : World} (H : Rows3 B N b c s n bs L vs W) {j : Nat} (hj : j < N) (hL : L (b + s * j) = true) :
    ∃ m l, W.ownsRow B 5 1 (if L (c + s * j) = true then vs (c + s * j) else vs (b + s * j)) m l := by
  by_cases h : L (c + s * j) = true
  · rw [if_pos h]; exact ⟨_, _, H.p j hj h⟩
  · rw [if_neg h]; exact ⟨_, _, H.o j hj hL (by simpa using h)⟩
/-- whatever else comes up -/
theorem Rows3.ext {B N b c s : Nat} {n : Nat → Nat} {bs : Nat → List UInt8} {L : Nat → Bool} {vs : Nat → Value} {W W' : World} (H : Rows3 B N b c s n bs L vs W) (k : Nat) (hkb : ∀ i, i < N → b + s * i ≠ k) (hkc : ∀ i, i < N → c + s * i ≠ k) (x : Value) (hb : Below W.heap.size W W') :
    Rows3 B N b c s n bs (fun j => if j = k then true else L j) (updv vs k x) W' := by
  have e1 : ∀ i, i < N → (if b + s * i = k then true else L (b + s * i)) = L (b + s * i) := fun i hi => if_neg (hkb i hi)
  have e2 : ∀ i, i < N → (if c + s * i = k then true else L (c + s * i)) = L (c + s * i) := fun i hi => if_neg (hkc i hi)
  have v1 : ∀ i, i < N → updv vs k x (b + s * i) = vs (b + s * i) := fun i hi => if_neg (hkb i hi)
  have v2 : ∀ i, i < N → updv vs k x (c + s * i) = vs (c + s * i) := fun i hi => if_neg (hkc i hi)
  refine ⟨Nat.le_trans H.sz hb.size, fun i hi h1 h2 => ?_, fun i hi h => ?_, fun i hi h => ?_, fun i j hi hj hij h1 h2 => ?_⟩
  · simp only [e1 i hi, e2 i hi] at h1 h2
    rw [v1 i hi]; exact c_own_below (H.o i hi h1 h2) hb
  · simp only [e2 i hi] at h
    rw [v2 i hi]; exact c_own_below (H.p i hi h) hb
  · simp only [e2 i hi] at h
    simp only [e1 i hi]; exact H.dn i hi h
  · simp only [e1 i hi, e1 j hj] at h1 h2
    simp only [e2 i hi, e2 j hj, v1 i hi, v1 j hj, v2 i hi, v2 j hj]
    exact H.tw i j hi hj hij h1 h2
/-- a row is made -/
theorem Rows3.mk1 {B N b c s : Nat} {n : Nat → Nat} {bs : Nat → List UInt8} {L : Nat → Bool} {vs : Nat → Value} {W : World} (H : Rows3 B N b c s n bs L vs W) (i : Nat) (hi : i < N) (hs : 0 < s) (hbc : ∀ j k, j < N → k < N → b + s * j ≠ c + s * k) (hL : L (b + s * i) = false) :
    Rows3 B N b c s n bs (fun j => if j = b + s * i then true else L j) (updv vs (b + s * i) (.slice (some ⟨W.heap.size, 0, none⟩) 0 0)) (W.alloc (.cells #[] 5)) := by
  have hb : Below W.heap.size W (W.alloc (.cells #[] 5)) := (Below.refl _ _).alloc (Nat.le_refl _) _
  have hLc : L (c + s * i) = false := by
    cases h : L (c + s * i) with
    | false => rfl
    | true => rw [H.dn i hi h] at hL; cases hL
  have hinj : ∀ j, j < N → j ≠ i → b + s * j ≠ b + s * i := fun j _ hji e => hji (Nat.eq_of_mul_eq_mul_left hs (by omega))
  have e2 : ∀ j, j < N → (if c + s * j = b + s * i then true else L (c + s * j)) = L (c + s * j) := fun j hj => if_neg (fun e => hbc i j hi hj e.symm)
  have v2 : ∀ j, j < N → updv vs (b + s * i) (.slice (some ⟨W.heap.size, 0, none⟩) 0 0) (c + s * j) = vs (c + s * j) := fun j hj => if_neg (fun e => hbc i j hi hj e.symm)
  have hnew : (W.alloc (.cells #[] 5)).ownsRow B 5 1 (.slice (some ⟨W.heap.size, 0, none⟩) 0 0) 0 (([] : List UInt8).map bv) :=
    ⟨rfl, .inr ⟨W.heap.size, 0, #[], rfl, H.sz, heap_alloc_new' W _, Nat.le_refl _, by simp [maxLen], rfl, rfl⟩⟩
  have htn : ∀ j, j < N → j ≠ i → L (b + s * j) = true → Two (.slice (some ⟨W.heap.size, 0, none⟩) 0 0) (if L (c + s * j) = true then vs (c + s * j) else vs (b + s * j)) := fun j hj hji h => by
    obtain ⟨m, l, hc⟩ := H.cur hj h
    intro x hx hy
    have := own_blk_lt hc hy
    have hx' : W.heap.size = x := by simpa [Value.ownBlock] using hx
    omega
  refine ⟨Nat.le_trans H.sz hb.size, fun j hj h1 h2 => ?_, fun j hj h => ?_, fun j hj h => ?_, fun j k hj hk hjk h1 h2 => ?_⟩
  · by_cases hji : j = i
    · subst hji
      simp only [updv, if_pos rfl]; exact hnew
    · have v1 : updv vs (b + s * i) (.slice (some ⟨W.heap.size, 0, none⟩) 0 0) (b + s * j) = vs (b + s * j) := if_neg (hinj j hj hji)
      have e1 : (if b + s * j = b + s * i then true else L (b + s * j)) = L (b + s * j) := if_neg (hinj j hj hji)
      simp only [e1, e2 j hj] at h1 h2
      rw [v1]; exact c_own_below (H.o j hj h1 h2) hb
  · simp only [e2 j hj] at h
    rw [v2 j hj]; exact c_own_below (H.p j hj h) hb
  · simp only [e2 j hj] at h
    have := H.dn j hj h
    simp [this]
  · simp only [e2 j hj, e2 k hk, v2 j hj, v2 k hk]
    by_cases hji : j = i
    · subst hji
      have hki : k ≠ j := fun e => hjk e.symm
      have e1 : (if b + s * k = b + s * j then true else L (b + s * k)) = L (b + s * k) := if_neg (hinj k hk hki)
      have v1 : updv vs (b + s * j) (.slice (some ⟨W.heap.size, 0, none⟩) 0 0) (b + s * k) = vs (b + s * k) := if_neg (hinj k hk hki)
      simp only [e1] at h2
      rw [if_neg (by rw [hLc]; decide), v1]
      simp only [updv, if_pos rfl]
      exact htn k hk hki h2
    · have e1 : (if b + s * j = b + s * i then true else L (b + s * j)) = L (b + s * j) := if_neg (hinj j hj hji)
      have v1 : updv vs (b + s * i) (.slice (some ⟨W.heap.size, 0, none⟩) 0 0) (b + s * j) = vs (b + s * j) := if_neg (hinj j hj hji)
      simp only [e1] at h1
      rw [v1]
      by_cases hki : k = i
      · subst hki
        rw [if_neg (show ¬ L (c + s * k) = true by rw [hLc]; decide)]
        simp only [updv, if_pos rfl]
        exact (htn j hj hji h1).symm
      · have e1' : (if b + s * k = b + s * i then true else L (b + s * k)) = L (b + s * k) := if_neg (hinj k hk hki)
        have v1' : updv vs (b + s * i) (.slice (some ⟨W.heap.size, 0, none⟩) 0 0) (b + s * k) = vs (b + s * k) := if_neg (hinj k hk hki)
        simp only [e1'] at h2
        rw [v1']
        exact H.tw j k hj hk hjk h1 h2
/-- a row gets its bytes -/
theorem Rows3.app {B N b c s : Nat} {n : Nat → Nat} {bs : Nat → List UInt8} {L : Nat → Bool} {vs : Nat → Value} {W W' : World} (H : Rows3 B N b c s n bs L vs W) (i : Nat) (hi : i < N) (hs : 0 < s) (hbc : ∀ j k, j < N → k < N → b + s * j ≠ c + s * k) (hL : L (c + s * i) = false) (hLb : L (b + s * i) = true)
    (v' : Value) (hown : W'.ownsRow B 5 1 v' (n i) ((bs i).map bv)) (hgr : W.grownBy W' (vs (b + s * i)).ownBlock) (hat : v'.ownBlock = (vs (b + s * i)).ownBlock ∨ v'.ownBlock = some W.heap.size) :
    Rows3 B N b c s n bs (fun j => if j = c + s * i then true else L j) (updv vs (c + s * i) v') W' := by
  have hinj : ∀ j, j < N → j ≠ i → c + s * j ≠ c + s * i := fun j _ hji e => hji (Nat.eq_of_mul_eq_mul_left hs (by omega))
  have e1 : ∀ j, j < N → (if b + s * j = c + s * i then true else L (b + s * j)) = L (b + s * j) := fun j hj => if_neg (hbc j i hj hi)
  have v1 : ∀ j, j < N → updv vs (c + s * i) v' (b + s * j) = vs (b + s * j) := fun j hj => if_neg (hbc j i hj hi)
  have htw : ∀ j, j < N → j ≠ i → L (b + s * j) = true → Two (vs (b + s * i)) (if L (c + s * j) = true then vs (c + s * j) else vs (b + s * j)) := fun j hj hji h => by
    have := H.tw i j hi hj (Ne.symm hji) hLb h
    rwa [if_neg (show ¬ L (c + s * i) = true by rw [hL]; decide)] at this
  have hown' : ∀ j, j < N → j ≠ i → ∀ h : L (b + s * j) = true, ∀ m l, W.ownsRow B 5 1 (if L (c + s * j) = true then vs (c + s * j) else vs (b + s * j)) m l → W'.ownsRow B 5 1 (if L (c + s * j) = true then vs (c + s * j) else vs (b + s * j)) m l :=
    fun j hj hji h m l ho => two_own ho hgr (htw j hj hji h)
  have htn : ∀ j, j < N → j ≠ i → L (b + s * j) = true → Two v' (if L (c + s * j) = true then vs (c + s * j) else vs (b + s * j)) := fun j hj hji h => by
    obtain ⟨m, l, ho⟩ := H.cur hj h
    exact two_step ho (htw j hj hji h) hat
  refine ⟨Nat.le_trans H.sz hgr.size, fun j hj h1 h2 => ?_, fun j hj h => ?_, fun j hj h => ?_, fun j k hj hk hjk h1 h2 => ?_⟩
  · simp only [e1 j hj] at h1
    by_cases hji : j = i
    · subst hji
      simp only [if_pos rfl] at h2
      cases h2
    · have e2 : (if c + s * j = c + s * i then true else L (c + s * j)) = L (c + s * j) := if_neg (hinj j hj hji)
      simp only [e2] at h2
      rw [v1 j hj]
      have := hown' j hj hji h1 0 _ (by rw [if_neg (by rw [h2]; decide)]; exact H.o j hj h1 h2)
      rwa [if_neg (by rw [h2]; decide)] at this
  · by_cases hji : j = i
    · subst hji
      simp only [updv, if_pos rfl]; exact hown
    · have e2 : (if c + s * j = c + s * i then true else L (c + s * j)) = L (c + s * j) := if_neg (hinj j hj hji)
      have v2 : updv vs (c + s * i) v' (c + s * j) = vs (c + s * j) := if_neg (hinj j hj hji)
      simp only [e2] at h
      rw [v2]
      have := hown' j hj hji (H.dn j hj h) _ _ (by rw [if_pos h]; exact H.p j hj h)
      rwa [if_pos h] at this
  · simp only [e1 j hj]
    by_cases hji : j = i
    · subst hji; exact hLb
    · have e2 : (if c + s * j = c + s * i then true else L (c + s * j)) = L (c + s * j) := if_neg (hinj j hj hji)
      simp only [e2] at h
      exact H.dn j hj h
  · simp only [e1 j hj, e1 k hk] at h1 h2
    simp only [v1 j hj, v1 k hk]
    by_cases hji : j = i
    · subst hji
      have hki : k ≠ j := fun e => hjk e.symm
      have e2 : (if c + s * k = c + s * j then true else L (c + s * k)) = L (c + s * k) := if_neg (hinj k hk hki)
      have v2 : updv vs (c + s * j) v' (c + s * k) = vs (c + s * k) := if_neg (hinj k hk hki)
      rw [if_pos (if_pos rfl), e2, v2]
      simp only [updv, if_pos rfl]
      exact htn k hk hki h2
    · have e2 : (if c + s * j = c + s * i then true else L (c + s * j)) = L (c + s * j) := if_neg (hinj j hj hji)
      have v2 : updv vs (c + s * i) v' (c + s * j) = vs (c + s * j) := if_neg (hinj j hj hji)
      rw [e2, v2]
      by_cases hki : k = i
      · subst hki
        rw [if_pos (if_pos rfl)]
        simp only [updv, if_pos rfl]
        exact (htn j hj hji h1).symm
      · have e2' : (if c + s * k = c + s * i then true else L (c + s * k)) = L (c + s * k) := if_neg (hinj k hk hki)
        have v2' : updv vs (c + s * i) v' (c + s * k) = vs (c + s * k) := if_neg (hinj k hk hki)
        rw [e2', v2']
        exact H.tw j k hj hk hjk h1 h2
end Go.Proofs.YtimgggpojbpfkaaGreatDoor

/- The laws' own functions of layer 12: of (params, copied). -/
namespace Go.Proofs.YtimgggpojbpfkaaGreatDoor
open Go.RowKit Go.Shelf
set_option linter.unusedVariables false
set_option linter.unusedSimpArgs false
set_option maxRecDepth 100000
theorem step_appAt {w : World} {ops : Array Oper} {o : Oper} {a : Act} {K : Act → World → Prop} {Q : Exit → Act → World → Prop} {E : Prop} (hg : o.guard = none) (s x : Operand)
    (ho : o.op = .call { callee := .builtin .append, args := #[s, x], argTypes := #[22, 22] }) (base : Nat) (v : Value) (n : Nat) (bs : List UInt8) (hs : a.eval s = v) (hown : w.ownsRow base 5 1 v n (bs.map bv))
    (A : Option Addr) (m c B : Nat) (news : List UInt8) (hx : a.eval x = .slice A m c) (hr : RowAt w B A (news.map bv)) (hm : news.length = m) (hk : n + m ≤ 2147483647) (hbase : base ≤ w.heap.size)
    (h : ∀ v' w', w'.ownsRow base 5 1 v' (n + m) ((bs ++ news).map bv) → w.grownBy w' v.ownBlock → (v'.ownBlock = v.ownBlock ∨ v'.ownBlock = some w.heap.size) → K (a.put o.dst v') w') :
    if Region.wanted o (yielded ops a.tmps) = true then Oper.wp Tryz.prog o a w K Q else E := by
  obtain ⟨v', w', hrun, h2, h3, h4⟩ := append_row_at (P := Tryz.prog) w base o.type uT made8 rfl v n _ hown B A m c _ hr (by simpa using hm) (bv_one news) (by omega) (by simp [maxLen]; omega) hbase
  exact step_app hg s x _ _ ho (by rw [hs, hx]; exact hrun) (h v' w' (by rw [List.map_append]; exact h2) h3 h4)
def ofPv (gP : Nat) (x : Int) (o : Bool) (Ak : Option Addr) (kn kc : Nat) (Ai : Option Addr) (vn ic : Nat) (Aa : Option Addr) (an ac : Nat) : Nat → Value → Prop
  | 0, v => v = .pointer (some ⟨gP, 0, none⟩)
  | 1, v => v = .int .i64 x
  | 2, v => v = .pointer (some ⟨gP, 1, none⟩)
  | 3, v => v = .bool o
  | 5, v => v = .pointer (some ⟨gP, 2, none⟩)
  | 6, v => v = .slice Ak kn kc
  | 9, v => v = .pointer (some ⟨gP, 3, none⟩)
  | 10, v => v = .slice Ai vn ic
  | 13, v => v = .pointer (some ⟨gP, 4, none⟩)
  | 14, v => v = .slice Aa an ac
  | _, _ => True
def of3 (a b c : Nat) : Nat → Nat
  | 0 => a | 1 => b | _ => c
def ofL3 (a b c : List UInt8) : Nat → List UInt8
  | 0 => a | 1 => b | _ => c
structure OfJ (pv : Nat → Value → Prop) (gP gR : Nat) (W1 : World) (ZP : List Value) (n : Nat → Nat) (bs : Nat → List UInt8) (L : Nat → Bool) (vs : Nat → Value) (W : World) : Prop where
  f : ∀ i, L i = true → pv i (vs i)
  b : Below (gP + 1) W1 W
  z : W.heap[gR]? = some (.cells ZP.toArray 28 (0, 0))
  r : Rows3 (gR + 1) 3 4 7 4 n bs L vs W
  d : L 16 = true → L 1 = true ∧ L 3 = true ∧ L 7 = true ∧ L 11 = true ∧ L 15 = true
  e : L 16 = true → vs 16 = .agg #[vs 1, vs 3, vs 7, vs 11, vs 15]
theorem OfJ.step {pv : Nat → Value → Prop} {gP gR : Nat} {W1 : World} {ZP : List Value} {n : Nat → Nat} {bs : Nat → List UInt8} {L : Nat → Bool} {vs : Nat → Value} {W : World} (H : OfJ pv gP gR W1 ZP n bs L vs W)
    (k : Nat) (hk : k < 16 ∧ (∀ i, i < 3 → 4 + 4 * i ≠ k) ∧ (∀ i, i < 3 → 7 + 4 * i ≠ k)) (hL : L k = false) (x : Value) (hx : pv k x) : OfJ pv gP gR W1 ZP n bs (fun j => if j = k then true else L j) (updv vs k x) W := by
  refine ⟨fun i hi => ?_, H.b, H.z, H.r.ext k hk.2.1 hk.2.2 x (Below.refl _ _), fun h => ?_, fun h => ?_⟩
  · unfold updv
    by_cases e : i = k
    · subst e; rw [if_pos rfl]; exact hx
    · rw [if_neg e]; rw [if_neg e] at hi; exact H.f i hi
  · have h16 : (16 : Nat) ≠ k := by omega
    rw [if_neg h16] at h
    obtain ⟨h1, h3, h7, h11, h15⟩ := H.d h
    simp [h1, h3, h7, h11, h15]
  · have h16 : (16 : Nat) ≠ k := by omega
    rw [if_neg h16] at h
    obtain ⟨h1, h3, h7, h11, h15⟩ := H.d h
    have n1 : (1 : Nat) ≠ k := fun e => by rw [← e, h1] at hL; cases hL
    have n3 : (3 : Nat) ≠ k := fun e => by rw [← e, h3] at hL; cases hL
    have n7 : (7 : Nat) ≠ k := fun e => by rw [← e, h7] at hL; cases hL
    have n11 : (11 : Nat) ≠ k := fun e => by rw [← e, h11] at hL; cases hL
    have n15 : (15 : Nat) ≠ k := fun e => by rw [← e, h15] at hL; cases hL
    simp only [updv, if_neg h16, if_neg n1, if_neg n3, if_neg n7, if_neg n11, if_neg n15]
    exact H.e h
theorem OfJ.own {pv : Nat → Value → Prop} {gP gR : Nat} {W1 : World} {ZP : List Value} {n : Nat → Nat} {bs : Nat → List UInt8} {L : Nat → Bool} {vs : Nat → Value} {W W' : World} (H : OfJ pv gP gR W1 ZP n bs L vs W) (hPR : gP < gR)
    (k : Nat) (hk : k = 4 ∨ k = 8 ∨ k = 12 ∨ k = 7 ∨ k = 11 ∨ k = 15) (hL : L k = false) (x : Value) (hx : pv k x) (hb : Below (gR + 1) W W') (hr : Rows3 (gR + 1) 3 4 7 4 n bs (fun j => if j = k then true else L j) (updv vs k x) W') (hbuild : k = 4 ∨ k = 8 ∨ k = 12 → L (k + 3) = false) :
    OfJ pv gP gR W1 ZP n bs (fun j => if j = k then true else L j) (updv vs k x) W' := by
  have h16L : L 16 = false := by
    cases h : L 16 with
    | false => rfl
    | true =>
      obtain ⟨h1, h3, h7, h11, h15⟩ := H.d h
      rcases hk with rfl | rfl | rfl | rfl | rfl | rfl
      · rw [hbuild (by simp)] at h7; cases h7
      · rw [hbuild (by simp)] at h11; cases h11
      · rw [hbuild (by simp)] at h15; cases h15
      · rw [h7] at hL; cases hL
      · rw [h11] at hL; cases hL
      · rw [h15] at hL; cases hL
  have hk16 : (16 : Nat) ≠ k := by omega
  refine ⟨fun i hi => ?_, H.b.trans (hb.mono (by omega)), (hb.block _ (by omega)).trans H.z, hr, fun h => ?_, fun h => ?_⟩
  · unfold updv
    by_cases e : i = k
    · subst e; rw [if_pos rfl]; exact hx
    · rw [if_neg e]; rw [if_neg e] at hi; exact H.f i hi
  · exact (upF h16L hk16 h).elim
  · exact (upF h16L hk16 h).elim
theorem OfJ.s16 {pv : Nat → Value → Prop} {gP gR : Nat} {W1 : World} {ZP : List Value} {n : Nat → Nat} {bs : Nat → List UInt8} {L : Nat → Bool} {vs : Nat → Value} {W : World} (H : OfJ pv gP gR W1 ZP n bs L vs W) (hp : ∀ v, pv 16 v)
    (hd : L 1 = true ∧ L 3 = true ∧ L 7 = true ∧ L 11 = true ∧ L 15 = true) : OfJ pv gP gR W1 ZP n bs (fun j => if j = 16 then true else L j) (updv vs 16 (.agg #[vs 1, vs 3, vs 7, vs 11, vs 15])) W := by
  refine ⟨fun i hi => ?_, H.b, H.z, H.r.ext 16 (fun i hi => by omega) (fun i hi => by omega) _ (Below.refl _ _), fun h => ?_, fun h => rfl⟩
  · unfold updv
    by_cases e : i = 16
    · subst e; exact hp _
    · rw [if_neg e]; rw [if_neg e] at hi; exact H.f i hi
  · simp [hd]
theorem OfJ.start {pv : Nat → Value → Prop} {gP gR : Nat} {W1 : World} {ZP : List Value} {n : Nat → Nat} {bs : Nat → List UInt8} {L : Nat → Bool} {vs : Nat → Value} (hL : ∀ j, j < 18 → L j = false) (h18 : ∀ j, 18 ≤ j → ∀ v, pv j v) (hz : W1.heap[gR]? = some (.cells ZP.toArray 28 (0, 0))) : OfJ pv gP gR W1 ZP n bs L vs W1.drew := by
  have no : ∀ j, j < 18 → L j = true → False := fun j hj h => by rw [hL j hj] at h; cases h
  exact ⟨fun i hi => by
    by_cases h : i < 18
    · exact (no i h hi).elim
    · exact h18 i (by omega) _, (Below.refl _ _).drew, hz, ⟨lt_of_heap hz, fun i hi h => (no _ (by omega) h).elim, fun i hi h => (no _ (by omega) h).elim, fun i hi h => (no _ (by omega) h).elim, fun i j hi hj hij h => (no _ (by omega) h).elim⟩, fun h => (no 16 (by decide) h).elim, fun h => (no 16 (by decide) h).elim⟩
theorem of_rest {L : Nat → Bool} {b c : Nat} {h : L c = true → L b = true} (hb : L b = false) : L c = false := by
  cases hc : L c with
  | false => rfl
  | true => rw [h hc] at hb; cases hb
def zeroPar : List Value := [.int .i64 0, .bool false, .slice none 0 0, .slice none 0 0, .slice none 0 0]
theorem bldP (x : Int) (o : Bool) (A1 A2 A3 : Option Addr) (n1 c1 n2 c2 n3 c3 : Nat) (W : World) : (Instr.build 28 #[(0, .int .i64 x), (1, .bool o), (2, .slice A1 n1 c1), (3, .slice A2 n2 c2), (4, .slice A3 n3 c3)]).run Tryz.prog W = .ok (.agg (parV x o A1 n1 c1 A2 n2 c2 A3 n3 c3).toArray) W := by kernel_rfl
set_option maxHeartbeats 8000000 in
theorem of_any (x : Int) (o : Bool) (Ak : Option Addr) (kn kc : Nat) (Ai : Option Addr) (vn ic : Nat) (Aa : Option Addr) (an ac : Nat) (key iv aad : List UInt8) (w : World) (hk : key.length = kn) (hi : iv.length = vn) (ha : aad.length = an) (k31 : kn ≤ 2147000000) (i31 : vn ≤ 2147000000) (a31 : an ≤ 2147000000)
    (S1 : Sl w Ak kc key) (S2 : Sl w Ai ic iv) (S3 : Sl w Aa ac aad) :
    Calls Tryz.prog 5 #[.agg (parV x o Ak kn kc Ai vn ic Aa an ac).toArray] w fun e w' => ∃ A1 c1 A2 c2 A3 c3, e = .returned (.agg (parV x o A1 kn c1 A2 vn c2 A3 an c3).toArray) ∧ Sl w' A1 c1 key ∧ Sl w' A2 c2 iv ∧ Sl w' A3 c3 aad ∧ Below w.heap.size w w' := by
  have hzp : ∀ W, (zeroValue 28).run Tryz.prog W = .ok (.agg zeroPar.toArray) W := fun W => by kernel_rfl
  have HK := Lib.hid hk; have HI := Lib.hid hi; have HA := Lib.hid ha
  have HS1 := Lib.hid S1; have HS2 := Lib.hid S2; have HS3 := Lib.hid S3
  have PC := Lib.hid (fun (W : World) (g : Nat) (t : TypeId) (fr : Nat × Nat) (h : W.heap[g]? = some (.cells (parV x o Ak kn kc Ai vn ic Aa an ac).toArray t fr)) => par_cells h)
  have hzl : Hid (zeroPar.length = 5) := rfl
  generalize zeroPar = ZP at hzp hzl
  generalize parV x o Ak kn kc Ai vn ic Aa an ac = PV at PC ⊢
  clear hk hi ha S1 S2 S3
  have k0 : 0 + kn ≤ 2147483647 := by omega
  have i0 : 0 + vn ≤ 2147483647 := by omega
  have a0 : 0 + an ≤ 2147483647 := by omega
  go_enter Tryz.func5, Tryz.ntmps5
  go_upto_region 1 with (fail)
  have HH := heap2K w (.cells PV.toArray 24) (.cells ZP.toArray 28)
  have hsz : ((w.alloc (.cells PV.toArray 24)).alloc (.cells ZP.toArray 28)).heap.size = w.heap.size + 2 := by simp
  generalize hV : (w.alloc _).alloc _ = W1 at HH hsz ⊢
  obtain ⟨gP, hgP⟩ : ∃ g, w.heap.size = g := ⟨_, rfl⟩
  have HGP := Lib.hid hgP
  rw [hgP] at HH hsz ⊢
  obtain ⟨gR, hgR⟩ : ∃ g, gP + 1 = g := ⟨_, rfl⟩
  rw [hgR] at HH ⊢
  have R1 := Lib.hid HH.1; have R2 := Lib.hid HH.2.1; have B1 := Lib.hid HH.2.2
  have HSZ := Lib.hid hsz
  clear hV HH hsz hgP
  have PCx : ∀ W, Below (gP + 1) W1 W → W.cell? ⟨gP, 0, none⟩ = some (.int .i64 x) ∧ W.cell? ⟨gP, 1, none⟩ = some (.bool o) ∧ W.cell? ⟨gP, 2, none⟩ = some (.slice Ak kn kc) ∧ W.cell? ⟨gP, 3, none⟩ = some (.slice Ai vn ic) ∧ W.cell? ⟨gP, 4, none⟩ = some (.slice Aa an ac) :=
    fun W hW => PC.out W gP _ _ ((hW.block gP (by omega)).trans R1.out)
  have HPC := Lib.hid PCx
  have HSx : Hid (∀ W, Below (gP + 1) W1 W → Sl W Ak kc key ∧ Sl W Ai ic iv ∧ Sl W Aa ac aad) := fun W hW => by
    have h1 : Below gP w W := (show Below gP w W1 from B1.out).trans (hW.mono (by omega))
    have h2 : Below w.heap.size w W := by rw [HGP.out]; exact h1
    exact ⟨HS1.out.below h2, HS2.out.below h2, HS3.out.below h2⟩
  have hb16 : ∀ j k : Nat, j < 3 → k < 3 → 4 + 4 * j ≠ 7 + 4 * k := fun j k _ _ => by omega
  have HB16 := Lib.hid hb16
  clear PCx hb16 PC
  refine reg_inv (fun L a W => ∃ vs : Nat → Value, a = { tmps := #[.agg PV.toArray, .pointer (some ⟨gP, 0, none⟩), .pointer (some ⟨gR, 0, none⟩), vs 0, vs 1, vs 2, vs 3, vs 4, vs 5, vs 6, vs 7, vs 8, vs 9, vs 10, vs 11, vs 12, vs 13, vs 14, vs 15, vs 16], defers := [] } ∧
      (L 17 = true → ∀ i, i < 17 → L i = true) ∧ (L 17 = false → OfJ (ofPv gP x o Ak kn kc Ai vn ic Aa an ac) gP gR W1 ZP (of3 kn vn an) (ofL3 key iv aad) L vs W) ∧
      (L 17 = true → ∃ (A1 A2 A3 : Option Addr) (c1 c2 c3 : Nat) (Wm : World), Sl Wm A1 c1 key ∧ Sl Wm A2 c2 iv ∧ Sl Wm A3 c3 aad ∧ (∀ b o x, A1 = some ⟨b, o, x⟩ → gR < b) ∧ (∀ b o x, A2 = some ⟨b, o, x⟩ → gR < b) ∧ (∀ b o x, A3 = some ⟨b, o, x⟩ → gR < b) ∧ Below (gP + 1) W1 Wm ∧ Wm.heap[gR]? = some (.cells ZP.toArray 28 (0, 0)) ∧
        W = Wm.setRow gR (parV x o A1 kn c1 A2 vn c2 A3 an c3).toArray)) (by kernel_rfl) (by kernel_rfl) ?_
    (And.intro ?_ (And.intro ?_ (And.intro ?_ (And.intro ?_ (And.intro ?_ (And.intro ?_ (And.intro ?_ (And.intro ?_ (And.intro ?_ (And.intro ?_ (And.intro ?_ (And.intro ?_ (And.intro ?_ (And.intro ?_ (And.intro ?_ (And.intro ?_ (And.intro ?_ (And.intro ?_ trivial)))))))))))))))))) ?_
  · intro L hL
    exact ⟨fun _ => undef, rfl, fun h => (by rw [hL 17 (by decide)] at h; cases h), fun _ => OfJ.start hL (fun j hj v => by
      unfold ofPv
      split <;> first | omega | trivial) R2.out, fun h => (by rw [hL 17 (by decide)] at h; cases h)⟩
  · rintro L a W ⟨vs, rfl, D17, H, _⟩ hLi hd K0 hK
    have h17 : L 17 = false := of_rest (b := 0) (h := fun h => D17 h 0 (by omega)) hLi
    have H := H h17
    go_simp
    exact hK.out _ _ ⟨_, rfl, fun h => (upF h17 (by decide) h).elim, fun _ => H.step 0 ⟨by omega, fun i hi => by omega, fun i hi => by omega⟩ hLi _ rfl, fun h => (upF h17 (by decide) h).elim⟩
  · rintro L a W ⟨vs, rfl, D17, H, _⟩ hLi hd K0 hK
    have h17 : L 17 = false := of_rest (b := 1) (h := fun h => D17 h 1 (by omega)) hLi
    have H := H h17
    have e0 : vs 0 = _ := H.f 0 (hd ⟨0, .data⟩ (by simp) rfl)
    have hcell := (HPC.out W H.b).1
    simp only [e0]
    go_simp
    exact hK.out _ _ ⟨updv vs 1 _, by rw [← e0]; rfl, fun h => (upF h17 (by decide) h).elim, fun _ => H.step 1 ⟨by omega, fun i hi => by omega, fun i hi => by omega⟩ hLi _ rfl, fun h => (upF h17 (by decide) h).elim⟩
  · rintro L a W ⟨vs, rfl, D17, H, _⟩ hLi hd K0 hK
    have h17 : L 17 = false := of_rest (b := 2) (h := fun h => D17 h 2 (by omega)) hLi
    have H := H h17
    go_simp
    exact hK.out _ _ ⟨_, rfl, fun h => (upF h17 (by decide) h).elim, fun _ => H.step 2 ⟨by omega, fun i hi => by omega, fun i hi => by omega⟩ hLi _ rfl, fun h => (upF h17 (by decide) h).elim⟩
  · rintro L a W ⟨vs, rfl, D17, H, _⟩ hLi hd K0 hK
    have h17 : L 17 = false := of_rest (b := 3) (h := fun h => D17 h 3 (by omega)) hLi
    have H := H h17
    have e0 : vs 2 = _ := H.f 2 (hd ⟨2, .data⟩ (by simp) rfl)
    have hcell := (HPC.out W H.b).2.1
    simp only [e0]
    go_simp
    exact hK.out _ _ ⟨updv vs 3 _, by rw [← e0]; rfl, fun h => (upF h17 (by decide) h).elim, fun _ => H.step 3 ⟨by omega, fun i hi => by omega, fun i hi => by omega⟩ hLi _ rfl, fun h => (upF h17 (by decide) h).elim⟩
  · rintro L a W ⟨vs, rfl, D17, H, _⟩ hLi hd K0 hK
    have h17 : L 17 = false := of_rest (b := 4) (h := fun h => D17 h 4 (by omega)) hLi
    have H := H h17
    have hc : L 7 = false := of_rest (b := 4) (h := fun h => H.r.dn 0 (by omega) h) hLi
    go_simp
    exact hK.out _ _ ⟨_, rfl, fun h => (upF h17 (by decide) h).elim, fun _ => H.own (by omega) 4 (by omega) hLi _ trivial ((Below.refl _ _).alloc H.r.sz _) (H.r.mk1 0 (by omega) (by omega) HB16.out hLi) (fun _ => hc), fun h => (upF h17 (by decide) h).elim⟩
  · rintro L a W ⟨vs, rfl, D17, H, _⟩ hLi hd K0 hK
    have h17 : L 17 = false := of_rest (b := 5) (h := fun h => D17 h 5 (by omega)) hLi
    have H := H h17
    go_simp
    exact hK.out _ _ ⟨_, rfl, fun h => (upF h17 (by decide) h).elim, fun _ => H.step 5 ⟨by omega, fun i hi => by omega, fun i hi => by omega⟩ hLi _ rfl, fun h => (upF h17 (by decide) h).elim⟩
  · rintro L a W ⟨vs, rfl, D17, H, _⟩ hLi hd K0 hK
    have h17 : L 17 = false := of_rest (b := 6) (h := fun h => D17 h 6 (by omega)) hLi
    have H := H h17
    have e0 : vs 5 = _ := H.f 5 (hd ⟨5, .data⟩ (by simp) rfl)
    have hcell := (HPC.out W H.b).2.2.1
    simp only [e0]
    go_simp
    exact hK.out _ _ ⟨updv vs 6 _, by rw [← e0]; rfl, fun h => (upF h17 (by decide) h).elim, fun _ => H.step 6 ⟨by omega, fun i hi => by omega, fun i hi => by omega⟩ hLi _ rfl, fun h => (upF h17 (by decide) h).elim⟩
  · rintro L a W ⟨vs, rfl, D17, H, _⟩ hLi hd K0 hK
    have h17 : L 17 = false := of_rest (b := 7) (h := fun h => D17 h 7 (by omega)) hLi
    have H := H h17
    have e0 : vs 6 = _ := H.f 6 (hd ⟨6, .data⟩ (by simp) rfl)
    have hbd := hd ⟨4, .data⟩ (by simp) rfl
    have ho := H.r.o 0 (by omega) hbd hLi
    refine step_appAt rfl (.tmp 7) (.tmp 9) rfl (gR + 1) (vs 4) 0 [] rfl ho Ak kn kc W.heap.size key e0 (HSx.out W H.b).1.2.2 HK.out k0 H.r.sz ?_
    intro v' w' hown hgr hat
    rw [List.nil_append, Nat.zero_add] at hown
    exact hK.out _ _ ⟨updv vs 7 v', rfl, fun h => (upF h17 (by decide) h).elim, fun _ => H.own (by omega) 7 (by omega) hLi v' trivial ((Below.refl _ _).grown hgr H.r.sz (c_own_ge ho (Nat.le_refl _))) (H.r.app 0 (by omega) (by omega) HB16.out hLi hbd v' hown hgr hat) (fun h => by omega), fun h => (upF h17 (by decide) h).elim⟩
  · rintro L a W ⟨vs, rfl, D17, H, _⟩ hLi hd K0 hK
    have h17 : L 17 = false := of_rest (b := 8) (h := fun h => D17 h 8 (by omega)) hLi
    have H := H h17
    have hc : L 11 = false := of_rest (b := 8) (h := fun h => H.r.dn 1 (by omega) h) hLi
    go_simp
    exact hK.out _ _ ⟨_, rfl, fun h => (upF h17 (by decide) h).elim, fun _ => H.own (by omega) 8 (by omega) hLi _ trivial ((Below.refl _ _).alloc H.r.sz _) (H.r.mk1 1 (by omega) (by omega) HB16.out hLi) (fun _ => hc), fun h => (upF h17 (by decide) h).elim⟩
  · rintro L a W ⟨vs, rfl, D17, H, _⟩ hLi hd K0 hK
    have h17 : L 17 = false := of_rest (b := 9) (h := fun h => D17 h 9 (by omega)) hLi
    have H := H h17
    go_simp
    exact hK.out _ _ ⟨_, rfl, fun h => (upF h17 (by decide) h).elim, fun _ => H.step 9 ⟨by omega, fun i hi => by omega, fun i hi => by omega⟩ hLi _ rfl, fun h => (upF h17 (by decide) h).elim⟩
  · rintro L a W ⟨vs, rfl, D17, H, _⟩ hLi hd K0 hK
    have h17 : L 17 = false := of_rest (b := 10) (h := fun h => D17 h 10 (by omega)) hLi
    have H := H h17
    have e0 : vs 9 = _ := H.f 9 (hd ⟨9, .data⟩ (by simp) rfl)
    have hcell := (HPC.out W H.b).2.2.2.1
    simp only [e0]
    go_simp
    exact hK.out _ _ ⟨updv vs 10 _, by rw [← e0]; rfl, fun h => (upF h17 (by decide) h).elim, fun _ => H.step 10 ⟨by omega, fun i hi => by omega, fun i hi => by omega⟩ hLi _ rfl, fun h => (upF h17 (by decide) h).elim⟩
  · rintro L a W ⟨vs, rfl, D17, H, _⟩ hLi hd K0 hK
    have h17 : L 17 = false := of_rest (b := 11) (h := fun h => D17 h 11 (by omega)) hLi
    have H := H h17
    have e0 : vs 10 = _ := H.f 10 (hd ⟨10, .data⟩ (by simp) rfl)
    have hbd := hd ⟨8, .data⟩ (by simp) rfl
    have ho := H.r.o 1 (by omega) hbd hLi
    refine step_appAt rfl (.tmp 11) (.tmp 13) rfl (gR + 1) (vs 8) 0 [] rfl ho Ai vn ic W.heap.size iv e0 (HSx.out W H.b).2.1.2.2 HI.out i0 H.r.sz ?_
    intro v' w' hown hgr hat
    rw [List.nil_append, Nat.zero_add] at hown
    exact hK.out _ _ ⟨updv vs 11 v', rfl, fun h => (upF h17 (by decide) h).elim, fun _ => H.own (by omega) 11 (by omega) hLi v' trivial ((Below.refl _ _).grown hgr H.r.sz (c_own_ge ho (Nat.le_refl _))) (H.r.app 1 (by omega) (by omega) HB16.out hLi hbd v' hown hgr hat) (fun h => by omega), fun h => (upF h17 (by decide) h).elim⟩
  · rintro L a W ⟨vs, rfl, D17, H, _⟩ hLi hd K0 hK
    have h17 : L 17 = false := of_rest (b := 12) (h := fun h => D17 h 12 (by omega)) hLi
    have H := H h17
    have hc : L 15 = false := of_rest (b := 12) (h := fun h => H.r.dn 2 (by omega) h) hLi
    go_simp
    exact hK.out _ _ ⟨_, rfl, fun h => (upF h17 (by decide) h).elim, fun _ => H.own (by omega) 12 (by omega) hLi _ trivial ((Below.refl _ _).alloc H.r.sz _) (H.r.mk1 2 (by omega) (by omega) HB16.out hLi) (fun _ => hc), fun h => (upF h17 (by decide) h).elim⟩
  · rintro L a W ⟨vs, rfl, D17, H, _⟩ hLi hd K0 hK
    have h17 : L 17 = false := of_rest (b := 13) (h := fun h => D17 h 13 (by omega)) hLi
    have H := H h17
    go_simp
    exact hK.out _ _ ⟨_, rfl, fun h => (upF h17 (by decide) h).elim, fun _ => H.step 13 ⟨by omega, fun i hi => by omega, fun i hi => by omega⟩ hLi _ rfl, fun h => (upF h17 (by decide) h).elim⟩
  · rintro L a W ⟨vs, rfl, D17, H, _⟩ hLi hd K0 hK
    have h17 : L 17 = false := of_rest (b := 14) (h := fun h => D17 h 14 (by omega)) hLi
    have H := H h17
    have e0 : vs 13 = _ := H.f 13 (hd ⟨13, .data⟩ (by simp) rfl)
    have hcell := (HPC.out W H.b).2.2.2.2
    simp only [e0]
    go_simp
    exact hK.out _ _ ⟨updv vs 14 _, by rw [← e0]; rfl, fun h => (upF h17 (by decide) h).elim, fun _ => H.step 14 ⟨by omega, fun i hi => by omega, fun i hi => by omega⟩ hLi _ rfl, fun h => (upF h17 (by decide) h).elim⟩
  · rintro L a W ⟨vs, rfl, D17, H, _⟩ hLi hd K0 hK
    have h17 : L 17 = false := of_rest (b := 15) (h := fun h => D17 h 15 (by omega)) hLi
    have H := H h17
    have e0 : vs 14 = _ := H.f 14 (hd ⟨14, .data⟩ (by simp) rfl)
    have hbd := hd ⟨12, .data⟩ (by simp) rfl
    have ho := H.r.o 2 (by omega) hbd hLi
    refine step_appAt rfl (.tmp 15) (.tmp 17) rfl (gR + 1) (vs 12) 0 [] rfl ho Aa an ac W.heap.size aad e0 (HSx.out W H.b).2.2.2.2 HA.out a0 H.r.sz ?_
    intro v' w' hown hgr hat
    rw [List.nil_append, Nat.zero_add] at hown
    exact hK.out _ _ ⟨updv vs 15 v', rfl, fun h => (upF h17 (by decide) h).elim, fun _ => H.own (by omega) 15 (by omega) hLi v' trivial ((Below.refl _ _).grown hgr H.r.sz (c_own_ge ho (Nat.le_refl _))) (H.r.app 2 (by omega) (by omega) HB16.out hLi hbd v' hown hgr hat) (fun h => by omega), fun h => (upF h17 (by decide) h).elim⟩
  · rintro L a W ⟨vs, rfl, D17, H, _⟩ hLi hd K0 hK
    have h17 : L 17 = false := of_rest (b := 16) (h := fun h => D17 h 16 (by omega)) hLi
    have H := H h17
    have d1 := hd ⟨1, .data⟩ (by simp) rfl
    have d3 := hd ⟨3, .data⟩ (by simp) rfl
    have d7 := hd ⟨7, .data⟩ (by simp) rfl
    have d11 := hd ⟨11, .data⟩ (by simp) rfl
    have d15 := hd ⟨15, .data⟩ (by simp) rfl
    have e1 : vs 1 = .int .i64 x := H.f 1 d1
    have e3 : vs 3 = .bool o := H.f 3 d3
    obtain ⟨A1, c1, h7, _⟩ := own_read (H.r.p 0 (by omega) d7)
    obtain ⟨A2, c2, h11, _⟩ := own_read (H.r.p 1 (by omega) d11)
    obtain ⟨A3, c3, h15, _⟩ := own_read (H.r.p 2 (by omega) d15)
    have h7 : vs 7 = .slice A1 kn c1 := h7
    have h11 : vs 11 = .slice A2 vn c2 := h11
    have h15 : vs 15 = .slice A3 an c3 := h15
    refine step_valF rfl (v := .agg #[vs 1, vs 3, vs 7, vs 11, vs 15]) (w' := W) (exec_bldF rfl (by
      simp only [List.map_toArray, List.map_cons, List.map_nil]
      show (Instr.build 28 #[(0, vs 1), (1, vs 3), (2, vs 7), (3, vs 11), (4, vs 15)]).run Tryz.prog W = _
      rw [e1, e3, h7, h11, h15]
      exact bldP x o A1 A2 A3 kn c1 vn c2 an c3 W)) ?_
    exact hK.out _ _ ⟨_, rfl, fun h => (upF h17 (by decide) h).elim, fun _ => H.s16 (fun _ => trivial) ⟨d1, d3, d7, d11, d15⟩, fun h => (upF h17 (by decide) h).elim⟩
  · rintro L a W ⟨vs, rfl, D17, H, _⟩ hLi hd K0 hK
    have h17 : L 17 = false := hLi
    have H := H h17
    have hall := allEdges 17 (by kernel_rfl) hd
    have e1 : vs 1 = .int .i64 x := H.f 1 (hall 1 (by omega))
    have e3 : vs 3 = .bool o := H.f 3 (hall 3 (by omega))
    have p7 := H.r.p 0 (by omega) (hall 7 (by omega))
    have p11 := H.r.p 1 (by omega) (hall 11 (by omega))
    have p15 := H.r.p 2 (by omega) (hall 15 (by omega))
    obtain ⟨A1, c1, h7, l7, b7, m7, r7⟩ := own_read p7
    obtain ⟨A2, c2, h11, l11, b11, m11, r11⟩ := own_read p11
    obtain ⟨A3, c3, h15, l15, b15, m15, r15⟩ := own_read p15
    have h7 : vs 7 = .slice A1 kn c1 := h7
    have h11 : vs 11 = .slice A2 vn c2 := h11
    have h15 : vs 15 = .slice A3 an c3 := h15
    have hge : ∀ (v : Value) (A : Option Addr) (m c : Nat) (l : List Value), W.ownsRow (gR + 1) 5 1 v m l → v = .slice A m c → ∀ b o x, A = some ⟨b, o, x⟩ → gR < b := fun v A m c l ho hv b o x hA => by
      have := c_own_ge ho (Nat.le_refl _) b (by rw [hv, hA]; rfl)
      omega
    have e16 := H.e (hall 16 (by omega))
    rw [e1, e3, h7, h11, h15] at e16
    refine step_st1 rfl 28 (.tmp 2) (.tmp 19) rfl (by
      show (Instr.storeAt 28 (.pointer (some ⟨gR, 0, none⟩)) (vs 16)).run Tryz.prog W = _
      rw [e16]
      exact store_arr (cs := parV x o A1 kn c1 A2 vn c2 A3 an c3) (old := ZP) i5P (par_one x o A1 kn c1 A2 vn c2 A3 an c3) H.z (by rw [hzl.out]; rfl)) ?_
    have l7' : key.length = kn := l7
    have l11' : iv.length = vn := l11
    have l15' : aad.length = an := l15
    have b7' : kn ≤ c1 := b7
    have b11' : vn ≤ c2 := b11
    have b15' : an ≤ c3 := b15
    have hS7 : Sl W A1 c1 key := ⟨by omega, m7, r7⟩
    have hS11 : Sl W A2 c2 iv := ⟨by omega, m11, r11⟩
    have hS15 : Sl W A3 c3 aad := ⟨by omega, m15, r15⟩
    have hL17 : ∀ i, i < 17 → (if i = 17 then true else L i) = true := fun i hi => by
      rw [if_neg (by omega)]; exact hall i hi
    exact hK.out _ _ ⟨vs, rfl, fun _ i hi => hL17 i hi, fun h => (upS h).elim, fun _ => ⟨A1, A2, A3, c1, c2, c3, W, hS7, hS11, hS15, hge _ _ _ _ _ p7 h7, hge _ _ _ _ _ p11 h11, hge _ _ _ _ _ p15 h15, H.b, H.z, rfl⟩⟩
  · rintro L a W hL ⟨vs, rfl, _, _, hD⟩
    obtain ⟨A1, A2, A3, c1, c2, c3, Wm, s1, s2, s3, g1, g2, g3, hb, hz, hW⟩ := hD (hL 17)
    have hV := hW.symm
    have hres := heap_of_setRow hV hz
    have hout : ∀ (A : Option Addr) (c : Nat) (l : List UInt8), Sl Wm A c l → (∀ b o x, A = some ⟨b, o, x⟩ → gR < b) → Sl W A c l := fun A c l hs hg => ⟨hs.1, hs.2.1, by
      rcases hs.2.2 with h | ⟨b, o, h1, h2, h3⟩
      · exact .inl h
      · have hbl : gR < b := hg b o _ h1
        have hsz : Wm.heap.size ≤ W.heap.size := by rw [← hV]; simp [World.setRow]
        refine .inr ⟨b, o, h1, Nat.lt_of_lt_of_le h2 hsz, fun j v hv => ?_⟩
        have := h3 j v hv
        rw [World.cell?_of_block (w := Wm) (a := ⟨b, o + j, none⟩)]
        · exact this
        · cases hh : Wm.heap[b]? with
          | none => exact absurd hh (by simp [World.cell?] at this; intro h; rw [h] at this; cases this)
          | some ob => exact heap_of_other hV (show b ≠ gR by omega) hh⟩
    go_wp2
    refine bodyPost_ret (results_cell_row (P := Tryz.prog) rfl _ _ gR 28 (parV x o A1 kn c1 A2 vn c2 A3 an c3).toArray (0, 0) _ rfl hres Tryz.underlying28 rfl i5P) rfl ⟨A1, c1, A2, c2, A3, c3, rfl, hout _ _ _ s1 g1, hout _ _ _ s2 g2, hout _ _ _ s3 g3, ?_⟩
    have hbb : Below (gP + 1) W1 W := hb.trans (below_of_setRow hV (by omega) (by have := lt_of_heap hz; omega))
    have h1 : Below gP w W := (show Below gP w W1 from B1.out).trans (hbb.mono (by omega))
    rw [← HGP.out] at h1
    exact h1
end Go.Proofs.YtimgggpojbpfkaaGreatDoor

/- The contracts of chacha.stir and chacha.Quarter. -/
namespace Go.Proofs.YtimgggpojbpfkaaGreatDoor
open Go.RowKit
set_option maxRecDepth 100000
set_option linter.unusedVariables false
set_option linter.unusedSimpArgs false
/-- a quarter round of four numbers -/
def qA1 (a b c d : W32) : W32 := a + b
def qD1 (a b c d : W32) : W32 := rotl (d ^^^ qA1 a b c d) 16
def qC1 (a b c d : W32) : W32 := c + qD1 a b c d
def qB1 (a b c d : W32) : W32 := rotl (b ^^^ qC1 a b c d) 12
def qA (a b c d : W32) : W32 := qA1 a b c d + qB1 a b c d
def qD (a b c d : W32) : W32 := rotl (qD1 a b c d ^^^ qA a b c d) 8
def qC (a b c d : W32) : W32 := qC1 a b c d + qD a b c d
def qB (a b c d : W32) : W32 := rotl (qB1 a b c d ^^^ qC a b c d) 7

theorem stir_any (x y z r s : W32) (n : Int) (w : World) (hr : r = x + y) (hs : s = rotl (z ^^^ r) n) :
    Calls Tryz.prog 145 #[.int .u32 (x.toNat : Int), .int .u32 (y.toNat : Int), .int .u32 (z.toNat : Int), .int .i64 n] w fun e w' => e = .returned (.tuple #[.int .u32 (r.toNat : Int), .int .u32 (s.toNat : Int)]) ∧ w = w' := by
  have u1 : ((x.toNat : Int) + (y.toNat : Int)) % 4294967296 = (r.toNat : Int) := by rw [hr]; exact add32 x y
  have u2 := xor32 z r
  have HS := Lib.hid hs
  clear hr hs
  go_enter Tryz.func145, Tryz.ntmps145
  go_wp2_with fail
  rw [← BitVec.toNat_xor]
  refine (left_any (z ^^^ r) n _).mono ?_
  rintro e w1 ⟨rfl, rfl⟩
  rw [← HS.out]
  go_wp2
  exact bodyPost_ret (results_tmp2 rfl _ _ _) rfl ⟨rfl, rfl⟩

theorem results_tmp4 {fn : Func} {t u v x : Tmp} (h : fn.results = #[.tmp t, .tmp u, .tmp v, .tmp x]) (tmps : Array Value) (P : Program) (w : World) :
    (results fn tmps).run P w = .ok (.tuple #[tmps.getD t undef, tmps.getD u undef, tmps.getD v undef, tmps.getD x undef]) w := by
  simp [results, h]
theorem quarter_any (a b c d : W32) (w : World) :
    Calls Tryz.prog 135 #[.int .u32 (a.toNat : Int), .int .u32 (b.toNat : Int), .int .u32 (c.toNat : Int), .int .u32 (d.toNat : Int)] w fun e w' =>
      e = .returned (.tuple #[.int .u32 ((qA a b c d).toNat : Int), .int .u32 ((qB a b c d).toNat : Int), .int .u32 ((qC a b c d).toNat : Int), .int .u32 ((qD a b c d).toNat : Int)]) ∧ w = w' := by
  obtain ⟨a1, h1⟩ : ∃ x, x = qA1 a b c d := ⟨_, rfl⟩
  obtain ⟨d1, h2⟩ : ∃ x, x = qD1 a b c d := ⟨_, rfl⟩
  obtain ⟨c1, h3⟩ : ∃ x, x = qC1 a b c d := ⟨_, rfl⟩
  obtain ⟨b1, h4⟩ : ∃ x, x = qB1 a b c d := ⟨_, rfl⟩
  obtain ⟨a2, h5⟩ : ∃ x, x = qA a b c d := ⟨_, rfl⟩
  obtain ⟨d2, h6⟩ : ∃ x, x = qD a b c d := ⟨_, rfl⟩
  obtain ⟨c2, h7⟩ : ∃ x, x = qC a b c d := ⟨_, rfl⟩
  obtain ⟨b2, h8⟩ : ∃ x, x = qB a b c d := ⟨_, rfl⟩
  have S1 := Lib.hid (stir_any a b d a1 d1 16 w h1 (by rw [h2, h1]; rfl))
  have S2 := Lib.hid (stir_any c d1 b c1 b1 12 w (by rw [h3, h2]; rfl) (by rw [h4, h3]; rfl))
  have S3 := Lib.hid (stir_any a1 b1 d1 a2 d2 8 w (by rw [h5, h1, h4]; rfl) (by rw [h6, h2, h5]; rfl))
  have S4 := Lib.hid (stir_any c1 d2 b1 c2 b2 7 w (by rw [h7, h3, h6]; rfl) (by rw [h8, h4, h7]; rfl))
  rw [← h5, ← h6, ← h7, ← h8]
  clear h1 h2 h3 h4 h5 h6 h7 h8
  go_enter Tryz.func135, Tryz.ntmps135
  go_wp2_with fail
  refine S1.out.mono ?_
  rintro e w1 ⟨rfl, rfl⟩
  go_wp2_with fail
  refine S2.out.mono ?_
  rintro e w1 ⟨rfl, rfl⟩
  go_wp2_with fail
  refine S3.out.mono ?_
  rintro e w1 ⟨rfl, rfl⟩
  go_wp2_with fail
  refine S4.out.mono ?_
  rintro e w1 ⟨rfl, rfl⟩
  go_wp2
  exact bodyPost_ret (results_tmp4 rfl _ _ _) rfl ⟨rfl, rfl⟩
end Go.Proofs.YtimgggpojbpfkaaGreatDoor

/- The contract of (state).round. -/
namespace Go.Proofs.YtimgggpojbpfkaaGreatDoor
open Go.RowKit
set_option maxRecDepth 100000
set_option linter.unusedVariables false
set_option linter.unusedSimpArgs false
/-- a quarter round of a state, at four places -/
def qAt (l : List W32) (p q r s : Nat) : List W32 :=
  (((l.set p (qA (l.getD p 0) (l.getD q 0) (l.getD r 0) (l.getD s 0))).set q (qB (l.getD p 0) (l.getD q 0) (l.getD r 0) (l.getD s 0))).set r (qC (l.getD p 0) (l.getD q 0) (l.getD r 0) (l.getD s 0))).set s (qD (l.getD p 0) (l.getD q 0) (l.getD r 0) (l.getD s 0))
def pB (t i : Nat) : Nat := 4 + (i + t) % 4
def pC (t i : Nat) : Nat := 8 + (i + 2 * t) % 4
def pD (t i : Nat) : Nat := 12 + (i + 3 * t) % 4
def roundN (t : Nat) (l : List W32) : Nat → List W32
  | 0 => l
  | i + 1 => qAt (roundN t l i) i (pB t i) (pC t i) (pD t i)
theorem qAt_len (l : List W32) (p q r s : Nat) : (qAt l p q r s).length = l.length := by simp [qAt]
theorem roundN_len (t : Nat) (l : List W32) (i : Nat) : (roundN t l i).length = l.length := by
  induction i with
  | zero => rfl
  | succ i ih => rw [roundN, qAt_len, ih]
theorem arrSt : Tryz.prog.underlying 149 = some (.array 16 76) := Tryz.underlying149
theorem iSt : (Tryz.prog.info? 149).map (·.size) = some 16 := by kernel_rfl
theorem heap2c (w : World) (o1 o2 : Obj) : ((w.alloc o1).alloc o2).heap[w.heap.size]? = some o1 ∧ ((w.alloc o1).alloc o2).heap[w.heap.size + 1]? = some o2 ∧ Below w.heap.size w ((w.alloc o1).alloc o2) := by
  have e1 : (w.alloc o1).heap.size = w.heap.size + 1 := by simp
  refine ⟨?_, ?_, ?_⟩
  · rw [Below.heap_alloc _ _ _ (by omega)]; exact heap_alloc_new' w o1
  · have := heap_alloc_new' (w.alloc o1) o2; rwa [e1] at this
  · exact ((Below.refl _ w).alloc (Nat.le_refl _) _).alloc (by omega) _
/-- a number put into a row of numbers -/
theorem st_row {W W' : World} {g i B : Nat} {l : List W32} {t : TypeId} {v : W32} (hW : W.setCell ⟨g, i, none⟩ (.int .u32 (v.toNat : Int)) = W') (hB : B ≤ g) (H : W.heap[g]? = some (.cells (l.map wv).toArray t (0, 0))) :
    W'.heap[g]? = some (.cells ((l.set i v).map wv).toArray t (0, 0)) ∧ Below B W W' ∧ ∀ k, k ≠ g → W'.heap[k]? = W.heap[k]? := by
  subst hW
  refine ⟨?_, (Below.refl _ _).setCell hB _, fun k hk => Below.heap_setCell W _ _ _ hk⟩
  have := heap_set H i (wv v)
  rw [← List.map_set] at this
  exact this
theorem cell_eq {W W0 : World} (h : W = W0) {a : Addr} {v : Value} (hc : W0.cell? a = some v) : W.cell? a = some v := by rw [h]; exact hc
set_option maxHeartbeats 2000000 in
theorem round_any (t : Nat) (s : List W32) (w : World) (hs : s.length = 16) (ht : t ≤ 1) :
    Calls Tryz.prog 117 #[.agg (s.map wv).toArray, .int .i64 (t : Int)] w fun e w' => e = .returned (.agg ((roundN t s 4).map wv).toArray) ∧ Below w.heap.size w w' := by
  have HSL := Lib.hid hs
  clear hs
  go_enter Tryz.func117, Tryz.ntmps117
  go_wp2_with fail
  generalize hV : (w.alloc _).alloc _ = W0
  have F0 : Hid (W0.heap[w.heap.size]? = some (.cells ((roundN t s 0).map wv).toArray 149 (0, 0))) := by rw [← hV]; exact (heap2c w _ _).1
  have F1 : Hid (W0.heap[w.heap.size + 1]? = some (.cells (List.replicate 16 (Value.int .u32 0)).toArray 149 (0, 0))) := by rw [← hV]; exact (heap2c w _ _).2.1
  have FB : Hid (Below w.heap.size w W0) := by rw [← hV]; exact (heap2c w _ _).2.2
  clear hV
  go_loopw [10] (fun vi wr => ∃ (i : Nat), i ≤ 4 ∧ vi = .int .i64 (i : Int) ∧ Hid (Below w.heap.size w wr) ∧ Hid (wr.heap[w.heap.size]? = some (.cells ((roundN t s i).map wv).toArray 149 (0, 0))) ∧ Hid (wr.heap[w.heap.size + 1]? = some (.cells (List.replicate 16 (Value.int .u32 0)).toArray 149 (0, 0)))) (fun i _ => 4 - (intOf i).toNat)
  case atStart => exact ⟨0, by omega, rfl, FB, F0, F1⟩
  case round =>
    clear F0 F1 FB
    obtain ⟨i, hi, rfl, HB, H0, H1⟩ := hrel
    by_cases hlt : i < 4
    · have q1 : (i : Int) < 4 := by omega
      have hl16 : (roundN t s i).length = 16 := by rw [roundN_len]; exact HSL.out
      obtain ⟨y, hy⟩ : ∃ y, y = pB t i := ⟨_, rfl⟩
      obtain ⟨z, hz⟩ : ∃ z, z = pC t i := ⟨_, rfl⟩
      obtain ⟨u, hu⟩ : ∃ u, u = pD t i := ⟨_, rfl⟩
      have HST : Hid (qAt (roundN t s i) i y z u = roundN t s (i + 1)) := by rw [hy, hz, hu]; rfl
      have ho : i < 4 ∧ 4 ≤ y ∧ y < 8 ∧ 8 ≤ z ∧ z < 12 ∧ 12 ≤ u ∧ u < 16 := by rw [hy, hz, hu]; unfold pB pC pD; omega
      have o1 : 4 + ((i : Int) + (t : Int)) % 4 = (y : Int) := by rw [hy]; unfold pB; omega
      have o2 : 8 + ((i : Int) + 2 * (t : Int)) % 4 = (z : Int) := by rw [hz]; unfold pC; omega
      have o3 : 12 + ((i : Int) + 3 * (t : Int)) % 4 = (u : Int) := by rw [hu]; unfold pD; omega
      have O1 := Lib.hid o1; have O2 := Lib.hid o2; have O3 := Lib.hid o3
      clear o1 o2 o3
      clear hy hz hu
      have c0 := Lib.hid (wcell (w := wr.drew) H0.out i (by omega))
      have c1 := Lib.hid (wcell (w := wr.drew) H0.out y (by omega))
      have c2 := Lib.hid (wcell (w := wr.drew) H0.out z (by omega))
      have c3 := Lib.hid (wcell (w := wr.drew) H0.out u (by omega))
      unfold qAt at HST
      obtain ⟨L, HL⟩ : ∃ L, Hid (roundN t s i = L) := ⟨_, rfl⟩
      rw [HL.out] at c0 c1 c2 c3 HST hl16 H0
      generalize L.getD i 0 = a at c0 HST
      generalize L.getD y 0 = b at c1 HST
      generalize L.getD z 0 = c at c2 HST
      generalize L.getD u 0 = d at c3 HST
      have q0 : (i : Int) < 16 := by omega
      have q1 : (y : Int) < 16 := by omega
      have q2 : (z : Int) < 16 := by omega
      have q3 : (u : Int) < 16 := by omega
      have HO := Lib.hid ho
      have H16 := Lib.hid hl16
      clear ho hl16
      go_wp2_with fail
      rw [O1.out, O2.out, O3.out]
      have HS : Hid (wr.drew = wr.drew) := rfl
      have D0 : Hid (wr.drew.heap[w.heap.size]? = some (.cells (L.map wv).toArray 149 (0, 0))) := H0.out
      have DB : Hid (Below w.heap.size w wr.drew) := HB.out.drew
      have D1 : Hid (wr.drew.heap[w.heap.size + 1]? = some (.cells (List.replicate 16 (Value.int .u32 0)).toArray 149 (0, 0))) := H1.out
      refine regK_start (16) (fun W => W = wr.drew) (by kernel_rfl) ?_
      try simp only [Act.put, List.setIfInBounds_toArray, List.set_cons_zero, List.set_cons_succ]
      refine regK_take (v := ?_) 0 (some 32) rfl rfl (by kernel_rfl) (by kernel_rfl) (by kernel_rfl) (fun _ _ _ h => h) (by rfl) (by kernel_rfl) HS.out (fun W => ?_) ?_
      rotate_left
      · (go_simp; try rfl)
      simp only [Act.put, List.setIfInBounds_toArray, List.set_cons_zero, List.set_cons_succ]
      refine regK_take (v := ?_) 1 (some 33) rfl rfl (by kernel_rfl) (by kernel_rfl) (by kernel_rfl) (fun _ _ _ h => h) (by rfl) (by kernel_rfl) HS.out (fun W => ?_) ?_
      rotate_left
      · (go_simp; try rfl)
      simp only [Act.put, List.setIfInBounds_toArray, List.set_cons_zero, List.set_cons_succ]
      refine regK_take (v := ?_) 2 (some 34) rfl rfl (by kernel_rfl) (by kernel_rfl) (by kernel_rfl) (fun _ _ _ h => h) (by rfl) (by kernel_rfl) HS.out (fun W => ?_) ?_
      rotate_left
      · (go_simp; try rfl)
      simp only [Act.put, List.setIfInBounds_toArray, List.set_cons_zero, List.set_cons_succ]
      refine regK_take (v := ?_) 3 (some 35) rfl rfl (by kernel_rfl) (by kernel_rfl) (by kernel_rfl) (fun _ _ _ h => h) (by rfl) (by kernel_rfl) HS.out (fun W => ?_) ?_
      rotate_left
      · (go_simp; try rfl)
      simp only [Act.put, List.setIfInBounds_toArray, List.set_cons_zero, List.set_cons_succ]
      refine regK_take (v := ?_) 4 (some 36) rfl rfl (by kernel_rfl) (by kernel_rfl) (by kernel_rfl) (fun _ _ _ h => h) (by rfl) (by kernel_rfl) HS.out (fun W => ?_) ?_
      rotate_left
      · (go_simp; try rfl)
      simp only [Act.put, List.setIfInBounds_toArray, List.set_cons_zero, List.set_cons_succ]
      refine regK_take (v := ?_) 5 (some 37) rfl rfl (by kernel_rfl) (by kernel_rfl) (by kernel_rfl) (fun _ _ _ h => h) (by rfl) (by kernel_rfl) HS.out (fun W => ?_) ?_
      rotate_left
      · (go_simp; try rfl)
      simp only [Act.put, List.setIfInBounds_toArray, List.set_cons_zero, List.set_cons_succ]
      refine regK_load 6 (some 38) (fun W hW => load_cell Tryz.underlying76 (cell_eq hW c0.out)) rfl rfl rfl rfl (by kernel_rfl) (by kernel_rfl) (by kernel_rfl) (fun _ _ _ h => h) (by rfl) (by kernel_rfl) HS.out ?_
      simp only [Act.put, List.setIfInBounds_toArray, List.set_cons_zero, List.set_cons_succ]
      refine regK_take (v := ?_) 7 (some 39) rfl rfl (by kernel_rfl) (by kernel_rfl) (by kernel_rfl) (fun _ _ _ h => h) (by rfl) (by kernel_rfl) HS.out (fun W => ?_) ?_
      rotate_left
      · (go_simp; try rfl)
      simp only [Act.put, List.setIfInBounds_toArray, List.set_cons_zero, List.set_cons_succ]
      refine regK_take (v := ?_) 8 (some 40) rfl rfl (by kernel_rfl) (by kernel_rfl) (by kernel_rfl) (fun _ _ _ h => h) (by rfl) (by kernel_rfl) HS.out (fun W => ?_) ?_
      rotate_left
      · (go_simp; try rfl)
      simp only [Act.put, List.setIfInBounds_toArray, List.set_cons_zero, List.set_cons_succ]
      refine regK_load 9 (some 41) (fun W hW => load_cell Tryz.underlying76 (cell_eq hW c1.out)) rfl rfl rfl rfl (by kernel_rfl) (by kernel_rfl) (by kernel_rfl) (fun _ _ _ h => h) (by rfl) (by kernel_rfl) HS.out ?_
      simp only [Act.put, List.setIfInBounds_toArray, List.set_cons_zero, List.set_cons_succ]
      refine regK_take (v := ?_) 10 (some 42) rfl rfl (by kernel_rfl) (by kernel_rfl) (by kernel_rfl) (fun _ _ _ h => h) (by rfl) (by kernel_rfl) HS.out (fun W => ?_) ?_
      rotate_left
      · (go_simp; try rfl)
      simp only [Act.put, List.setIfInBounds_toArray, List.set_cons_zero, List.set_cons_succ]
      refine regK_take (v := ?_) 11 (some 43) rfl rfl (by kernel_rfl) (by kernel_rfl) (by kernel_rfl) (fun _ _ _ h => h) (by rfl) (by kernel_rfl) HS.out (fun W => ?_) ?_
      rotate_left
      · (go_simp; try rfl)
      simp only [Act.put, List.setIfInBounds_toArray, List.set_cons_zero, List.set_cons_succ]
      refine regK_load 12 (some 44) (fun W hW => load_cell Tryz.underlying76 (cell_eq hW c2.out)) rfl rfl rfl rfl (by kernel_rfl) (by kernel_rfl) (by kernel_rfl) (fun _ _ _ h => h) (by rfl) (by kernel_rfl) HS.out ?_
      simp only [Act.put, List.setIfInBounds_toArray, List.set_cons_zero, List.set_cons_succ]
      refine regK_take (v := ?_) 13 (some 45) rfl rfl (by kernel_rfl) (by kernel_rfl) (by kernel_rfl) (fun _ _ _ h => h) (by rfl) (by kernel_rfl) HS.out (fun W => ?_) ?_
      rotate_left
      · (go_simp; try rfl)
      simp only [Act.put, List.setIfInBounds_toArray, List.set_cons_zero, List.set_cons_succ]
      refine regK_take (v := ?_) 14 (some 46) rfl rfl (by kernel_rfl) (by kernel_rfl) (by kernel_rfl) (fun _ _ _ h => h) (by rfl) (by kernel_rfl) HS.out (fun W => ?_) ?_
      rotate_left
      · (go_simp; try rfl)
      simp only [Act.put, List.setIfInBounds_toArray, List.set_cons_zero, List.set_cons_succ]
      refine regK_load 15 (some 47) (fun W hW => load_cell Tryz.underlying76 (cell_eq hW c3.out)) rfl rfl rfl rfl (by kernel_rfl) (by kernel_rfl) (by kernel_rfl) (fun _ _ _ h => h) (by rfl) (by kernel_rfl) HS.out ?_
      simp only [Act.put, List.setIfInBounds_toArray, List.set_cons_zero, List.set_cons_succ]
      refine regK_bar 16 rfl (by kernel_rfl) (by kernel_rfl) (fun K hK => ?_)
      go_simp
      refine (quarter_any a b c d _).mono ?_
      rintro ee w3 ⟨rfl, rfl⟩
      refine hK.out _ _ trivial ?_
      clear hK K
      try simp only [Act.put, List.setIfInBounds_toArray, List.set_cons_zero, List.set_cons_succ]
      refine regS_take (v := ?_) 17 (some 31) rfl rfl (by kernel_rfl) (by kernel_rfl) (by kernel_rfl) (fun _ _ _ h => h) (by rfl) (fun W hW => ?_) ?_
      rotate_left
      · (go_simp; try rfl)
      simp only [Act.put, List.setIfInBounds_toArray, List.set_cons_zero, List.set_cons_succ]
      refine regS_take (v := ?_) 18 (some 49) rfl rfl (by kernel_rfl) (by kernel_rfl) (by kernel_rfl) (fun _ _ _ h => h) (by rfl) (fun W hW => ?_) ?_
      rotate_left
      · (go_simp; try rfl)
      simp only [Act.put, List.setIfInBounds_toArray, List.set_cons_zero, List.set_cons_succ]
      refine regS_take (v := ?_) 19 (some 50) rfl rfl (by kernel_rfl) (by kernel_rfl) (by kernel_rfl) (fun _ _ _ h => h) (by rfl) (fun W hW => ?_) ?_
      rotate_left
      · (go_simp; try rfl)
      simp only [Act.put, List.setIfInBounds_toArray, List.set_cons_zero, List.set_cons_succ]
      refine regS_take (v := ?_) 20 (some 51) rfl rfl (by kernel_rfl) (by kernel_rfl) (by kernel_rfl) (fun _ _ _ h => h) (by rfl) (fun W hW => ?_) ?_
      rotate_left
      · (go_simp; try rfl)
      simp only [Act.put, List.setIfInBounds_toArray, List.set_cons_zero, List.set_cons_succ]
      refine regS_take (v := ?_) 21 (some 52) rfl rfl (by kernel_rfl) (by kernel_rfl) (by kernel_rfl) (fun _ _ _ h => h) (by rfl) (fun W hW => ?_) ?_
      rotate_left
      · (go_simp; try rfl)
      simp only [Act.put, List.setIfInBounds_toArray, List.set_cons_zero, List.set_cons_succ]
      refine regS_take (v := ?_) 22 (some 53) rfl rfl (by kernel_rfl) (by kernel_rfl) (by kernel_rfl) (fun _ _ _ h => h) (by rfl) (fun W hW => ?_) ?_
      rotate_left
      · (go_simp; try rfl)
      simp only [Act.put, List.setIfInBounds_toArray, List.set_cons_zero, List.set_cons_succ]
      refine regS_eff 23 rfl (by kernel_rfl) (fun K hK => ?_)
      refine step_st1 rfl 76 (.tmp 53) (.tmp 49) rfl (store_cell (k := .u32) Tryz.underlying76 s32 (w := wr.drew) c0.out (frozen_of_heap D0.out _)) ?_
      generalize hV : World.setCell _ _ _ = W1
      obtain ⟨m1, m2, m3⟩ := st_row (B := w.heap.size) hV (Nat.le_refl _) D0.out
      have M1 := Lib.hid m1; have N1 := Lib.hid (DB.out.trans m2); have E1 := Lib.hid ((m3 (w.heap.size + 1) (Nat.succ_ne_self _)).trans D1.out)
      clear m1 m2 m3 hV
      refine hK.out _ _ trivial ?_
      clear hK K
      try simp only [Act.put, List.setIfInBounds_toArray, List.set_cons_zero, List.set_cons_succ]
      refine regS_take (v := ?_) 24 (some 54) rfl rfl (by kernel_rfl) (by kernel_rfl) (by kernel_rfl) (fun _ _ _ h => h) (by rfl) (fun W hW => ?_) ?_
      rotate_left
      · (go_simp; try rfl)
      simp only [Act.put, List.setIfInBounds_toArray, List.set_cons_zero, List.set_cons_succ]
      refine regS_eff 25 rfl (by kernel_rfl) (fun K hK => ?_)
      refine step_st1 rfl 76 (.tmp 54) (.tmp 50) rfl (store_cell (k := .u32) Tryz.underlying76 s32 (w := W1) (wcell M1.out y (by rw [List.length_set, H16.out]; have := HO.out; omega)) (frozen_of_heap M1.out _)) ?_
      generalize hV : World.setCell _ _ _ = W2
      obtain ⟨m1, m2, m3⟩ := st_row (B := w.heap.size) hV (Nat.le_refl _) M1.out
      have M2 := Lib.hid m1; have N2 := Lib.hid (N1.out.trans m2); have E2 := Lib.hid ((m3 (w.heap.size + 1) (Nat.succ_ne_self _)).trans E1.out)
      clear m1 m2 m3 hV
      refine hK.out _ _ trivial ?_
      clear hK K
      try simp only [Act.put, List.setIfInBounds_toArray, List.set_cons_zero, List.set_cons_succ]
      refine regS_take (v := ?_) 26 (some 55) rfl rfl (by kernel_rfl) (by kernel_rfl) (by kernel_rfl) (fun _ _ _ h => h) (by rfl) (fun W hW => ?_) ?_
      rotate_left
      · (go_simp; try rfl)
      simp only [Act.put, List.setIfInBounds_toArray, List.set_cons_zero, List.set_cons_succ]
      refine regS_eff 27 rfl (by kernel_rfl) (fun K hK => ?_)
      refine step_st1 rfl 76 (.tmp 55) (.tmp 51) rfl (store_cell (k := .u32) Tryz.underlying76 s32 (w := W2) (wcell M2.out z (by rw [List.length_set, List.length_set, H16.out]; have := HO.out; omega)) (frozen_of_heap M2.out _)) ?_
      generalize hV : World.setCell _ _ _ = W3
      obtain ⟨m1, m2, m3⟩ := st_row (B := w.heap.size) hV (Nat.le_refl _) M2.out
      have M3 := Lib.hid m1; have N3 := Lib.hid (N2.out.trans m2); have E3 := Lib.hid ((m3 (w.heap.size + 1) (Nat.succ_ne_self _)).trans E2.out)
      clear m1 m2 m3 hV
      refine hK.out _ _ trivial ?_
      clear hK K
      try simp only [Act.put, List.setIfInBounds_toArray, List.set_cons_zero, List.set_cons_succ]
      refine regS_take (v := ?_) 28 (some 56) rfl rfl (by kernel_rfl) (by kernel_rfl) (by kernel_rfl) (fun _ _ _ h => h) (by rfl) (fun W hW => ?_) ?_
      rotate_left
      · (go_simp; try rfl)
      simp only [Act.put, List.setIfInBounds_toArray, List.set_cons_zero, List.set_cons_succ]
      refine regS_eff 29 rfl (by kernel_rfl) (fun K hK => ?_)
      refine step_st1 rfl 76 (.tmp 56) (.tmp 52) rfl (store_cell (k := .u32) Tryz.underlying76 s32 (w := W3) (wcell M3.out u (by rw [List.length_set, List.length_set, List.length_set, H16.out]; have := HO.out; omega)) (frozen_of_heap M3.out _)) ?_
      generalize hV : World.setCell _ _ _ = W4
      obtain ⟨m1, m2, m3⟩ := st_row (B := w.heap.size) hV (Nat.le_refl _) M3.out
      have M4 := Lib.hid m1; have N4 := Lib.hid (N3.out.trans m2); have E4 := Lib.hid ((m3 (w.heap.size + 1) (Nat.succ_ne_self _)).trans E3.out)
      clear m1 m2 m3 hV
      refine hK.out _ _ trivial ?_
      clear hK K
      try simp only [Act.put, List.setIfInBounds_toArray, List.set_cons_zero, List.set_cons_succ]
      refine regS_done (by kernel_rfl) ?_
      go_wp2
      go_roundw
      case rel => exact ⟨i + 1, by omega, by go_num, N4, by have := M4.out; rw [HST.out] at this; exact this, E4⟩
      case measure => simp [intOf]; omega
    · have H0' : Hid (wr.heap[w.heap.size]? = some (.cells ((roundN t s 4).map wv).toArray 149 (0, 0))) := by have := H0.out; rw [show i = 4 by omega] at this; exact this
      have hl4 : Hid (((roundN t s 4).map wv).length = 16) := by show _ = _; rw [List.length_map, roundN_len]; exact HSL.out
      clear H0
      obtain ⟨L, HLL⟩ : ∃ L, Hid ((roundN t s 4).map wv = L) := ⟨_, rfl⟩
      have hone : Hid (∀ v ∈ L, v.oneCell' = true) := by show ∀ v ∈ L, _; rw [← HLL.out]; exact wv_one _
      rw [HLL.out] at H0' hl4
      go_wp2_with (first
        | (refine wpList_ld rfl 149 (.tmp 2) rfl (load_arr arrSt rfl (by rw [hl4.out]; exact iSt) H0'.out) ?_)
        | (refine wpList_st rfl 149 (.tmp 4) (.tmp 58) rfl (store_arr (cs := L) (by rw [hl4.out]; exact iSt) hone.out H1.out (by rw [hl4.out]; simp)) ?_))
      have hres := setRow_heap wr (w.heap.size + 1) _ L.toArray 149 _ H1.out
      exact bodyPost_ret (results_cell_row (P := Tryz.prog) rfl _ _ (w.heap.size + 1) 149 L.toArray (0, 0) _ rfl hres arrSt rfl (by rw [List.size_toArray, hl4.out]; exact iSt)) rfl ⟨by rw [HLL.out], HB.out.trans (grown_below (grown_setRow _ _ _) (Nat.le_succ _) HB.out.size)⟩
end Go.Proofs.YtimgggpojbpfkaaGreatDoor

/- The contract of chacha.start. -/
namespace Go.Proofs.YtimgggpojbpfkaaGreatDoor
open Go.RowKit
set_option maxRecDepth 100000
set_option linter.unusedVariables false
set_option linter.unusedSimpArgs false
/-- the i-th number of a row, the lowest byte first -/
def wordLE (b : List UInt8) (i : Nat) : W32 := BitVec.ofNat 32 (littleN ((b.drop (4 * i)).take 4))
def chaC : List W32 := [1634760805#32, 857760878#32, 2036477234#32, 1797285236#32]
def rowK (key : List UInt8) (j : Nat) : List W32 := chaC ++ (List.range j).map (wordLE key) ++ List.replicate (12 - j) 0
def rowN (key nonce : List UInt8) (n : W32) (j : Nat) : List W32 := chaC ++ (List.range 8).map (wordLE key) ++ [n] ++ (List.range j).map (wordLE nonce) ++ List.replicate (3 - j) 0
def startC (key nonce : List UInt8) (n : W32) : List W32 := chaC ++ (List.range 8).map (wordLE key) ++ [n] ++ (List.range 3).map (wordLE nonce)
theorem rowK_len (key : List UInt8) (j : Nat) (hj : j ≤ 12) : (rowK key j).length = 16 := by simp [rowK, chaC]; omega
theorem rowN_len (key nonce : List UInt8) (n : W32) (j : Nat) (hj : j ≤ 3) : (rowN key nonce n j).length = 16 := by simp [rowN, chaC]; omega
theorem startC_len (key nonce : List UInt8) (n : W32) : (startC key nonce n).length = 16 := by simp [startC, chaC]
theorem set_at {α : Type} (A : List α) (x y : α) (C : List α) (k : Nat) (hk : k = A.length) : (A ++ x :: C).set k y = A ++ y :: C := by
  subst hk; rw [List.set_append_right _ _ (Nat.le_refl _)]; simp
theorem rowK_step (key : List UInt8) (j : Nat) (hj : j < 12) : (rowK key j).set (4 + j) (wordLE key j) = rowK key (j + 1) := by
  unfold rowK
  rw [show 12 - j = (12 - (j + 1)) + 1 by omega, List.replicate_succ, set_at _ _ _ _ _ (by simp [chaC]; omega), List.range_succ, List.map_append]
  simp
theorem rowK_n (key nonce : List UInt8) (n : W32) : (rowK key 8).set 12 n = rowN key nonce n 0 := by
  unfold rowK
  rw [show 12 - 8 = 3 + 1 from rfl, List.replicate_succ, set_at _ _ _ _ _ (by simp [chaC])]
  simp [rowN]
theorem rowN_step (key nonce : List UInt8) (n : W32) (j : Nat) (hj : j < 3) : (rowN key nonce n j).set (13 + j) (wordLE nonce j) = rowN key nonce n (j + 1) := by
  unfold rowN
  rw [show 3 - j = (3 - (j + 1)) + 1 by omega, List.replicate_succ, set_at _ _ _ _ _ (by simp [chaC]; omega), List.range_succ (n := j), List.map_append]
  simp
theorem rowN_end (key nonce : List UInt8) (n : W32) : rowN key nonce n 3 = startC key nonce n := by simp [rowN, startC]
theorem word_le (b : List UInt8) (i : Nat) : littleN (((b.drop (4 * i)).take 4).take 8) = (wordLE b i).toNat := by
  have hl : ((b.drop (4 * i)).take 4).length ≤ 4 := by simp; omega
  have h := littleN_lt ((b.drop (4 * i)).take 4)
  have h4 : 256 ^ ((b.drop (4 * i)).take 4).length ≤ 256 ^ 4 := Nat.pow_le_pow_right (by decide) hl
  unfold wordLE
  rw [List.take_of_length_le (by omega), BitVec.toNat_ofNat, Nat.mod_eq_of_lt]
  exact Nat.lt_of_lt_of_le h (Nat.le_trans h4 (by decide))
theorem arr32K : Tryz.prog.underlying 65 = some (.array 32 5) := Tryz.underlying65
theorem i32K : (Tryz.prog.info? 65).map (·.size) = some 32 := by kernel_rfl
theorem arr12B : Tryz.prog.underlying 74 = some (.array 12 5) := Tryz.underlying74
theorem i12B : (Tryz.prog.info? 74).map (·.size) = some 12 := by kernel_rfl
theorem rowK_zero (key : List UInt8) : [Value.int .u32 1634760805, .int .u32 857760878, .int .u32 2036477234, .int .u32 1797285236, .int .u32 0, .int .u32 0, .int .u32 0, .int .u32 0, .int .u32 0, .int .u32 0, .int .u32 0, .int .u32 0, .int .u32 0, .int .u32 0, .int .u32 0, .int .u32 0] = (rowK key 0).map wv := by
  simp [rowK, chaC, wv]
theorem heap4c (w : World) (o1 o2 o3 o4 : Obj) : ((((w.alloc o1).alloc o2).alloc o3).alloc o4).heap[w.heap.size]? = some o1 ∧ ((((w.alloc o1).alloc o2).alloc o3).alloc o4).heap[w.heap.size + 1]? = some o2 ∧
    ((((w.alloc o1).alloc o2).alloc o3).alloc o4).heap[w.heap.size + 1 + 1]? = some o3 ∧ ((((w.alloc o1).alloc o2).alloc o3).alloc o4).heap[w.heap.size + 1 + 1 + 1]? = some o4 ∧ Below w.heap.size w ((((w.alloc o1).alloc o2).alloc o3).alloc o4) := by
  obtain ⟨h1, h2, h3, h4⟩ := heap3 w o1 o2 o3
  have e3 : (((w.alloc o1).alloc o2).alloc o3).heap.size = w.heap.size + 1 + 1 + 1 := by simp
  refine ⟨?_, ?_, ?_, ?_, h4.alloc (by omega) _⟩
  · rw [Below.heap_alloc _ _ _ (by omega)]; exact h1
  · rw [Below.heap_alloc _ _ _ (by omega)]; exact h2
  · rw [Below.heap_alloc _ _ _ (by omega)]; exact h3
  · have := heap_alloc_new' (((w.alloc o1).alloc o2).alloc o3) o4; rwa [e3] at this
/-- where a state is being laid: the key, the nonce, the answer's noughts, the row so far -/
def StH (w W : World) (key nonce : List UInt8) (l : List W32) : Prop :=
  Below w.heap.size w W ∧ W.heap[w.heap.size]? = some (.cells (key.map bv).toArray 65 (0, 0)) ∧ W.heap[w.heap.size + 1]? = some (.cells (nonce.map bv).toArray 74 (0, 0)) ∧
    W.heap[w.heap.size + 1 + 1]? = some (.cells (List.replicate 16 (Value.int .u32 0)).toArray 149 (0, 0)) ∧ W.heap[w.heap.size + 1 + 1 + 1]? = some (.cells (l.map wv).toArray 149 (0, 0))
theorem StH.step {w W W' : World} {key nonce : List UInt8} {l : List W32} (h : StH w W key nonce l) (hb : Below W.heap.size W W') : StH w W' key nonce l :=
  ⟨h.1.step hb, (hb.block _ (lt_of_heap h.2.1)).trans h.2.1, (hb.block _ (lt_of_heap h.2.2.1)).trans h.2.2.1, (hb.block _ (lt_of_heap h.2.2.2.1)).trans h.2.2.2.1, (hb.block _ (lt_of_heap h.2.2.2.2)).trans h.2.2.2.2⟩
theorem StH.put {w W : World} {key nonce : List UInt8} {l : List W32} (h : StH w W key nonce l) (p : Nat) (x : W32) : StH w (W.setCell ⟨w.heap.size + 1 + 1 + 1, p, none⟩ (.int .u32 (x.toNat : Int))) key nonce (l.set p x) := by
  obtain ⟨m1, m2, m3⟩ := st_row (B := w.heap.size) rfl (by omega) h.2.2.2.2
  exact ⟨h.1.trans m2, (m3 _ (by omega)).trans h.2.1, (m3 _ (by omega)).trans h.2.2.1, (m3 _ (by omega)).trans h.2.2.2.1, m1⟩
set_option maxHeartbeats 2000000 in
theorem cstart_any (key nonce : List UInt8) (n : W32) (w : World) (hk : key.length = 32) (hn : nonce.length = 12) :
    Calls Tryz.prog 116 #[.agg (key.map bv).toArray, .agg (nonce.map bv).toArray, .int .u32 (n.toNat : Int)] w fun e w' => e = .returned (.agg ((startC key nonce n).map wv).toArray) ∧ Below w.heap.size w w' := by
  have HK := Lib.hid hk; have HN := Lib.hid hn
  clear hk hn
  go_enter Tryz.func116, Tryz.ntmps116
  go_wp2_with fail
  generalize hV : (((w.alloc _).alloc _).alloc _).alloc _ = W0
  have FH : Hid (StH w W0 key nonce (rowK key 0)) := by
    have h := heap4c w (.cells (key.map bv).toArray 65) (.cells (nonce.map bv).toArray 74) (.cells (List.replicate 16 (Value.int .u32 0)).toArray 149) (.cells ((rowK key 0).map wv).toArray 149)
    rw [← rowK_zero] at h
    have e : W0 = _ := hV.symm
    rw [e]
    refine ⟨h.2.2.2.2, h.1, h.2.1, h.2.2.1, ?_⟩
    rw [← rowK_zero]
    exact h.2.2.2.1
  clear hV
  go_loopw [11] (fun vi wr => ∃ (i : Nat), i ≤ 8 ∧ vi = .int .i64 (i : Int) ∧ Hid (StH w wr key nonce (rowK key i))) (fun i _ => 8 - (intOf i).toNat)
  case atStart => exact ⟨0, by omega, rfl, FH⟩
  case round =>
    obtain ⟨i, hi, rfl, H⟩ := hrel
    by_cases hlt : i < 8
    · have e1 : (i : Int) < 8 := by omega
      have sl := arr_mid arr32K s8 ⟨w.heap.size, 0, none⟩ .i64 .i64 (4 * (i : Int)) (4 * (i : Int) + 4) (by omega) (by omega) (by omega)
      have e2 : (4 * (i : Int)).toNat = 4 * i := by omega
      have e3 : (4 * (i : Int) + 4).toNat = 4 * i + 4 := by omega
      rw [e2, e3, show 4 * i + 4 - 4 * i = 4 by omega, show cutA ⟨w.heap.size, 0, none⟩ 32 (4 * i) = ⟨w.heap.size, 4 * i, none⟩ from by unfold cutA; rw [if_neg (by omega), Addr.add_mid, Nat.zero_add]] at sl
      clear e2 e3
      have HWB := Lib.hid (word_le key i)
      have HST := Lib.hid (rowK_step key i (by omega))
      obtain ⟨p, hp⟩ : ∃ p, p = 4 + i := ⟨_, rfl⟩
      rw [← hp] at HST
      have hpi : 4 + (i : Int) = (p : Int) := by omega
      have hp16 : p < 16 := by omega
      have HPI := Lib.hid hpi; have HP16 := Lib.hid hp16
      have q2 : 4 + (i : Int) < 16 := by omega
      clear hp hpi hp16
      go_wp2_with fail
      refine (little_n (some ⟨w.heap.size, 4 * i, none⟩) 4 (32 - 4 * i) ((key.drop (4 * i)).take 4) wr ?_ ?_ ?_ ?_).mono ?_
      · rw [List.length_take, List.length_drop, HK.out]; omega
      · omega
      · simp [maxLen]; omega
      · exact row_sub H.out.2.1 (4 * i) 4 (lt_of_heap H.out.2.1)
      rintro e w1 ⟨rfl, hb1⟩
      rw [HWB.out]
      generalize wordLE key i = x at HST
      have hx := x.isLt
      have H' := Lib.hid (H.out.step hb1)
      have hmod : (x.toNat : Int) % 4294967296 = (x.toNat : Int) := by omega
      have c1 := wcell H'.out.2.2.2.2 p (by rw [rowK_len _ _ (by omega)]; exact HP16.out)
      have fz := frozen_of_heap H'.out.2.2.2.2 p
      have hq : (4 + (i : Int)).toNat = p := by have := HPI.out; omega
      clear hb1 H HWB
      go_wp2
      go_roundw
      case rel =>
        refine ⟨i + 1, by omega, by go_num, ?_⟩
        have := H'.out.put p x
        rw [HST.out] at this
        exact this
      case measure => simp [intOf]; omega
    · have hi8 : i = 8 := by omega
      have H := H.out
      rw [hi8] at H
      have H := Lib.hid H
      clear hi8
      have c1 := wcell H.out.2.2.2.2 12 (by rw [rowK_len _ _ (by omega)]; omega)
      have fz := frozen_of_heap H.out.2.2.2.2 12
      obtain ⟨wo, hwo⟩ : ∃ x, x = wr := ⟨_, rfl⟩
      subst hwo
      have FN : Hid (StH w (wo.setCell ⟨w.heap.size + 1 + 1 + 1, 12, none⟩ (.int .u32 (n.toNat : Int))) key nonce (rowN key nonce n 0)) := by
        have := H.out.put 12 n
        rw [rowK_n key nonce n] at this
        exact this
      clear FH
      go_wp2_with fail
      generalize World.setCell _ _ _ = W1 at FN ⊢
      clear c1 fz
      go_loopw [28] (fun vi wr => ∃ (j : Nat), j ≤ 3 ∧ vi = .int .i64 (j : Int) ∧ Hid (StH w wr key nonce (rowN key nonce n j))) (fun j _ => 3 - (intOf j).toNat)
      case atStart => exact ⟨0, by omega, rfl, FN⟩
      case round =>
        clear FN
        obtain ⟨j, hi, rfl, H⟩ := hrel
        by_cases hlt : j < 3
        · have e1 : (j : Int) < 3 := by omega
          have sl := arr_mid arr12B s8 ⟨w.heap.size + 1, 0, none⟩ .i64 .i64 (4 * (j : Int)) (4 * (j : Int) + 4) (by omega) (by omega) (by omega)
          have e2 : (4 * (j : Int)).toNat = 4 * j := by omega
          have e3 : (4 * (j : Int) + 4).toNat = 4 * j + 4 := by omega
          rw [e2, e3, show 4 * j + 4 - 4 * j = 4 by omega, show cutA ⟨w.heap.size + 1, 0, none⟩ 12 (4 * j) = ⟨w.heap.size + 1, 4 * j, none⟩ from by unfold cutA; rw [if_neg (by omega), Addr.add_mid, Nat.zero_add]] at sl
          clear e2 e3
          have HWB := Lib.hid (word_le nonce j)
          have HST := Lib.hid (rowN_step key nonce n j (by omega))
          obtain ⟨p, hp⟩ : ∃ p, p = 13 + j := ⟨_, rfl⟩
          rw [← hp] at HST
          have hpi : 13 + (j : Int) = (p : Int) := by omega
          have hp16 : p < 16 := by omega
          have HPI := Lib.hid hpi; have HP16 := Lib.hid hp16
          have q2 : 13 + (j : Int) < 16 := by omega
          clear hp hpi hp16
          go_wp2_with fail
          refine (little_n (some ⟨w.heap.size + 1, 4 * j, none⟩) 4 (12 - 4 * j) ((nonce.drop (4 * j)).take 4) wr ?_ ?_ ?_ ?_).mono ?_
          · rw [List.length_take, List.length_drop, HN.out]; omega
          · omega
          · simp [maxLen]; omega
          · exact row_sub H.out.2.2.1 (4 * j) 4 (lt_of_heap H.out.2.2.1)
          rintro e w1 ⟨rfl, hb1⟩
          rw [HWB.out]
          generalize wordLE nonce j = x at HST
          have hx := x.isLt
          have H' := Lib.hid (H.out.step hb1)
          have hmod : (x.toNat : Int) % 4294967296 = (x.toNat : Int) := by omega
          have c1 := wcell H'.out.2.2.2.2 p (by rw [rowN_len _ _ _ _ (by omega)]; exact HP16.out)
          have fz := frozen_of_heap H'.out.2.2.2.2 p
          have hq : (13 + (j : Int)).toNat = p := by have := HPI.out; omega
          clear hb1 H HWB
          go_wp2
          go_roundw
          case rel =>
            refine ⟨j + 1, by omega, by go_num, ?_⟩
            have := H'.out.put p x
            rw [HST.out] at this
            exact this
          case measure => simp [intOf]; omega
        · have H' : Hid (StH w wr key nonce (startC key nonce n)) := by have := H.out; rw [show j = 3 by omega, rowN_end] at this; exact this
          have hl4 : Hid (((startC key nonce n).map wv).length = 16) := by show _ = _; rw [List.length_map, startC_len]
          clear H
          obtain ⟨H1, H2, H3, H4, H5⟩ := H'.out
          have HB := Lib.hid H1; have HZ := Lib.hid H4; have HR := Lib.hid H5
          clear H1 H2 H3 H4 H5 H'
          obtain ⟨L, HLL⟩ : ∃ L, Hid ((startC key nonce n).map wv = L) := ⟨_, rfl⟩
          have hone : Hid (∀ v ∈ L, v.oneCell' = true) := by show ∀ v ∈ L, _; rw [← HLL.out]; exact wv_one _
          rw [HLL.out] at HR hl4
          go_wp2_with (first
            | (refine wpList_ld rfl 149 (.tmp 7) rfl (load_arr arrSt rfl (by rw [hl4.out]; exact iSt) HR.out) ?_)
            | (refine wpList_st rfl 149 (.tmp 6) (.tmp 43) rfl (store_arr (cs := L) (by rw [hl4.out]; exact iSt) hone.out HZ.out (by rw [hl4.out]; simp)) ?_))
          have hres := setRow_heap wr (w.heap.size + 1 + 1) _ L.toArray 149 _ HZ.out
          exact bodyPost_ret (results_cell_row (P := Tryz.prog) rfl _ _ (w.heap.size + 1 + 1) 149 L.toArray (0, 0) _ rfl hres arrSt rfl (by rw [List.size_toArray, hl4.out]; exact iSt)) rfl ⟨by rw [HLL.out], HB.out.trans (grown_below (grown_setRow _ _ _) (by omega) HB.out.size)⟩
end Go.Proofs.YtimgggpojbpfkaaGreatDoor

/- The contract of (state).flat. -/
namespace Go.Proofs.YtimgggpojbpfkaaGreatDoor
open Go.RowKit
set_option maxRecDepth 100000
set_option linter.unusedVariables false
set_option linter.unusedSimpArgs false
/-- a state's words as bytes -/
def outLE (h : List W32) : List UInt8 := h.flatMap fun x => putLittle x.toNat 4
theorem outLE_len (h : List W32) : (outLE h).length = 4 * h.length := by
  induction h with
  | nil => rfl
  | cons x h ih => simp only [outLE, List.flatMap_cons, List.length_append, List.length_cons] at ih ⊢; rw [ih]; simp [putLittle]; omega
def cflatN (h : List W32) (i : Nat) : List UInt8 := outLE (h.take i) ++ List.replicate (64 - 4 * i) 0
theorem cflatN_len (h : List W32) (i : Nat) (hh : h.length = 16) (hi : i ≤ 16) : (cflatN h i).length = 64 := by
  simp [cflatN, outLE_len, hh]; omega
theorem cflatN_step (h : List W32) (i : Nat) (hh : h.length = 16) (hi : i < 16) : splice ((cflatN h i).map bv) (4 * i) ((putLittle (h.getD i 0).toNat 4).map bv) = (cflatN h (i + 1)).map bv := by
  have e0 : List.replicate (64 - 4 * i) (0 : UInt8) = List.replicate 4 0 ++ List.replicate (64 - 4 * (i + 1)) 0 := by
    rw [List.replicate_append_replicate]; congr 1; omega
  have e1 : (cflatN h i).map bv = (outLE (h.take i)).map bv ++ (List.replicate 4 (0 : UInt8)).map bv ++ (List.replicate (64 - 4 * (i + 1)) (0 : UInt8)).map bv := by
    rw [cflatN, e0, List.map_append, List.map_append, List.append_assoc]
  have hl : ((outLE (h.take i)).map bv).length = 4 * i := by rw [List.length_map, outLE_len, List.length_take, hh]; omega
  have e2 : outLE (h.take (i + 1)) = outLE (h.take i) ++ putLittle (h.getD i 0).toNat 4 := by
    have hi' : i < h.length := by omega
    rw [List.take_succ_eq_append_getElem hi', outLE, List.flatMap_append]
    simp [outLE, List.getD, hi']
  rw [e1, ← hl, splice_split _ _ _ _ (by simp [putLittle_len]), cflatN, e2, List.map_append, List.map_append]
theorem cflatN_end (h : List W32) (hh : h.length = 16) : cflatN h 16 = outLE h := by
  simp [cflatN, List.take_of_length_le, hh]
theorem i64Bc : (Tryz.prog.info? 109).map (·.size) = some 64 := by kernel_rfl
set_option maxHeartbeats 2000000 in
theorem cflat_any (h : List W32) (w : World) (hh : h.length = 16) :
    Calls Tryz.prog 118 #[.agg (h.map wv).toArray] w fun e w' => e = .returned (.agg ((outLE h).map bv).toArray) ∧ Below w.heap.size w w' := by
  have HH := Lib.hid hh
  clear hh
  go_enter Tryz.func118, Tryz.ntmps118
  go_wp2_with fail
  generalize hV : ((w.alloc _).alloc _).alloc _ = W0
  have F0 : Hid (W0.heap[w.heap.size]? = some (.cells (h.map wv).toArray 149 (0, 0))) := by rw [← hV]; exact (heap3 w _ _ _).1
  have F1 : Hid (W0.heap[w.heap.size + 1]? = some (.cells (List.replicate 64 (Value.int .u8 0)).toArray 109 (0, 0))) := by rw [← hV]; exact (heap3 w _ _ _).2.1
  have F2 : Hid (W0.heap[w.heap.size + 1 + 1]? = some (.cells ((cflatN h 0).map bv).toArray 109 (0, 0))) := by rw [← hV]; exact (heap3 w _ _ _).2.2.1
  have FB : Hid (Below w.heap.size w W0) := by rw [← hV]; exact (heap3 w _ _ _).2.2.2
  clear hV
  generalize hg2 : w.heap.size + 1 + 1 = g2 at F2 ⊢
  generalize hg1 : w.heap.size + 1 = g1 at F1 ⊢
  have HG2 : Hid (w.heap.size + 1 + 1 = g2) := hg2
  have HG1 : Hid (w.heap.size + 1 = g1) := hg1
  clear hg1 hg2
  go_loopw [5] (fun vi wr => ∃ (i : Nat), i ≤ 16 ∧ vi = .int .i64 (i : Int) ∧ Hid (Below w.heap.size w wr) ∧ Hid (wr.heap[w.heap.size]? = some (.cells (h.map wv).toArray 149 (0, 0))) ∧ Hid (wr.heap[g1]? = some (.cells (List.replicate 64 (Value.int .u8 0)).toArray 109 (0, 0))) ∧
     Hid (wr.heap[g2]? = some (.cells ((cflatN h i).map bv).toArray 109 (0, 0)))) (fun i _ => 16 - (intOf i).toNat)
  case atStart => exact ⟨0, by omega, rfl, FB, F0, F1, F2⟩
  case round =>
    clear F0 F1 F2 FB
    obtain ⟨i, hi, rfl, HB, H0, H1, H2⟩ := hrel
    by_cases hlt : i < 16
    · have e1 : (i : Int) < 16 := by omega
      obtain ⟨q, hq⟩ : ∃ q, q = 4 * i := ⟨_, rfl⟩
      have sl := arr_from arr64B s8 ⟨g2, 0, none⟩ .i64 (q : Int) (by omega) (by omega)
      rw [Int.toNat_natCast, show cutA ⟨g2, 0, none⟩ 64 q = ⟨g2, q, none⟩ from by unfold cutA; rw [if_neg (by omega), Addr.add_mid, Nat.zero_add]] at sl
      have u1 : IntKind.i64.wrap (4 * (i : Int)) = (q : Int) := by rw [IntKind.wrap_i64]; omega
      have c0 := wcell H0.out i (by rw [HH.out]; exact hlt)
      have HST := Lib.hid (cflatN_step h i HH.out hlt)
      rw [← hq] at HST
      generalize h.getD i 0 = x at c0 HST
      have hx := x.isLt
      have u2 : IntKind.u64.wrap (x.toNat : Int) = (x.toNat : Int) := by rw [IntKind.wrap_u64]; omega
      have HQ : Hid (q + 4 ≤ 64) := by show _ ≤ _; omega
      have HL32 := Lib.hid (cflatN_len h i HH.out hi)
      clear hq
      have HX : Hid (Below g2 wr wr.drew) := (Below.refl _ _).drew
      have q2 : w.heap.size < g2 := by have := HG2.out; omega
      have hg2w : Hid (g2 ≤ wr.heap.size) := Nat.le_of_lt (lt_of_heap H2.out)
      go_wp2_with fail
      refine regB_start (g2) (by kernel_rfl) ?_
      try simp only [Act.put, List.setIfInBounds_toArray, List.set_cons_zero, List.set_cons_succ]
      refine regB_take (v := ?_) 0 (some 8) rfl rfl (by kernel_rfl) (by kernel_rfl) (by kernel_rfl) (fun _ _ _ h => h) (by rfl) (fun W hW => ?_) ?_
      rotate_left
      · (go_simp; try rfl)
      simp only [Act.put, List.setIfInBounds_toArray, List.set_cons_zero, List.set_cons_succ]
      refine regB_take (v := ?_) 1 (some 9) rfl rfl (by kernel_rfl) (by kernel_rfl) (by kernel_rfl) (fun _ _ _ h => h) (by rfl) (fun W hW => ?_) ?_
      rotate_left
      · (go_simp; try rfl)
      simp only [Act.put, List.setIfInBounds_toArray, List.set_cons_zero, List.set_cons_succ]
      refine regB_take (v := ?_) 2 (some 10) rfl rfl (by kernel_rfl) (by kernel_rfl) (by kernel_rfl) (fun _ _ _ h => h) (by rfl) (fun W hW => ?_) ?_
      rotate_left
      · (go_simp; try rfl)
      simp only [Act.put, List.setIfInBounds_toArray, List.set_cons_zero, List.set_cons_succ]
      refine regB_take (v := ?_) 3 (some 11) rfl rfl (by kernel_rfl) (by kernel_rfl) (by kernel_rfl) (fun _ _ _ h => h) (by rfl) (fun W hW => ?_) ?_
      rotate_left
      · (go_simp; try rfl)
      simp only [Act.put, List.setIfInBounds_toArray, List.set_cons_zero, List.set_cons_succ]
      refine regB_take (v := ?_) 4 (some 12) rfl rfl (by kernel_rfl) (by kernel_rfl) (by kernel_rfl) (fun _ _ _ h => h) (by rfl) (fun W hW => ?_) ?_
      rotate_left
      · (go_simp; try rfl)
      simp only [Act.put, List.setIfInBounds_toArray, List.set_cons_zero, List.set_cons_succ]
      refine regB_load 5 (some 13) (fun W hW => load_cell Tryz.underlying76 ((hW.cell q2).trans c0)) rfl rfl rfl rfl (by kernel_rfl) (by kernel_rfl) (by kernel_rfl) (fun _ _ _ h => h) (by rfl) ?_
      simp only [Act.put, List.setIfInBounds_toArray, List.set_cons_zero, List.set_cons_succ]
      refine regB_take (v := ?_) 6 (some 14) rfl rfl (by kernel_rfl) (by kernel_rfl) (by kernel_rfl) (fun _ _ _ h => h) (by rfl) (fun W hW => ?_) ?_
      rotate_left
      · (go_simp; try rfl)
      simp only [Act.put, List.setIfInBounds_toArray, List.set_cons_zero, List.set_cons_succ]
      refine regB_eff 7 rfl (by kernel_rfl) (fun K hK => ?_)
      go_simp
      refine (putLittle_any x.toNat 4 _ (by omega) (by omega)).mono ?_
      rintro e w3 ⟨g3, hg3, rfl, hk3, hE0⟩
      have F3 : Hid (w3.heap[g2]? = _) := (hE0.block _ (lt_of_heap (w := wr.drew) H2.out)).trans H2.out
      have F1' : Hid (w3.heap[g1]? = _) := (hE0.block _ (lt_of_heap (w := wr.drew) H1.out)).trans H1.out
      have F0' : Hid (w3.heap[w.heap.size]? = _) := (hE0.block _ (lt_of_heap (w := wr.drew) H0.out)).trans H0.out
      have FB' : Hid (Below w.heap.size w w3) := Below.step (w1 := wr.drew) HB.out.drew hE0
      have R3 := Lib.hid (row_of_heap hk3 (Nat.lt_succ_self g3))
      have hE : Below g2 wr.drew w3 := RowKit.Below.mono hE0 hg2w.out
      clear hE0 hk3 hg3
      refine hK.out _ _ hE ?_
      have HX := Lib.hid (Below.trans HX.out hE)
      clear hE hK K
      try simp only [Act.put, List.setIfInBounds_toArray, List.set_cons_zero, List.set_cons_succ]
      refine regB_eff 8 rfl (by kernel_rfl) (fun K hK => ?_)
      obtain ⟨w5, hrun, hblk, _, hgr⟩ := copy_run uT s8 (sT := 22) 3 w3 g2 q ((cflatN h i).map bv) 109 F3.out (some ⟨g2, q, none⟩) (some ⟨g3, 0, none⟩) (64 - q) (64 - q) 4 4 (g3 + 1) ((putLittle x.toNat 4).map bv) (by have := HQ.out; simp [putLittle_len]; omega) (fun _ => rfl) R3.out (by have := HQ.out; have := HL32.out; simp [putLittle_len]; omega) (bv_one _)
      rw [HST.out] at hblk
      have E2 := Lib.hid hblk
      have EG := Lib.hid hgr
      refine step_cpy rfl (.tmp 10) (.tmp 15) 22 22 rfl hrun ?_
      have hE : Below g2 w3 w5 := grown_below hgr (Nat.le_refl _) (Nat.le_of_lt (lt_of_heap F3.out))
      clear hrun hblk hgr
      refine hK.out _ _ hE ?_
      have HX := Lib.hid (Below.trans HX.out hE)
      clear hE hK K
      try simp only [Act.put, List.setIfInBounds_toArray, List.set_cons_zero, List.set_cons_succ]
      refine regB_done (by kernel_rfl) ?_
      clear u1 u2
      go_wp2
      go_roundw
      case rel =>
        have q3 := HG2.out
        have q1 := HG1.out
        refine ⟨i + 1, by omega, by go_num, ?_, ?_, ?_, E2⟩
        · exact FB'.out.trans (grown_below EG.out (by omega) FB'.out.size)
        · exact (EG.out.block _ (lt_of_heap F0'.out) (by simp; omega)).trans F0'.out
        · exact (EG.out.block _ (lt_of_heap F1'.out) (by simp; omega)).trans F1'.out
      case measure => simp [intOf]; omega
    · have H2' : Hid (wr.heap[g2]? = some (.cells ((outLE h).map bv).toArray 109 (0, 0))) := by have := H2.out; rw [show i = 16 by omega, cflatN_end h HH.out] at this; exact this
      have hl : Hid (((outLE h).map bv).length = 64) := by show _ = _; rw [List.length_map, outLE_len, HH.out]
      obtain ⟨L, HL⟩ : ∃ L, Hid (outLE h = L) := ⟨_, rfl⟩
      rw [HL.out] at hl H2'
      go_wp2_with (first
        | (refine wpList_ld rfl 109 (.tmp 3) rfl (load_arr arr64B rfl (by rw [hl.out]; exact i64Bc) H2'.out) ?_)
        | (refine wpList_st rfl 109 (.tmp 2) (.tmp 18) rfl (store_arr (cs := L.map bv) (by rw [hl.out]; exact i64Bc) (bv_one _) H1.out (by rw [hl.out]; simp)) ?_))
      have hres := setRow_heap wr g1 _ (L.map bv).toArray 109 _ H1.out
      rw [HL.out]
      exact bodyPost_ret (results_cell_row (P := Tryz.prog) rfl _ _ g1 109 (L.map bv).toArray (0, 0) _ rfl hres arr64B rfl (by rw [List.size_toArray, hl.out]; exact i64Bc)) rfl ⟨rfl, HB.out.trans (grown_below (grown_setRow _ _ _) (by have := HG1.out; omega) HB.out.size)⟩
end Go.Proofs.YtimgggpojbpfkaaGreatDoor

/- The contract of chacha.Block. -/
namespace Go.Proofs.YtimgggpojbpfkaaGreatDoor
open Go.RowKit
set_option maxRecDepth 100000
set_option linter.unusedVariables false
set_option linter.unusedSimpArgs false
/-- two rounds, over columns and over diagonals -/
def dblL (l : List W32) : List W32 := roundN 1 (roundN 0 l 4) 4
def dblN (l : List W32) : Nat → List W32
  | 0 => l
  | i + 1 => dblL (dblN l i)
theorem dblL_len (l : List W32) : (dblL l).length = l.length := by rw [dblL, roundN_len, roundN_len]
theorem dblN_len (l : List W32) (i : Nat) : (dblN l i).length = l.length := by
  induction i with
  | zero => rfl
  | succ i ih => rw [dblN, dblL_len, ih]
def csumL (a b : List W32) : List W32 := List.zipWith (· + ·) a b
def csumN (a b : List W32) (i : Nat) : List W32 := (csumL a b).take i ++ a.drop i
theorem csumL_len (a b : List W32) (h : a.length = b.length) : (csumL a b).length = a.length := by simp [csumL, h]
theorem csumN_len (a b : List W32) (i : Nat) (h : a.length = b.length) : (csumN a b i).length = a.length := by
  simp [csumN, csumL_len a b h]; omega
theorem csumN_get (a b : List W32) (i : Nat) (h : a.length = b.length) (hi : i < a.length) : (csumN a b i).getD i 0 = a.getD i 0 := by
  have hl : ((csumL a b).take i).length = i := by rw [List.length_take, csumL_len a b h]; omega
  rw [csumN, List.getD_eq_getElem?_getD, List.getElem?_append_right (by omega), hl, List.getElem?_drop, List.getD_eq_getElem?_getD]; simp
theorem csumN_step (a b : List W32) (i : Nat) (h : a.length = b.length) (hi : i < a.length) : (csumN a b i).set i (a.getD i 0 + b.getD i 0) = csumN a b (i + 1) := by
  have hl : ((csumL a b).take i).length = i := by rw [List.length_take, csumL_len a b h]; omega
  have ha : i < (csumL a b).length := by rw [csumL_len a b h]; exact hi
  unfold csumN
  rw [List.set_append_right _ _ (by omega), hl, Nat.sub_self, List.drop_eq_getElem_cons (by omega), List.set_cons_zero, List.take_succ_eq_append_getElem ha, List.append_assoc]
  congr 1
  simp [csumL, List.getD, hi, show i < b.length by omega]
theorem csumN_end (a b : List W32) (h : a.length = b.length) : csumN a b a.length = csumL a b := by
  rw [csumN, List.take_of_length_le (by rw [csumL_len a b h]; omega), List.drop_of_length_le (by omega), List.append_nil]
/-- the block of a key, a nonce and a counter -/
def blockC (key nonce : List UInt8) (n : W32) : List UInt8 := outLE (csumL (dblN (startC key nonce n) 10) (startC key nonce n))
theorem blockC_len (key nonce : List UInt8) (n : W32) : (blockC key nonce n).length = 64 := by
  rw [blockC, outLE_len, csumL_len _ _ (by rw [dblN_len]), dblN_len, startC_len]
def BlH (w W : World) (p q : Nat) (first l : List W32) : Prop :=
  Below w.heap.size w W ∧ W.heap[w.heap.size + 1 + 1]? = some (.cells (List.replicate 64 (Value.int .u8 0)).toArray 109 (0, 0)) ∧ W.heap[p]? = some (.cells (first.map wv).toArray 149 (0, 0)) ∧ W.heap[q]? = some (.cells (l.map wv).toArray 149 (0, 0))
theorem BlH.step {w W W' : World} {p q : Nat} {first l : List W32} (h : BlH w W p q first l) (hb : Below W.heap.size W W') : BlH w W' p q first l :=
  ⟨h.1.step hb, (hb.block _ (lt_of_heap h.2.1)).trans h.2.1, (hb.block _ (lt_of_heap h.2.2.1)).trans h.2.2.1, (hb.block _ (lt_of_heap h.2.2.2)).trans h.2.2.2⟩
theorem BlH.put {w W : World} {p q : Nat} {first l : List W32} (h : BlH w W p q first l) (hp : w.heap.size + 1 + 1 < p ∧ p < q) (i : Nat) (x : W32) : BlH w (W.setCell ⟨q, i, none⟩ (.int .u32 (x.toNat : Int))) p q first (l.set i x) := by
  obtain ⟨m1, m2, m3⟩ := st_row (B := w.heap.size) rfl (by omega) h.2.2.2
  exact ⟨h.1.trans m2, (m3 _ (by omega)).trans h.2.1, (m3 _ (by omega)).trans h.2.2.1, m1⟩
theorem BlH.row {w W W' : World} {p q : Nat} {first l : List W32} {l' : List W32} (h : BlH w W p q first l) (hp : w.heap.size + 1 + 1 < p ∧ p < q) (hV : W.setRow q (l'.map wv).toArray = W') : BlH w W' p q first l' := by
  have hg := grown_setRow W q (l'.map wv).toArray
  rw [hV] at hg
  refine ⟨h.1.trans (grown_below hg (by omega) h.1.size), (hg.block _ (lt_of_heap h.2.1) (by simp; omega)).trans h.2.1, (hg.block _ (lt_of_heap h.2.2.1) (by simp; omega)).trans h.2.2.1, ?_⟩
  exact heap_of_setRow hV h.2.2.2
set_option maxHeartbeats 4000000 in
theorem cblock_any (key nonce : List UInt8) (n : W32) (w : World) (hk : key.length = 32) (hn : nonce.length = 12) :
    Calls Tryz.prog 78 #[.agg (key.map bv).toArray, .agg (nonce.map bv).toArray, .int .u32 (n.toNat : Int)] w fun e w' => e = .returned (.agg ((blockC key nonce n).map bv).toArray) ∧ Below w.heap.size w w' := by
  have ST := Lib.hid (fun W => cstart_any key nonce n W hk hn)
  have HK := Lib.hid hk; have HN := Lib.hid hn
  have HSL := Lib.hid (startC_len key nonce n)
  obtain ⟨ten, HT⟩ : ∃ t : Nat, Hid (t = 10) := ⟨_, rfl⟩
  obtain ⟨R, HR⟩ : ∃ R, Hid (outLE (csumL (dblN (startC key nonce n) ten) (startC key nonce n)) = R) := ⟨_, rfl⟩
  have hbR : blockC key nonce n = R := by rw [← HR.out, HT.out]; rfl
  rw [hbR]
  clear hk hn hbR
  generalize startC key nonce n = L0 at ST HSL HR
  go_enter Tryz.func78, Tryz.ntmps78
  go_wp2_with (first
    | (refine wpList_ld rfl 65 (.tmp 3) rfl (load_arr arr32K rfl (by rw [List.length_map, HK.out]; exact i32K) (heap3 w _ _ _).1) ?_)
    | (refine wpList_ld rfl 74 (.tmp 4) rfl (load_arr arr12B rfl (by rw [List.length_map, HN.out]; exact i12B) (heap3 w _ _ _).2.1) ?_))
  generalize hV : ((w.alloc _).alloc _).alloc _ = W0
  have FZ : Hid (W0.heap[w.heap.size + 1 + 1]? = some (.cells (List.replicate 64 (Value.int .u8 0)).toArray 109 (0, 0))) := by rw [← hV]; exact (heap3 w _ _ _).2.2.1
  have FB : Hid (Below w.heap.size w W0) := by rw [← hV]; exact (heap3 w _ _ _).2.2.2
  clear hV
  refine (ST.out W0).mono ?_
  rintro e w1 ⟨rfl, hb1⟩
  have GZ : Hid (w1.heap[w.heap.size + 1 + 1]? = _) := (hb1.block _ (lt_of_heap FZ.out)).trans FZ.out
  have GB : Hid (Below w.heap.size w w1) := FB.out.step hb1
  have hl0 : Hid ((L0.map wv).length = 16) := by show _ = _; rw [List.length_map]; exact HSL.out
  have HP : Hid (w.heap.size + 1 + 1 < w1.heap.size) := lt_of_heap GZ.out
  clear hb1 FZ FB ST
  go_wp2_with (first
    | (refine wpList_st rfl 149 (.tmp 7) (.tmp 13) rfl (store_arr (cs := L0.map wv) (old := List.replicate 16 (Value.int .u32 0)) (by rw [hl0.out]; exact iSt) (wv_one _) (heap_alloc_new' w1 _) (by rw [hl0.out]; simp)) ?_
       generalize hV : World.setRow _ _ _ = W2
       have M0 := Lib.hid (heap_of_setRow hV (heap_alloc_new' w1 _))
       have MB := Lib.hid (((Below.refl w1.heap.size w1).alloc (Nat.le_refl _) _).trans (below_of_setRow hV (Nat.le_refl w1.heap.size) (by simp)))
       have hsz : Hid (W2.heap.size = w1.heap.size + 1) := by rw [← hV]; show _ = _; simp
       clear hV)
    | (refine wpList_ld rfl 149 (.tmp 7) rfl (load_arr arrSt rfl (by rw [hl0.out]; exact iSt) M0.out) ?_)
    | (refine wpList_st rfl 149 (.tmp 8) (.tmp 14) rfl (store_arr (cs := L0.map wv) (old := List.replicate 16 (Value.int .u32 0)) (by rw [hl0.out]; exact iSt) (wv_one _) (heap_alloc_new' W2 _) (by rw [hl0.out]; simp)) ?_
       generalize hV : World.setRow _ _ _ = W3
       have M1 := Lib.hid (heap_of_setRow hV (heap_alloc_new' W2 _))
       have MC := Lib.hid (((Below.refl W2.heap.size W2).alloc (Nat.le_refl _) _).trans (below_of_setRow hV (Nat.le_refl W2.heap.size) (by simp)))
       clear hV))
  have IH : Hid (BlH w W3 w1.heap.size W2.heap.size L0 L0) := by
    have z2 := (MB.out.block _ (lt_of_heap GZ.out)).trans GZ.out
    exact ⟨(GB.out.step MB.out).step MC.out, (MC.out.block _ (lt_of_heap z2)).trans z2, (MC.out.block _ (lt_of_heap M0.out)).trans M0.out, M1.out⟩
  have HPQ : Hid (w.heap.size + 1 + 1 < w1.heap.size ∧ w1.heap.size < W2.heap.size) := ⟨HP.out, by have := hsz.out; omega⟩
  clear hsz M0 M1 MB MC HP GZ GB hl0
  generalize w1.heap.size = p at IH HPQ ⊢
  generalize W2.heap.size = q at IH HPQ ⊢
  go_loopw [15] (fun vi wr => ∃ (i : Nat), i ≤ 10 ∧ vi = .int .i64 (i : Int) ∧ Hid (BlH w wr p q L0 (dblN L0 i))) (fun i _ => 10 - (intOf i).toNat)
  case atStart => exact ⟨0, by omega, rfl, IH⟩
  case round =>
    clear IH
    obtain ⟨i, hi, rfl, H⟩ := hrel
    by_cases hlt : i < 10
    · have e1 : (i : Int) < 10 := by omega
      have hst : Hid (roundN 1 (roundN 0 (dblN L0 i) 4) 4 = dblN L0 (i + 1)) := rfl
      have hl1 : Hid ((dblN L0 i).length = 16) := by show _ = _; rw [dblN_len]; exact HSL.out
      generalize dblN L0 i = A at H hst hl1
      have hl2 : Hid ((roundN 0 A 4).length = 16) := by show _ = _; rw [roundN_len]; exact hl1.out
      have R1 := Lib.hid (fun W => round_any 0 A W hl1.out (by omega))
      generalize roundN 0 A 4 = B at hst hl2 R1
      have hl3 : Hid ((roundN 1 B 4).length = 16) := by show _ = _; rw [roundN_len]; exact hl2.out
      have R2 := Lib.hid (fun W => round_any 1 B W hl2.out (by omega))
      generalize roundN 1 B 4 = C at hst hl3 R2
      go_wp2_with (first
        | (refine wpList_ld rfl 149 (.tmp 8) rfl (load_arr arrSt rfl (by rw [List.length_map, hl1.out]; exact iSt) H.out.2.2.2) ?_)
        | fail)
      refine (R1.out wr).mono ?_
      rintro e w2 ⟨rfl, hb2⟩
      have H2 := Lib.hid (H.out.step hb2)
      clear H hb2 R1
      go_wp2_with fail
      refine (R2.out w2).mono ?_
      rintro e w3 ⟨rfl, hb3⟩
      have H3 := Lib.hid (H2.out.step hb3)
      clear H2 hb3 R2
      go_wp2_with (first
        | (refine wpList_st rfl 149 (.tmp 8) (.tmp 19) rfl (store_arr (cs := C.map wv) (by rw [List.length_map, hl3.out]; exact iSt) (wv_one _) H3.out.2.2.2 (by rw [List.length_map, List.length_map, hl3.out, hl1.out])) ?_
           generalize hV : World.setRow _ _ _ = W4
           have H4 := Lib.hid (H3.out.row HPQ.out hV)
           clear hV H3)
        | fail)
      go_roundw
      case rel => exact ⟨i + 1, by omega, by go_num, by rw [← hst.out]; exact H4⟩
      case measure => simp [intOf]; omega
    · have e0 : csumN (dblN L0 ten) L0 0 = dblN L0 ten := by simp [csumN]
      have H' : Hid (BlH w wr p q L0 (csumN (dblN L0 ten) L0 0)) := by have := H.out; rw [show i = ten by rw [HT.out]; omega] at this; rw [e0]; exact this
      clear e0
      clear H
      have hl1 : Hid ((dblN L0 ten).length = 16) := by show _ = _; rw [dblN_len]; exact HSL.out
      generalize dblN L0 ten = A at H' hl1 HR
      have hAL : Hid (A.length = L0.length) := by show _ = _; rw [hl1.out, HSL.out]
      obtain ⟨wo, hwo⟩ : ∃ x, x = wr := ⟨_, rfl⟩
      subst hwo
      go_wp2_with fail
      go_loopw [21] (fun vi wr => ∃ (j : Nat), j ≤ 16 ∧ vi = .int .i64 (j : Int) ∧ Hid (BlH w wr p q L0 (csumN A L0 j))) (fun i _ => 16 - (intOf i).toNat)
      case atStart => exact ⟨0, by omega, rfl, H'⟩
      case round =>
        clear H'
        obtain ⟨j, hj, rfl, H⟩ := hrel
        by_cases hlt : j < 16
        · have q1 : (j : Int) < 16 := by omega
          have c0 := wcell H.out.2.2.2 j (by rw [csumN_len A L0 j hAL.out, hl1.out]; exact hlt)
          rw [csumN_get A L0 j hAL.out (by rw [hl1.out]; exact hlt)] at c0
          have c1 := wcell H.out.2.2.1 j (by rw [HSL.out]; exact hlt)
          have fz := frozen_of_heap H.out.2.2.2 j
          have HST := Lib.hid (csumN_step A L0 j hAL.out (by rw [hl1.out]; exact hlt))
          generalize A.getD j 0 = x at c0 HST
          generalize L0.getD j 0 = y at c1 HST
          have u1 : ((x.toNat : Int) + (y.toNat : Int)) % 4294967296 = ((x + y).toNat : Int) := add32 x y
          have U1 := Lib.hid u1
          clear u1
          go_wp2_with fail
          go_still_tail 8, (by kernel_rfl)
          change wpList _ _ _ _ _ wr.drew
          go_wp2
          go_roundw
          case rel =>
            refine ⟨j + 1, by omega, by go_num, ?_⟩
            have hd : BlH w wr.drew p q L0 (csumN A L0 j) := ⟨H.out.1.drew, H.out.2⟩
            have := hd.put HPQ.out j (x + y)
            rw [HST.out, ← U1.out] at this
            exact this
          case measure => simp [intOf]; omega
        · have H' : Hid (BlH w wr p q L0 (csumL A L0)) := by have := H.out; rw [show j = A.length by rw [hl1.out]; omega, csumN_end A L0 hAL.out] at this; exact this
          clear H
          have hl2 : Hid ((csumL A L0).length = 16) := by show _ = _; rw [csumL_len A L0 hAL.out]; exact hl1.out
          obtain ⟨S, HS⟩ : ∃ S, Hid (csumL A L0 = S) := ⟨_, rfl⟩
          rw [HS.out] at H' hl2
          have FL : Hid (∀ W, Calls Tryz.prog 118 #[.agg (S.map wv).toArray] W fun e w' => e = .returned (.agg ((outLE S).map bv).toArray) ∧ Below W.heap.size W w') := fun W => cflat_any S W hl2.out
          have ho : Hid ((outLE S).length = 64) := by show _ = _; rw [outLE_len, hl2.out]
          obtain ⟨O, HO⟩ : ∃ O, Hid (outLE S = O) := ⟨_, rfl⟩
          rw [HO.out] at FL ho
          go_wp2_with (first
            | (refine wpList_ld rfl 149 (.tmp 8) rfl (load_arr arrSt rfl (by rw [List.length_map, hl2.out]; exact iSt) H'.out.2.2.2) ?_)
            | fail)
          refine (FL.out wr).mono ?_
          rintro e w2 ⟨rfl, hb2⟩
          have H2 := Lib.hid (H'.out.step hb2)
          have HZ := Lib.hid H2.out.2.1
          clear hb2 FL
          go_wp2_with (first
            | (refine wpList_st rfl 109 (.tmp 6) (.tmp 34) rfl (store_arr (cs := O.map bv) (old := List.replicate 64 (Value.int .u8 0)) (by rw [List.length_map, ho.out]; exact i64Bc) (bv_one _) HZ.out (by rw [List.length_map, ho.out]; exact List.length_replicate)) ?_)
            | fail)
          have hres := setRow_heap w2 (w.heap.size + 1 + 1) _ (O.map bv).toArray 109 _ HZ.out
          exact bodyPost_ret (results_cell_row (P := Tryz.prog) rfl _ _ (w.heap.size + 1 + 1) 109 (O.map bv).toArray (0, 0) _ rfl hres arr64B rfl (by rw [List.size_toArray, List.length_map, ho.out]; exact i64Bc)) rfl ⟨by rw [← HR.out, HS.out, HO.out], H2.out.1.trans (grown_below (grown_setRow _ _ _) (by omega) H2.out.1.size)⟩
end Go.Proofs.YtimgggpojbpfkaaGreatDoor

/- The contracts of chacha.Stream and chacha.Crypt. -/
namespace Go.Proofs.YtimgggpojbpfkaaGreatDoor
open Go.RowKit
set_option maxRecDepth 100000
set_option linter.unusedVariables false
set_option linter.unusedSimpArgs false
def ctrAt (n : W32) (i : Nat) : W32 := n + BitVec.ofNat 32 i
/-- the first k blocks from a counter on -/
def blocksC (key nonce : List UInt8) (n : W32) (k : Nat) : List UInt8 := (List.range k).flatMap fun i => blockC key nonce (ctrAt n i)
theorem blocksC_succ (key nonce : List UInt8) (n : W32) (k : Nat) : blocksC key nonce n (k + 1) = blocksC key nonce n k ++ blockC key nonce (ctrAt n k) := by
  simp [blocksC, List.range_succ, List.flatMap_append]
theorem blocksC_len (key nonce : List UInt8) (n : W32) (k : Nat) : (blocksC key nonce n k).length = 64 * k := by
  induction k with
  | zero => rfl
  | succ k ih => rw [blocksC_succ, List.length_append, ih, blockC_len]; omega
def streamC (key nonce : List UInt8) (n : W32) (m : Nat) : List UInt8 := (blocksC key nonce n ((m + 63) / 64)).take m
theorem streamC_len (key nonce : List UInt8) (n : W32) (m : Nat) : (streamC key nonce n m).length = m := by
  rw [streamC, List.length_take, blocksC_len]; omega
def streamN (key nonce : List UInt8) (n : W32) (m k : Nat) : List UInt8 := (blocksC key nonce n k).take m ++ List.replicate (m - 64 * k) 0
theorem streamN_len (key nonce : List UInt8) (n : W32) (m k : Nat) : (streamN key nonce n m k).length = m := by
  rw [streamN, List.length_append, List.length_take, blocksC_len, List.length_replicate]; omega
theorem streamN_zero (key nonce : List UInt8) (n : W32) (m : Nat) : (streamN key nonce n m 0).map bv = List.replicate m (Value.int .u8 0) := by
  simp [streamN, blocksC, bv]
theorem streamN_end (key nonce : List UInt8) (n : W32) (m : Nat) : streamN key nonce n m ((m + 63) / 64) = streamC key nonce n m := by
  rw [streamN, streamC, show m - 64 * ((m + 63) / 64) = 0 by omega]; simp
theorem streamN_step (key nonce : List UInt8) (n : W32) (m k : Nat) (hk : 64 * k < m) :
    splice ((streamN key nonce n m k).map bv) (64 * k) (((blockC key nonce (ctrAt n k)).take (min 64 (m - 64 * k))).map bv) = (streamN key nonce n m (k + 1)).map bv := by
  have hl := blocksC_len key nonce n k
  have hb := blockC_len key nonce (ctrAt n k)
  have h1 := blocksC_succ key nonce n k
  unfold streamN
  rw [h1]
  generalize blocksC key nonce n k = A at hl ⊢
  generalize blockC key nonce (ctrAt n k) = X at hb ⊢
  obtain ⟨c, hc⟩ : ∃ c, c = min 64 (m - 64 * k) := ⟨_, rfl⟩
  rw [← hc, List.take_of_length_le (by omega), List.take_append, List.take_of_length_le (i := m) (by omega), hl]
  have e1 : List.replicate (m - 64 * k) (0 : UInt8) = List.replicate c 0 ++ List.replicate (m - 64 * (k + 1)) 0 := by
    rw [List.replicate_append_replicate]; congr 1; omega
  have e2 : X.take (m - 64 * k) = X.take c := by
    rcases Nat.le_total 64 (m - 64 * k) with h | h
    · rw [List.take_of_length_le (by omega), List.take_of_length_le (by omega)]
    · rw [hc, Nat.min_eq_right h]
  rw [e1, e2, List.map_append, List.map_append, ← List.append_assoc, List.map_append, List.map_append]
  have := splice_split (A.map bv) ((List.replicate c (0 : UInt8)).map bv) ((List.replicate (m - 64 * (k + 1)) (0 : UInt8)).map bv) ((X.take c).map bv) (by simp; omega)
  rw [List.length_map, hl] at this
  exact this
theorem ctr_wrap (n : W32) (i : Nat) : ((n.toNat : Int) + (i : Int)) % 4294967296 = ((ctrAt n i).toNat : Int) := by
  unfold ctrAt; rw [BitVec.toNat_add, BitVec.toNat_ofNat]; omega
/-- where a stream is being laid -/
def StrH (w W : World) (g : Nat) (key nonce : List UInt8) (l : List Value) : Prop :=
  Below w.heap.size w W ∧ W.heap[w.heap.size]? = some (.cells (key.map bv).toArray 65 (0, 0)) ∧ W.heap[w.heap.size + 1]? = some (.cells (nonce.map bv).toArray 74 (0, 0)) ∧ W.heap[g]? = some (.cells l.toArray 5 (0, 0))
theorem StrH.step {w W W' : World} {g : Nat} {key nonce : List UInt8} {l : List Value} (h : StrH w W g key nonce l) (hb : Below W.heap.size W W') : StrH w W' g key nonce l :=
  ⟨h.1.step hb, (hb.block _ (lt_of_heap h.2.1)).trans h.2.1, (hb.block _ (lt_of_heap h.2.2.1)).trans h.2.2.1, (hb.block _ (lt_of_heap h.2.2.2)).trans h.2.2.2⟩
theorem StrH.put {w W W' : World} {g : Nat} {key nonce : List UInt8} {l l' : List Value} (h : StrH w W g key nonce l) (hg : w.heap.size + 1 < g) (hb : W.grownBy W' (some g)) (hl : W'.heap[g]? = some (.cells l'.toArray 5 (0, 0))) : StrH w W' g key nonce l' :=
  ⟨h.1.trans (grown_below hb (by omega) h.1.size), (hb.block _ (lt_of_heap h.2.1) (by simp; omega)).trans h.2.1, (hb.block _ (lt_of_heap h.2.2.1) (by simp; omega)).trans h.2.2.1, hl⟩
set_option maxHeartbeats 4000000 in
theorem stream_any (key nonce : List UInt8) (n : W32) (many : Int) (m : Nat) (w : World) (hk : key.length = 32) (hn : nonce.length = 12) (hm : m = many.toNat) (h31 : m ≤ 100000) :
    Calls Tryz.prog 77 #[.agg (key.map bv).toArray, .agg (nonce.map bv).toArray, .int .u32 (n.toNat : Int), .int .i64 many] w (NewRow w m (streamC key nonce n m)) := by
  have BL := Lib.hid (fun i W => cblock_any key nonce (ctrAt n i) W hk hn)
  have HK := Lib.hid hk; have HN := Lib.hid hn
  have hmax : (if many < 0 then (0 : Int) else many) = (m : Int) := by split <;> omega
  clear hk hn hm
  have hmk := make_run (P := Tryz.prog) uT made8 rfl .i64 .i64 m (by omega) (by omega) ((w.alloc (.cells (key.map bv).toArray 65)).alloc (.cells (nonce.map bv).toArray 74))
  obtain ⟨W0, hW0⟩ : ∃ x, x = ((w.alloc (.cells (key.map bv).toArray 65)).alloc (.cells (nonce.map bv).toArray 74)).alloc (.cells (List.replicate m (Value.int .u8 0)).toArray 5) := ⟨_, rfl⟩
  rw [← hW0] at hmk
  have F := heap3 w (.cells (key.map bv).toArray 65) (.cells (nonce.map bv).toArray 74) (.cells (List.replicate m (Value.int .u8 0)).toArray 5)
  rw [← hW0] at F
  have F := Lib.hid F
  clear hW0
  go_enter Tryz.func77, Tryz.ntmps77
  go_wp2_with fail
  obtain ⟨K, hK⟩ : ∃ K, K = (m + 63) / 64 := ⟨_, rfl⟩
  have hKi : ((m : Int) + 63) / 64 = (K : Int) := by omega
  rw [hKi]
  have HKE : Hid (streamN key nonce n m K = streamC key nonce n m) := by rw [hK]; exact streamN_end _ _ _ _
  have hKm : Hid (∀ k, k < K → 64 * k < m ∧ k < 10000) := by intro k h; omega
  clear hK hKi
  generalize hg : w.heap.size + 1 + 1 = g at ⊢
  have HG := Lib.hid hg
  have IH : Hid (StrH w W0 g key nonce ((streamN key nonce n m 0).map bv)) := by
    rw [streamN_zero]
    have f3 := F.out.2.2.1
    rw [show w.heap.size + 2 = g by omega] at f3
    exact ⟨F.out.2.2.2, F.out.1, F.out.2.1, f3⟩
  clear hg F
  go_loopw [19] (fun vi wr => ∃ (i : Nat), i ≤ K ∧ vi = .int .i64 (i : Int) ∧ Hid (StrH w wr g key nonce ((streamN key nonce n m i).map bv))) (fun i _ => K - (intOf i).toNat)
  case atStart => exact ⟨0, by omega, rfl, IH⟩
  case round =>
    clear IH
    obtain ⟨i, hi, rfl, H⟩ := hrel
    by_cases hlt : i < K
    · have e1 : (i : Int) < (K : Int) := by omega
      have him := hKm.out i hlt
      have HCW := Lib.hid (ctr_wrap n i)
      have HST := Lib.hid (streamN_step key nonce n m i him.1)
      have HSN := Lib.hid (streamN_len key nonce n m i)
      have hbl : Hid ((blockC key nonce (ctrAt n i)).length = 64) := blockC_len _ _ _
      have BL := Lib.hid (BL.out i)
      obtain ⟨q, hq⟩ : ∃ q, q = 64 * i := ⟨_, rfl⟩
      have hqi : 64 * (i : Int) = (q : Int) := by omega
      have hqm : q < m := by omega
      have u1 : IntKind.i64.wrap (64 * (i : Int)) = (q : Int) := by rw [IntKind.wrap_i64]; omega
      rw [← hq] at HST
      have hi64 : (i : Int) < 10000 := by omega
      clear hq him hqi
      go_wp2_with (first
        | (refine wpList_ld rfl 65 (.tmp 4) rfl (load_arr arr32K rfl (by rw [List.length_map, HK.out]; exact i32K) H.out.2.1) ?_)
        | (refine wpList_ld rfl 74 (.tmp 5) rfl (load_arr arr12B rfl (by rw [List.length_map, HN.out]; exact i12B) H.out.2.2.1) ?_))
      rw [HCW.out]
      refine (BL.out wr).mono ?_
      rintro e w2 ⟨rfl, hb2⟩
      have H2 := Lib.hid (H.out.step hb2)
      clear H hb2 HCW BL
      generalize blockC key nonce (ctrAt n i) = X at hbl HST ⊢
      have sl := cut_from uT s8 (some ⟨g, 0, none⟩) m m .i64 (q : Int) (by omega) (by omega)
      rw [Int.toNat_natCast, show cutS (some ⟨g, 0, none⟩) m q = some ⟨g, q, none⟩ from by unfold cutS; rw [if_neg (by omega)]; simp [Addr.add_mid]] at sl
      have ar := arr_all arr64B s8 ⟨w2.heap.size, 0, none⟩
      go_wp2_with (first
        | (refine wpList_st rfl 109 (.tmp 11) (.tmp 28) rfl (store_arr (cs := X.map bv) (old := List.replicate 64 (Value.int .u8 0)) (by rw [List.length_map, hbl.out]; exact i64Bc) (bv_one _) (heap_alloc_new' w2 _) (by rw [List.length_map, hbl.out]; exact List.length_replicate)) ?_
           generalize hV : World.setRow _ _ _ = W4
           have M0 := Lib.hid (heap_of_setRow hV (heap_alloc_new' w2 _))
           have MB := Lib.hid (((Below.refl w2.heap.size w2).alloc (Nat.le_refl _) _).trans (below_of_setRow hV (Nat.le_refl w2.heap.size) (by simp)))
           clear hV)
        | fail)
      have H4 := Lib.hid (H2.out.step MB.out)
      clear H2 MB
      generalize w2.heap.size = b at M0 ar ⊢
      have H5 : Hid (StrH w W4.drew g key nonce ((streamN key nonce n m i).map bv)) := ⟨H4.out.1.drew, H4.out.2⟩
      have HX : Hid (Below w.heap.size W4 W4.drew) := (Below.refl _ _).drew
      have R3 := Lib.hid (row_sub (w := W4.drew) M0.out 0 (min 64 (m - q)) (lt_of_heap (w := W4.drew) M0.out))
      rw [List.drop_zero] at R3
      refine regB_start (w.heap.size) (by kernel_rfl) ?_
      try simp only [Act.put, List.setIfInBounds_toArray, List.set_cons_zero, List.set_cons_succ]
      refine regB_take (v := ?_) 0 (some 29) rfl rfl (by kernel_rfl) (by kernel_rfl) (by kernel_rfl) (fun _ _ _ h => h) (by rfl) (fun W hW => ?_) ?_
      rotate_left
      · (go_simp; try rfl)
      simp only [Act.put, List.setIfInBounds_toArray, List.set_cons_zero, List.set_cons_succ]
      refine regB_take (v := ?_) 1 (some 30) rfl rfl (by kernel_rfl) (by kernel_rfl) (by kernel_rfl) (fun _ _ _ h => h) (by rfl) (fun W hW => ?_) ?_
      rotate_left
      · (go_simp; try rfl)
      simp only [Act.put, List.setIfInBounds_toArray, List.set_cons_zero, List.set_cons_succ]
      refine regB_take (v := ?_) 2 (some 31) rfl rfl (by kernel_rfl) (by kernel_rfl) (by kernel_rfl) (fun _ _ _ h => h) (by rfl) (fun W hW => ?_) ?_
      rotate_left
      · (go_simp; try rfl)
      simp only [Act.put, List.setIfInBounds_toArray, List.set_cons_zero, List.set_cons_succ]
      refine regB_take (v := ?_) 3 (some 32) rfl rfl (by kernel_rfl) (by kernel_rfl) (by kernel_rfl) (fun _ _ _ h => h) (by rfl) (fun W hW => ?_) ?_
      rotate_left
      · (go_simp; try rfl)
      simp only [Act.put, List.setIfInBounds_toArray, List.set_cons_zero, List.set_cons_succ]
      refine regB_take (v := ?_) 4 (some 33) rfl rfl (by kernel_rfl) (by kernel_rfl) (by kernel_rfl) (fun _ _ _ h => h) (by rfl) (fun W hW => ?_) ?_
      rotate_left
      · (go_simp; try rfl)
      simp only [Act.put, List.setIfInBounds_toArray, List.set_cons_zero, List.set_cons_succ]
      refine regB_eff 5 rfl (by kernel_rfl) (fun K hK => ?_)
      obtain ⟨w5, hrun, hblk, _, hgr⟩ := copy_run uT s8 (sT := 22) 3 W4.drew g q ((streamN key nonce n m i).map bv) 5 H5.out.2.2.2 (some ⟨g, q, none⟩) (some ⟨b, 0, none⟩) (m - q) (m - q) 64 64 _ ((X.take (min 64 (m - q))).map bv) (by have := hbl.out; simp; omega) (fun _ => rfl) R3.out (by have := hbl.out; have := HSN.out; simp; omega) (bv_one _)
      rw [HST.out] at hblk
      have E2 := Lib.hid hblk
      have EG := Lib.hid hgr
      refine step_cpy rfl (.tmp 32) (.tmp 33) 22 22 rfl hrun ?_
      have hE : Below w.heap.size W4.drew w5 := grown_below hgr (by have := HG.out; omega) H5.out.1.size
      clear hrun hblk hgr
      refine hK.out _ _ hE ?_
      have HX := Lib.hid (Below.trans HX.out hE)
      clear hE hK K
      try simp only [Act.put, List.setIfInBounds_toArray, List.set_cons_zero, List.set_cons_succ]
      refine regB_done (by kernel_rfl) ?_
      clear u1 sl ar
      go_wp2
      go_roundw
      case rel => exact ⟨i + 1, by omega, by go_num, H5.out.put (by have := HG.out; omega) EG.out E2.out⟩
      case measure => simp [intOf]; omega
    · have H' : Hid (StrH w wr g key nonce ((streamC key nonce n m).map bv)) := by have := H.out; rw [show i = K by omega, HKE.out] at this; exact this
      clear H
      go_wp2
      go_ret
      exact ⟨g, by have := HG.out; omega, rfl, H'.out.2.2.2, H'.out.1⟩
/-- bytes, and the stream from a counter on -/
def cryptC (key nonce : List UInt8) (n : W32) (b : List UInt8) : List UInt8 := xorL b (streamC key nonce n b.length)
theorem cryptC_len (key nonce : List UInt8) (n : W32) (b : List UInt8) : (cryptC key nonce n b).length = b.length := by
  rw [cryptC, xorL_len, streamC_len, Nat.min_self]
theorem crypt_any (key nonce : List UInt8) (n : W32) (A : Option Addr) (m c : Nat) (b : List UInt8) (w : World) (hk : key.length = 32) (hn : nonce.length = 12) (hm : b.length = m) (h31 : m ≤ 100000) (hb : Sl w A c b) :
    Calls Tryz.prog 52 #[.agg (key.map bv).toArray, .agg (nonce.map bv).toArray, .int .u32 (n.toNat : Int), .slice A m c] w (NewRow w m (cryptC key nonce n b)) := by
  have HS := Lib.hid (fun W => stream_any key nonce n (m : Int) m W hk hn (by simp) h31)
  have HK := Lib.hid hk; have HN := Lib.hid hn; have HM := Lib.hid hm; have HB := Lib.hid hb
  have hc : Hid (cryptC key nonce n b = xorL b (streamC key nonce n m)) := by rw [cryptC, hm]; rfl
  rw [hc.out]
  have hsl : Hid ((streamC key nonce n m).length = m) := streamC_len _ _ _ _
  generalize streamC key nonce n m = X at HS hsl ⊢
  clear hk hn hm hb hc
  go_enter Tryz.func52, Tryz.ntmps52
  go_wp2_with (first
    | (refine wpList_ld rfl 65 (.tmp 4) rfl (load_arr arr32K rfl (by rw [List.length_map, HK.out]; exact i32K) (heap2c w _ _).1) ?_)
    | (refine wpList_ld rfl 74 (.tmp 5) rfl (load_arr arr12B rfl (by rw [List.length_map, HN.out]; exact i12B) (heap2c w _ _).2.1) ?_))
  generalize hV : (w.alloc _).alloc _ = W0
  have FB : Hid (Below w.heap.size w W0) := by rw [← hV]; exact (heap2c w _ _).2.2
  clear hV
  refine (HS.out W0).mono ?_
  rintro e w1 ⟨g, hg, rfl, hg1, hb1⟩
  have B1 := Lib.hid (FB.out.step hb1)
  have G1 := Lib.hid hg1
  have S1 : Hid (Sl w1 A c b) := ⟨HB.out.1, HB.out.2.1, HB.out.2.2.after B1.out⟩
  have S2 : Hid (Sl w1 (some ⟨g, 0, none⟩) m X) := sl_row hsl.out (by omega) hg1
  clear hg hg1 hb1 FB HS
  go_wp2_with fail
  refine (xor_n A (some ⟨g, 0, none⟩) m m m c m b X w1 HM.out hsl.out (Nat.min_self m) S1.out S2.out (by omega) (by omega)).mono ?_
  rintro e w2 ⟨g2, hg2, rfl, hk2, hb2⟩
  have B2 := Lib.hid (B1.out.step hb2)
  have K2 := Lib.hid hk2
  have hge : Hid (w.heap.size ≤ g2) := Nat.le_trans B1.out.size hg2
  clear hb2 hk2 hg2
  go_wp2
  go_ret
  exact ⟨g2, hge.out, rfl, K2.out, B2.out⟩
end Go.Proofs.YtimgggpojbpfkaaGreatDoor

/- Rows of integers within a struct. -/
namespace Go.Proofs.YtimgggpojbpfkaaGreatDoor
open Go.RowKit Go.ChangeShapes Go.WideShapes Go.ChangeAt
set_option maxRecDepth 100000
set_option linter.unusedVariables false
set_option linter.unusedSimpArgs false
/-- cells that read as a row of integers -/
theorem cells_ints {H : Type} {enc : TypeId × Value → H} {P : Program} {W : World} {b0 : Nat} {sp : Nat → Bool} {held : Bool} {t e : TypeId} {n : Nat} {k : IntKind} {cs : List Value} {fuel : Nat} {x : DataW H × List MemPlace}
    (ht : P.underlying t = some (.array n e)) (he : P.underlying e = some (.int k)) (hce : P.cellsOf e = 1) (hct : P.cellsOf t = n)
    (hf : DataW.trod enc P W b0 sp held fuel t cs = some x) :
    ∃ zs : List Int, cs = zs.map (Value.int k) ∧ zs.length = n ∧ ∀ z ∈ zs, (Lit.int k z).wf = true := by
  obtain ⟨xs, m, _, _, hl, hxl, hget⟩ := DataW.trod_array ht hf
  rw [hce] at hget
  have hcl : cs.length = n := by rw [hl, hct]
  have key : ∀ i, i < n → ∃ z, cs[i]? = some (.int k z) ∧ (Lit.int k z).wf = true := by
    intro i hi
    have h1 := hget i hi
    have hx : ∃ y, xs[i]? = some y := ⟨xs[i], List.getElem?_eq_getElem (by omega)⟩
    obtain ⟨y, hy⟩ := hx
    rw [hy] at h1
    obtain ⟨z, hz, _, hw⟩ := DataW.trod_int he h1
    refine ⟨z, ?_, hw⟩
    rw [Nat.mul_one] at hz
    have := congrArg (fun l => l[0]?) hz
    simpa [List.getElem?_take] using this
  refine ⟨cs.map (fun v => match v with | .int _ z => z | _ => 0), ?_, by rw [List.length_map, hcl], ?_⟩
  · rw [List.map_map]
    apply List.ext_getElem?
    intro i
    by_cases hi : i < n
    · obtain ⟨z, hz, _⟩ := key i hi
      simp [hz]
    · rw [List.getElem?_eq_none (by omega), List.getElem?_eq_none (by simp; omega)]
  · intro z hz
    obtain ⟨v, hv, rfl⟩ := List.mem_map.1 hz
    obtain ⟨i, hi, rfl⟩ := List.mem_iff_getElem.1 hv
    obtain ⟨z, hz, hw⟩ := key i (by omega)
    rw [List.getElem?_eq_getElem hi, Option.some.injEq] at hz
    rw [hz]; exact hw
end Go.Proofs.YtimgggpojbpfkaaGreatDoor

/- A key, a nonce and a counter that come in (layer 4). -/
namespace Go.Proofs.YtimgggpojbpfkaaGreatDoor
open Go.RowKit Go.ChangeShapes Go.WideShapes Go.ChangeAt
set_option maxRecDepth 100000
set_option linter.unusedVariables false
set_option linter.unusedSimpArgs false
def zCells (k n : List UInt8) (c : BitVec 32) : List Value := k.map bv ++ (n.map bv ++ [.int .u32 (c.toNat : Int)])
theorem split45 (L : List Value) (h : L.length = 45) : L = L.take 32 ++ ((L.drop 32).take 12 ++ (L.drop 44).take 1) := by
  have h1 := List.take_append_drop 32 L
  have h2 := List.take_append_drop 12 (L.drop 32)
  rw [List.drop_drop] at h2
  have h4 : (L.drop 44).take 1 = L.drop 44 := List.take_of_length_le (by simp; omega)
  rw [h4, show L.drop 44 = L.drop (32 + 12) from rfl, h2, h1]
end Go.Proofs.YtimgggpojbpfkaaGreatDoor

/- Laws of layer 4: the example; Crypt twice is what it was. -/
namespace Go.Proofs.YtimgggpojbpfkaaGreatDoor
open Go.RowKit
set_option maxRecDepth 100000
set_option linter.unusedVariables false
set_option linter.unusedSimpArgs false
theorem quarter_ex (w : World) : Calls Tryz.prog 135 #[.int .u32 286331153, .int .u32 16909060, .int .u32 2609737539, .int .u32 19088743] w fun e w' =>
    e = .returned (.tuple #[.int .u32 3928658676, .int .u32 3407673550, .int .u32 1166100270, .int .u32 1484899515]) ∧ w = w' := by
  have h := quarter_any 286331153#32 16909060#32 2609737539#32 19088743#32 w
  have e1 : qA 286331153#32 16909060#32 2609737539#32 19088743#32 = 3928658676#32 := by decide +kernel
  have e2 : qB 286331153#32 16909060#32 2609737539#32 19088743#32 = 3407673550#32 := by decide +kernel
  have e3 : qC 286331153#32 16909060#32 2609737539#32 19088743#32 = 1166100270#32 := by decide +kernel
  have e4 : qD 286331153#32 16909060#32 2609737539#32 19088743#32 = 1484899515#32 := by decide +kernel
  rw [e1, e2, e3, e4] at h
  exact h
theorem strOf_beq' (a b : List UInt8) : ((strOf a).toList == (strOf b).toList) = decide (a = b) := by
  have h : ∀ l : List UInt8, (strOf l).toList = l := fun l => by rw [ByteArray.toList_eq]; rfl
  rw [h, h]; rw [Bool.eq_iff_iff]; simp
theorem Sl.ext' {w w' : World} {A : Option Addr} {c : Nat} {bs : List UInt8} (h : Sl w A c bs) (hb : Ext w w') : Sl w' A c bs := h.below hb
theorem xorL_twice (b s : List UInt8) (h : b.length = s.length) : xorL (xorL b s) s = b := by
  unfold xorL
  apply List.ext_getElem
  · simp; omega
  · intro i h1 h2
    simp only [List.getElem_zipWith]
    rw [UInt8.xor_assoc, UInt8.xor_self, UInt8.xor_zero]
theorem crypt_back (key nonce : List UInt8) (n : W32) (b : List UInt8) : cryptC key nonce n (cryptC key nonce n b) = b := by
  have h : cryptC key nonce n (cryptC key nonce n b) = xorL (cryptC key nonce n b) (streamC key nonce n (cryptC key nonce n b).length) := rfl
  rw [h, cryptC_len, cryptC, xorL_twice _ _ (by rw [streamC_len])]
/-- the three fields of a key that came in -/
theorem z_cell {W : World} {g : Nat} {k n : List UInt8} {c : W32} {t : TypeId} {fr : Nat × Nat} (h : W.heap[g]? = some (.cells (zCells k n c).toArray t fr)) (hk : k.length = 32) (hn : n.length = 12) :
    W.rangeAt g 0 (k.map bv) ∧ W.rangeAt g 32 (n.map bv) ∧ W.cell? ⟨g, 44, none⟩ = some (.int .u32 (c.toNat : Int)) := by
  refine ⟨fun j v hv => ?_, fun j v hv => ?_, ?_⟩
  · have hj := (List.getElem?_eq_some_iff.1 hv).1
    rw [cell_of_heap h, zCells, Nat.zero_add, List.getElem?_append_left hj]; exact hv
  · have hj := (List.getElem?_eq_some_iff.1 hv).1
    rw [cell_of_heap h, zCells, List.getElem?_append_right (by simp [hk]), List.length_map, hk, show 32 + j - 32 = j by omega, List.getElem?_append_left hj]; exact hv
  · rw [cell_of_heap h, zCells, List.getElem?_append_right (by simp [hk]), List.length_map, hk, List.getElem?_append_right (by simp [hn]), List.length_map, hn]; rfl
theorem range_ext {W W' : World} {g o : Nat} {cs : List Value} (h : W.rangeAt g o cs) (hg : g < W.heap.size) (hE : Ext W W') : W'.rangeAt g o cs := fun j v hv => (hE.cell hg).trans (h j v hv)
def ZAt (W : World) (g : Nat) (k n : List UInt8) (c : W32) : Prop := g < W.heap.size ∧ W.rangeAt g 0 (k.map bv) ∧ W.rangeAt g 32 (n.map bv) ∧ W.cell? ⟨g, 44, none⟩ = some (.int .u32 (c.toNat : Int))
theorem ZAt.ext {W W' : World} {g : Nat} {k n : List UInt8} {c : W32} (h : ZAt W g k n c) (hE : Ext W W') : ZAt W' g k n c :=
  ⟨Nat.lt_of_lt_of_le h.1 hE.size, range_ext h.2.1 h.1 hE, range_ext h.2.2.1 h.1 hE, (hE.cell h.1).trans h.2.2.2⟩
theorem zat_new (w : World) (k n : List UInt8) (c : W32) (t : TypeId) (hk : k.length = 32) (hn : n.length = 12) : ZAt (w.alloc (.cells (zCells k n c).toArray t)) w.heap.size k n c :=
  ⟨by simp, z_cell (heap_alloc_new' w _) hk hn⟩
theorem i32K' (bs : List UInt8) (h : bs.length = 32) : (Tryz.prog.info? 65).map (·.size) = some (bs.map bv).length := by rw [List.length_map, h]; exact i32K
theorem i12B' (bs : List UInt8) (h : bs.length = 12) : (Tryz.prog.info? 74).map (·.size) = some (bs.map bv).length := by rw [List.length_map, h]; exact i12B
end Go.Proofs.YtimgggpojbpfkaaGreatDoor

/- aead: both (key and nonce are looked at, and what is done is handed them as arrays). -/
namespace Go.Proofs.YtimgggpojbpfkaaGreatDoor
open Go.RowKit
set_option linter.unusedVariables false
set_option linter.unusedSimpArgs false
set_option maxRecDepth 100000
theorem arr_ptr32 (A : Option Addr) (n c : Nat) (hn : 32 ≤ n) (W : World) : (Instr.arrayAt 65 (.slice A n c)).run Tryz.prog W = .ok (.pointer A) W :=
  run_arrayAt W _ _ _ A n c arr32K hn
theorem arr_ptr12 (A : Option Addr) (n c : Nat) (hn : 12 ≤ n) (W : World) : (Instr.arrayAt 74 (.slice A n c)).run Tryz.prog W = .ok (.pointer A) W :=
  run_arrayAt W _ _ _ A n c arr12B hn
set_option maxHeartbeats 1000000 in
theorem aboth_any (F : FuncId) (cap : Array Value) (R : Value → Int → World → Prop) (key nonce : List UInt8) (A1 A2 : Option Addr) (c1 c2 : Nat) (w : World) (hk : key.length = 32) (hn : nonce.length = 12) (S1 : Sl w A1 c1 key) (S2 : Sl w A2 c2 nonce)
    (hcall : ∀ args W, (callFunc F args).run Tryz.prog W = .ok (.enter F args) W)
    (hF : ∀ W, Ext w W → Calls Tryz.prog F (#[.agg (key.map bv).toArray, .agg (nonce.map bv).toArray] ++ cap) W fun e W' => ∃ v x, e = .returned (.tuple #[v, .int .i64 x]) ∧ Ext W W' ∧ R v x W') :
    Calls Tryz.prog 50 #[.slice A1 32 c1, .slice A2 12 c2, .func (.func F) #[] cap] w fun e w' => ∃ v x, e = .returned (.tuple #[v, .int .i64 x]) ∧ Ext w w' ∧ R v x w' := by
  obtain ⟨b1, o1, rfl, hb1, hr1⟩ := S1.2.2.at_ (by rw [List.length_map, hk]; omega)
  obtain ⟨b2, o2, rfl, hb2, hr2⟩ := S2.2.2.at_ (by rw [List.length_map, hn]; omega)
  have p1 := arr_ptr32 (some ⟨b1, o1, none⟩) 32 c1 (by omega)
  have p2 := arr_ptr12 (some ⟨b2, o2, none⟩) 12 c2 (by omega)
  have HK := Lib.hid hk; have HN := Lib.hid hn; have HF := Lib.hid hF
  have R1 := Lib.hid hr1; have R2 := Lib.hid hr2; have B1 := Lib.hid hb1; have B2 := Lib.hid hb2
  clear hk hn S1 S2 hF hr1 hr2 hb1 hb2
  go_enter Tryz.func50, Tryz.ntmps50
  go_wp2_with fail
  have HX : Hid (Ext w w.drew) := (Below.refl _ _).drew
  refine reg_start (by kernel_rfl) ?_
  try simp only [Act.put, List.setIfInBounds_toArray, List.set_cons_zero, List.set_cons_succ]
  refine reg_take (v := ?_) 0 (some 16) rfl rfl (by kernel_rfl) (by kernel_rfl) (by kernel_rfl) (fun _ _ _ h => h) (by rfl) (fun W hW => ?_) ?_
  rotate_left
  · (go_simp; try rfl)
  simp only [Act.put, List.setIfInBounds_toArray, List.set_cons_zero, List.set_cons_succ]
  refine reg_take (v := ?_) 1 (some 17) rfl rfl (by kernel_rfl) (by kernel_rfl) (by kernel_rfl) (fun _ _ _ h => h) (by rfl) (fun W hW => ?_) ?_
  rotate_left
  · (go_simp; try rfl)
  simp only [Act.put, List.setIfInBounds_toArray, List.set_cons_zero, List.set_cons_succ]
  refine reg_take (v := ?_) 2 (some 18) rfl rfl (by kernel_rfl) (by kernel_rfl) (by kernel_rfl) (fun _ _ _ h => h) (by rfl) (fun W hW => ?_) ?_
  rotate_left
  · (go_simp; try rfl)
  simp only [Act.put, List.setIfInBounds_toArray, List.set_cons_zero, List.set_cons_succ]
  refine reg_load 3 (some 19) (fun W hW => run_loadAt_mid W b1 o1 65 (key.map bv) _ (range_ext R1.out B1.out (HX.out.trans hW)) arr32K rfl (i32K' key HK.out)) rfl rfl rfl rfl (by kernel_rfl) (by kernel_rfl) (by kernel_rfl) (fun _ _ _ h => h) (by rfl) ?_
  simp only [Act.put, List.setIfInBounds_toArray, List.set_cons_zero, List.set_cons_succ]
  refine reg_take (v := ?_) 4 (some 20) rfl rfl (by kernel_rfl) (by kernel_rfl) (by kernel_rfl) (fun _ _ _ h => h) (by rfl) (fun W hW => ?_) ?_
  rotate_left
  · (go_simp; try rfl)
  simp only [Act.put, List.setIfInBounds_toArray, List.set_cons_zero, List.set_cons_succ]
  refine reg_take (v := ?_) 5 (some 21) rfl rfl (by kernel_rfl) (by kernel_rfl) (by kernel_rfl) (fun _ _ _ h => h) (by rfl) (fun W hW => ?_) ?_
  rotate_left
  · (go_simp; try rfl)
  simp only [Act.put, List.setIfInBounds_toArray, List.set_cons_zero, List.set_cons_succ]
  refine reg_load 6 (some 22) (fun W hW => run_loadAt_mid W b2 o2 74 (nonce.map bv) _ (range_ext R2.out B2.out (HX.out.trans hW)) arr12B rfl (i12B' nonce HN.out)) rfl rfl rfl rfl (by kernel_rfl) (by kernel_rfl) (by kernel_rfl) (fun _ _ _ h => h) (by rfl) ?_
  simp only [Act.put, List.setIfInBounds_toArray, List.set_cons_zero, List.set_cons_succ]
  refine reg_eff 7 rfl (by kernel_rfl) (fun K hK => ?_)
  go_simp
  refine (HF.out _ HX.out).mono ?_
  rintro e w1 ⟨v, x, rfl, hE, hR⟩
  refine hK.out _ _ hE ?_
  have HX := Lib.hid (Ext.trans HX.out hE)
  clear hE hK K
  try simp only [Act.put, List.setIfInBounds_toArray, List.set_cons_zero, List.set_cons_succ]
  refine reg_take (v := ?_) 8 (some 24) rfl rfl (by kernel_rfl) (by kernel_rfl) (by kernel_rfl) (fun _ _ _ h => h) (by rfl) (fun W hW => ?_) ?_
  rotate_left
  · (go_simp; try rfl)
  simp only [Act.put, List.setIfInBounds_toArray, List.set_cons_zero, List.set_cons_succ]
  refine reg_take (v := ?_) 9 (some 25) rfl rfl (by kernel_rfl) (by kernel_rfl) (by kernel_rfl) (fun _ _ _ h => h) (by rfl) (fun W hW => ?_) ?_
  rotate_left
  · (go_simp; try rfl)
  simp only [Act.put, List.setIfInBounds_toArray, List.set_cons_zero, List.set_cons_succ]
  refine reg_take (v := ?_) 10 (some 6) rfl rfl (by kernel_rfl) (by kernel_rfl) (by kernel_rfl) (fun _ _ _ h => h) (by rfl) (fun W hW => ?_) ?_
  rotate_left
  · (go_simp; try rfl)
  simp only [Act.put, List.setIfInBounds_toArray, List.set_cons_zero, List.set_cons_succ]
  refine reg_take (v := ?_) 11 (some 7) rfl rfl (by kernel_rfl) (by kernel_rfl) (by kernel_rfl) (fun _ _ _ h => h) (by rfl) (fun W hW => ?_) ?_
  rotate_left
  · (go_simp; try rfl)
  simp only [Act.put, List.setIfInBounds_toArray, List.set_cons_zero, List.set_cons_succ]
  refine reg_done (by kernel_rfl) ?_
  go_wp2
  go_ret2
  exact ⟨v, x, rfl, HX.out, hR⟩
set_option maxHeartbeats 1000000 in
theorem aboth_key (F : FuncId) (cap : Array Value) (A1 A2 : Option Addr) (n1 n2 c1 c2 : Nat) (w : World) (hk : n1 ≠ 32) :
    Calls Tryz.prog 50 #[.slice A1 n1 c1, .slice A2 n2 c2, .func (.func F) #[] cap] w fun e w' => e = .returned (.tuple #[.slice none 0 0, .int .i64 5]) ∧ w = w' := by
  have t1 : ((n1 : Int) != 32) = true := by simp; omega
  clear hk
  go_enter Tryz.func50, Tryz.ntmps50
  go_wp2
  go_ret2
  exact ⟨rfl, rfl⟩
set_option maxHeartbeats 1000000 in
theorem aboth_iv (F : FuncId) (cap : Array Value) (A1 A2 : Option Addr) (n2 c1 c2 : Nat) (w : World) (hk : n2 ≠ 12) :
    Calls Tryz.prog 50 #[.slice A1 32 c1, .slice A2 n2 c2, .func (.func F) #[] cap] w fun e w' => e = .returned (.tuple #[.slice none 0 0, .int .i64 6]) ∧ w = w' := by
  have t1 : ((n2 : Int) != 12) = true := by simp; omega
  clear hk
  go_enter Tryz.func50, Tryz.ntmps50
  go_wp2
  go_ret2
  exact ⟨rfl, rfl⟩
end Go.Proofs.YtimgggpojbpfkaaGreatDoor

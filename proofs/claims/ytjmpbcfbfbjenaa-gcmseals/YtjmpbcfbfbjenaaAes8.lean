/- The contract of aes.expanded. -/
import Derived.Test.YtjmpbcfbfbjenaaAes2
namespace Go.Proofs.Ytjmpbcfbfbjenaa
open Go.RowKit
set_option linter.unusedVariables false
set_option maxRecDepth 100000
set_option linter.unusedSimpArgs false
/-- the words of a key, noughts behind, and the first constant; then a word more, i of them told -/
def keyRow (nk : Nat) (key : List UInt8) (i : Nat) : List W32 := (List.range i).map (wordAt key) ++ List.replicate (60 - i) 0
def lastW (T : List UInt8) (nk : Nat) (p : List W32 × W32) (i : Nat) : W32 :=
  if i % nk = 0 then subW T (rotl (p.1.getD (nk + i - 1) 0) 8) ^^^ p.2 else if i % nk = 4 then subW T (p.1.getD (nk + i - 1) 0) else p.1.getD (nk + i - 1) 0
def expStep (T : List UInt8) (nk : Nat) (p : List W32 × W32) (i : Nat) : List W32 × W32 :=
  (p.1.set (nk + i) (p.1.getD i 0 ^^^ lastW T nk p i), if i % nk = 0 then dblW p.2 else p.2)
def expN (T : List UInt8) (nk : Nat) (key : List UInt8) : Nat → List W32 × W32
  | 0 => (keyRow nk key nk, 16777216#32)
  | i + 1 => expStep T nk (expN T nk key i) i
def expandL (key : List UInt8) : List W32 := (expN sboxL (key.length / 4) key (4 * (key.length / 4 + 7) - key.length / 4)).1
theorem keyRow_len (nk : Nat) (key : List UInt8) (i : Nat) (hi : i ≤ 60) : (keyRow nk key i).length = 60 := by simp [keyRow]; omega
theorem keyRow_step (nk : Nat) (key : List UInt8) (i : Nat) (hi : i < 60) : (keyRow nk key i).set i (wordAt key i) = keyRow nk key (i + 1) := by
  unfold keyRow
  rw [List.range_succ, List.map_append, List.append_assoc, show 60 - i = (60 - (i + 1)) + 1 by omega, List.replicate_succ]
  rw [List.set_append_right _ _ (by simp)]
  simp
theorem expN_len (T : List UInt8) (nk : Nat) (key : List UInt8) (i : Nat) (hk : nk ≤ 60) : (expN T nk key i).1.length = 60 := by
  induction i with
  | zero => exact keyRow_len nk key nk hk
  | succ i ih => simp [expN, expStep, ih]
theorem arr60W : Try.prog.underlying 89 = some (.array 60 88) := Try.underlying89
theorem i60W : (Try.prog.info? 89).map (·.size) = some 60 := by kernel_rfl
def zeros60 : List Value := List.replicate 60 (Value.int .u32 0)
theorem zeros60_len : zeros60.length = 60 := by unfold zeros60; exact List.length_replicate
theorem zero60 (W : World) : (zeroValue 89).run Try.prog W = .ok (.agg zeros60.toArray) W := by kernel_rfl
theorem zeros_row (nk : Nat) (key : List UInt8) : zeros60 = (keyRow nk key 0).map wv := by unfold zeros60 keyRow; rw [List.map_append, List.map_replicate]; rfl
set_option maxRecDepth 100000 in
set_option maxHeartbeats 4000000 in
theorem expanded_any (A : Option Addr) (n c nk : Nat) (key : List UInt8) (w : World) (hl : key.length = n) (hn : n = 4 * nk) (hk : nk = 4 ∨ nk = 8) (hS : Sl w A c key) :
    Calls Try.prog 63 #[.slice A n c] w fun e w' => e = .returned (.agg ((expandL key).map wv).toArray) ∧ Below w.heap.size w w' := by
  have hex : expandL key = (expN sboxL nk key (4 * (nk + 7) - nk)).1 := by unfold expandL; rw [hl, hn, show 4 * nk / 4 = nk by omega]
  rw [hex]
  clear hex
  have HL := Lib.hid hl; have HN := Lib.hid hn; have HS := Lib.hid hS; have HKK := Lib.hid hk
  have hnk : 4 ≤ nk ∧ nk ≤ 8 := by omega
  have hc : Hid (n ≤ c) := by have := hS.1; show _ ≤ _; omega
  have u0 : (n : Int) / 4 = (nk : Int) := by omega
  have hn32 : n ≤ 32 := by omega
  clear hl hn hS hk
  have HF := Lib.hid (fun W => forward_any W)
  have hsl := Lib.hid sboxL_len
  have HI : Hid ((Try.prog.info? 97).map (·.size) = some (sboxL.map bv).length) := by show _ = _; rw [subCells]; exact iTb
  have HE : Hid (zeros256.length = (sboxL.map bv).length) := by show _ = _; rw [subCells, zeros256_len]
  generalize sboxL = T at HF hsl HI HE ⊢
  have hz := zero60
  have hz2 := zeroTb
  go_enter Try.func63, Try.ntmps63
  go_upto_region 2 with (fail)
  generalize hV : (w.alloc _).alloc _ = W0
  have F0 : Hid (W0.heap[w.heap.size]? = some (.cells zeros60.toArray 89 (0, 0))) := by rw [← hV]; exact (heap2 w _ _).1
  have F1 : Hid (W0.heap[w.heap.size + 1]? = some (.cells ((keyRow nk key 0).map wv).toArray 89 (0, 0))) := by rw [← zeros_row, ← hV]; exact (heap2 w _ _).2.1
  have FB : Hid (Below w.heap.size w W0) := by rw [← hV]; exact (heap2 w _ _).2.2
  clear hV
  generalize hg1 : w.heap.size + 1 = g1 at F1 ⊢
  have HG1 : Hid (w.heap.size + 1 = g1) := hg1
  clear hg1
  go_wp2_with fail
  go_loopw [14] (fun vi wr => ∃ (i : Nat), i ≤ nk ∧ vi = .int .i64 (i : Int) ∧ Hid (Below w.heap.size w wr) ∧ Hid (wr.heap[w.heap.size]? = some (.cells zeros60.toArray 89 (0, 0))) ∧ Hid (wr.heap[g1]? = some (.cells ((keyRow nk key i).map wv).toArray 89 (0, 0)))) (fun i _ => nk - (intOf i).toNat)
  case atStart => exact ⟨0, by omega, rfl, FB, F0, F1⟩
  case round =>
    clear F0 F1 FB
    obtain ⟨i, hi, rfl, HB, H0, H1⟩ := hrel
    by_cases hlt : i < nk
    · have q1 : (i : Int) < (nk : Int) := by omega
      obtain ⟨q, hq⟩ : ∃ q, q = 4 * i := ⟨_, rfl⟩
      obtain ⟨q4, hq4⟩ : ∃ q4, q4 = q + 4 := ⟨_, rfl⟩
      have u1 : 4 * (i : Int) = (q : Int) := by omega
      have u2 : (q : Int) + 4 = (q4 : Int) := by omega
      have hqn : q + 4 ≤ n := by have := HN.out; omega
      have sl := cut_mid uT s8 A n c .i64 .i64 (q : Int) (q4 : Int) (by omega) (by omega) (by have := hc.out; omega)
      rw [Int.toNat_natCast, Int.toNat_natCast, show q4 - q = 4 by omega] at sl
      have hX : Hid (big ((key.drop q).take 4) = (wordAt key i).toNat) := by show _ = _; rw [hq]; exact word_big key i
      have hXl : Hid (((key.drop q).take 4).length = 4) := by show _ = _; have := HL.out; simp; omega
      have HSl : Hid (Sl wr (cutS A c q) (c - q) ((key.drop q).take 4)) := by
        have h1 := sl_cut (HS.out.below HB.out) (k := q) (by have := HL.out; omega)
        refine ⟨?_, h1.2.1, ?_⟩
        · have := hXl.out; have := hc.out; omega
        · have := h1.2.2.take 4; rw [← List.map_take] at this; exact this
      have HST := Lib.hid (keyRow_step nk key i (by omega))
      generalize wordAt key i = x at hX HST
      generalize (key.drop q).take 4 = X at hX hXl HSl
      have HQ := Lib.hid hq; have HQ4 := Lib.hid hq4
      clear hq hq4
      go_wp2_with fail
      refine (big_n (cutS A c q) 4 (c - q) X wr hXl.out (by have := HSl.out.1; have := hXl.out; omega) HSl.out.2.1 HSl.out.2.2).mono ?_
      rw [hX.out]
      rintro e w1 ⟨rfl, hB1⟩
      have hx : (x.toNat : Int) % 4294967296 = (x.toNat : Int) := by have := x.isLt; omega
      have H0' := Lib.hid ((hB1.block _ (lt_of_heap H0.out)).trans H0.out)
      have H1' := Lib.hid ((hB1.block _ (lt_of_heap H1.out)).trans H1.out)
      have HB' := Lib.hid (HB.out.step hB1)
      have c2 := wcell H1'.out i (by rw [keyRow_len nk key i (by omega)]; omega)
      have fz := frozen_of_heap H1'.out i
      generalize (keyRow nk key i).getD i 0 = z0 at c2
      have q60 : (i : Int) < 60 := by omega
      clear hB1 H0 H1 HB
      go_wp2
      go_roundw
      case rel =>
        have k1 := HG1.out
        refine ⟨i + 1, by omega, by go_num, ?_, ?_, ?_⟩
        · exact HB'.out.setCell (show w.heap.size ≤ g1 by omega) _
        · exact (Below.heap_setCell w1 _ _ _ (show w.heap.size ≠ g1 by omega)).trans H0'.out
        · have := heap_set (w := w1) H1'.out i (wv x)
          rw [← List.map_set, HST.out] at this
          exact this
      case measure => simp [intOf]; omega
    · have q1 : ¬ ((i : Int) < (nk : Int)) := by omega
      have H1' : Hid (wr.heap[g1]? = some (.cells ((expN T nk key 0).1.map wv).toArray 89 (0, 0))) := by have := H1.out; rw [show i = nk by omega] at this; exact this
      clear H1
      go_wp2_with fail
      refine (HF.out wr).mono ?_
      rintro e w1 ⟨rfl, hB1⟩
      have P0 := Lib.hid ((hB1.block _ (lt_of_heap H0.out)).trans H0.out)
      have P1 := Lib.hid ((hB1.block _ (lt_of_heap H1'.out)).trans H1'.out)
      have PB := Lib.hid (HB.out.step hB1)
      have hl0 := Lib.hid (lt_of_heap P0.out)
      have hl1 := Lib.hid (lt_of_heap P1.out)
      clear hB1 H0 H1' HB
      obtain ⟨M, hM⟩ : ∃ M, M = 4 * (nk + 7) - nk := ⟨_, rfl⟩
      have uM : 4 * ((nk : Int) + 7) - (nk : Int) = (M : Int) := by omega
      have hM52 : nk + M ≤ 60 := by omega
      have HM := Lib.hid hM
      clear hM
      go_upto_region 11 with (first
        | (refine wpList_st rfl 97 (.tmp 6) (.tmp 29) rfl (store_arr (cs := T.map bv) (old := zeros256) HI.out (bv_one _) (heap_alloc_new' w1 _) HE.out) ?_
           generalize hV : World.setRow _ _ _ = W5
           have M0 := Lib.hid (heap_of_setRow hV (heap_alloc_new' w1 _))
           have MB := Lib.hid (((Below.refl w1.heap.size w1).alloc (Nat.le_refl _) _).trans (below_of_setRow hV (Nat.le_refl w1.heap.size) (by simp)))
           clear hV)
        | fail)
      have N0 := Lib.hid ((MB.out.block _ hl0.out).trans P0.out)
      have N1 := Lib.hid ((MB.out.block _ hl1.out).trans P1.out)
      have NB := Lib.hid (PB.out.step MB.out)
      clear P0 P1 PB MB
      go_loopw [7, 35] (fun vc vi wr => ∃ (i : Nat) (ws : List W32) (cn : W32), i ≤ M ∧ vi = .int .i64 (i : Int) ∧ vc = .int .u32 (cn.toNat : Int) ∧ Hid ((ws, cn) = expN T nk key i) ∧ Hid (Below w.heap.size w wr) ∧ Hid (wr.heap[w.heap.size]? = some (.cells zeros60.toArray 89 (0, 0))) ∧
         Hid (wr.heap[g1]? = some (.cells (ws.map wv).toArray 89 (0, 0))) ∧ Hid (wr.heap[w1.heap.size]? = some (.cells (T.map bv).toArray 97 (0, 0)))) (fun _ i _ => M - (intOf i).toNat)
      case atStart => exact ⟨0, _, 16777216#32, by omega, rfl, rfl, rfl, NB, N0, N1, M0⟩
      case round =>
        clear N0 N1 NB M0
        obtain ⟨i, ws, cn, hi, rfl, rfl, HP, HB, H0, H1, H6⟩ := hrel
        have hwl : ws.length = 60 := by have := expN_len T nk key i (by omega); rw [← HP.out] at this; exact this
        by_cases hlt : i < M
        · have q1 : (i : Int) < (M : Int) := by omega
          obtain ⟨a, ha⟩ : ∃ a, a = nk + i := ⟨_, rfl⟩
          obtain ⟨b, hb⟩ : ∃ b, b = nk + i - 1 := ⟨_, rfl⟩
          obtain ⟨m, hm⟩ : ∃ m, m = i % nk := ⟨_, rfl⟩
          have r1 : (nk : Int) + (i : Int) = (a : Int) := by omega
          have r2 : (a : Int) - 1 = (b : Int) := by omega
          have r3 : (i : Int) % (nk : Int) = (m : Int) := by rw [hm]; simp
          have r4 : (i : Int).tmod (nk : Int) = (m : Int) := by rw [Int.tmod_eq_emod_of_nonneg (by omega)]; exact r3
          have r5 : ((nk : Int) == 0) = false := by simp; omega
          have r6 : ¬ ((nk : Int) = 0) := by omega
          have qa : (a : Int) < 60 := by omega
          have qb : (b : Int) < 60 := by omega
          have qi : (i : Int) < 60 := by omega
          have ca := wcell H1.out a (by omega)
          have cb := wcell H1.out b (by omega)
          have ci := wcell H1.out i (by omega)
          have fz := frozen_of_heap H1.out a
          have HEX : Hid (expStep T nk (ws, cn) i = expN T nk key (i + 1)) := by show _ = _; rw [HP.out]; rfl
          have HLD : Hid (lastW T nk (ws, cn) i = if m = 0 then subW T (rotl (ws.getD b 0) 8) ^^^ cn else if m = 4 then subW T (ws.getD b 0) else ws.getD b 0) := by show _ = _; rw [hm, hb]; rfl
          have HCD : Hid ((if i % nk = 0 then dblW cn else cn) = if m = 0 then dblW cn else cn) := by show _ = _; rw [hm]
          generalize ws.getD a 0 = xa at ca
          generalize ws.getD b 0 = xb at cb HLD
          obtain ⟨xi, hxi⟩ : ∃ xi, ws.getD i 0 = xi := ⟨_, rfl⟩
          rw [hxi] at ci
          have HXI : Hid (ws.getD i 0 = xi) := hxi
          have HA : Hid (nk + i = a) := ha.symm
          clear ha hb hm hxi hwl
          have HH6 := Lib.hid H6.out
          by_cases hm0 : m = 0
          · have t0 : ((m : Int) == 0) = true := by simp [hm0]
            obtain ⟨y, hy⟩ : ∃ y, y = rotl xb 8 := ⟨_, rfl⟩
            obtain ⟨z, hz3⟩ : ∃ z, z = subW T y := ⟨_, rfl⟩
            obtain ⟨z2, hz4⟩ : ∃ z2, z2 = z ^^^ cn := ⟨_, rfl⟩
            obtain ⟨c2, hc2⟩ : ∃ c2, c2 = dblW cn := ⟨_, rfl⟩
            have HLW : Hid (lastW T nk (ws, cn) i = z2) := by show _ = _; rw [HLD.out, if_pos hm0, hz4, hz3, hy]
            have HCON : Hid ((if i % nk = 0 then dblW cn else cn) = c2) := by show _ = _; rw [HCD.out, if_pos hm0, hc2]
            have x1 : bits .xor .u32 (z.toNat : Int) (cn.toNat : Int) = (z2.toNat : Int) := by rw [hz4]; exact xor32 _ _
            have HY := Lib.hid hy; have HZ3 := Lib.hid hz3; have HC2 := Lib.hid hc2
            clear hy hz3 hz4 hc2 hm0 HLD HCD
            go_wp2_with fail
            refine (left_any xb 8 wr).mono ?_
            rw [← HY.out]
            rintro e w3 ⟨rfl, rfl⟩
            go_wp2_with fail
            refine (word_any w1.heap.size T y wr hsl.out H6.out).mono ?_
            rw [← HZ3.out]
            rintro e w3 ⟨he, rfl⟩
            have he' : e = .returned (.int .u32 (z.toNat : Int)) := he
            clear he
            subst he'
            go_wp2_with fail
            refine (double_any cn wr).mono ?_
            rw [← HC2.out]
            rintro e w3 ⟨he, rfl⟩
            have he' : e = .returned (.int .u32 (c2.toNat : Int)) := he
            clear he
            subst he'
            go_wp2
            go_roundw
            case rel =>
              have k1 := HG1.out
              have k6 := hl1.out
              have k0 := hl0.out
              refine ⟨i + 1, ws.set a (xi ^^^ z2), c2, by omega, by go_num, rfl, ?_, ?_, ?_, ?_, ?_⟩
              · show _ = _
                rw [← HEX.out, expStep, HLW.out, HCON.out, HA.out, HXI.out]
              · exact HB.out.setCell (show w.heap.size ≤ g1 by omega) _
              · exact (Below.heap_setCell wr _ _ _ (show w.heap.size ≠ g1 by omega)).trans H0.out
              · have h1 : (ws.map wv).set a (Value.int .u32 (bits .xor .u32 (xi.toNat : Int) (z2.toNat : Int))) = (ws.set a (xi ^^^ z2)).map wv := by
                  rw [xor32, List.map_set]; rfl
                have := heap_set H1.out a (Value.int .u32 (bits .xor .u32 (xi.toNat : Int) (z2.toNat : Int)))
                rw [h1] at this
                exact this
              · exact (Below.heap_setCell wr _ _ _ (show w1.heap.size ≠ g1 by omega)).trans H6.out
            case measure => simp [intOf]; omega
          · have t0 : ((m : Int) == 0) = false := by simp; omega
            by_cases hm4 : m = 4
            · have t4 : ((m : Int) == 4) = true := by simp [hm4]
              obtain ⟨z, hz3⟩ : ∃ z, z = subW T xb := ⟨_, rfl⟩
              have HLW : Hid (lastW T nk (ws, cn) i = z) := by show _ = _; rw [HLD.out, if_neg hm0, if_pos hm4, hz3]
              have HCON : Hid ((if i % nk = 0 then dblW cn else cn) = cn) := by show _ = _; rw [HCD.out, if_neg hm0]
              have HZ3 := Lib.hid hz3
              clear hz3 hm0 hm4 HLD HCD
              go_wp2_with fail
              refine (word_any w1.heap.size T xb wr hsl.out H6.out).mono ?_
              rw [← HZ3.out]
              rintro e w3 ⟨he, rfl⟩
              have he' : e = .returned (.int .u32 (z.toNat : Int)) := he
              clear he
              subst he'
              go_wp2
              go_roundw
              case rel =>
                have k1 := HG1.out
                have k6 := hl1.out
                have k0 := hl0.out
                refine ⟨i + 1, ws.set a (xi ^^^ z), cn, by omega, by go_num, rfl, ?_, ?_, ?_, ?_, ?_⟩
                · show _ = _
                  rw [← HEX.out, expStep, HLW.out, HCON.out, HA.out, HXI.out]
                · exact HB.out.setCell (show w.heap.size ≤ g1 by omega) _
                · exact (Below.heap_setCell wr _ _ _ (show w.heap.size ≠ g1 by omega)).trans H0.out
                · have h1 : (ws.map wv).set a (Value.int .u32 (bits .xor .u32 (xi.toNat : Int) (z.toNat : Int))) = (ws.set a (xi ^^^ z)).map wv := by
                    rw [xor32, List.map_set]; rfl
                  have := heap_set H1.out a (Value.int .u32 (bits .xor .u32 (xi.toNat : Int) (z.toNat : Int)))
                  rw [h1] at this
                  exact this
                · exact (Below.heap_setCell wr _ _ _ (show w1.heap.size ≠ g1 by omega)).trans H6.out
              case measure => simp [intOf]; omega
            · have t4 : ((m : Int) == 4) = false := by simp; omega
              have HLW : Hid (lastW T nk (ws, cn) i = xb) := by show _ = _; rw [HLD.out, if_neg hm0, if_neg hm4]
              have HCON : Hid ((if i % nk = 0 then dblW cn else cn) = cn) := by show _ = _; rw [HCD.out, if_neg hm0]
              clear hm0 hm4 HLD HCD
              go_wp2
              go_roundw
              case rel =>
                have k1 := HG1.out
                have k6 := hl1.out
                have k0 := hl0.out
                refine ⟨i + 1, ws.set a (xi ^^^ xb), cn, by omega, by go_num, rfl, ?_, ?_, ?_, ?_, ?_⟩
                · show _ = _
                  rw [← HEX.out, expStep, HLW.out, HCON.out, HA.out, HXI.out]
                · exact HB.out.setCell (show w.heap.size ≤ g1 by omega) _
                · exact (Below.heap_setCell wr _ _ _ (show w.heap.size ≠ g1 by omega)).trans H0.out
                · have h1 : (ws.map wv).set a (Value.int .u32 (bits .xor .u32 (xi.toNat : Int) (xb.toNat : Int))) = (ws.set a (xi ^^^ xb)).map wv := by
                    rw [xor32, List.map_set]; rfl
                  have := heap_set H1.out a (Value.int .u32 (bits .xor .u32 (xi.toNat : Int) (xb.toNat : Int)))
                  rw [h1] at this
                  exact this
                · exact (Below.heap_setCell wr _ _ _ (show w1.heap.size ≠ g1 by omega)).trans H6.out
              case measure => simp [intOf]; omega
        · have q1 : ¬ ((i : Int) < (M : Int)) := by omega
          have H1' : Hid (wr.heap[g1]? = some (.cells ((expN T nk key M).1.map wv).toArray 89 (0, 0))) := by
            have := H1.out; rw [show ws = (expN T nk key M).1 from by rw [← show i = M by omega, ← HP.out]] at this; exact this
          have hl60 : Hid (((expN T nk key M).1.map wv).length = 60) := by show _ = _; rw [List.length_map]; exact expN_len T nk key M (by omega)
          have hone : Hid (∀ v ∈ (expN T nk key M).1.map wv, v.oneCell' = true) := wv_one _
          obtain ⟨L, HLL⟩ : ∃ L, Hid ((expN T nk key M).1.map wv = L) := ⟨_, rfl⟩
          rw [HLL.out] at H1' hl60 hone
          have hi60 : Hid ((Try.prog.info? 89).map (·.size) = some L.length) := by show _ = _; rw [hl60.out]; exact i60W
          have hle : Hid (zeros60.length = L.length) := by show _ = _; rw [hl60.out, zeros60_len]
          clear H1
          go_wp2_with (first
            | (refine wpList_ld rfl 89 (.tmp 3) rfl (load_arr arr60W rfl hi60.out H1'.out) ?_)
            | (refine wpList_st rfl 89 (.tmp 2) (.tmp 70) rfl (store_arr (cs := L) (old := zeros60) hi60.out hone.out H0.out hle.out) ?_))
          have hres := setRow_heap wr w.heap.size _ L.toArray 89 _ H0.out
          exact bodyPost_ret (results_cell_row (P := Try.prog) rfl _ _ w.heap.size 89 L.toArray (0, 0) _ rfl hres arr60W rfl (by rw [List.size_toArray, hl60.out]; exact i60W)) rfl ⟨by rw [← HLL.out, HM.out], HB.out.trans (grown_below (grown_setRow _ _ _) (Nat.le_refl _) HB.out.size)⟩
end Go.Proofs.Ytjmpbcfbfbjenaa

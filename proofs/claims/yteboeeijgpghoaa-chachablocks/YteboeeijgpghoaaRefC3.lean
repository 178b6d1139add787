/- The document's own Block. -/
import Derived.Test.YteboeeijgpghoaaRefC2
import Derived.Lib.SlBytesConst
namespace Go.Proofs.Yteboeeijgpghoaa
open Go.RowKit
set_option linter.unusedVariables false
set_option linter.unusedSimpArgs false
theorem arr16W : Try.prog.underlying 49 = some (.array 16 24) := Try.underlying49
theorem i16W : (Try.prog.info? 49).map (·.size) = some 16 := by kernel_rfl
def wasN (b : List UInt8) (i : Nat) : List W32 := (List.range i).map (wordLE b) ++ List.replicate (16 - i) 0
theorem wasN_len (b : List UInt8) (i : Nat) (hi : i ≤ 16) : (wasN b i).length = 16 := by simp [wasN]; omega
theorem wasN_step (b : List UInt8) (i : Nat) (hi : i < 16) : (wasN b i).set i (wordLE b i) = wasN b (i + 1) := by
  unfold wasN
  rw [show 16 - i = (16 - (i + 1)) + 1 by omega, List.replicate_succ, set_at _ _ _ _ _ (by simp), List.range_succ, List.map_append]
  simp
theorem wasN_zero (b : List UInt8) : (wasN b 0).map wv = List.replicate 16 (Value.int .u32 0) := by simp [wasN, wv]
theorem expandB_v : (#[.int .u8 101, .int .u8 120, .int .u8 112, .int .u8 97, .int .u8 110, .int .u8 100, .int .u8 32, .int .u8 51, .int .u8 50, .int .u8 45, .int .u8 98, .int .u8 121, .int .u8 116, .int .u8 101, .int .u8 32, .int .u8 107] : Array Value) = (expandB.map bv).toArray := by simp [expandB, bv]
/-- where the words are being laid -/
def RbH (w W : World) (g : Nat) (l : List W32) : Prop := Below w.heap.size w W ∧ W.heap.size = g + 1 ∧ W.heap[g]? = some (.cells (l.map wv).toArray 49 (0, 0))
theorem RbH.put {w W : World} {l : List W32} (h : RbH w W w.heap.size l) (p : Nat) (x : W32) : RbH w (W.setCell ⟨w.heap.size, p, none⟩ (.int .u32 (x.toNat : Int))) w.heap.size (l.set p x) := by
  obtain ⟨m1, m2, m3⟩ := st_row (B := w.heap.size) rfl (Nat.le_refl _) h.2.2
  exact ⟨h.1.trans m2, by simp; exact h.2.1, m1⟩
theorem sl_cutB {w : World} {A : Option Addr} {c k : Nat} {l : List UInt8} (h : Sl w A c l) (hk : k ≤ l.length) : Sl w (cutS A c k) (c - k) (l.drop k) := by
  have h1 := h.1
  have h2 := h.2.1
  refine ⟨by rw [List.length_drop]; omega, by omega, ?_⟩
  have := h.2.2.cut (c := c) (l := k) (by simpa using hk) (by simpa using h1)
  rwa [← List.map_drop] at this
theorem four16 {l : List W32} {a b c d : Nat} (hl : l.length = 16) (h : a < 16 ∧ b < 16 ∧ c < 16 ∧ d < 16 ∧ a ≠ b ∧ a ≠ c ∧ a ≠ d ∧ b ≠ c ∧ b ≠ d ∧ c ≠ d) : Four l a b c d := by
  unfold Four; rw [hl]; exact h
def R2H (w W : World) (g p : Nat) (L l : List W32) : Prop := Below w.heap.size w W ∧ W.heap[g]? = some (.cells (L.map wv).toArray 49 (0, 0)) ∧ W.heap.size = p + 1 ∧ W.heap[p]? = some (.cells (l.map wv).toArray 49 (0, 0))
theorem R2H.only {w W W' : World} {p : Nat} {L l l' : List W32} (h : R2H w W w.heap.size p L l) (hp : w.heap.size < p) (hq : W'.heap[p]? = some (.cells (l'.map wv).toArray 49 (0, 0))) (ho : Only p W W') : R2H w W' w.heap.size p L l' :=
  ⟨h.1.trans (ho.1.mono (Nat.le_of_lt hp)), (ho.2.2 _ (by omega)).trans h.2.1, ho.2.1.trans h.2.2.1, hq⟩
def R3H (w W : World) (g p : Nat) (L l : List W32) : Prop := Below w.heap.size w W ∧ W.heap[g]? = some (.cells (L.map wv).toArray 49 (0, 0)) ∧ W.heap[p]? = some (.cells (l.map wv).toArray 49 (0, 0))
theorem R3H.after {w W W' : World} {p : Nat} {L l : List W32} (h : R3H w W w.heap.size p L l) (hp : w.heap.size < p) (hb : Below (p + 1) W W') : R3H w W' w.heap.size p L l :=
  ⟨h.1.trans (hb.mono (by omega)), (hb.block _ (by omega)).trans h.2.1, (hb.block _ (by omega)).trans h.2.2⟩
/-- append onto a row that lies in memory and has no room left -/
theorem append_full {P : Program} (w : World) (base : Nat) {t : TypeId} (ty : TypeId) {e : TypeId} {z : Value} {bytes : Nat} (ht : P.underlying t = some (.slice e))
    (hi : (P.info? e).map (fun i => (i.zero, i.size, i.bytes)) = some (some z, 1, bytes)) (hz : z.cells = #[z]) (g n : Nat) (xs : List Value) (hx : xs.length = n) (hold : ∀ j u, xs[j]? = some u → w.cell? ⟨g, j, none⟩ = some u)
    (b o m c : Nat) (news : List Value) (hm : news.length = m) (hnews : ∀ j u, news[j]? = some u → w.cell? ⟨b, o + j, none⟩ = some u) (h0 : 0 < m) (hk : (n + m) * bytes ≤ 140737488355328) (h31 : n + m ≤ maxLen) (hbase : base ≤ w.heap.size) :
    ∃ v' w', (Builtin.append_ #[t, t] ty #[.slice (some ⟨g, 0, none⟩) n n, .slice (some ⟨b, o, none⟩) m c]).run P w = .ok v' w' ∧ w'.ownsRow base e 1 v' (n + m) (xs ++ news) ∧ w.grownBy w' none := by
  obtain ⟨i, hi', hz0, hs, hb⟩ := info_parts hi
  subst hb
  have hrun := run_append_grow (P := P) (w := w) t ty e i z ht hi' hz0 ⟨g, 0, none⟩ n n xs (by rw [hs]; omega) (fun j u hu => by rw [add_none, Nat.zero_add]; exact hold j u hu) ⟨b, o, none⟩ m c news (by rw [hs]; omega)
    (fun j u hu => by rw [add_none]; exact hnews j u hu) (by omega) (by simp [maxLen] at h31; omega) (by have := growslice_fits (bytes := i.bytes) (need := n + m) (old := n) (by omega) hk; omega)
  have hlen : (xs ++ news).length = (n + m) * 1 := by rw [List.length_append]; omega
  have hge := grownCap_ge w (n + m) n e
  have hcm : grownCap w (n + m) n e ≤ maxLen := grownCap_le_maxLen w (n + m) n e h31
  refine ⟨_, _, hrun, ⟨hlen, .inr ⟨w.heap.size, _, _, rfl, hbase, heap_alloc_new w.drew _, hge, hcm, ?_, ?_⟩⟩, ⟨rfl, rfl, rfl, by simp, fun k hk _ => Below.heap_alloc w.drew _ k hk⟩⟩
  · simp only [Array.size_append, List.size_toArray, size_zeroCells, hz]
    simp; omega
  · simp only [Array.toList_append, List.append_assoc]
    rw [← List.append_assoc, ← hlen]
    exact List.take_left
theorem exec_conv' {P : Program} {o : Oper} {a : Act} {W W' : World} {s d : TypeId} {x : Operand} {p v : Value} (ho : o.op = .convert s d x) (hx : a.eval x = p) (hrun : (convert s d p).run P W = .ok v W') : (execOp a.eval o).run P W = .ok (.value v) W' := by
  unfold execOp
  simp only [ho, hx, Sem.run_bind, hrun, Result.andThen_ok, Sem.run_pure]
set_option maxRecDepth 100000 in
set_option maxHeartbeats 8000000 in
theorem refBlockC_any (A A' : Option Addr) (c c' : Nat) (key nonce : List UInt8) (n : W32) (w : World) (hk : key.length = 32) (hn : nonce.length = 12) (h : Sl w A c key) (h' : Sl w A' c' nonce) :
    Calls Try.prog 11 #[.slice A 32 c, .slice A' 12 c', .int .u32 (n.toNat : Int)] w fun e w' => ∃ v, e = .returned v ∧ w'.ownsRow w.heap.size 5 1 v 64 ((blockC key nonce n).map bv) ∧ Below w.heap.size w w' := by
  have HK := Lib.hid hk; have HN := Lib.hid hn; have H := Lib.hid h; have H' := Lib.hid h'
  obtain ⟨ten, HT⟩ : ∃ t : Nat, Hid (t = 10) := ⟨_, rfl⟩
  have HW := Lib.hid (all_words key nonce n hk)
  have HAL := Lib.hid (allB_len key nonce n hk hn)
  obtain ⟨R, HR⟩ : ∃ R, Hid (outLE (csumL (dblN (startC key nonce n) ten) (startC key nonce n)) = R) := ⟨_, rfl⟩
  have hbR : blockC key nonce n = R := by rw [← HR.out, HT.out]; rfl
  have HS16 := Lib.hid (startC_len key nonce n)
  rw [hbR]
  have hx : (n.toNat : Int) % 18446744073709551616 = (n.toNat : Int) := by have := n.isLt; omega
  have hxl : Hid (n.toNat < 18446744073709551616) := by have := n.isLt; show _ < _; omega
  clear hk hn h h' hbR
  go_enter Try.func11, Try.ntmps11
  have E0 := Lib.hid (Lib.run_convert_bytes_const (P := Try.prog) w 32 5 (expandB.map bv).toArray 16 16 uT Try.underlying5)
  rw [← expandB_v] at E0
  obtain ⟨b1, o1, rfl, _, hc1⟩ := H.out.2.2.at_ (by rw [List.length_map, HK.out]; omega)
  have HC1 := Lib.hid hc1
  clear hc1
  go_wp2_with (first
    | (refine wpList_run (o := ⟨some 15, _, _, _, _, _⟩) rfl (exec_conv' rfl rfl E0.out) ?_
       generalize hV : World.alloc _ _ = W1
       have G1 : Hid (W1.heap[w.heap.size]? = some (.cells (expandB.map bv).toArray 5 (16, 17))) := by rw [← hV, ← expandB_v]; exact heap_alloc_new' w _
       have B1 : Hid (Below w.heap.size w W1) := by rw [← hV]; exact (Below.refl _ _).alloc (Nat.le_refl _) _
       clear hV)
    | (at_builtin
       obtain ⟨v1, w1, hrun, hown, hgr⟩ := append_full (P := Try.prog) W1 w.heap.size 32 uT made8 rfl w.heap.size 16 (expandB.map bv) rfl (fun j u hu => by rw [cell_of_heap G1.out]; exact hu) b1 o1 32 c (key.map bv) (by rw [List.length_map]; exact HK.out) (fun j u hu => (B1.out.cell (block_lt_of_cell (HC1.out j u hu))).trans (HC1.out j u hu)) (by omega) (by omega) (by simp [maxLen]) B1.out.size
       refine wpList_app (o := ⟨some 17, _, _, _, _, _⟩) rfl (.tmp 15) (.tmp 16) 32 32 rfl hrun ?_
       rw [← List.map_append] at hown
       have HO1 := Lib.hid hown
       have FB := Lib.hid (B1.out.grown hgr B1.out.size (fun g hg => by cases hg))
       clear hown hgr hrun)
    | fail)
  refine (refPutLittle_any n.toNat 4 w1 hxl.out (by omega)).mono ?_
  rintro e w2 ⟨v2, rfl, hO2, hB2⟩
  obtain ⟨A2, c2, rfl, hl2, _, _, hr2⟩ := own_read hO2
  have HR2 := Lib.hid hr2; have HL2 := Lib.hid hl2
  have HO1' := Lib.hid (own_below HO1.out hB2)
  have FB2 := Lib.hid (FB.out.step hB2)
  clear hO2 hl2 hr2 hB2 HO1 FB
  go_wp2_with (first
    | (at_builtin
       refine wpList_app8 (o := ⟨some 22, _, _, _, _, _⟩) rfl (.tmp 18) (.tmp 21) rfl w.heap.size _ 48 (expandB ++ key) rfl ?_ A2 4 c2 w2.heap.size (putLittle n.toNat 4) rfl ?_ ?_ ?_ ?_ ?_
       · exact HO1'.out
       · exact HR2.out
       · exact HL2.out
       · omega
       · exact FB2.out.size
       rintro v3 w3 hown hgr
       have HO3 := Lib.hid hown
       have FB3 := Lib.hid (FB2.out.grown hgr FB2.out.size (own_ge HO1'.out (Nat.le_refl _)))
       clear hown hgr)
    | (at_builtin
       refine wpList_app8 (o := ⟨some 24, _, _, _, _, _⟩) rfl (.tmp 22) (.tmp 23) rfl w.heap.size _ 52 (expandB ++ key ++ putLittle n.toNat 4) rfl ?_ A' 12 c' w.heap.size nonce rfl ?_ ?_ ?_ ?_ ?_
       · exact HO3.out
       · exact H'.out.2.2.below FB3.out
       · exact HN.out
       · omega
       · exact FB3.out.size
       rintro v4 w4 hown hgr
       have HO4 : Hid (w4.ownsRow w.heap.size 5 1 v4 64 ((allB key nonce n).map bv)) := hown
       have FB4 := Lib.hid (FB3.out.grown hgr FB3.out.size (own_ge HO3.out (Nat.le_refl _)))
       clear hown hgr)
    | fail)
  obtain ⟨A4, c4, rfl, hl4, hc4, hm4, hr4⟩ := own_read HO4.out
  have R4 := Lib.hid hr4; have HC4 := Lib.hid hc4; have HM4 := Lib.hid hm4
  clear hl4 hr4 hc4 hm4 HO4
  generalize hB : allB key nonce n = B at HW HAL R4
  clear hB
  have FH : Hid (RbH w4 (w4.alloc (.cells (List.replicate 16 (Value.int .u32 0)).toArray 49)) w4.heap.size (wasN B 0)) := by
    refine ⟨(Below.refl _ _).alloc (Nat.le_refl _) _, by simp, ?_⟩
    rw [wasN_zero]; exact heap_alloc_new' w4 _
  obtain ⟨g, hg⟩ : ∃ g, g = w4.heap.size := ⟨_, rfl⟩
  have HG := Lib.hid hg
  go_loopw [9] (fun vi wr => ∃ (i : Nat), i ≤ 16 ∧ vi = .int .i64 (i : Int) ∧ Hid (RbH w4 wr w4.heap.size (wasN B i))) (fun i _ => 16 - (intOf i).toNat)
  case atStart => exact ⟨0, by omega, rfl, FH⟩
  case round =>
    clear FH
    obtain ⟨i, hi, rfl, H⟩ := hrel
    by_cases hlt : i < 16
    · have e1 : (i : Int) < 16 := by omega
      have sl := cut_mid uT s8 A4 64 c4 .i64 .i64 (4 * (i : Int)) (4 * (i : Int) + 4) (by omega) (by omega) (by have := HC4.out; omega)
      have e2 : (4 * (i : Int)).toNat = 4 * i := by omega
      have e3 : (4 * (i : Int) + 4).toNat = 4 * i + 4 := by omega
      rw [e2, e3, show 4 * i + 4 - 4 * i = 4 by omega] at sl
      clear e2 e3
      have HWB := Lib.hid (word_le B i)
      have HST := Lib.hid (wasN_step B i hlt)
      have SL : Hid (Sl wr (cutS A4 c4 (4 * i)) (c4 - 4 * i) ((B.drop (4 * i)).take 4)) := by
        have h1 : Sl w4 A4 c4 B := ⟨by rw [HAL.out]; exact HC4.out, HM4.out, R4.out⟩
        have h2 := sl_cutB (h1.below H.out.1) (k := 4 * i) (by rw [HAL.out]; omega)
        have := h2.2.2.take 4
        rw [← List.map_take] at this
        exact ⟨by have := HC4.out; rw [List.length_take]; omega, h2.2.1, this⟩
      have hlen : Hid (((B.drop (4 * i)).take 4).length = 4) := by show _ = _; rw [List.length_take, List.length_drop, HAL.out]; omega
      go_wp2_with fail
      refine (refLittle_any (cutS A4 c4 (4 * i)) 4 (c4 - 4 * i) ((B.drop (4 * i)).take 4) wr hlen.out SL.out).mono ?_
      rintro e w5 ⟨rfl, rfl⟩
      rw [HWB.out]
      generalize wordLE B i = x at HST
      have hx2 := x.isLt
      have hmod : (x.toNat : Int) % 4294967296 = (x.toNat : Int) := by omega
      have k1 := wcell H.out.2.2 i (by rw [wasN_len _ _ (by omega)]; omega)
      have fz := frozen_of_heap H.out.2.2 i
      clear HWB SL hlen
      go_wp2
      go_roundw
      case rel =>
        refine ⟨i + 1, by omega, by go_num, ?_⟩
        have := H.out.put i x
        rw [HST.out] at this
        exact this
      case measure => simp [intOf]; omega
    · have H' : Hid (RbH w4 wr w4.heap.size (startC key nonce n)) := by
        have := H.out
        rw [show i = 16 by omega] at this
        have e : wasN B 16 = startC key nonce n := by rw [← HW.out]; simp [wasN]
        rw [e] at this; exact this
      clear H
      generalize startC key nonce n = L at H' HR HS16
      obtain ⟨wo, hwo⟩ : ∃ x, x = wr := ⟨_, rfl⟩
      subst hwo
      have hl0 : Hid ((L.map wv).length = 16) := by show _ = _; rw [List.length_map]; exact HS16.out
      have HPG : Hid (wo.heap.size = w4.heap.size + 1) := H'.out.2.1
      go_wp2_with (first
        | (refine wpList_ld rfl 49 (.tmp 8) rfl (load_arr arr16W rfl (by rw [hl0.out]; exact i16W) H'.out.2.2) ?_)
        | (refine wpList_st rfl 49 (.tmp 10) (.tmp 40) rfl (store_arr (cs := L.map wv) (old := List.replicate 16 (Value.int .u32 0)) (by rw [hl0.out]; exact i16W) (wv_one _) (heap_alloc_new' wo _) (by rw [hl0.out]; simp)) ?_
           generalize hV : World.setRow _ _ _ = W5
           have M0 := Lib.hid (heap_of_setRow hV (heap_alloc_new' wo _))
           have MB := Lib.hid (((Below.refl wo.heap.size wo).alloc (Nat.le_refl _) _).trans (below_of_setRow hV (Nat.le_refl wo.heap.size) (by simp)))
           have MS : Hid (W5.heap.size = wo.heap.size + 1) := by rw [← hV]; show _ = _; simp
           clear hV)
        | fail)
      have I0 : Hid (R2H w4 W5 w4.heap.size wo.heap.size L (dblN L 0)) := ⟨H'.out.1.step MB.out, (MB.out.block _ (lt_of_heap H'.out.2.2)).trans H'.out.2.2, MS.out, M0.out⟩
      clear H' M0 MB MS hl0
      generalize wo.heap.size = p at I0 HPG ⊢
      have HGP : Hid (w4.heap.size < p) := by have := HPG.out; show _ < _; omega
      go_loopw [11] (fun vi wr => ∃ (i : Nat), i ≤ ten ∧ vi = .int .i64 (i : Int) ∧ Hid (R2H w4 wr w4.heap.size p L (dblN L i))) (fun i _ => ten - (intOf i).toNat)
      case atStart => exact ⟨0, Nat.zero_le _, rfl, I0⟩
      case round =>
        clear I0
        obtain ⟨j, hj, rfl, H⟩ := hrel
        by_cases hlt : j < 10
        · have e1 : (j : Int) < 10 := by omega
          have HD : Hid (qAt (qAt (qAt (qAt (qAt (qAt (qAt (qAt (dblN L j) 0 4 8 12) 1 5 9 13) 2 6 10 14) 3 7 11 15) 0 5 10 15) 1 6 11 12) 2 7 8 13) 3 4 9 14 = dblN L (j + 1)) := dbl_q _
          have hl0 : Hid ((dblN L j).length = 16) := by rw [dblN_len]; exact HS16
          generalize dblN L j = L0 at H HD hl0
          go_wp2_with fail
          have f0 : Hid (Four L0 0 4 8 12) := four16 hl0.out (by decide)
          refine (refq_any p L0 0 4 8 12 wr hl0.out f0.out H.out.2.2.2).mono ?_
          rintro e W0 ⟨⟨v, rfl⟩, hq, ho⟩
          have H0 := Lib.hid (H.out.only HGP.out hq ho)
          have hl1 : Hid ((qAt L0 0 4 8 12).length = 16) := by rw [qAt_len]; exact hl0
          generalize qAt L0 0 4 8 12 = L1 at H0 hl1 HD
          clear hq ho f0 H
          go_wp2_with fail
          have f1 : Hid (Four L1 1 5 9 13) := four16 hl1.out (by decide)
          refine (refq_any p L1 1 5 9 13 W0 hl1.out f1.out H0.out.2.2.2).mono ?_
          rintro e W1 ⟨⟨v, rfl⟩, hq, ho⟩
          have H1 := Lib.hid (H0.out.only HGP.out hq ho)
          have hl2 : Hid ((qAt L1 1 5 9 13).length = 16) := by rw [qAt_len]; exact hl1
          generalize qAt L1 1 5 9 13 = L2 at H1 hl2 HD
          clear hq ho f1 H0
          go_wp2_with fail
          have f2 : Hid (Four L2 2 6 10 14) := four16 hl2.out (by decide)
          refine (refq_any p L2 2 6 10 14 W1 hl2.out f2.out H1.out.2.2.2).mono ?_
          rintro e W2 ⟨⟨v, rfl⟩, hq, ho⟩
          have H2 := Lib.hid (H1.out.only HGP.out hq ho)
          have hl3 : Hid ((qAt L2 2 6 10 14).length = 16) := by rw [qAt_len]; exact hl2
          generalize qAt L2 2 6 10 14 = L3 at H2 hl3 HD
          clear hq ho f2 H1
          go_wp2_with fail
          have f3 : Hid (Four L3 3 7 11 15) := four16 hl3.out (by decide)
          refine (refq_any p L3 3 7 11 15 W2 hl3.out f3.out H2.out.2.2.2).mono ?_
          rintro e W3 ⟨⟨v, rfl⟩, hq, ho⟩
          have H3 := Lib.hid (H2.out.only HGP.out hq ho)
          have hl4 : Hid ((qAt L3 3 7 11 15).length = 16) := by rw [qAt_len]; exact hl3
          generalize qAt L3 3 7 11 15 = L4 at H3 hl4 HD
          clear hq ho f3 H2
          go_wp2_with fail
          have f4 : Hid (Four L4 0 5 10 15) := four16 hl4.out (by decide)
          refine (refq_any p L4 0 5 10 15 W3 hl4.out f4.out H3.out.2.2.2).mono ?_
          rintro e W4 ⟨⟨v, rfl⟩, hq, ho⟩
          have H4 := Lib.hid (H3.out.only HGP.out hq ho)
          have hl5 : Hid ((qAt L4 0 5 10 15).length = 16) := by rw [qAt_len]; exact hl4
          generalize qAt L4 0 5 10 15 = L5 at H4 hl5 HD
          clear hq ho f4 H3
          go_wp2_with fail
          have f5 : Hid (Four L5 1 6 11 12) := four16 hl5.out (by decide)
          refine (refq_any p L5 1 6 11 12 W4 hl5.out f5.out H4.out.2.2.2).mono ?_
          rintro e W5 ⟨⟨v, rfl⟩, hq, ho⟩
          have H5 := Lib.hid (H4.out.only HGP.out hq ho)
          have hl6 : Hid ((qAt L5 1 6 11 12).length = 16) := by rw [qAt_len]; exact hl5
          generalize qAt L5 1 6 11 12 = L6 at H5 hl6 HD
          clear hq ho f5 H4
          go_wp2_with fail
          have f6 : Hid (Four L6 2 7 8 13) := four16 hl6.out (by decide)
          refine (refq_any p L6 2 7 8 13 W5 hl6.out f6.out H5.out.2.2.2).mono ?_
          rintro e W6 ⟨⟨v, rfl⟩, hq, ho⟩
          have H6 := Lib.hid (H5.out.only HGP.out hq ho)
          have hl7 : Hid ((qAt L6 2 7 8 13).length = 16) := by rw [qAt_len]; exact hl6
          generalize qAt L6 2 7 8 13 = L7 at H6 hl7 HD
          clear hq ho f6 H5
          go_wp2_with fail
          have f7 : Hid (Four L7 3 4 9 14) := four16 hl7.out (by decide)
          refine (refq_any p L7 3 4 9 14 W6 hl7.out f7.out H6.out.2.2.2).mono ?_
          rintro e W7 ⟨⟨v, rfl⟩, hq, ho⟩
          have H7 := Lib.hid (H6.out.only HGP.out hq ho)
          have hl8 : Hid ((qAt L7 3 4 9 14).length = 16) := by rw [qAt_len]; exact hl7
          generalize qAt L7 3 4 9 14 = L8 at H7 hl8 HD
          clear hq ho f7 H6
          go_wp2_with fail
          go_roundw
          case rel => exact ⟨j + 1, by have := HT.out; omega, by go_num, by rw [← HD.out]; exact H7⟩
          case measure => simp [intOf]; have := HT.out; omega
        · have H' : Hid (R2H w4 wr w4.heap.size p L (dblN L ten)) := by have := H.out; rw [show j = ten by have := HT.out; omega] at this; exact this
          clear H
          have hl1 : Hid ((dblN L ten).length = 16) := by rw [dblN_len]; exact HS16
          generalize dblN L ten = S at H' hl1 HR
          obtain ⟨wp, hwp⟩ : ∃ x, x = wr := ⟨_, rfl⟩
          subst hwp
          have I3 : Hid (R3H w4 wp w4.heap.size p L S) := ⟨H'.out.1, H'.out.2.1, H'.out.2.2.2⟩
          clear H'
          obtain ⟨O, HO⟩ : ∃ O, Hid (csumL S L = O) := ⟨_, rfl⟩
          rw [HO.out] at HR
          have hOl : Hid (O.length = 16) := by show _ = _; rw [← HO.out, csumL_len _ _ (by rw [hl1.out, HS16.out]), hl1.out]
          go_wp2_with fail
          go_loopw [12, 13] (fun vo vi wr => ∃ (k q : Nat), k ≤ 16 ∧ vi = .int .i64 (k : Int) ∧ Hid (q = 4 * k) ∧ Hid (wr.ownsRow (p + 1) 5 1 vo q ((outLE (O.take k)).map bv)) ∧ Hid (R3H w4 wr w4.heap.size p L S)) (fun _ i _ => 16 - (intOf i).toNat)
          case atStart => exact ⟨0, 0, by omega, rfl, rfl, World.ownsRow_nil _ _ _ _, I3⟩
          case round =>
            clear I3
            obtain ⟨k, q, hk, rfl, HQ, HOW, H⟩ := hrel
            by_cases hlt : k < 16
            · have e1 : (k : Int) < 16 := by omega
              have c0 := wcell H.out.2.2 k (by rw [hl1.out]; exact hlt)
              have c1 := wcell H.out.2.1 k (by rw [HS16.out]; exact hlt)
              have HSN := Lib.hid (outLE_snoc O k (by rw [hOl.out]; exact hlt))
              have hget := csumL_get S L k (by rw [hl1.out, HS16.out]) (by rw [hl1.out]; exact hlt)
              rw [HO.out] at hget
              rw [hget] at HSN
              generalize S.getD k 0 = x at c0 HSN
              generalize L.getD k 0 = y at c1 HSN
              obtain ⟨z, hz⟩ : ∃ z, z = x + y := ⟨_, rfl⟩
              rw [← hz] at HSN
              have u1 : IntKind.u32.wrap ((x.toNat : Int) + (y.toNat : Int)) = (z.toNat : Int) := by rw [hz]; exact addw32 _ _
              have hzl := z.isLt
              have u2 : IntKind.u64.wrap (z.toNat : Int) = (z.toNat : Int) := by rw [IntKind.wrap_u64]; omega
              have HZL : Hid (z.toNat < 18446744073709551616) := by show _ < _; omega
              have hp1 : p < p + 1 := Nat.lt_succ_self p
              have hg1 : w4.heap.size < p + 1 := Nat.lt_succ_of_lt HGP.out
              have hps : Hid (p + 1 ≤ wr.heap.size) := lt_of_heap H.out.2.2
              have HX : Hid (Below (p + 1) wr wr.drew) := (Below.refl _ _).drew
              have hq31 : Hid (q + 4 ≤ 2147483647) := by have := HQ.out; show _ ≤ _; omega
              clear hget hz hzl
              go_wp2_with fail
              refine regB_start (p + 1) (by kernel_rfl) ?_
              try simp only [Act.put, List.setIfInBounds_toArray, List.set_cons_zero, List.set_cons_succ]
              refine regB_take (v := ?_) 0 (some 57) rfl rfl (by kernel_rfl) (by kernel_rfl) (by kernel_rfl) (fun _ _ _ h => h) (by rfl) (fun W hW => ?_) ?_
              rotate_left
              · (go_simp; try rfl)
              simp only [Act.put, List.setIfInBounds_toArray, List.set_cons_zero, List.set_cons_succ]
              refine regB_take (v := ?_) 1 (some 58) rfl rfl (by kernel_rfl) (by kernel_rfl) (by kernel_rfl) (fun _ _ _ h => h) (by rfl) (fun W hW => ?_) ?_
              rotate_left
              · (go_simp; try rfl)
              simp only [Act.put, List.setIfInBounds_toArray, List.set_cons_zero, List.set_cons_succ]
              refine regB_take (v := ?_) 2 (some 59) rfl rfl (by kernel_rfl) (by kernel_rfl) (by kernel_rfl) (fun _ _ _ h => h) (by rfl) (fun W hW => ?_) ?_
              rotate_left
              · (go_simp; try rfl)
              simp only [Act.put, List.setIfInBounds_toArray, List.set_cons_zero, List.set_cons_succ]
              refine regB_load 3 (some 60) (fun W hW => load_cell Try.underlying24 ((hW.cell hp1).trans c0)) rfl rfl rfl rfl (by kernel_rfl) (by kernel_rfl) (by kernel_rfl) (fun _ _ _ h => h) (by rfl) ?_
              simp only [Act.put, List.setIfInBounds_toArray, List.set_cons_zero, List.set_cons_succ]
              refine regB_take (v := ?_) 4 (some 61) rfl rfl (by kernel_rfl) (by kernel_rfl) (by kernel_rfl) (fun _ _ _ h => h) (by rfl) (fun W hW => ?_) ?_
              rotate_left
              · (go_simp; try rfl)
              simp only [Act.put, List.setIfInBounds_toArray, List.set_cons_zero, List.set_cons_succ]
              refine regB_take (v := ?_) 5 (some 62) rfl rfl (by kernel_rfl) (by kernel_rfl) (by kernel_rfl) (fun _ _ _ h => h) (by rfl) (fun W hW => ?_) ?_
              rotate_left
              · (go_simp; try rfl)
              simp only [Act.put, List.setIfInBounds_toArray, List.set_cons_zero, List.set_cons_succ]
              refine regB_load 6 (some 63) (fun W hW => load_cell Try.underlying24 ((hW.cell hg1).trans c1)) rfl rfl rfl rfl (by kernel_rfl) (by kernel_rfl) (by kernel_rfl) (fun _ _ _ h => h) (by rfl) ?_
              simp only [Act.put, List.setIfInBounds_toArray, List.set_cons_zero, List.set_cons_succ]
              refine regB_take (v := ?_) 7 (some 64) rfl rfl (by kernel_rfl) (by kernel_rfl) (by kernel_rfl) (fun _ _ _ h => h) (by rfl) (fun W hW => ?_) ?_
              rotate_left
              · (go_simp; try rfl)
              simp only [Act.put, List.setIfInBounds_toArray, List.set_cons_zero, List.set_cons_succ]
              refine regB_take (v := ?_) 8 (some 65) rfl rfl (by kernel_rfl) (by kernel_rfl) (by kernel_rfl) (fun _ _ _ h => h) (by rfl) (fun W hW => ?_) ?_
              rotate_left
              · (go_simp; try rfl)
              simp only [Act.put, List.setIfInBounds_toArray, List.set_cons_zero, List.set_cons_succ]
              refine regB_eff 9 rfl (by kernel_rfl) (fun K hK => ?_)
              go_simp
              refine (refPutLittle_any z.toNat 4 _ HZL.out (by omega)).mono ?_
              rintro e w6 ⟨v6, rfl, hO6, hE0⟩
              obtain ⟨A6, c6, rfl, hl6, _, _, hr6⟩ := own_read hO6
              have R6 := Lib.hid hr6; have L6 := Lib.hid hl6
              have OW6 := Lib.hid (own_below (w := wr.drew) HOW.out.drew hE0)
              have hs6 : Hid (p + 1 ≤ w6.heap.size) := Nat.le_trans hps.out hE0.size
              have hE : Below (p + 1) wr.drew w6 := RowKit.Below.mono hE0 hps.out
              clear hO6 hl6 hr6 hE0
              refine hK.out _ _ hE ?_
              have HX := Lib.hid (Below.trans HX.out hE)
              clear hE hK K
              try simp only [Act.put, List.setIfInBounds_toArray, List.set_cons_zero, List.set_cons_succ]
              refine regB_eff 10 rfl (by kernel_rfl) (fun K hK => ?_)
              refine step_app8 rfl (.tmp 57) (.tmp 66) rfl (p + 1) _ q (outLE (O.take k)) rfl ?_ A6 4 c6 w6.heap.size (putLittle z.toNat 4) rfl ?_ ?_ ?_ ?_ ?_
              · exact OW6.out
              · exact R6.out
              · exact L6.out
              · exact hq31.out
              · exact hs6.out
              rintro v7 w7 hown hgr
              rw [← HSN.out] at hown
              have OW7 := Lib.hid hown
              have hE : Below (p + 1) w6 w7 := (Below.refl _ _).grown hgr hs6.out (own_ge OW6.out (Nat.le_refl _))
              clear hown hgr
              refine hK.out _ _ hE ?_
              have HX := Lib.hid (Below.trans HX.out hE)
              clear hE hK K
              try simp only [Act.put, List.setIfInBounds_toArray, List.set_cons_zero, List.set_cons_succ]
              refine regB_take (v := ?_) 11 (some 12) rfl rfl (by kernel_rfl) (by kernel_rfl) (by kernel_rfl) (fun _ _ _ h => h) (by rfl) (fun W hW => ?_) ?_
              rotate_left
              · (go_simp; try rfl)
              simp only [Act.put, List.setIfInBounds_toArray, List.set_cons_zero, List.set_cons_succ]
              refine regB_done (by kernel_rfl) ?_
              clear u1 u2
              go_wp2
              go_roundw
              case rel => exact ⟨k + 1, q + 4, by omega, by go_num, (by have := HQ.out; show _ = _; omega), OW7, H.out.after HGP.out HX.out⟩
              case measure => simp [intOf]; omega
            · have hq : q = 64 := by have := HQ.out; omega
              have HO' := HOW.out
              rw [hq, show k = 16 by omega, List.take_of_length_le (by rw [hOl.out]; omega), HR.out] at HO'
              have HO2 := Lib.hid HO'
              clear hq HO' HOW
              go_wp2
              go_ret
              exact ⟨_, rfl, Joins.ownsRow_le HO2.out (by have := HGP.out; have := FB4.out.size; omega), FB4.out.step H.out.1⟩
end Go.Proofs.Yteboeeijgpghoaa

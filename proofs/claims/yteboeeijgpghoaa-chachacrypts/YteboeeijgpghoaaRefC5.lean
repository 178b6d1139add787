/- The document's own Crypt: the walk. -/
import Derived.Test.YteboeeijgpghoaaRefC4
namespace Go.Proofs.Yteboeeijgpghoaa
open Go.RowKit
set_option linter.unusedVariables false
set_option linter.unusedSimpArgs false
theorem KeptK.grown {W W' : World} {vo vo' vk : Value} {X : List UInt8} (h : KeptK W vo vk X) (hg : W.grownBy W' vo.ownBlock) (hv : vo'.ownBlock = vo.ownBlock ∨ vo'.ownBlock = some W.heap.size) : KeptK W' vo' vk X := by
  obtain ⟨g, c, e, hne, hlt, hc⟩ := h
  refine ⟨g, c, e, fun h => ?_, ?_, fun j hj => ?_⟩
  · rcases hv with hv | hv
    · exact hne (hv.symm.trans h)
    · rw [hv] at h; injection h with h; omega
  · have hb := hg.block g hlt (Ne.symm hne)
    rcases Nat.lt_or_ge g W'.heap.size with h | h
    · exact h
    · rw [Array.getElem?_eq_none h, Array.getElem?_eq_getElem hlt] at hb; cases hb
  · have hb := hg.block g hlt (Ne.symm hne)
    have := hc j hj
    unfold World.cell? at this ⊢
    rw [hb]; exact this
theorem KeptK.alloc {W : World} {vo vk : Value} {X : List UInt8} (h : KeptK W vo vk X) (o : Obj) : KeptK (W.alloc o) vo vk X := by
  obtain ⟨g, c, e, hne, hlt, hc⟩ := h
  exact ⟨g, c, e, hne, by simp; omega, fun j hj => (((Below.refl W.heap.size W).alloc (Nat.le_refl _) o).cell hlt).trans (hc j hj)⟩
theorem KeptK.drew {W : World} {vo vk : Value} {X : List UInt8} (h : KeptK W vo vk X) : KeptK W.drew vo vk X := h
set_option maxHeartbeats 4000000 in
theorem refCrypt_any (A A' Ab : Option Addr) (c c' cb m : Nat) (key nonce : List UInt8) (n : W32) (b : List UInt8) (w : World) (hk : key.length = 32) (hn : nonce.length = 12) (hm : b.length = m) (hm31 : m ≤ 100000) (h : Sl w A c key) (h' : Sl w A' c' nonce) (hb : Sl w Ab cb b) :
    Calls Try.prog 16 #[.slice A 32 c, .slice A' 12 c', .int .u32 (n.toNat : Int), .slice Ab m cb] w fun e w' => ∃ v, e = .returned v ∧ w'.ownsRow w.heap.size 5 1 v m ((cryptC key nonce n b).map bv) ∧ Below w.heap.size w w' := by
  have HK := Lib.hid hk; have HN := Lib.hid hn; have H := Lib.hid h; have H' := Lib.hid h'; have HSb := Lib.hid hb; have HM := Lib.hid hm
  clear hk hn h h' hb hm
  go_enter Try.func16, Try.ntmps16
  go_wp2_with fail
  go_loopw [9, 10, 11] (fun vo vk vi wr => ∃ (i : Nat), i ≤ m ∧ vi = .int .i64 (i : Int) ∧ Hid (wr.ownsRow w.heap.size 5 1 vo i (((cryptC key nonce n b).take i).map bv)) ∧ Hid (Below w.heap.size w wr) ∧ Hid (i % 64 ≠ 0 → KeptK wr vo vk (blockC key nonce (ctrAt n (i / 64))))) (fun _ _ i _ => m - (intOf i).toNat)
  case atStart => exact ⟨0, by omega, rfl, World.ownsRow_nil _ _ _ _, Below.refl _ _, fun h => absurd rfl h⟩
  case round =>
    obtain ⟨i, hi, rfl, HO, HB, HKK⟩ := hrel
    by_cases hlt : i < m
    · have e1 : (i : Int) < (m : Int) := by omega
      have HT := Lib.hid (cryptC_take key nonce n b i (by rw [HM.out]; exact hlt))
      obtain ⟨pb, ob, rfl, hpb, hcb⟩ := HSb.out.2.2.at_ (by rw [List.length_map, HM.out]; omega)
      have cb0 : Hid (w.cell? ⟨pb, ob + i, none⟩ = some (.int .u8 ((b.getD i 0).toNat : Int))) := hcb i _ (by rw [List.getElem?_map, List.getElem?_eq_getElem (by rw [HM.out]; exact hlt)]; simp [List.getD, HM.out, hlt, bv])
      have cbr := Lib.hid ((HB.out.cell hpb).trans cb0.out)
      have HPB := Lib.hid hpb
      clear hpb hcb
      generalize b.getD i 0 = x at cb0 cbr HT
      obtain ⟨r, hr⟩ : ∃ r, r = i % 64 := ⟨_, rfl⟩
      have u0 : (i : Int) % 64 = (r : Int) := by omega
      have r64 : (r : Int) < 64 := by omega
      have hr64 : r < 64 := by omega
      have u1 : IntKind.i64.wrap ((i : Int) % 64) = (r : Int) := by rw [IntKind.wrap_i64]; omega
      have u3 : (i : Int).tmod 64 = (r : Int) := by rw [Int.tmod_eq_emod_of_nonneg (by omega)]; exact u0
      have hkk : Hid (∀ k, k = i / 64 → blockC key nonce (ctrAt n k) = blockC key nonce (ctrAt n (i / 64))) := fun k hk => by rw [hk]
      have HI : Hid (i + 1 ≤ m ∧ m ≤ 100000) := ⟨by omega, hm31⟩
      have hnx : Hid (¬ (i + 1) % 64 = 0 → (i + 1) / 64 = i / 64) := by intro h; omega
      have HR := Lib.hid hr
      clear hr
      by_cases h0 : r = 0
      · subst h0
        have u2 : (i : Int) / 64 < 4294967296 := by omega
        have HCW : Hid (((n.toNat : Int) + (i : Int) / 64) % 4294967296 = ((ctrAt n (i / 64)).toNat : Int)) := by have := ctr_wrap n (i / 64); rw [show ((i / 64 : Nat) : Int) = (i : Int) / 64 by omega] at this; exact this
        have BL := Lib.hid (fun W h h' => refBlockC_any A A' c c' key nonce (ctrAt n (i / 64)) W HK.out HN.out h h')
        have hXl : Hid ((blockC key nonce (ctrAt n (i / 64))).length = 64) := blockC_len _ _ _
        go_wp2_with fail
        rw [HCW.out]
        refine (BL.out wr (H.out.below HB.out) (H'.out.below HB.out)).mono ?_
        rintro e w1 ⟨v1, rfl, hO1, hB1⟩
        have KK := Lib.hid (kept_of_own hO1 hXl.out (fun g hg => (HO.out.lt g hg).2))
        have HOW := Lib.hid (own_below HO.out hB1)
        have HBW := Lib.hid (HB.out.step hB1)
        have cbw := Lib.hid ((HBW.out.cell HPB.out).trans cb0.out)
        clear hO1 hB1 HO HB HKK BL HCW hXl cbr
        go_wp2_with fail
        obtain ⟨gk, ck, rfl, hne, hgk, hck⟩ := KK.out
        have HCK := Lib.hid (hck 0 hr64)
        clear hck
        obtain ⟨X, HXE⟩ : ∃ X, Hid (blockC key nonce (ctrAt n (i / 64)) = X) := ⟨_, rfl⟩
        rw [HXE.out] at HCK HT
        have KK := KK.out
        rw [HXE.out] at KK
        have KK := Lib.hid KK
        rw [← HR.out] at HT
        generalize X.getD 0 0 = y at HCK HT
        obtain ⟨z, hz⟩ : ∃ z, z = x ^^^ y := ⟨_, rfl⟩
        have hzz : bits .xor .u8 (x.toNat : Int) (y.toNat : Int) = (z.toNat : Int) := by rw [hz]; exact xor8 x y
        rw [← hz] at HT
        have HS : Hid (w1.drew = w1.drew) := rfl
        have CX : Hid (w1.drew.cell? ⟨pb, ob + i, none⟩ = _) := cbw.out
        have CY : Hid (w1.drew.cell? ⟨gk, 0, none⟩ = some (.int .u8 (y.toNat : Int))) := HCK.out
        clear hz hne hgk
        refine regK_start (10) (fun W => W = w1.drew) (by kernel_rfl) ?_
        try simp only [Act.put, List.setIfInBounds_toArray, List.set_cons_zero, List.set_cons_succ]
        refine regK_take (v := ?_) 0 (some 29) rfl rfl (by kernel_rfl) (by kernel_rfl) (by kernel_rfl) (fun _ _ _ h => h) (by rfl) (by kernel_rfl) HS.out (fun W => ?_) ?_
        rotate_left
        · (go_simp; try rfl)
        simp only [Act.put, List.setIfInBounds_toArray, List.set_cons_zero, List.set_cons_succ]
        refine regK_take (v := ?_) 1 (some 30) rfl rfl (by kernel_rfl) (by kernel_rfl) (by kernel_rfl) (fun _ _ _ h => h) (by rfl) (by kernel_rfl) HS.out (fun W => ?_) ?_
        rotate_left
        · (go_simp; try rfl)
        simp only [Act.put, List.setIfInBounds_toArray, List.set_cons_zero, List.set_cons_succ]
        refine regK_take (v := ?_) 2 (some 31) rfl rfl (by kernel_rfl) (by kernel_rfl) (by kernel_rfl) (fun _ _ _ h => h) (by rfl) (by kernel_rfl) HS.out (fun W => ?_) ?_
        rotate_left
        · (go_simp; try rfl)
        simp only [Act.put, List.setIfInBounds_toArray, List.set_cons_zero, List.set_cons_succ]
        refine regK_take (v := ?_) 3 (some 32) rfl rfl (by kernel_rfl) (by kernel_rfl) (by kernel_rfl) (fun _ _ _ h => h) (by rfl) (by kernel_rfl) HS.out (fun W => ?_) ?_
        rotate_left
        · (go_simp; try rfl)
        simp only [Act.put, List.setIfInBounds_toArray, List.set_cons_zero, List.set_cons_succ]
        refine regK_load 4 (some 33) (fun W hW => load_cell Try.underlying5 (cell_eq hW CX.out)) rfl rfl rfl rfl (by kernel_rfl) (by kernel_rfl) (by kernel_rfl) (fun _ _ _ h => h) (by rfl) (by kernel_rfl) HS.out ?_
        simp only [Act.put, List.setIfInBounds_toArray, List.set_cons_zero, List.set_cons_succ]
        refine regK_take (v := ?_) 5 (some 34) rfl rfl (by kernel_rfl) (by kernel_rfl) (by kernel_rfl) (fun _ _ _ h => h) (by rfl) (by kernel_rfl) HS.out (fun W => ?_) ?_
        rotate_left
        · (go_simp; try rfl)
        simp only [Act.put, List.setIfInBounds_toArray, List.set_cons_zero, List.set_cons_succ]
        refine regK_take (v := ?_) 6 (some 35) rfl rfl (by kernel_rfl) (by kernel_rfl) (by kernel_rfl) (fun _ _ _ h => h) (by rfl) (by kernel_rfl) HS.out (fun W => ?_) ?_
        rotate_left
        · (go_simp; try rfl)
        simp only [Act.put, List.setIfInBounds_toArray, List.set_cons_zero, List.set_cons_succ]
        refine regK_take (v := ?_) 7 (some 36) rfl rfl (by kernel_rfl) (by kernel_rfl) (by kernel_rfl) (fun _ _ _ h => h) (by rfl) (by kernel_rfl) HS.out (fun W => ?_) ?_
        rotate_left
        · (go_simp; try rfl)
        simp only [Act.put, List.setIfInBounds_toArray, List.set_cons_zero, List.set_cons_succ]
        refine regK_take (v := ?_) 8 (some 37) rfl rfl (by kernel_rfl) (by kernel_rfl) (by kernel_rfl) (fun _ _ _ h => h) (by rfl) (by kernel_rfl) HS.out (fun W => ?_) ?_
        rotate_left
        · (go_simp; try rfl)
        simp only [Act.put, List.setIfInBounds_toArray, List.set_cons_zero, List.set_cons_succ]
        refine regK_load 9 (some 38) (fun W hW => load_cell Try.underlying5 (cell_eq hW CY.out)) rfl rfl rfl rfl (by kernel_rfl) (by kernel_rfl) (by kernel_rfl) (fun _ _ _ h => h) (by rfl) (by kernel_rfl) HS.out ?_
        simp only [Act.put, List.setIfInBounds_toArray, List.set_cons_zero, List.set_cons_succ]
        refine regK_bar 10 rfl (by kernel_rfl) (by kernel_rfl) (fun K hK => ?_)
        go_simp
        refine hK.out _ _ trivial ?_
        clear hK K
        try simp only [Act.put, List.setIfInBounds_toArray, List.set_cons_zero, List.set_cons_succ]
        refine regS_eff 11 rfl (by kernel_rfl) (fun K hK => ?_)
        go_simp
        refine hK.out _ _ trivial ?_
        clear hK K
        try simp only [Act.put, List.setIfInBounds_toArray, List.set_cons_zero, List.set_cons_succ]
        refine regS_eff 12 rfl (by kernel_rfl) (fun K hK => ?_)
        refine step_spot rfl (.tmp 29) (.tmp 40) rfl w.heap.size _ i ((cryptC key nonce n b).take i) rfl ?_ w1.heap.size 1 z rfl ?_ ?_ ?_ ?_
        · exact HOW.out.alloc _
        · exact cell_of_heap (heap_alloc_new' w1 _) 0
        · have := HI.out; omega
        · exact Nat.le_trans HBW.out.size (by simp)
        rintro v5 w5 hown hgr hsp
        rw [← HT.out] at hown
        have HO5 := Lib.hid hown
        have HB5 : Hid (Below w.heap.size w w5) := (HBW.out.alloc HBW.out.size _).drew.grown hgr (Nat.le_trans HBW.out.size (by simp)) (fun g hg => (HOW.out.lt g hg).1)
        have KK5 := Lib.hid (((KK.out.alloc _).drew).grown hgr hsp)
        clear hown hgr hsp
        refine hK.out _ _ trivial ?_
        clear hK K
        try simp only [Act.put, List.setIfInBounds_toArray, List.set_cons_zero, List.set_cons_succ]
        refine regS_take (v := ?_) 13 (some 9) rfl rfl (by kernel_rfl) (by kernel_rfl) (by kernel_rfl) (fun _ _ _ h => h) (by rfl) (fun W hW => ?_) ?_
        rotate_left
        · (go_simp; try rfl)
        simp only [Act.put, List.setIfInBounds_toArray, List.set_cons_zero, List.set_cons_succ]
        refine regS_done (by kernel_rfl) ?_
        clear u0 u1 u3 hzz
        go_wp2
        go_roundw
        case rel => exact ⟨i + 1, HI.out.1, by go_num, HO5, HB5, fun h => by rw [hnx.out h, HXE.out]; exact KK5.out⟩
        case measure => simp [intOf]; omega
      · have hrz : ((r : Int) == 0) = false := by simpa using h0
        have KK := Lib.hid (HKK.out (by rw [← HR.out]; exact h0))
        have HOW := HO
        have HBW := HB
        have cbw := cbr
        clear HO HB HKK cbr
        go_wp2_with fail
        obtain ⟨gk, ck, rfl, hne, hgk, hck⟩ := KK.out
        have HCK := Lib.hid (hck r hr64)
        clear hck
        obtain ⟨X, HXE⟩ : ∃ X, Hid (blockC key nonce (ctrAt n (i / 64)) = X) := ⟨_, rfl⟩
        rw [HXE.out] at HCK HT
        have KK := KK.out
        rw [HXE.out] at KK
        have KK := Lib.hid KK
        rw [← HR.out] at HT
        generalize X.getD r 0 = y at HCK HT
        obtain ⟨z, hz⟩ : ∃ z, z = x ^^^ y := ⟨_, rfl⟩
        have hzz : bits .xor .u8 (x.toNat : Int) (y.toNat : Int) = (z.toNat : Int) := by rw [hz]; exact xor8 x y
        rw [← hz] at HT
        have HS : Hid (wr.drew = wr.drew) := rfl
        have CX : Hid (wr.drew.cell? ⟨pb, ob + i, none⟩ = _) := cbw.out
        have CY : Hid (wr.drew.cell? ⟨gk, r, none⟩ = some (.int .u8 (y.toNat : Int))) := HCK.out
        clear hz hne hgk
        refine regK_start (10) (fun W => W = wr.drew) (by kernel_rfl) ?_
        try simp only [Act.put, List.setIfInBounds_toArray, List.set_cons_zero, List.set_cons_succ]
        refine regK_take (v := ?_) 0 (some 29) rfl rfl (by kernel_rfl) (by kernel_rfl) (by kernel_rfl) (fun _ _ _ h => h) (by rfl) (by kernel_rfl) HS.out (fun W => ?_) ?_
        rotate_left
        · (go_simp; try rfl)
        simp only [Act.put, List.setIfInBounds_toArray, List.set_cons_zero, List.set_cons_succ]
        refine regK_take (v := ?_) 1 (some 30) rfl rfl (by kernel_rfl) (by kernel_rfl) (by kernel_rfl) (fun _ _ _ h => h) (by rfl) (by kernel_rfl) HS.out (fun W => ?_) ?_
        rotate_left
        · (go_simp; try rfl)
        simp only [Act.put, List.setIfInBounds_toArray, List.set_cons_zero, List.set_cons_succ]
        refine regK_take (v := ?_) 2 (some 31) rfl rfl (by kernel_rfl) (by kernel_rfl) (by kernel_rfl) (fun _ _ _ h => h) (by rfl) (by kernel_rfl) HS.out (fun W => ?_) ?_
        rotate_left
        · (go_simp; try rfl)
        simp only [Act.put, List.setIfInBounds_toArray, List.set_cons_zero, List.set_cons_succ]
        refine regK_take (v := ?_) 3 (some 32) rfl rfl (by kernel_rfl) (by kernel_rfl) (by kernel_rfl) (fun _ _ _ h => h) (by rfl) (by kernel_rfl) HS.out (fun W => ?_) ?_
        rotate_left
        · (go_simp; try rfl)
        simp only [Act.put, List.setIfInBounds_toArray, List.set_cons_zero, List.set_cons_succ]
        refine regK_load 4 (some 33) (fun W hW => load_cell Try.underlying5 (cell_eq hW CX.out)) rfl rfl rfl rfl (by kernel_rfl) (by kernel_rfl) (by kernel_rfl) (fun _ _ _ h => h) (by rfl) (by kernel_rfl) HS.out ?_
        simp only [Act.put, List.setIfInBounds_toArray, List.set_cons_zero, List.set_cons_succ]
        refine regK_take (v := ?_) 5 (some 34) rfl rfl (by kernel_rfl) (by kernel_rfl) (by kernel_rfl) (fun _ _ _ h => h) (by rfl) (by kernel_rfl) HS.out (fun W => ?_) ?_
        rotate_left
        · (go_simp; try rfl)
        simp only [Act.put, List.setIfInBounds_toArray, List.set_cons_zero, List.set_cons_succ]
        refine regK_take (v := ?_) 6 (some 35) rfl rfl (by kernel_rfl) (by kernel_rfl) (by kernel_rfl) (fun _ _ _ h => h) (by rfl) (by kernel_rfl) HS.out (fun W => ?_) ?_
        rotate_left
        · (go_simp; try rfl)
        simp only [Act.put, List.setIfInBounds_toArray, List.set_cons_zero, List.set_cons_succ]
        refine regK_take (v := ?_) 7 (some 36) rfl rfl (by kernel_rfl) (by kernel_rfl) (by kernel_rfl) (fun _ _ _ h => h) (by rfl) (by kernel_rfl) HS.out (fun W => ?_) ?_
        rotate_left
        · (go_simp; try rfl)
        simp only [Act.put, List.setIfInBounds_toArray, List.set_cons_zero, List.set_cons_succ]
        refine regK_take (v := ?_) 8 (some 37) rfl rfl (by kernel_rfl) (by kernel_rfl) (by kernel_rfl) (fun _ _ _ h => h) (by rfl) (by kernel_rfl) HS.out (fun W => ?_) ?_
        rotate_left
        · (go_simp; try rfl)
        simp only [Act.put, List.setIfInBounds_toArray, List.set_cons_zero, List.set_cons_succ]
        refine regK_load 9 (some 38) (fun W hW => load_cell Try.underlying5 (cell_eq hW CY.out)) rfl rfl rfl rfl (by kernel_rfl) (by kernel_rfl) (by kernel_rfl) (fun _ _ _ h => h) (by rfl) (by kernel_rfl) HS.out ?_
        simp only [Act.put, List.setIfInBounds_toArray, List.set_cons_zero, List.set_cons_succ]
        refine regK_bar 10 rfl (by kernel_rfl) (by kernel_rfl) (fun K hK => ?_)
        go_simp
        refine hK.out _ _ trivial ?_
        clear hK K
        try simp only [Act.put, List.setIfInBounds_toArray, List.set_cons_zero, List.set_cons_succ]
        refine regS_eff 11 rfl (by kernel_rfl) (fun K hK => ?_)
        go_simp
        refine hK.out _ _ trivial ?_
        clear hK K
        try simp only [Act.put, List.setIfInBounds_toArray, List.set_cons_zero, List.set_cons_succ]
        refine regS_eff 12 rfl (by kernel_rfl) (fun K hK => ?_)
        refine step_spot rfl (.tmp 29) (.tmp 40) rfl w.heap.size _ i ((cryptC key nonce n b).take i) rfl ?_ wr.heap.size 1 z rfl ?_ ?_ ?_ ?_
        · exact HOW.out.alloc _
        · exact cell_of_heap (heap_alloc_new' wr _) 0
        · have := HI.out; omega
        · exact Nat.le_trans HBW.out.size (by simp)
        rintro v5 w5 hown hgr hsp
        rw [← HT.out] at hown
        have HO5 := Lib.hid hown
        have HB5 : Hid (Below w.heap.size w w5) := (HBW.out.alloc HBW.out.size _).drew.grown hgr (Nat.le_trans HBW.out.size (by simp)) (fun g hg => (HOW.out.lt g hg).1)
        have KK5 := Lib.hid (((KK.out.alloc _).drew).grown hgr hsp)
        clear hown hgr hsp
        refine hK.out _ _ trivial ?_
        clear hK K
        try simp only [Act.put, List.setIfInBounds_toArray, List.set_cons_zero, List.set_cons_succ]
        refine regS_take (v := ?_) 13 (some 9) rfl rfl (by kernel_rfl) (by kernel_rfl) (by kernel_rfl) (fun _ _ _ h => h) (by rfl) (fun W hW => ?_) ?_
        rotate_left
        · (go_simp; try rfl)
        simp only [Act.put, List.setIfInBounds_toArray, List.set_cons_zero, List.set_cons_succ]
        refine regS_done (by kernel_rfl) ?_
        clear u0 u1 u3 hzz
        go_wp2
        go_roundw
        case rel => exact ⟨i + 1, HI.out.1, by go_num, HO5, HB5, fun h => by rw [hnx.out h, HXE.out]; exact KK5.out⟩
        case measure => simp [intOf]; omega
    · have HO' := HO.out
      rw [show i = m by omega, List.take_of_length_le (by rw [cryptC_len, HM.out]; omega)] at HO'
      have HO2 := Lib.hid HO'
      have him : i = m := by omega
      subst him
      clear HO' HO
      go_wp2
      go_ret
      exact ⟨_, rfl, HO2.out, HB.out⟩
end Go.Proofs.Yteboeeijgpghoaa

/- Package hmac: begin, Write, Sum, Reset; Sum of bytes by a key. -/
import Derived.Test.YtfcnahbbieldfaaDoorHma2
import Derived.Test.YtfcnahbbieldfaaDoorApp
namespace Go.Proofs.YtfcnahbbieldfaaDoor
open Go.RowKit
set_option maxRecDepth 100000
set_option linter.unusedVariables false
set_option linter.unusedSimpArgs false
def KeyK (g : Nat) (w W : World) : Prop := ∀ i, 73 ≤ i → i < 137 → W.cell? ⟨g, i, none⟩ = w.cell? ⟨g, i, none⟩
instance (g : Nat) : Pre (KeyK g) where
  refl _ := fun _ _ _ => rfl
  trans h k := fun i h1 h2 => (k i h1 h2).trans (h i h1 h2)
theorem keyK_of {w W : World} {g : Nat} {KB m m' : List UInt8} (h : HAt w g KB m) (h' : HAt W g KB m') : KeyK g w W := fun i h1 h2 => by
  have hl : i - 73 < (KB.map bv).length := by rw [List.length_map, h.1]; omega
  have c1 := h.key (i - 73) _ (List.getElem?_eq_getElem hl)
  have c2 := h'.key (i - 73) _ (List.getElem?_eq_getElem hl)
  rw [show 73 + (i - 73) = i by omega] at c1 c2
  rw [c1, c2]
/-- the message within once it is begun -/
def begun (KB m : List UInt8) : List UInt8 := if m = [] then twistL KB 54 else m
theorem begun_len (KB m : List UInt8) (hK : KB.length = 64) : (begun KB m).length ≤ m.length + 64 := by
  unfold begun
  split
  · rw [twistL_len KB 54 hK]; omega
  · omega
theorem apart_lt {g b o : Nat} (h : g < b) : ApartG (some ⟨b, o, none⟩) g := by
  intro a ha
  injection ha with ha
  rw [← ha]; show b ≠ g; omega
set_option maxHeartbeats 1000000 in
theorem begin_any (g : Nat) (KB m : List UInt8) (w : World) (hm : m.length ≤ 2147000000) (hg0 : g ≠ 0) (H : HAt w g KB m) (hR : Rnd w) :
    Calls Tryd.prog 24 #[.pointer (some ⟨g, 0, none⟩)] w fun e w' => (∃ v, e = .returned v) ∧ HAt w' g KB (begun KB m) ∧ w.grownBy w' (some g) := by
  have HH := Lib.hid H; have HR := Lib.hid hR; have HG0 := Lib.hid hg0
  have HLT := Lib.hid H.lt
  obtain ⟨n, hn⟩ : ∃ n, m.length = n := ⟨_, rfl⟩
  have HLN := Lib.hid (fun W (h : HAt W g KB m) => len_any g m n W hn h.2)
  have HN := Lib.hid hn
  rw [hn] at hm
  clear H hR hg0 hn
  by_cases h0 : n = 0
  · have hm0 : m = [] := List.eq_nil_of_length_eq_zero (HN.out.trans h0)
    subst hm0
    subst h0
    have HBG : Hid (begun KB [] = twistL KB 54) := by show _ = _; rw [begun, if_pos rfl]
    rw [HBG.out]
    have HTA := Lib.hid (fun W => (turned_any KB 54 W HH.out.1 : Calls Tryd.prog 25 #[.agg (KB.map bv).toArray, .int .u8 54] W _))
    have HTL := Lib.hid (twistL_len KB 54 HH.out.1)
    generalize twistL KB 54 = T at HTA HTL HBG ⊢
    have hi64 : Hid ((Tryd.prog.info? 22).map (·.size) = some (KB.map bv).length) := by show _ = _; rw [List.length_map, HH.out.1]; exact i64B
    have HKY := Lib.hid HH.out.key
    go_enter Tryd.func24, Tryd.ntmps24
    go_wp2_with fail
    refine (HLN.out w HH.out).mono ?_
    rintro e w1 ⟨rfl, rfl⟩
    go_upto_region 1 with (fail)
    have HX : Hid (KeyK g w w.drew) := fun _ _ _ => rfl
    have H1 : Hid (HAt w.drew g KB []) := HH.out.ext (Below.refl _ _).drew
    have R1 : Hid (Rnd w.drew) := HR.out.ext (Below.refl _ _).drew
    have G1 : Hid (w.grownBy w.drew (some g)) := gr_drew _ _
    refine regS_start (KeyK g) (by kernel_rfl) ?_
    try simp only [Act.put, List.setIfInBounds_toArray, List.set_cons_zero, List.set_cons_succ]
    generalize w.drew = W1 at HX H1 R1 G1 ⊢
    refine regS_take (v := ?_) 0 (some 7) rfl rfl (by kernel_rfl) (by kernel_rfl) (by kernel_rfl) (fun _ _ _ h => h) (by rfl) (fun W hW => ?_) ?_
    rotate_left
    · (go_simp; try rfl)
    simp only [Act.put, List.setIfInBounds_toArray, List.set_cons_zero, List.set_cons_succ]
    refine regS_take (v := ?_) 1 (some 8) rfl rfl (by kernel_rfl) (by kernel_rfl) (by kernel_rfl) (fun _ _ _ h => h) (by rfl) (fun W hW => ?_) ?_
    rotate_left
    · (go_simp; try rfl)
    simp only [Act.put, List.setIfInBounds_toArray, List.set_cons_zero, List.set_cons_succ]
    refine regS_take (v := ?_) 2 (some 9) rfl rfl (by kernel_rfl) (by kernel_rfl) (by kernel_rfl) (fun _ _ _ h => h) (by rfl) (fun W hW => ?_) ?_
    rotate_left
    · (go_simp; try rfl)
    simp only [Act.put, List.setIfInBounds_toArray, List.set_cons_zero, List.set_cons_succ]
    refine regS_take (v := ?_) 3 (some 10) rfl rfl (by kernel_rfl) (by kernel_rfl) (by kernel_rfl) (fun _ _ _ h => h) (by rfl) (fun W hW => ?_) ?_
    rotate_left
    · (go_simp; try rfl)
    simp only [Act.put, List.setIfInBounds_toArray, List.set_cons_zero, List.set_cons_succ]
    refine regS_take (v := ?_) 4 (some 11) rfl rfl (by kernel_rfl) (by kernel_rfl) (by kernel_rfl) (fun _ _ _ h => h) (by rfl) (fun W hW => ?_) ?_
    rotate_left
    · (go_simp; try rfl)
    simp only [Act.put, List.setIfInBounds_toArray, List.set_cons_zero, List.set_cons_succ]
    refine regS_take (v := ?_) 5 (some 12) rfl rfl (by kernel_rfl) (by kernel_rfl) (by kernel_rfl) (fun _ _ _ h => h) (by rfl) (fun W hW => ?_) ?_
    rotate_left
    · (go_simp; try rfl)
    simp only [Act.put, List.setIfInBounds_toArray, List.set_cons_zero, List.set_cons_succ]
    refine regS_load 6 (some 13) (fun W hW => run_loadAt_mid W g 73 22 (KB.map bv) _ (fun j v hv => (hW _ (by omega) (by have := (List.getElem?_eq_some_iff.1 hv).1; rw [List.length_map, HH.out.1] at this; omega)).trans ((HX.out _ (by omega) (by have := (List.getElem?_eq_some_iff.1 hv).1; rw [List.length_map, HH.out.1] at this; omega)).trans (HKY.out j v hv))) arr64B rfl hi64.out) rfl rfl rfl rfl (by kernel_rfl) (by kernel_rfl) (by kernel_rfl) (fun _ _ _ h => h) (by rfl) ?_
    simp only [Act.put, List.setIfInBounds_toArray, List.set_cons_zero, List.set_cons_succ]
    refine regS_eff 7 rfl (by kernel_rfl) (fun K hK => ?_)
    go_simp
    refine (HTA.out W1).mono ?_
    rintro e w5 ⟨g5, hg5, rfl, hk5, hb5⟩
    have H5 := Lib.hid (H1.out.ext hb5)
    have R5 := Lib.hid (R1.out.ext hb5)
    have G5 := Lib.hid (gr_trans G1.out (gr_of hb5))
    have S5 := Lib.hid (sl_row HTL.out (by omega) hk5)
    have A5 := Lib.hid (apart_lt (o := 0) (Nat.lt_of_lt_of_le H1.out.lt hg5))
    have hE := keyK_of H1.out H5.out
    clear hb5 hk5 hg5
    refine hK.out _ _ hE ?_
    have HX := Lib.hid (Pre.trans HX.out hE)
    clear hE hK K
    try simp only [Act.put, List.setIfInBounds_toArray, List.set_cons_zero, List.set_cons_succ]
    refine regS_eff 8 rfl (by kernel_rfl) (fun K hK => ?_)
    go_simp
    refine (write_any g [] (some ⟨g5, 0, none⟩) 64 64 T w5 HTL.out (by simp) HG0.out (fun _ => A5.out) S5.out H5.out.2 R5.out).mono ?_
    rintro e w6 ⟨⟨v6, rfl⟩, hst, hgr⟩
    rw [List.nil_append] at hst
    have H6 : Hid (HAt w6 g KB T) := ⟨H5.out.1, hst⟩
    have G6 := Lib.hid (gr_trans G5.out hgr)
    have hE := keyK_of H5.out H6.out
    clear hst hgr
    refine hK.out _ _ hE ?_
    have HX := Lib.hid (Pre.trans HX.out hE)
    clear hE hK K
    try simp only [Act.put, List.setIfInBounds_toArray, List.set_cons_zero, List.set_cons_succ]
    refine regS_done (by kernel_rfl) ?_
    go_wp2
    exact bodyPost_end (v := .tuple #[]) (by simp [results, Tryd.results24, go_sem]) rfl ⟨⟨_, rfl⟩, H6.out, G6.out⟩
  · have e0 : ((n : Int) == 0) = false := by simp; omega
    have HBG : Hid (begun KB m = m) := by show _ = _; rw [begun, if_neg]; intro h; rw [h] at HN; exact h0 HN.out.symm
    rw [HBG.out]
    go_enter Tryd.func24, Tryd.ntmps24
    go_wp2_with fail
    refine (HLN.out w HH.out).mono ?_
    rintro e w1 ⟨rfl, rfl⟩
    go_wp2
    exact bodyPost_end (v := .tuple #[]) (by simp [results, Tryd.results24, go_sem]) rfl ⟨⟨_, rfl⟩, HH.out, World.grownBy.refl w _⟩
theorem hwrite_nil (A : Option Addr) (n c : Nat) (w : World) : Calls Tryd.prog 16 #[.pointer none, .slice A n c] w fun e w' => (∃ v, e = .returned v) ∧ w = w' := by
  go_enter Tryd.func16, Tryd.ntmps16
  go_wp2
  exact bodyPost_ret (v := .tuple #[]) (by simp [results, Tryd.results16, go_sem]) rfl ⟨⟨_, rfl⟩, rfl⟩
theorem sl_gr0 {w W : World} {A : Option Addr} {c g k : Nat} {b : List UInt8} (hS : Sl w A c b) (hW : w.grownBy W (some g)) (hb : b.length = k) (hA : 0 < k → ApartG A g) : Sl W A c b := by
  by_cases h0 : 0 < k
  · exact hS.gr hW (hA h0)
  · exact ⟨hS.1, hS.2.1, .inl (by rw [List.eq_nil_of_length_eq_zero (l := b) (by omega)]; rfl)⟩
set_option maxHeartbeats 1000000 in
theorem hwrite_any (g : Nat) (KB m : List UInt8) (A : Option Addr) (k c : Nat) (b : List UInt8) (w : World) (hb : b.length = k) (hmk : m.length + 64 + k ≤ 2147000000) (hg0 : g ≠ 0) (hA : 0 < k → ApartG A g) (hS : Sl w A c b) (H : HAt w g KB m) (hR : Rnd w) :
    Calls Tryd.prog 16 #[.pointer (some ⟨g, 0, none⟩), .slice A k c] w fun e w' => (∃ v, e = .returned v) ∧ HAt w' g KB (begun KB m ++ b) ∧ w.grownBy w' (some g) := by
  have HB := Lib.hid (begin_any g KB m w (by omega) hg0 H hR)
  have HBL := Lib.hid (begun_len KB m H.1)
  have HMK := Lib.hid hmk
  have HS1 := Lib.hid (fun W hW => sl_gr0 (W := W) (g := g) hS hW hb hA)
  have HR1 := Lib.hid (fun W (hW : w.grownBy W (some g)) => hR.gr hW hg0)
  have HW := Lib.hid (fun W m' hm hS' H' hR' => write_any (RR := KB.map bv) (tyS := 54) g m' A k c b W hb hm hg0 hA hS' H' hR')
  clear hb hmk hg0 hA hS H hR
  generalize begun KB m = m1 at HB HBL ⊢
  go_enter Tryd.func16, Tryd.ntmps16
  go_wp2_with fail
  refine HB.out.mono ?_
  rintro e w1 ⟨⟨v1, rfl⟩, hH1, hg1⟩
  have H1 := Lib.hid hH1; have G1 := Lib.hid hg1
  clear hH1 hg1
  go_wp2_with fail
  refine (HW.out w1 m1 (by have h1 := HBL.out; have h2 := HMK.out; omega) (HS1.out w1 G1.out) H1.out.2 (HR1.out w1 G1.out)).mono ?_
  rintro e w2 ⟨⟨v2, rfl⟩, hst, hgr⟩
  have H2 : Hid (HAt w2 g KB (m1 ++ b)) := ⟨H1.out.1, hst⟩
  have G2 := Lib.hid (gr_trans G1.out hgr)
  clear hst hgr
  go_wp2
  exact bodyPost_end (v := .tuple #[]) (by simp [results, Tryd.results16, go_sem]) rfl ⟨⟨_, rfl⟩, H2.out, G2.out⟩
/-- the sum of a state -/
def hsumL (KB m : List UInt8) : List UInt8 := sumL (twistL KB 92 ++ sumL (begun KB m))
theorem hsumL_len (KB m : List UInt8) : (hsumL KB m).length = 32 := sumL_len _
end Go.Proofs.YtfcnahbbieldfaaDoor

/- gcm: what Seal and Open hand to both; Seal and Open. -/
import Derived.Test.YtjlljifllnmdoaaGcm5
namespace Go.Proofs.Ytjlljifllnmdoaa
open Go.RowKit
set_option maxRecDepth 100000
set_option linter.unusedVariables false
set_option linter.unusedSimpArgs false
/-- bytes, sealed -/
def sealG (E : List UInt8 → List UInt8) (F aad b : List UInt8) : List UInt8 := gcL E F b ++ tagG E F aad (gcL E F b)
theorem sealG_len (E : List UInt8 → List UInt8) (F aad b : List UInt8) (h : (E F).length = 16) : (sealG E F aad b).length = b.length + 16 := by rw [sealG, List.length_append, gcL_len, tagG_len _ _ _ _ h]
theorem box_extG {W W' : World} {g : Nat} {v : Value} {t : TypeId} {fr : Nat × Nat} (h : W.heap[g]? = some (.cells #[v] t fr)) (hE : Below W.heap.size W W') : W'.heap[g]? = some (.cells #[v] t fr) := (hE.block _ (lt_of_heap h)).trans h
theorem box_cellG {W : World} {g : Nat} {v : Value} {t : TypeId} {fr : Nat × Nat} (h : W.heap[g]? = some (.cells #[v] t fr)) : W.cell? ⟨g, 0, none⟩ = some v := by rw [cell_of_heap (cs := [v]) h]; rfl
theorem ge_ownG {a g : Nat} (h : a ≤ g) {n c : Nat} : ∀ k, (Value.slice (some ⟨g, 0, none⟩) n c).ownBlock = some k → a ≤ k := by
  intro k hk
  simp [Value.ownBlock] at hk
  omega
set_option maxHeartbeats 4000000 in
theorem gseal1_any (p : Nat) (E : List UInt8 → List UInt8) (F : List UInt8) (g1 g2 g3 : Nat) (A3 A4 : Option Addr) (k3 c3 k4 c4 : Nat) (aad x : List UInt8) (w : World) (hF : F.length = 16) (hE : Enc w (.pointer (some ⟨p, 0, none⟩)) E) (h3 : aad.length = k3) (h4 : x.length = k4) (h31 : k3 ≤ 1000) (h41 : k4 ≤ 1000)
    (S3 : Sl w A3 c3 aad) (S4 : Sl w A4 c4 x) (H1 : w.heap[g1]? = some (.cells #[.pointer (some ⟨p, 0, none⟩)] 27 (0, 0))) (H2 : w.heap[g2]? = some (.cells #[.slice A4 k4 c4] 26 (0, 0))) (H3 : w.heap[g3]? = some (.cells #[.slice A3 k3 c3] 26 (0, 0))) :
    Calls Try.prog 28 #[.agg (F.map bv).toArray, .pointer (some ⟨g1, 0, none⟩), .pointer (some ⟨g2, 0, none⟩), .pointer (some ⟨g3, 0, none⟩)] w fun e w' =>
      ∃ v, e = .returned (.tuple #[v, .int .i64 0]) ∧ w'.ownsRow w.heap.size 5 1 v (k4 + 16) ((sealG E F aad x).map bv) ∧ Below w.heap.size w w' := by
  have HF := Lib.hid hF; have HS3 := Lib.hid S3; have HS4 := Lib.hid S4; have HH1 := Lib.hid H1; have HH2 := Lib.hid H2; have HH3 := Lib.hid H3
  have CR := Lib.hid (fun W (hW : Below w.heap.size w W) hS => gcrypt_any (.pointer (some ⟨p, 0, none⟩)) E F A4 k4 c4 x W hF (hE.ext hW) h4 (by omega) hS)
  have HCL : Hid ((gcL E F x).length = k4) := by show _ = _; rw [gcL_len]; exact h4
  have TA := Lib.hid (fun A c W (hW : Below w.heap.size w W) hS3 hS => gtag_any (.pointer (some ⟨p, 0, none⟩)) E F A3 A k3 c3 k4 c aad (gcL E F x) W hF (hE.ext hW) h3 HCL.out (by omega) (by omega) hS3 hS)
  have HSE : Hid (gcL E F x ++ tagG E F aad (gcL E F x) = sealG E F aad x) := rfl
  have HTL := Lib.hid (tagG_len E F aad (gcL E F x) (hE.1 F hF))
  generalize tagG E F aad (gcL E F x) = T at TA HSE HTL
  generalize gcL E F x = C at CR HCL TA HSE
  generalize sealG E F aad x = R at HSE ⊢
  have G := Lib.hid (heap_alloc_new' w (.cells (F.map bv).toArray 23))
  have GB : Hid (Below w.heap.size w (w.alloc (.cells (F.map bv).toArray 23))) := (Below.refl _ _).alloc (Nat.le_refl _) _
  have hk31 : k4 + 16 ≤ 2147483647 := by omega
  clear hF hE h3 h4 S3 S4 H1 H2 H3
  go_enter Try.func28, Try.ntmps28
  go_upto_region 1 with (fail)
  generalize w.alloc _ = W0 at G GB ⊢
  have c1 := box_cellG (box_extG HH1.out GB.out)
  have c2 := box_cellG (box_extG HH2.out GB.out)
  go_upto_region 2 with (first
    | (refine wpList_ld rfl 23 (.tmp 4) rfl (load_arr arr16B rfl (i16c F HF.out) G.out) ?_))
  refine (CR.out W0 GB.out (HS4.out.below GB.out)).mono ?_
  rintro e w1 ⟨v1, rfl, hO, hb1⟩
  obtain ⟨A1, cc1, rfl, hl3, h31', h32, hr3⟩ := own_read hO
  have S1 := Lib.hid (sl_mk hl3 h31' h32 hr3)
  have O1 := Lib.hid hO
  have B1 : Hid (Below w.heap.size w w1) := GB.out.step hb1
  have F1 := Lib.hid ((hb1.block _ (lt_of_heap G.out)).trans G.out)
  have hge : Hid (w.heap.size ≤ W0.heap.size) := GB.out.size
  clear hl3 h31' h32 hr3 hO hb1 c1 c2 GB G CR
  have c1 := box_cellG (box_extG HH1.out B1.out)
  have c3' := box_cellG (box_extG HH3.out B1.out)
  go_wp2_with (first
    | (refine wpList_ld rfl 23 (.tmp 4) rfl (load_arr arr16B rfl (i16c F HF.out) F1.out) ?_))
  refine (TA.out A1 cc1 w1 B1.out (HS3.out.below B1.out) S1.out).mono ?_
  rintro e w2 ⟨g2', hg2, rfl, hk2, hb2⟩
  have B2 : Hid (Below w.heap.size w w2) := B1.out.step hb2
  have O2 := Lib.hid (c_own_below (own_mono O1.out hge.out) hb2)
  have T2 := Lib.hid hk2
  have HS2 : Hid (w.heap.size ≤ w2.heap.size) := B2.out.size
  clear hg2 hk2 hb2 c1 c3' B1 F1 O1 S1 TA
  go_wp2_with (first
    | (at_builtin
       refine wpList_app8 rfl (.tmp 12) (.tmp 17) rfl w.heap.size _ k4 C rfl ?_ (some ⟨g2', 0, none⟩) 16 16 w2.heap.size T rfl ?_ ?_ ?_ ?_ ?_
       · exact O2.out
       · exact (sl_row HTL.out (by omega) T2.out).2.2
       · exact HTL.out
       · exact hk31
       · exact HS2.out
       rintro v4 w4 hown hgr
       have HO4 := Lib.hid hown
       have B4 : Hid (Below w.heap.size w w4) := B2.out.grown hgr B2.out.size (c_own_ge O2.out (Nat.le_refl _))
       clear hown hgr)
    | fail)
  go_ret2
  exact ⟨_, rfl, by rw [← HSE.out]; exact HO4.out, B4.out⟩
theorem gcallSeal : ∀ args W, (callFunc 28 args).run Try.prog W = .ok (.enter 28 args) W := fun _ _ => by kernel_rfl
theorem heap_thr (w : World) (o1 o2 o3 : Obj) : (((w.alloc o1).alloc o2).alloc o3).heap[w.heap.size]? = some o1 ∧ (((w.alloc o1).alloc o2).alloc o3).heap[w.heap.size + 1]? = some o2 ∧ (((w.alloc o1).alloc o2).alloc o3).heap[w.heap.size + 2]? = some o3 ∧ Below w.heap.size w (((w.alloc o1).alloc o2).alloc o3) := heap3 w o1 o2 o3
set_option maxHeartbeats 2000000 in
theorem gseal_any (p : Nat) (E : List UInt8 → List UInt8) (iv aad x : List UInt8) (A2 A3 A4 : Option Addr) (k2 c2 k3 c3 k4 c4 : Nat) (w : World) (hE : GKey w (.pointer (some ⟨p, 0, none⟩)) E) (h2 : iv.length = k2) (h20 : 0 < k2) (h21 : k2 ≤ 1000) (h3 : aad.length = k3) (h4 : x.length = k4) (h31 : k3 ≤ 1000) (h41 : k4 ≤ 1000)
    (S2 : Sl w A2 c2 iv) (S3 : Sl w A3 c3 aad) (S4 : Sl w A4 c4 x) :
    Calls Try.prog 9 #[.pointer (some ⟨p, 0, none⟩), .slice A2 k2 c2, .slice A3 k3 c3, .slice A4 k4 c4] w fun e w' =>
      ∃ v, e = .returned (.tuple #[v, .int .i64 0]) ∧ w'.ownsRow w.heap.size 5 1 v (k4 + 16) ((sealG E (firstG E iv) aad x).map bv) ∧ Below w.heap.size w w' := by
  have G := heap_thr w (.cells #[.pointer (some ⟨p, 0, none⟩)] 27) (.cells #[.slice A3 k3 c3] 26) (.cells #[.slice A4 k4 c4] 26)
  have BA : Hid (Calls Try.prog 27 #[.pointer (some ⟨p, 0, none⟩), .slice A2 k2 c2, .func (.func 28) #[] #[.pointer (some ⟨w.heap.size, 0, none⟩), .pointer (some ⟨w.heap.size + 2, 0, none⟩), .pointer (some ⟨w.heap.size + 1, 0, none⟩)]] (((w.alloc (.cells #[.pointer (some ⟨p, 0, none⟩)] 27)).alloc (.cells #[.slice A3 k3 c3] 26)).alloc (.cells #[.slice A4 k4 c4] 26)) fun e w' =>
      ∃ v y, e = .returned (.tuple #[v, .int .i64 y]) ∧ Ext (((w.alloc (.cells #[.pointer (some ⟨p, 0, none⟩)] 27)).alloc (.cells #[.slice A3 k3 c3] 26)).alloc (.cells #[.slice A4 k4 c4] 26)) w' ∧ (y = 0 ∧ w'.ownsRow w.heap.size 5 1 v (k4 + 16) ((sealG E (firstG E iv) aad x).map bv))) := by
    generalize ((w.alloc _).alloc _).alloc _ = W0 at G ⊢
    refine gboth_any 28 _ (fun v y w' => y = 0 ∧ w'.ownsRow w.heap.size 5 1 v (k4 + 16) ((sealG E (firstG E iv) aad x).map bv)) _ E A2 k2 c2 iv W0 (hE.ext G.2.2.2) h2 h20 (by omega) (S2.below G.2.2.2) gcallSeal fun W hW => ?_
    have hb := G.2.2.2.step hW
    refine (gseal1_any p E (firstG E iv) w.heap.size (w.heap.size + 2) (w.heap.size + 1) A3 A4 k3 c3 k4 c4 aad x W (firstG_len _ _) (hE.1.ext hb) h3 h4 h31 h41 (S3.below hb) (S4.below hb) (box_extG G.1 hW) (box_extG G.2.2.1 hW) (box_extG G.2.1 hW)).mono ?_
    rintro e w' ⟨v, rfl, hO, hB⟩
    exact ⟨v, 0, rfl, hB, rfl, own_mono hO hb.size⟩
  have GB := Lib.hid G.2.2.2
  clear G hE h2 h3 h4 S2 S3 S4
  generalize sealG E (firstG E iv) aad x = R at BA ⊢
  go_enter Try.func9, Try.ntmps9
  go_wp2_with fail
  refine BA.out.mono ?_
  rintro e w' ⟨v, y, rfl, hE, rfl, hO⟩
  have HO := Lib.hid hO
  have HB : Hid (Below w.heap.size w w') := GB.out.step hE
  clear hO hE
  go_wp2
  go_ret2
  exact ⟨_, rfl, HO.out, HB.out⟩
/-- what opening comes to -/
def OpenG (w : World) (E : List UInt8 → List UInt8) (F aad b : List UInt8) (m : Nat) (v : Value) (x : Int) (w' : World) : Prop :=
  if tagG E F aad (b.take m) = b.drop m then x = 0 ∧ w'.ownsRow w.heap.size 5 1 v m ((gcL E F (b.take m)).map bv) else v = .slice none 0 0 ∧ x = 7
end Go.Proofs.Ytjlljifllnmdoaa

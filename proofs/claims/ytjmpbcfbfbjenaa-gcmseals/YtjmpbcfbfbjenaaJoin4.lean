/- Joined: LawsX6. -/
import Derived.Test.YtjmpbcfbfbjenaaJoin2
import Derived.Test.YtjmpbcfbfbjenaaJoin3
/- Laws of layer 10: any bytes, opened, or why not, are what the document tells. -/
namespace Go.Proofs.Ytjmpbcfbfbjenaa
open Go.RowKit
set_option maxRecDepth 100000
set_option linter.unusedVariables false
set_option linter.unusedSimpArgs false
theorem keyWX_cases (lg : Bool) : keyWX lg = 4 ∨ keyWX lg = 8 := by cases lg <;> simp [keyWX]
theorem ge_ownX (a k : Nat) {n c : Nat} : ∀ g, (Value.slice (some ⟨a + k, 0, none⟩) n c).ownBlock = some g → a ≤ g := by
  intro g hg
  have : a + k = g := by injection hg
  omega
theorem sl_nilX (w : World) : Sl w none 0 [] := by
  obtain ⟨A, c, he, hl, h1, h2, hr⟩ := own_read (bs := []) (World.ownsRow_nil w w.heap.size 5 1)
  injection he with e1 e2 e3
  subst e1; subst e3
  exact ⟨Nat.le_refl _, h2, hr⟩
/-- what gcm.Open comes to, of any iv and any text -/
def AnyO (w0 : World) (E : List UInt8 → List UInt8) (iv a b : List UInt8) (ki m : Nat) (v : Value) (y : Int) (w' : World) : Prop :=
  (ki = 0 → v = .slice none 0 0 ∧ y = 6) ∧ (¬ ki = 0 → m < 16 → v = .slice none 0 0 ∧ y = 17) ∧ (¬ ki = 0 → ¬ m < 16 → OpenG w0 E (firstG E iv) a b (m - 16) v y w')
set_option maxHeartbeats 1000000 in
theorem gopen_all (p : Nat) (E : List UInt8 → List UInt8) (iv aad x : List UInt8) (A2 A3 A4 : Option Addr) (k2 c2 k3 c3 k4 c4 : Nat) (w : World) (hE : GKey w (.pointer (some ⟨p, 0, none⟩)) E) (h2 : iv.length = k2) (h21 : k2 ≤ 1000) (h3 : aad.length = k3) (h4 : x.length = k4) (h31 : k3 ≤ 1000) (h41 : k4 ≤ 1000)
    (S2 : Sl w A2 c2 iv) (S3 : Sl w A3 c3 aad) (S4 : Sl w A4 c4 x) :
    Calls Try.prog 30 #[.pointer (some ⟨p, 0, none⟩), .slice A2 k2 c2, .slice A3 k3 c3, .slice A4 k4 c4] w fun e w' =>
      ∃ v y, e = .returned (.tuple #[v, .int .i64 y]) ∧ AnyO w E iv aad x k2 k4 v y w' ∧ Below w.heap.size w w' := by
  by_cases h0 : k2 = 0
  · subst h0
    refine (gopen_bad (.pointer (some ⟨p, 0, none⟩)) A2 A3 A4 0 c2 k3 c3 k4 c4 6 w ⟨_, rfl⟩ (badG_iv hE A2 c2)).mono ?_
    rintro e w' ⟨rfl, hb⟩
    exact ⟨_, _, rfl, ⟨fun _ => ⟨rfl, rfl⟩, fun h => absurd rfl h, fun h => absurd rfl h⟩, hb⟩
  · by_cases h16 : k4 < 16
    · refine (gopen_short p E iv A2 A3 A4 k2 c2 k3 c3 k4 c4 w hE h2 (by omega) h21 h16 S2).mono ?_
      rintro e w' ⟨rfl, hb⟩
      exact ⟨_, _, rfl, ⟨fun h => absurd h h0, fun _ _ => ⟨rfl, rfl⟩, fun _ h => absurd h16 h⟩, hb⟩
    · refine (gopen_any p E iv aad x A2 A3 A4 k2 c2 k3 c3 k4 c4 (k4 - 16) w hE h2 (by omega) h21 h3 h4 h31 h41 (by omega) S2 S3 S4).mono ?_
      rintro e w' ⟨v, y, rfl, hO, hb⟩
      exact ⟨_, _, rfl, ⟨fun h => absurd h h0, fun _ h => absurd h h16, fun _ _ => hO⟩, hb⟩
set_option maxHeartbeats 8000000 in
theorem gcmOpens_walk (w : World) (y : KeyX) (l : y.ok w) (A : Option Addr) (c : Nat) (b : List UInt8) (h : Sl w A c b) :
    Calls Try.prog 7 #[.agg y.cells.toArray, .slice A b.length c] w fun e w' => e = .returned (.bool true) ∧ Below w.heap.size w w' := by
  obtain ⟨lk, l2, l3⟩ := l
  have q1 : b.length ≤ 9223372036854775807 := by have := h.1; have := h.2.1; simp [maxLen] at this; omega
  have H := Lib.hid h; have HY2 := Lib.hid l2; have HY3 := Lib.hid l3
  obtain ⟨m, hm⟩ : ∃ m, b.length = m := ⟨_, rfl⟩
  have HM := Lib.hid hm
  rw [hm] at q1 ⊢
  have N0 := Lib.hid (heap_alloc_new' w (.cells y.cells.toArray 44))
  have B0 : Hid (Below w.heap.size w (w.alloc (.cells y.cells.toArray 44))) := (Below.refl _ _).alloc (Nat.le_refl _) _
  have HLD := Lib.hid (fun (W : World) (g : Nat) (hh : W.heap[g]? = some (.cells y.cells.toArray 44 (0, 0))) => ld_keyX hh lk)
  have HC := Lib.hid (fun (W : World) (g : Nat) (hh : W.heap[g]? = some (.cells y.cells.toArray 44 (0, 0))) => keyX_cells hh lk)
  have HS := Lib.hid (fun W => xshort_any y W lk)
  have HKS := Lib.hid (fun W => xkeys_any y W lk)
  have HKB := Lib.hid (fun W => xbytes_any y W lk)
  have HKL := Lib.hid (keyBX_len y.k y.lg lk)
  clear h l2 l3 hm lk
  obtain ⟨Z, HZ⟩ : ∃ Z, Hid (y.cells.toArray = Z) := ⟨_, rfl⟩
  rw [HZ.out] at N0 B0 HLD HC HS HKS HKB ⊢
  clear HZ
  have HSB : Hid (shortX y = true → y.iv.length ≤ 100 ∧ y.a.length ≤ 100) := fun h => by unfold shortX at h; simpa using h
  generalize shortX y = sb at HS HSB
  obtain ⟨k, lg, A2, c2, iv, A3, c3, a⟩ := y
  simp only at HC HKS HSB HY2 HY3 HKB HKL
  obtain ⟨ki, hki⟩ : ∃ ki, iv.length = ki := ⟨_, rfl⟩
  obtain ⟨ka, hka⟩ : ∃ ka, a.length = ka := ⟨_, rfl⟩
  rw [hki, hka] at HC HSB
  have HKI := Lib.hid hki; have HKA := Lib.hid hka
  clear hki hka
  by_cases hb : 100 < m
  · have e1 : (100 : Int) < (m : Int) := by omega
    go_enter Try.func7, Try.ntmps7
    go_wp2
    go_ret
    exact ⟨rfl, B0.out⟩
  have e1 : ¬ ((100 : Int) < (m : Int)) := by omega
  have hb2 : m ≤ 100 := by omega
  clear hb
  go_enter Try.func7, Try.ntmps7
  go_upto_region 1 with (fail)
  generalize w.alloc _ = W0 at N0 B0 ⊢
  go_wp2_with (first
    | (refine wpList_ld rfl 44 (.tmp 2) rfl (HLD.out _ _ N0.out) ?_)
    | fail)
  refine (HS.out W0).mono ?_
  rintro e w1 ⟨rfl, hb1⟩
  have B1 : Hid (Below w.heap.size w w1) := B0.out.step hb1
  have N1 := Lib.hid ((hb1.block _ (lt_of_heap N0.out)).trans N0.out)
  clear hb1 B0 N0 HS
  cases sb with
  | false =>
    go_wp2_with fail
    go_ret
    exact ⟨rfl, B1.out⟩
  | true =>
  have HIA := Lib.hid (HSB.out rfl)
  clear HSB
  go_wp2_with (first
    | (refine wpList_ld rfl 44 (.tmp 2) rfl (HLD.out _ _ N1.out) ?_)
    | fail)
  refine (HKS.out w1).mono ?_
  rintro e w2 ⟨p, E, rfl, hE0, hG, hb1⟩
  have K2 := Lib.hid hG
  have B2 : Hid (Below w.heap.size w w2) := B1.out.step hb1
  have N2 := Lib.hid ((hb1.block _ (lt_of_heap N1.out)).trans N1.out)
  have CC := Lib.hid (fun A4 c4 W hE S2 S3 S4 => gopen_all p E iv a b A2 A3 A4 ki c2 ka c3 m c4 W hE HKI.out (by have := HIA.out.1; omega) HKA.out HM.out (by have := HIA.out.2; omega) (by omega) S2 S3 S4)
  have RO : Hid (¬ m < 16 → ∀ A1 c1 W, Sl W A1 c1 (keyBX k lg) → Sl W A2 c2 iv → Sl W A3 c3 a → Sl W A c b → Calls Try.prog 31 #[.slice A1 (4 * keyWX lg) c1, .slice A2 ki c2, .slice A3 ka c3, .slice A m c] W fun e w' => ∃ v ok, e = .returned (.tuple #[v, .bool ok]) ∧ RefOG W E (firstG E iv) a b (m - 16) v ok w' ∧ Below W.heap.size W w') := fun h16 A1 c1 W s1 s2 s3 s4 => by
    rw [hE0]
    exact refOpenX_any (keyBX k lg) (keyWX lg) A1 _ c1 iv a b A2 ki c2 A3 ka c3 A m (m - 16) c W (keyWX_cases lg) HKL.out rfl HKI.out HKA.out HM.out (by omega) (by have := HIA.out.1; omega) (by have := HIA.out.2; omega) (by omega) s1 s2 s3 s4
  clear hE0 hG hb1 B1 N1 HKS HKL
  generalize keyBX k lg = KB at HKB RO
  generalize 4 * keyWX lg = n4 at HKB RO
  have H2 := Lib.hid (H.out.below B2.out)
  have S22 := Lib.hid (HY2.out.below B2.out)
  have S23 := Lib.hid (HY3.out.below B2.out)
  have hm31 : 0 + m ≤ 2147483647 := by omega
  go_wp2_with fail
  have HX : Hid (Below w2.heap.size w2 w2.drew) := (Below.refl _ _).drew
  refine regB_start (w2.heap.size) (by kernel_rfl) ?_
  try simp only [Act.put, List.setIfInBounds_toArray, List.set_cons_zero, List.set_cons_succ]
  refine regB_take (v := ?_) 0 (some 27) rfl rfl (by kernel_rfl) (by kernel_rfl) (by kernel_rfl) (fun _ _ _ h => h) (by rfl) (fun W hW => ?_) ?_
  rotate_left
  · (go_simp; try rfl)
  simp only [Act.put, List.setIfInBounds_toArray, List.set_cons_zero, List.set_cons_succ]
  refine regB_take (v := ?_) 1 (some 28) rfl rfl (by kernel_rfl) (by kernel_rfl) (by kernel_rfl) (fun _ _ _ h => h) (by rfl) (fun W hW => ?_) ?_
  rotate_left
  · (go_simp; try rfl)
  simp only [Act.put, List.setIfInBounds_toArray, List.set_cons_zero, List.set_cons_succ]
  refine regB_load 2 (some 29) (fun W hW => o_load_slice uT (HC.out _ _ (((HX.out.trans hW).block _ (lt_of_heap N2.out)).trans N2.out)).2.1) rfl rfl rfl rfl (by kernel_rfl) (by kernel_rfl) (by kernel_rfl) (fun _ _ _ h => h) (by rfl) ?_
  simp only [Act.put, List.setIfInBounds_toArray, List.set_cons_zero, List.set_cons_succ]
  refine regB_take (v := ?_) 3 (some 30) rfl rfl (by kernel_rfl) (by kernel_rfl) (by kernel_rfl) (fun _ _ _ h => h) (by rfl) (fun W hW => ?_) ?_
  rotate_left
  · (go_simp; try rfl)
  simp only [Act.put, List.setIfInBounds_toArray, List.set_cons_zero, List.set_cons_succ]
  refine regB_load 4 (some 31) (fun W hW => o_load_slice uT (HC.out _ _ (((HX.out.trans hW).block _ (lt_of_heap N2.out)).trans N2.out)).2.2) rfl rfl rfl rfl (by kernel_rfl) (by kernel_rfl) (by kernel_rfl) (fun _ _ _ h => h) (by rfl) ?_
  simp only [Act.put, List.setIfInBounds_toArray, List.set_cons_zero, List.set_cons_succ]
  refine regB_take (v := ?_) 6 (some 33) rfl rfl (by kernel_rfl) (by kernel_rfl) (by kernel_rfl) (fun _ _ _ h => h) (by rfl) (fun W hW => ?_) ?_
  rotate_left
  · (go_simp; try rfl)
  simp only [Act.put, List.setIfInBounds_toArray, List.set_cons_zero, List.set_cons_succ]
  refine regB_eff 5 rfl (by kernel_rfl) (fun K hK => ?_)
  go_simp
  have hE : Below w2.heap.size w2.drew (w2.drew.alloc (.cells #[] 5)) := (Below.refl w2.heap.size w2.drew).alloc (show w2.heap.size ≤ w2.drew.heap.size from Nat.le_refl _) _
  refine hK.out _ _ hE ?_
  have HX := Lib.hid (Below.trans HX.out hE)
  clear hE hK K
  try simp only [Act.put, List.setIfInBounds_toArray, List.set_cons_zero, List.set_cons_succ]
  refine regB_eff 7 rfl (by kernel_rfl) (fun K hK => ?_)
  obtain ⟨v1, w3, hrun, hown, hgr, _⟩ := append_row_at (P := Try.prog) (w2.drew.alloc (.cells #[] 5)) w2.heap.size 26 uT made8 rfl (.slice (some ⟨w2.heap.size, 0, none⟩) 0 0) 0 [] (own_heap (bs := []) (g := w2.heap.size) (heap_alloc_new' w2.drew _) (Nat.le_refl _) rfl (Nat.zero_le _)) w2.heap.size A m c (b.map bv) (H2.out.2.2.below (((Below.refl w2.heap.size w2).drew).alloc (Nat.le_refl _) _)) (by rw [List.length_map]; exact HM.out) (bv_one _) (by omega) (by simp [maxLen]; omega) (by simp)
  rw [List.nil_append, Nat.zero_add] at hown
  obtain ⟨A1, c1, rfl, hl1, hc1, hm1, hr1⟩ := own_read hown
  have S1 : Hid (Sl w3 A1 c1 b) := ⟨by omega, hm1, hr1⟩
  have hE : Below w2.heap.size (w2.drew.alloc (.cells #[] 5)) w3 := (Below.refl _ _).grown hgr (by simp) (ge_ownX w2.heap.size 0)
  refine step_app rfl (.tmp 32) (.tmp 33) 26 26 rfl hrun ?_
  clear hrun hown hgr hl1 hc1 hm1 hr1
  refine hK.out _ _ hE ?_
  have HX := Lib.hid (Below.trans HX.out hE)
  clear hE hK K
  try simp only [Act.put, List.setIfInBounds_toArray, List.set_cons_zero, List.set_cons_succ]
  refine regB_eff 8 rfl (by kernel_rfl) (fun K hK => ?_)
  go_simp
  refine (CC.out A1 c1 _ (K2.out.ext HX.out) (S22.out.below HX.out) (S23.out.below HX.out) S1.out).mono ?_
  rintro e w4 ⟨v4, y4, rfl, hO4, hb4⟩
  have OC := Lib.hid hO4
  have hE : Below w2.heap.size w3 w4 := hb4.mono HX.out.size
  clear hO4 hb4
  refine hK.out _ _ hE ?_
  have HX := Lib.hid (Below.trans HX.out hE)
  clear hE hK K
  try simp only [Act.put, List.setIfInBounds_toArray, List.set_cons_zero, List.set_cons_succ]
  refine regB_take (v := ?_) 9 (some 26) rfl rfl (by kernel_rfl) (by kernel_rfl) (by kernel_rfl) (fun _ _ _ h => h) (by rfl) (fun W hW => ?_) ?_
  rotate_left
  · (go_simp; try rfl)
  simp only [Act.put, List.setIfInBounds_toArray, List.set_cons_zero, List.set_cons_succ]
  refine regB_take (v := ?_) 10 (some 36) rfl rfl (by kernel_rfl) (by kernel_rfl) (by kernel_rfl) (fun _ _ _ h => h) (by rfl) (fun W hW => ?_) ?_
  rotate_left
  · (go_simp; try rfl)
  simp only [Act.put, List.setIfInBounds_toArray, List.set_cons_zero, List.set_cons_succ]
  refine regB_take (v := ?_) 11 (some 37) rfl rfl (by kernel_rfl) (by kernel_rfl) (by kernel_rfl) (fun _ _ _ h => h) (by rfl) (fun W hW => ?_) ?_
  rotate_left
  · (go_simp; try rfl)
  simp only [Act.put, List.setIfInBounds_toArray, List.set_cons_zero, List.set_cons_succ]
  refine regB_take (v := ?_) 12 (some 7) rfl rfl (by kernel_rfl) (by kernel_rfl) (by kernel_rfl) (fun _ _ _ h => h) (by rfl) (fun W hW => ?_) ?_
  rotate_left
  · (go_simp; try rfl)
  simp only [Act.put, List.setIfInBounds_toArray, List.set_cons_zero, List.set_cons_succ]
  refine regB_take (v := ?_) 13 (some 8) rfl rfl (by kernel_rfl) (by kernel_rfl) (by kernel_rfl) (fun _ _ _ h => h) (by rfl) (fun W hW => ?_) ?_
  rotate_left
  · (go_simp; try rfl)
  simp only [Act.put, List.setIfInBounds_toArray, List.set_cons_zero, List.set_cons_succ]
  refine regB_done (by kernel_rfl) ?_
  have B4 : Hid (Below w.heap.size w w4) := B2.out.step HX.out
  have N4 := Lib.hid ((HX.out.block _ (lt_of_heap N2.out)).trans N2.out)
  have H4 := Lib.hid (H2.out.below HX.out)
  have S42 := Lib.hid (S22.out.below HX.out)
  have S43 := Lib.hid (S23.out.below HX.out)
  clear HX K2 S1 H2 N2 S22 S23 CC B2
  obtain ⟨d0, d1, d2⟩ := HC.out _ _ N4.out
  by_cases hi0 : ki = 0
  case pos =>
    have e2 : ((ki : Int) == 0) = true := by simp [hi0]
    obtain ⟨rfl, rfl⟩ := OC.out.1 hi0
    clear hi0 OC
    go_wp2_with fail
    refine (awake10_any w4).mono ?_
    rintro e w5 ⟨rfl, hb5⟩
    have B5 := Lib.hid (B4.out.step hb5)
    clear d0 d1 d2
    go_wp2
    go_ret
    exact ⟨rfl, B5.out⟩
  have e2 : ((ki : Int) == 0) = false := by simp; omega
  by_cases h16 : m < 16
  · have e3 : (m : Int) < 16 := by omega
    obtain ⟨rfl, rfl⟩ := OC.out.2.1 hi0 h16
    clear OC hi0 h16
    go_wp2_with fail
    refine (awake10_any w4).mono ?_
    rintro e w5 ⟨rfl, hb5⟩
    have B5 := Lib.hid (B4.out.step hb5)
    clear d0 d1 d2
    go_wp2
    go_ret
    exact ⟨rfl, B5.out⟩
  have e3 : ¬ ((m : Int) < 16) := by omega
  have OG := Lib.hid (OC.out.2.2 hi0 h16)
  have RO := Lib.hid (RO.out h16)
  clear OC hi0 h16
  go_wp2_with fail
  clear d0 d1 d2
  have HX : Hid (Ext w4 w4.drew) := (Below.refl _ _).drew
  refine reg_start (by kernel_rfl) ?_
  try simp only [Act.put, List.setIfInBounds_toArray, List.set_cons_zero, List.set_cons_succ]
  refine reg_load 0 (some 66) (fun W hW => HLD.out _ _ (((HX.out.trans hW).block _ (lt_of_heap N4.out)).trans N4.out)) rfl rfl rfl rfl (by kernel_rfl) (by kernel_rfl) (by kernel_rfl) (fun _ _ _ h => h) (by rfl) ?_
  simp only [Act.put, List.setIfInBounds_toArray, List.set_cons_zero, List.set_cons_succ]
  refine reg_take (v := ?_) 2 (some 68) rfl rfl (by kernel_rfl) (by kernel_rfl) (by kernel_rfl) (fun _ _ _ h => h) (by rfl) (fun W hW => ?_) ?_
  rotate_left
  · (go_simp; try rfl)
  simp only [Act.put, List.setIfInBounds_toArray, List.set_cons_zero, List.set_cons_succ]
  refine reg_load 3 (some 69) (fun W hW => o_load_slice uT (HC.out _ _ (((HX.out.trans hW).block _ (lt_of_heap N4.out)).trans N4.out)).2.1) rfl rfl rfl rfl (by kernel_rfl) (by kernel_rfl) (by kernel_rfl) (fun _ _ _ h => h) (by rfl) ?_
  simp only [Act.put, List.setIfInBounds_toArray, List.set_cons_zero, List.set_cons_succ]
  refine reg_take (v := ?_) 4 (some 70) rfl rfl (by kernel_rfl) (by kernel_rfl) (by kernel_rfl) (fun _ _ _ h => h) (by rfl) (fun W hW => ?_) ?_
  rotate_left
  · (go_simp; try rfl)
  simp only [Act.put, List.setIfInBounds_toArray, List.set_cons_zero, List.set_cons_succ]
  refine reg_load 5 (some 71) (fun W hW => o_load_slice uT (HC.out _ _ (((HX.out.trans hW).block _ (lt_of_heap N4.out)).trans N4.out)).2.2) rfl rfl rfl rfl (by kernel_rfl) (by kernel_rfl) (by kernel_rfl) (fun _ _ _ h => h) (by rfl) ?_
  simp only [Act.put, List.setIfInBounds_toArray, List.set_cons_zero, List.set_cons_succ]
  refine reg_take (v := ?_) 6 (some 72) rfl rfl (by kernel_rfl) (by kernel_rfl) (by kernel_rfl) (fun _ _ _ h => h) (by rfl) (fun W hW => ?_) ?_
  rotate_left
  · (go_simp; try rfl)
  simp only [Act.put, List.setIfInBounds_toArray, List.set_cons_zero, List.set_cons_succ]
  refine reg_eff 1 rfl (by kernel_rfl) (fun K hK => ?_)
  go_simp
  refine (HKB.out _).mono ?_
  rintro e w5 ⟨rfl, hS5, hE⟩
  have S5 := Lib.hid hS5
  clear hS5
  refine hK.out _ _ hE ?_
  have HX := Lib.hid (Ext.trans HX.out hE)
  clear hE hK K
  try simp only [Act.put, List.setIfInBounds_toArray, List.set_cons_zero, List.set_cons_succ]
  refine reg_eff 7 rfl (by kernel_rfl) (fun K hK => ?_)
  go_simp
  refine (RO.out _ _ _ S5.out (S42.out.below HX.out) (S43.out.below HX.out) (H4.out.below HX.out)).mono ?_
  rintro e w6 ⟨v6, ok6, rfl, hR6, hE⟩
  have RR := Lib.hid hR6
  have X46 : Hid (Ext w4 w4) := Below.refl _ _
  clear hR6
  refine hK.out _ _ hE ?_
  have HX := Lib.hid (Ext.trans HX.out hE)
  clear hE hK K
  try simp only [Act.put, List.setIfInBounds_toArray, List.set_cons_zero, List.set_cons_succ]
  refine reg_take (v := ?_) 8 (some 65) rfl rfl (by kernel_rfl) (by kernel_rfl) (by kernel_rfl) (fun _ _ _ h => h) (by rfl) (fun W hW => ?_) ?_
  rotate_left
  · (go_simp; try rfl)
  simp only [Act.put, List.setIfInBounds_toArray, List.set_cons_zero, List.set_cons_succ]
  refine reg_take (v := ?_) 9 (some 74) rfl rfl (by kernel_rfl) (by kernel_rfl) (by kernel_rfl) (fun _ _ _ h => h) (by rfl) (fun W hW => ?_) ?_
  rotate_left
  · (go_simp; try rfl)
  simp only [Act.put, List.setIfInBounds_toArray, List.set_cons_zero, List.set_cons_succ]
  refine reg_take (v := ?_) 10 (some 75) rfl rfl (by kernel_rfl) (by kernel_rfl) (by kernel_rfl) (fun _ _ _ h => h) (by rfl) (fun W hW => ?_) ?_
  rotate_left
  · (go_simp; try rfl)
  simp only [Act.put, List.setIfInBounds_toArray, List.set_cons_zero, List.set_cons_succ]
  refine reg_take (v := ?_) 11 (some 9) rfl rfl (by kernel_rfl) (by kernel_rfl) (by kernel_rfl) (fun _ _ _ h => h) (by rfl) (fun W hW => ?_) ?_
  rotate_left
  · (go_simp; try rfl)
  simp only [Act.put, List.setIfInBounds_toArray, List.set_cons_zero, List.set_cons_succ]
  refine reg_take (v := ?_) 12 (some 10) rfl rfl (by kernel_rfl) (by kernel_rfl) (by kernel_rfl) (fun _ _ _ h => h) (by rfl) (fun W hW => ?_) ?_
  rotate_left
  · (go_simp; try rfl)
  simp only [Act.put, List.setIfInBounds_toArray, List.set_cons_zero, List.set_cons_succ]
  refine reg_done (by kernel_rfl) ?_
  have X46 : Hid (Below w4.heap.size w4 w6) := HX.out
  have B6 : Hid (Below w.heap.size w w6) := B4.out.step HX.out
  have O4 := OG.out
  have R4 := RR.out
  clear OG RR HX
  unfold OpenG at O4
  unfold RefOG at R4
  obtain ⟨mm, hmm⟩ : ∃ mm, m - 16 = mm := ⟨_, rfl⟩
  rw [hmm] at O4 R4
  clear hmm
  by_cases ht : tagG E (firstG E iv) a (b.take mm) = b.drop mm
  · rw [if_pos ht] at O4 R4
    obtain ⟨rfl, hown⟩ := O4
    obtain ⟨rfl, hown2⟩ := R4
    obtain ⟨A7, c7, rfl, hl7, hc7, hm7, hr7⟩ := own_read hown
    obtain ⟨A8, c8, rfl, hl8, hc8, hm8, hr8⟩ := own_read hown2
    generalize gcL E (firstG E iv) (b.take mm) = U at hl7 hr7 hl8 hr8 hown hown2
    have S7 : Sl w6 A7 c7 U := Sl.below (w := w4) ⟨by omega, hm7, hr7⟩ X46.out
    have cv1 := conv_string w6 A7 mm c7 U hl7 S7
    have cv2 := conv_string w6 A8 mm c8 U hl8 ⟨by omega, hm8, hr8⟩
    have hxx : ((strOf U).toList == (strOf U).toList) = true := by simp
    clear ht hown hc7 hm7 hr7 S7 hown2 hl8 hc8 hm8 hr8 hl7
    go_wp2_with fail
    refine (awake10_any w6).mono ?_
    rintro e w9 ⟨rfl, hb9⟩
    have B9 := Lib.hid (B6.out.step hb9)
    clear cv1 cv2 hb9
    go_wp2
    go_ret
    exact ⟨rfl, B9.out⟩
  · rw [if_neg ht] at O4 R4
    obtain ⟨rfl, rfl⟩ := O4
    obtain ⟨rfl, rfl⟩ := R4
    have cv1 := conv_string w6 none 0 0 [] rfl (sl_nilX w6)
    have hxx : ((strOf []).toList == (strOf []).toList) = true := by simp
    clear ht
    go_wp2_with fail
    refine (awake10_any w6).mono ?_
    rintro e w9 ⟨rfl, hb9⟩
    have B9 := Lib.hid (B6.out.step hb9)
    clear cv1 hb9
    go_wp2
    go_ret
    exact ⟨rfl, B9.out⟩
end Go.Proofs.Ytjmpbcfbfbjenaa

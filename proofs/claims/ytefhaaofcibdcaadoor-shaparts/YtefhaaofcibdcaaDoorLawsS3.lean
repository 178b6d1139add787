/- The walk of the law ShaKept. -/
import Derived.Test.YtefhaaofcibdcaaDoorSha15
import Derived.Test.YtefhaaofcibdcaaDoorBits3
namespace Go.Proofs.YtefhaaofcibdcaaDoor
open Go.RowKit
set_option linter.unusedVariables false
set_option linter.unusedSimpArgs false
theorem StAt.other {w w' : World} {g : Nat} {m : List UInt8} (H : StAt w g m) (hb : w'.heap[g]? = w.heap[g]?) : StAt w' g m := by
  obtain ⟨h, h1, h2, h3⟩ := H
  exact ⟨h, h1, h2, hb.trans h3⟩
set_option maxHeartbeats 4000000 in
theorem shaKept_walk (w : World) (A : Option Addr) (c : Nat) (bs : List UInt8) (hS : Sl w A c bs) (by_ : UInt8) (hR : Rnd w) :
    Calls Tryd.prog 8 #[.slice A bs.length c, .int .u8 (by_.toNat : Int)] w fun e w' => e = .returned (.bool true) ∧ Below w.heap.size w w' := by
  obtain ⟨n, hn⟩ : ∃ n, bs.length = n := ⟨_, rfl⟩
  rw [hn]
  by_cases hbig : 200 < n
  · have e1 : (200 : Int) < (n : Int) := by omega
    clear hn hS hR
    go_enter Tryd.func8, Tryd.ntmps8
    go_wp2
    go_ret
    exact ⟨rfl, Below.refl _ _⟩
  have e1 : ¬ ((200 : Int) < (n : Int)) := by omega
  by_cases hz : n = 0
  · have e2 : ((n : Int) == 0) = true := by simp [hz]
    clear hn hS hR hz
    go_enter Tryd.func8, Tryd.ntmps8
    go_wp2
    go_ret
    exact ⟨rfl, Below.refl _ _⟩
  have e2 : ((n : Int) == 0) = false := by simp; omega
  obtain ⟨y, hy⟩ : ∃ y : Int, y = (by_.toNat : Int) := ⟨_, rfl⟩
  rw [← hy]
  have hy8 : 0 ≤ y ∧ y < 256 := by have := by_.toNat_lt; omega
  have HY : Hid (y = (by_.toNat : Int)) := hy
  clear hy
  by_cases hy0 : y = 0
  · have e3 : (y == 0) = true := by simp [hy0]
    clear hn hS hR hz hy0
    go_enter Tryd.func8, Tryd.ntmps8
    go_wp2
    go_ret
    exact ⟨rfl, Below.refl _ _⟩
  have e3 : (y == 0) = false := by simpa using hy0
  have HL := Lib.hid hn; have HS := Lib.hid hS; have HR := Lib.hid hR
  have hn2 : n ≤ 200 := by omega
  clear hn hS hR hbig hz hy0
  have hZl := Lib.hid (sumL_len bs)
  have HSA := Lib.hid (fun W hS hW => sum_any A n c bs W HL.out hS hW)
  have hq := eql_bytes (P := Tryd.prog) arr32B Tryd.underlying5 s8 (sumL bs) (sumL bs) (sumL_len bs) (sumL_len bs)
  rw [show decide (sumL bs = sumL bs) = true from by simp] at hq
  have HSS := Lib.hid (fun g W hS hW => stSum_any g bs W (by rw [HL.out]; omega) hS hW)
  generalize sumL bs = Z at hq HSA HSS hZl
  have hi32 : Hid ((Tryd.prog.info? 24).map (·.size) = some (Z.map bv).length) := by show _ = _; rw [List.length_map, hZl.out]; exact i32B
  have hle : Hid ((List.replicate 32 (Value.int .u8 0)).length = (Z.map bv).length) := by show _ = _; rw [List.length_map, hZl.out]; rfl
  go_enter Tryd.func8, Tryd.ntmps8
  go_wp2_with fail
  refine (HSA.out w HS.out HR.out).mono ?_
  rintro e w1 ⟨rfl, hB1⟩
  have HB1 := Lib.hid hB1
  clear hB1
  go_upto_region 4 with (first
    | (refine wpList_st rfl 24 (.tmp 5) (.tmp 22) rfl (store_arr (cs := Z.map bv) (old := List.replicate 32 (Value.int .u8 0)) hi32.out (bv_one _) (heap_alloc_new' w1 _) hle.out) ?_
       generalize hV : World.setRow _ _ _ = W5
       have M0 := Lib.hid (heap_of_setRow hV (heap_alloc_new' w1 _))
       have MB := Lib.hid (HB1.out.trans ((((Below.refl _ w1).alloc (Nat.le_refl _) _).trans (below_of_setRow hV (Nat.le_refl w1.heap.size) (by simp))).mono HB1.out.size))
       clear hV)
    | fail)
  generalize hg5 : w1.heap.size = g5 at M0 ⊢
  clear hg5 HB1
  have HS5 := Lib.hid (HS.out.below MB.out)
  have hgl := Lib.hid (lt_of_heap M0.out)
  have MBS := Lib.hid MB.out.size
  have hm31 : 0 + n ≤ 2147483647 := by omega
  go_wp2_with (
    at_builtin
    refine wpList_app8 rfl (.tmp 23) (.tmp 24) rfl W5.heap.size _ 0 [] rfl ?_ A n c W5.heap.size bs rfl ?_ ?_ ?_ ?_ ?_
    · exact own_heap (g := W5.heap.size) (heap_alloc_new' W5 _) (Nat.le_refl _) rfl (Nat.zero_le _)
    · exact HS5.out.2.2.below ((Below.refl _ _).alloc (Nat.le_refl _) _)
    · exact HL.out
    · exact hm31
    · simp
    rintro v1 w6 hown hgr
    have HB6 := Lib.hid (((Below.refl W5.heap.size W5).alloc (Nat.le_refl _) _).grown hgr (by simp) (ge_own W5.heap.size 0))
    have HO6 := Lib.hid hown
    clear hgr hown)
  have hown := HO6.out
  rw [List.nil_append, Nat.zero_add] at hown
  obtain ⟨h0, hv⟩ := hown
  rcases hv with ⟨rfl, h00⟩ | ⟨gc, cap, cur, rfl, hgc, hcur, hnc, hcm, hcs, htk⟩
  · exfalso
    have := HL.out
    rw [List.length_map] at h0
    have h5 := e2
    simp at h5
    omega
  rw [Nat.mul_one] at htk
  have hgcl : gc < w6.heap.size := lt_of_heap hcur
  have hcell : ∀ j, j < n → ∃ z : UInt8, cur[j]? = some (bv z) := by
    intro j hj
    have h1 : (cur.toList.take n)[j]? = some (bv (bs.getD j 0)) := by
      rw [htk, List.getElem?_map]
      have : j < bs.length := by have := HL.out; omega
      simp [List.getD, this]
    rw [List.getElem?_take_of_lt hj] at h1
    exact ⟨_, by simpa using h1⟩
  have HSC : Hid (Sl w6 (some ⟨gc, 0, none⟩) cap bs) := by
    refine ⟨by have := HL.out; omega, hcm, .inr ⟨gc, 0, rfl, hgcl, fun j u hu => ?_⟩⟩
    have hj : j < n := by have h1 := (List.getElem?_eq_some_iff.1 hu).1; rw [List.length_map, HL.out] at h1; exact h1
    rw [← htk, List.getElem?_take_of_lt hj] at hu
    rw [Nat.zero_add]
    simpa [World.cell?, hcur] using hu
  have HCUR := Lib.hid hcur
  have HCELL := Lib.hid hcell
  have HGC := Lib.hid hgc
  have HGL := Lib.hid hgcl
  clear h0 hgc hcur hnc hcm hcs htk hcell hgcl HO6
  have N0 := Lib.hid ((HB6.out.block _ hgl.out).trans M0.out)
  have NB := Lib.hid (MB.out.step HB6.out)
  clear M0 MB HB6
  go_wp2_with fail
  refine (new_any w6).mono ?_
  rintro e w7 ⟨rfl, hst, hB7⟩
  have ST7 := Lib.hid hst
  have N7 := Lib.hid ((hB7.block _ (lt_of_heap N0.out)).trans N0.out)
  have NB7 := Lib.hid (NB.out.step hB7)
  have C7 := Lib.hid ((hB7.block _ HGL.out).trans HCUR.out)
  have SC7 := Lib.hid (HSC.out.below hB7)
  have R7 : Hid (Rnd w7) := HR.out.ext NB7.out
  have hgs0 : Hid (w6.heap.size ≠ 0) := by have := HGL.out; show _ ≠ 0; omega
  have hap : Hid (ApartG (some ⟨gc, 0, none⟩) w6.heap.size) := by intro a ha; injection ha with ha; rw [← ha]; have := HGL.out; show gc ≠ _; omega
  have g5l := Lib.hid (lt_of_heap N0.out)
  have hw6 : Hid (w.heap.size ≤ w6.heap.size) := NB.out.size
  generalize hgs : w6.heap.size = gs at ST7 hgs0 hap g5l hw6 HGL ⊢
  clear hst hB7 hgs HCUR HSC N0 NB
  go_wp2_with fail
  refine (write_any gs [] (some ⟨gc, 0, none⟩) n cap bs w7 HL.out (by simp; omega) hgs0.out (fun _ => hap.out) SC7.out ST7.out R7.out).mono ?_
  rintro e w8 ⟨⟨v8, rfl⟩, hst, hgr⟩
  rw [List.nil_append] at hst
  have ST8 := Lib.hid hst
  have N8 := Lib.hid ((hgr.block _ (lt_of_heap N7.out) (by have := g5l.out; simp; omega)).trans N7.out)
  have C8 := Lib.hid ((hgr.block _ (lt_of_heap C7.out) (by have := HGL.out; simp; omega)).trans C7.out)
  have NB8 : Hid (Below w.heap.size w w8) := NB7.out.trans (grown_below hgr hw6.out NB7.out.size)
  clear hst hgr ST7 N7 NB7 C7 SC7 R7
  have hgc0 : Hid (w.heap.size ≤ gc) := Nat.le_trans MBS.out HGC.out
  have hne5 : Hid (g5 ≠ gc) := by have h1 := hgl.out; have h2 := HGC.out; show g5 ≠ gc; omega
  have hnes : Hid (gs ≠ gc) := by have := HGL.out; show gs ≠ gc; omega
  go_wp2_with fail
  go_loopw [8] (fun vi wr => ∃ (i : Nat) (L : Array Value), i ≤ n ∧ vi = .int .i64 (i : Int) ∧ Hid (StAt wr gs bs) ∧ Hid (wr.heap[g5]? = some (.cells (Z.map bv).toArray 24 (0, 0))) ∧ Hid (Below w.heap.size w wr) ∧
     Hid (wr.heap[gc]? = some (.cells L 5 (0, 0))) ∧ Hid (∀ j, j < n → ∃ z : UInt8, L[j]? = some (bv z))) (fun i _ => n - (intOf i).toNat)
  case atStart => exact ⟨0, cur, by omega, rfl, ST8, N8, NB8, C8, HCELL⟩
  case round =>
    clear ST8 N8 NB8 C8 HCELL
    obtain ⟨i, L, hi, rfl, ST, N5, NB, C0, CL⟩ := hrel
    by_cases hlt : i < n
    · have q1 : (i : Int) < (n : Int) := by omega
      obtain ⟨z, hz⟩ := CL.out i hlt
      have c1 : wr.cell? ⟨gc, i, none⟩ = some (.int .u8 (z.toNat : Int)) := by simpa [World.cell?, C0.out, bv] using hz
      have fz : wr.frozen? ⟨gc, i, none⟩ = false := by simp [World.frozen?, C0.out]
      obtain ⟨x, hx⟩ : ∃ x : UInt8, bits .xor .u8 (z.toNat : Int) y = (x.toNat : Int) := ⟨z ^^^ by_, by rw [HY.out]; exact xor8 z by_⟩
      have hzl : i < L.size := (Array.getElem?_eq_some_iff.1 hz).1
      have HZL := Lib.hid hzl
      clear hz hzl
      go_wp2
      go_roundw
      case rel =>
        refine ⟨i + 1, L.setIfInBounds i (bv x), by omega, by go_num, ?_, ?_, ?_, ?_, ?_⟩
        · exact ST.out.other (Below.heap_setCell wr _ _ _ hnes.out)
        · exact (Below.heap_setCell wr _ _ _ hne5.out).trans N5.out
        · exact NB.out.setCell hgc0.out _
        · show _ = _
          simp [World.setCell, Array.getElem?_modify, C0.out, bv]
        · intro j hj
          by_cases hij : i = j
          · subst hij
            exact ⟨x, by simp [HZL.out]⟩
          · obtain ⟨z', hz'⟩ := CL.out j hj
            exact ⟨z', by rw [Array.getElem?_setIfInBounds_ne hij]; exact hz'⟩
      case measure => simp [intOf]; omega
    · have q1 : ¬ ((i : Int) < (n : Int)) := by omega
      have R0 : Hid (Rnd wr) := HR.out.ext NB.out
      clear C0 CL
      have G5 : Hid (∀ W, Ext wr W → (Instr.loadAt 24 (.pointer (some ⟨g5, 0, none⟩))).run Tryd.prog W = .ok (.agg (Z.map bv).toArray) W) := fun W hW => load_arr arr32B rfl hi32.out ((hW.block _ (lt_of_heap N5.out)).trans N5.out)
      have HX : Hid (Ext wr wr.drew) := (Below.refl _ _).drew
      go_wp2_with fail
      refine reg_start (by kernel_rfl) ?_
      try simp only [Act.put, List.setIfInBounds_toArray, List.set_cons_zero, List.set_cons_succ]
      generalize wr.drew = W1 at HX ⊢
      refine reg_take (v := ?_) 0 (some 43) rfl rfl (by kernel_rfl) (by kernel_rfl) (by kernel_rfl) (fun _ _ _ h => h) (by rfl) (fun W hW => ?_) ?_
      rotate_left
      · (go_simp; try rfl)
      simp only [Act.put, List.setIfInBounds_toArray, List.set_cons_zero, List.set_cons_succ]
      refine reg_load 2 (some 45) (fun W hW => G5.out W (Ext.trans HX.out hW)) rfl rfl rfl rfl (by kernel_rfl) (by kernel_rfl) (by kernel_rfl) (fun _ _ _ h => h) (by rfl) ?_
      simp only [Act.put, List.setIfInBounds_toArray, List.set_cons_zero, List.set_cons_succ]
      refine reg_eff 1 rfl (by kernel_rfl) (fun K hK => ?_)
      go_simp
      refine (HSS.out gs _ (ST.out.ext HX.out) (R0.out.ext HX.out)).mono ?_
      rintro e w2 ⟨rfl, hE⟩
      refine hK.out _ _ hE ?_
      have HX := Lib.hid (Ext.trans HX.out hE)
      clear hE hK K
      try simp only [Act.put, List.setIfInBounds_toArray, List.set_cons_zero, List.set_cons_succ]
      refine reg_take (v := ?_) 3 (some 46) rfl rfl (by kernel_rfl) (by kernel_rfl) (by kernel_rfl) (fun _ _ _ h => h) (by rfl) (fun W hW => ?_) ?_
      rotate_left
      · (go_simp; try rfl)
      simp only [Act.put, List.setIfInBounds_toArray, List.set_cons_zero, List.set_cons_succ]
      refine reg_take (v := ?_) 4 (some 47) rfl rfl (by kernel_rfl) (by kernel_rfl) (by kernel_rfl) (fun _ _ _ h => h) (by rfl) (fun W hW => ?_) ?_
      rotate_left
      · (go_simp; try rfl)
      simp only [Act.put, List.setIfInBounds_toArray, List.set_cons_zero, List.set_cons_succ]
      refine reg_take (v := ?_) 5 (some 48) rfl rfl (by kernel_rfl) (by kernel_rfl) (by kernel_rfl) (fun _ _ _ h => h) (by rfl) (fun W hW => ?_) ?_
      rotate_left
      · (go_simp; try rfl)
      simp only [Act.put, List.setIfInBounds_toArray, List.set_cons_zero, List.set_cons_succ]
      refine reg_load 7 (some 50) (fun W hW => G5.out W (Ext.trans HX.out hW)) rfl rfl rfl rfl (by kernel_rfl) (by kernel_rfl) (by kernel_rfl) (fun _ _ _ h => h) (by rfl) ?_
      simp only [Act.put, List.setIfInBounds_toArray, List.set_cons_zero, List.set_cons_succ]
      refine reg_eff 6 rfl (by kernel_rfl) (fun K hK => ?_)
      go_simp
      refine (HSS.out gs _ (ST.out.ext HX.out) (R0.out.ext HX.out)).mono ?_
      rintro e w3 ⟨rfl, hE⟩
      refine hK.out _ _ hE ?_
      have HX := Lib.hid (Ext.trans HX.out hE)
      clear hE hK K
      try simp only [Act.put, List.setIfInBounds_toArray, List.set_cons_zero, List.set_cons_succ]
      refine reg_take (v := ?_) 8 (some 51) rfl rfl (by kernel_rfl) (by kernel_rfl) (by kernel_rfl) (fun _ _ _ h => h) (by rfl) (fun W hW => ?_) ?_
      rotate_left
      · (go_simp; try rfl)
      simp only [Act.put, List.setIfInBounds_toArray, List.set_cons_zero, List.set_cons_succ]
      refine reg_take (v := ?_) 9 (some 52) rfl rfl (by kernel_rfl) (by kernel_rfl) (by kernel_rfl) (fun _ _ _ h => h) (by rfl) (fun W hW => ?_) ?_
      rotate_left
      · (go_simp; try rfl)
      simp only [Act.put, List.setIfInBounds_toArray, List.set_cons_zero, List.set_cons_succ]
      refine reg_take (v := ?_) 10 (some 53) rfl rfl (by kernel_rfl) (by kernel_rfl) (by kernel_rfl) (fun _ _ _ h => h) (by rfl) (fun W hW => ?_) ?_
      rotate_left
      · (go_simp; try rfl)
      simp only [Act.put, List.setIfInBounds_toArray, List.set_cons_zero, List.set_cons_succ]
      refine reg_eff 11 rfl (by kernel_rfl) (fun K hK => ?_)
      go_simp
      refine (awake2_any _ (R0.out.ext HX.out)).mono ?_
      rintro e w4 ⟨rfl, hE⟩
      refine hK.out _ _ hE ?_
      have HX := Lib.hid (Ext.trans HX.out hE)
      clear hE hK K
      try simp only [Act.put, List.setIfInBounds_toArray, List.set_cons_zero, List.set_cons_succ]
      refine reg_take (v := ?_) 12 (some 55) rfl rfl (by kernel_rfl) (by kernel_rfl) (by kernel_rfl) (fun _ _ _ h => h) (by rfl) (fun W hW => ?_) ?_
      rotate_left
      · (go_simp; try rfl)
      simp only [Act.put, List.setIfInBounds_toArray, List.set_cons_zero, List.set_cons_succ]
      refine reg_take (v := ?_) 13 (some 4) rfl rfl (by kernel_rfl) (by kernel_rfl) (by kernel_rfl) (fun _ _ _ h => h) (by rfl) (fun W hW => ?_) ?_
      rotate_left
      · (go_simp; try rfl)
      simp only [Act.put, List.setIfInBounds_toArray, List.set_cons_zero, List.set_cons_succ]
      refine reg_done (by kernel_rfl) ?_
      go_wp2
      go_ret
      exact ⟨rfl, NB.out.step HX.out⟩
end Go.Proofs.YtefhaaofcibdcaaDoor

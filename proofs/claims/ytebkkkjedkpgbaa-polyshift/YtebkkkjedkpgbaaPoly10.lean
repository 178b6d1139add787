/- poly: Sum; the law's example. -/
import Derived.Test.YtebkkkjedkpgbaaPoly9
import Derived.Test.YtebkkkjedkpgbaaReg4
namespace Go.Proofs.Ytebkkkjedkpgbaa
open Go.RowKit
set_option linter.unusedVariables false
set_option linter.unusedSimpArgs false
theorem PAt.ext {w w' : World} {g r s : Nat} {m : List UInt8} (h : PAt w g r s m) (hb : Ext w w') : PAt w' g r s m := (hb.block _ (lt_of_heap h)).trans h
/-- the sum of bytes by a key -/
def polyL (key b : List UInt8) : List UInt8 := psumL (rOf key) (sOf key) b
theorem polyL_len (key b : List UInt8) : (polyL key b).length = 16 := psumL_len _ _ _
set_option maxHeartbeats 2000000 in
theorem psum_any (key : List UInt8) (A : Option Addr) (k c : Nat) (b : List UInt8) (w : World) (hk : key.length = 32) (hb : b.length = k) (hk2 : k ≤ 2147000000) (hS : Sl w A c b) :
    Calls Try.prog 9 #[.agg (key.map bv).toArray, .slice A k c] w fun e w' => e = .returned (.agg ((polyL key b).map bv).toArray) ∧ Below w.heap.size w w' := by
  have hz : ∀ W, (zeroValue 24).run Try.prog W = .ok (.agg zer16.toArray) W := fun W => by kernel_rfl
  have hlz : Hid (zer16.length = 16) := rfl
  have hr := rOf_lt key hk
  have HKL := Lib.hid hk; have HBL := Lib.hid hb; have HS := Lib.hid hS
  have NA := Lib.hid (fun W => pnew_any key W hk)
  have WA := Lib.hid (fun g W hA hS H => pwrite_any g (rOf key) (sOf key) [] A k c b W hr hb hk2 hA hS H)
  have SA := Lib.hid (fun g W H => pstSum_any g (rOf key) (sOf key) b W hr H)
  have HP : Hid (psumL (rOf key) (sOf key) b = polyL key b) := rfl
  have LP := Lib.hid (polyL_len key b)
  rw [HP.out] at SA
  rw [List.nil_append] at WA
  have HAB : Hid (∀ g, w.heap.size ≤ g → 0 < k → ApartG A g) := by
    intro g hg h0 a ha
    obtain ⟨b1, o1, he, hb1, _⟩ := hS.2.2.at_ (by rw [List.length_map, hb]; exact h0)
    rw [he] at ha
    injection ha with ha
    rw [← ha]; show b1 ≠ g; omega
  generalize polyL key b = Q at SA LP ⊢
  generalize rOf key = r at NA WA SA
  generalize sOf key = s at NA WA SA
  generalize zer16 = Z at hz hlz
  clear hk hb hk2 hS hr HP
  have G := Lib.hid (heap2p w (.cells (key.map bv).toArray 22) (.cells Z.toArray 24))
  go_enter Try.func9, Try.ntmps9
  go_upto_region 1 with (fail)
  generalize hV : (w.alloc _).alloc _ = W0 at G ⊢
  clear hV
  go_wp2_with (first
    | (refine wpList_ld rfl 22 (.tmp 2) rfl (load_arr arr32P rfl (i32p key HKL.out) G.out.1) ?_))
  refine (NA.out W0).mono ?_
  rintro e w1 ⟨g, hg, rfl, hP, hb1⟩
  have P1 := Lib.hid hP
  have B1 : Hid (Below w.heap.size w w1) := G.out.2.2.trans (hb1.mono G.out.2.2.size)
  have N1 := Lib.hid ((hb1.block _ (lt_of_heap G.out.2.1)).trans G.out.2.1)
  have HG : Hid (w.heap.size + 1 < g) := Nat.lt_of_lt_of_le (lt_of_heap G.out.2.1) hg
  clear hg hP hb1 G
  go_wp2_with fail
  refine (WA.out g w1 (HAB.out g (by have := HG.out; omega)) (HS.out.below B1.out) P1.out).mono ?_
  rintro e w2 ⟨⟨v2, rfl⟩, hP, hgr⟩
  have P2 := Lib.hid hP
  have B2 : Hid (Below w.heap.size w w2) := B1.out.trans (grown_below hgr (by have := HG.out; omega) B1.out.size)
  have N2 := Lib.hid ((hgr.block _ (lt_of_heap N1.out) (by have := HG.out; simp; omega)).trans N1.out)
  clear hP hgr P1 B1 N1
  go_wp2_with fail
  refine (SA.out g w2 P2.out).mono ?_
  rintro e w3 ⟨rfl, hb⟩
  have B3 : Hid (Below w.heap.size w w3) := B2.out.step hb
  have N3 := Lib.hid ((hb.block _ (lt_of_heap N2.out)).trans N2.out)
  clear hb P2 B2 N2
  go_wp2_with (first
    | (refine wpList_st rfl 24 (.tmp 4) (.tmp 12) rfl (store_arr (cs := Q.map bv) (i16p Q LP.out) (bv_one _) N3.out (by rw [List.length_map, LP.out]; exact hlz.out)) ?_))
  have hres := setRow_heap w3 (w.heap.size + 1) _ (Q.map bv).toArray 24 _ N3.out
  exact bodyPost_ret (results_cell_row (P := Try.prog) rfl _ _ (w.heap.size + 1) 24 (Q.map bv).toArray (0, 0) _ rfl hres arr16P rfl (by rw [List.size_toArray]; exact i16p Q LP.out)) rfl ⟨rfl, B3.out.trans (grown_below (grown_setRow _ _ _) (by omega) B3.out.size)⟩
def keyEx : List UInt8 := [2, 0, 0, 0, 0, 0, 0, 0, 0, 0, 0, 0, 0, 0, 0, 0, 7, 0, 0, 0, 0, 0, 0, 0, 0, 0, 0, 0, 0, 0, 0, 0]
def sumEx1 : List UInt8 := [7, 0, 0, 0, 0, 0, 0, 0, 0, 0, 0, 0, 0, 0, 0, 0]
def sumEx2 : List UInt8 := [13, 2, 0, 0, 0, 0, 0, 0, 0, 0, 0, 0, 0, 0, 0, 0]
theorem polyEx1 : polyL keyEx [] = sumEx1 := by decide +kernel
theorem polyEx2 : polyL keyEx [3] = sumEx2 := by decide +kernel
end Go.Proofs.Ytebkkkjedkpgbaa

/- aead: writeWhole (bytes with noughts behind, to whole 16 bytes). -/
import Derived.Test.YtfcnahbbieldfaaPoly10
import Derived.Test.YtfcnahbbieldfaaBits3
namespace Go.Proofs.Ytfcnahbbieldfaa
open Go.RowKit
set_option linter.unusedVariables false
set_option linter.unusedSimpArgs false
set_option maxRecDepth 100000
def padZ (n : Nat) : Nat := (16 - n % 16) % 16
/-- bytes with noughts behind, to whole 16 bytes -/
def whZ (b : List UInt8) : List UInt8 := b ++ List.replicate (padZ b.length) 0
theorem apart_of {w : World} {A : Option Addr} {c g : Nat} {b : List UInt8} (hS : Sl w A c b) (hg : 0 < b.length → ∀ x, A = some x → x.block ≠ g) : 0 < b.length → ApartG A g := hg
set_option maxHeartbeats 2000000 in
theorem writeWhole_any (g r s : Nat) (m : List UInt8) (A : Option Addr) (k c : Nat) (b : List UInt8) (w : World) (hr : r < 21267647932558653966460912964485513216) (hb : b.length = k) (hk : k ≤ 2147000000) (hA : 0 < k → ApartG A g) (hS : Sl w A c b) (H : PAt w g r s m) :
    Calls Try.prog 40 #[.pointer (some ⟨g, 0, none⟩), .slice A k c] w fun e w' => (∃ v, e = .returned v) ∧ PAt w' g r s (m ++ whZ b) ∧ w.grownBy w' (some g) := by
  have WA := Lib.hid (pwrite_any g r s m A k c b w hr hb hk hA hS H)
  obtain ⟨p, hp⟩ : ∃ p, p = padZ k := ⟨_, rfl⟩
  have hp16 : p < 16 := by rw [hp, padZ]; omega
  have WZ := Lib.hid (fun A c W hA hS H => pwrite_any g r s (m ++ b) A p c (List.replicate p 0) W hr (List.length_replicate) (by omega) hA hS H)
  have hmk : ∀ W, (Instr.makeSlice 26 (.int .i64 (p : Int)) (.int .i64 (p : Int))).run Try.prog W = .ok (.slice (some ⟨W.heap.size, 0, none⟩) p p) (W.alloc (.cells ((List.replicate p (0 : UInt8)).map bv).toArray 5)) := fun W => by
    rw [List.map_replicate]; exact make_run (P := Try.prog) uT made8 rfl .i64 .i64 p (by omega) (by omega) W
  have u1 : (16 - (k : Int) % 16) % 16 = (p : Int) := by rw [hp, padZ]; omega
  have HG : Hid (g < w.heap.size) := lt_of_heap H
  have HW : Hid (m ++ b ++ List.replicate p 0 = m ++ whZ b) := by show _ = _; rw [whZ, hb, ← hp, List.append_assoc]
  rw [HW.out] at WZ
  obtain ⟨Z, HZ⟩ : ∃ Z, Hid (List.replicate p (0 : UInt8) = Z) := ⟨_, rfl⟩
  rw [HZ.out] at WZ hmk
  have HZL : Hid (Z.length = p) := by show _ = _; rw [← HZ.out, List.length_replicate]
  clear hb hk hA hS H hr HZ HW hp
  go_enter Try.func40, Try.ntmps40
  go_wp2_with fail
  refine WA.out.mono ?_
  rintro e w1 ⟨⟨v1, rfl⟩, hP, hg1⟩
  have P1 := Lib.hid hP; have G1 := Lib.hid hg1
  clear hP hg1 WA
  go_wp2_with fail
  have HN := Lib.hid (heap_alloc_new' w1 (.cells (Z.map bv).toArray 5))
  have HB : Hid (Ext w1 (w1.alloc (.cells (Z.map bv).toArray 5))) := (Below.refl _ _).alloc (Nat.le_refl _) _
  have HGN : Hid (g ≠ w1.heap.size) := by have := HG.out; have := G1.out.size; show _ ≠ _; omega
  generalize hV : w1.alloc _ = W1 at HN HB ⊢
  clear hV
  generalize w1.heap.size = q at HN HGN ⊢
  refine (WZ.out (some ⟨q, 0, none⟩) p W1 (fun _ a ha => by injection ha with ha; rw [← ha]; exact HGN.out.symm) (sl_row HZL.out (by omega) HN.out) (P1.out.ext HB.out)).mono ?_
  rintro e w2 ⟨⟨v2, rfl⟩, hP, hg2⟩
  have P2 := Lib.hid hP; have G2 := Lib.hid hg2
  clear hP hg2
  go_wp2
  exact bodyPost_end (v := .tuple #[]) (by simp [results, Try.results40, go_sem]) rfl ⟨⟨_, rfl⟩, P2.out, gr_trans (gr_trans G1.out (gr_of HB.out)) G2.out⟩
end Go.Proofs.Ytfcnahbbieldfaa

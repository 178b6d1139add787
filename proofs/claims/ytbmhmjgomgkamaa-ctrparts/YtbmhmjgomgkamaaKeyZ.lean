/- A key with its IV in memory, and its round keys (the laws' own functions bytes, keys). -/
import Derived.Test.YtbmhmjgomgkamaaLiftN
import Derived.Test.YtbmhmjgomgkamaaAes10
import Derived.Test.YtbmhmjgomgkamaaBits3
namespace Go.Proofs.Ytbmhmjgomgkamaa
open Go.RowKit
set_option linter.unusedVariables false
set_option linter.unusedSimpArgs false
theorem k_strOf_beq (a b : List UInt8) : ((strOf a).toList == (strOf b).toList) = decide (a = b) := by
  have h : ∀ l : List UInt8, (strOf l).toList = l := fun l => by rw [ByteArray.toList_eq]; rfl
  rw [h, h]; rw [Bool.eq_iff_iff]; simp
theorem k_strOf_size (a : List UInt8) : (strOf a).size = a.length := by simp [strOf, ByteArray.size]
theorem k_strOf_append (a b : List UInt8) : strOf a ++ strOf b = strOf (a ++ b) := by
  apply ByteArray.ext; simp [strOf]
theorem Sl.extk {w w' : World} {A : Option Addr} {c : Nat} {bs : List UInt8} (h : Sl w A c bs) (hb : Ext w w') : Sl w' A c bs := h.below hb
theorem k_range_ext {W W' : World} {g o : Nat} {cs : List Value} (h : W.rangeAt g o cs) (hg : g < W.heap.size) (hE : Ext W W') : W'.rangeAt g o cs := fun j v hv => (hE.cell hg).trans (h j v hv)
/-- which bytes of it are the key -/
def keyB (k : List UInt8) (b : Bool) : List UInt8 := if b then k else k.take 16
def keyW (b : Bool) : Nat := if b then 8 else 4
theorem keyB_len (k : List UInt8) (b : Bool) (hk : k.length = 32) : (keyB k b).length = 4 * keyW b := by
  cases b <;> simp [keyB, keyW, hk]
def KZ (W : World) (g : Nat) (k : List UInt8) (b : Bool) (n : List UInt8) : Prop := g < W.heap.size ∧ W.rangeAt g 0 (k.map bv) ∧ W.cell? ⟨g, 32, none⟩ = some (.bool b) ∧ W.rangeAt g 33 (n.map bv)
theorem KZ.ext {W W' : World} {g : Nat} {k n : List UInt8} {b : Bool} (h : KZ W g k b n) (hE : Ext W W') : KZ W' g k b n :=
  ⟨Nat.lt_of_lt_of_le h.1 hE.size, k_range_ext h.2.1 h.1 hE, (hE.cell h.1).trans h.2.2.1, k_range_ext h.2.2.2 h.1 hE⟩
theorem kz_of {W : World} {g : Nat} {k n : List UInt8} {b : Bool} {post : List Value} {t : TypeId} {fr : Nat × Nat} (h : W.heap[g]? = some (.cells (kCells k b n ++ post).toArray t fr)) (hk : k.length = 32) (hn : n.length = 16) : KZ W g k b n := by
  refine ⟨lt_of_heap h, fun j v hv => ?_, ?_, fun j v hv => ?_⟩
  · have hj := (List.getElem?_eq_some_iff.1 hv).1
    rw [cell_of_heap h, kCells, Nat.zero_add, List.append_assoc, List.getElem?_append_left hj]; exact hv
  · rw [cell_of_heap h, kCells, List.append_assoc, List.getElem?_append_right (by simp [hk]), List.length_map, hk]; rfl
  · have hj := (List.getElem?_eq_some_iff.1 hv).1
    rw [cell_of_heap h, kCells, List.append_assoc, List.getElem?_append_right (by simp [hk]; omega), List.length_map, hk, List.append_assoc, List.getElem?_append_right (by simp; omega), List.getElem?_append_left (by simp at hj ⊢; omega)]
    rw [show 33 + j - 32 - [Value.bool b].length = j by simp; omega]; exact hv
theorem kz_new (w : World) (k n : List UInt8) (b : Bool) (t : TypeId) (hk : k.length = 32) (hn : n.length = 16) : KZ (w.alloc (.cells (kCells k b n).toArray t)) w.heap.size k b n :=
  kz_of (post := []) (by rw [List.append_nil]; exact heap_alloc_new' w _) hk hn
theorem kCells_len (k n : List UInt8) (b : Bool) (hk : k.length = 32) (hn : n.length = 16) : (kCells k b n).length = 49 := by simp [kCells, hk, hn]
theorem KZ.key {W : World} {g : Nat} {k n : List UInt8} {b : Bool} (h : KZ W g k b n) (hk : k.length = 32) : Sl W (some ⟨g, 0, none⟩) 32 (keyB k b) := by
  refine ⟨by rw [keyB_len k b hk]; cases b <;> simp [keyW], by simp [maxLen], .inr ⟨g, 0, rfl, h.1, fun j u hu => ?_⟩⟩
  refine h.2.1 j u ?_
  cases b
  · simp only [keyB, Bool.false_eq_true, if_false, List.map_take] at hu
    rw [List.getElem?_take] at hu
    split at hu
    · exact hu
    · cases hu
  · exact hu
theorem arr32Z : Try.prog.underlying 22 = some (.array 32 5) := Try.underlying22
theorem i16z (l : List UInt8) (h : l.length = 16) : (Try.prog.info? 23).map (·.size) = some (l.map bv).length := by rw [List.length_map, h]; exact i16B
set_option maxHeartbeats 1000000 in
theorem kbytes_any (k : List UInt8) (b : Bool) (n : List UInt8) (w : World) (hk : k.length = 32) (hn : n.length = 16) :
    Calls Try.prog 10 #[.agg (kCells k b n).toArray] w fun e w' => e = .returned (.slice (some ⟨w.heap.size, 0, none⟩) (4 * keyW b) 32) ∧ Sl w' (some ⟨w.heap.size, 0, none⟩) 32 (keyB k b) ∧ Below w.heap.size w w' := by
  have Z0 := kz_new w k n b 25 hk hn
  have HS := Lib.hid (Z0.key hk)
  have hc := Z0.2.2.1
  have sl := arr_to arr32Z s8 ⟨w.heap.size, 0, none⟩ .i64 16 (by omega) (by omega)
  rw [show (16 : Int).toNat = 16 from rfl] at sl
  have sl2 := arr_all arr32Z s8 ⟨w.heap.size, 0, none⟩
  clear Z0
  generalize (kCells k b n).toArray = Z at HS hc ⊢
  generalize keyB k b = KB at HS ⊢
  cases b
  · go_enter Try.func10, Try.ntmps10
    go_wp2
    go_ret
    exact ⟨rfl, HS.out, (Below.refl _ _).alloc (Nat.le_refl _) _⟩
  · go_enter Try.func10, Try.ntmps10
    go_wp2
    go_ret
    exact ⟨rfl, HS.out, (Below.refl _ _).alloc (Nat.le_refl _) _⟩
theorem iKey : (Try.prog.info? 25).map (·.size) = some 49 := by kernel_rfl
set_option maxHeartbeats 1000000 in
theorem keys_any (k : List UInt8) (b : Bool) (n : List UInt8) (w : World) (hk : k.length = 32) (hn : n.length = 16) :
    Calls Try.prog 7 #[.agg (kCells k b n).toArray] w fun e w' => ∃ g, e = .returned (.tuple #[.pointer (some ⟨g, 0, none⟩), .bool true]) ∧ w.heap.size ≤ g ∧ KeyAt w' g (expandL (keyB k b)) (keyW b + 6) ∧ Below w.heap.size w w' := by
  have HBY := Lib.hid (fun W => kbytes_any k b n W hk hn)
  have HL := Lib.hid (kCells_len k n b hk hn)
  have HKL := Lib.hid (keyB_len k b hk)
  have HW : Hid (keyW b = 4 ∨ keyW b = 8) := by show _ ∨ _; cases b <;> simp [keyW]
  generalize kCells k b n = Z at HBY HL ⊢
  generalize keyB k b = KB at HBY HKL ⊢
  generalize keyW b = nk at HBY HKL HW ⊢
  clear hk hn
  go_enter Try.func7, Try.ntmps7
  go_wp2_with (first
    | (refine wpList_ld rfl 25 (.tmp 1) rfl (load_arr Try.underlying25 rfl (by rw [HL.out]; exact iKey) (heap_alloc_new' w _)) ?_)
    | fail)
  generalize hV : w.alloc _ = W0
  have B0 := Lib.hid (below_of_alloc hV (Nat.le_refl w.heap.size))
  clear hV
  refine (HBY.out W0).mono ?_
  rintro e w1 ⟨rfl, hS1, hb1⟩
  have S1 := Lib.hid hS1; have B1 := Lib.hid (B0.out.step hb1)
  clear hS1 hb1
  go_wp2_with fail
  refine (expand_any (some ⟨W0.heap.size, 0, none⟩) (4 * nk) 32 nk KB w1 HKL.out rfl HW.out S1.out).mono ?_
  rintro e w2 ⟨g, rfl, hg, hK, hb2⟩
  have K2 := Lib.hid hK; have B2 := Lib.hid (B1.out.step hb2)
  have HG : Hid (w.heap.size ≤ g) := Nat.le_trans B1.out.size hg
  clear hK hb2 hg
  go_wp2
  go_ret2
  exact ⟨g, rfl, HG.out, K2.out, B2.out⟩
end Go.Proofs.Ytbmhmjgomgkamaa

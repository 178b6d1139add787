/- Package cbc: Pad, Unpad; the law file's own awake (layer 9). -/
import Derived.Test.YtfcnahbbieldfaaRep
import Derived.Test.YtfcnahbbieldfaaApp
namespace Go.Proofs.Ytfcnahbbieldfaa
open Go.RowKit
set_option linter.unusedVariables false
set_option linter.unusedSimpArgs false
set_option maxRecDepth 100000
theorem Sl.extb {w w' : World} {A : Option Addr} {c : Nat} {bs : List UInt8} (h : Sl w A c bs) (hb : Ext w w') : Sl w' A c bs := h.below hb
/-- how many bytes are put behind m bytes -/
def padK9 (m : Nat) : Nat := 16 - m % 16
theorem padK9_le (m : Nat) : 1 ≤ padK9 m ∧ padK9 m ≤ 16 := by unfold padK9; omega
/-- what is put behind m bytes -/
def padB (m : Nat) : List UInt8 := List.replicate (padK9 m) (UInt8.ofNat (padK9 m))
theorem padB_len (m : Nat) : (padB m).length = padK9 m := List.length_replicate
set_option maxHeartbeats 1000000 in
theorem cpad_any (m : Nat) (w : World) (hm : m ≤ 9223372036854775807) :
    Calls Try.prog 36 #[.int .i64 (m : Int)] w fun e w' => ∃ g, w.heap.size ≤ g ∧ e = .returned (.slice (some ⟨g, 0, none⟩) (padK9 m) (padK9 m)) ∧ Sl w' (some ⟨g, 0, none⟩) (padK9 m) (padB m) ∧ Below w.heap.size w w' := by
  have hk := padK9_le m
  have hkd : padK9 m = 16 - m % 16 := rfl
  have RP := Lib.hid (fun A c W (hS : Sl W A c [UInt8.ofNat (padK9 m)]) => rep_any A c (UInt8.ofNat (padK9 m)) (padK9 m) W hk.1 (by omega) hS)
  change Hid (∀ A c W (hS : Sl W A c [UInt8.ofNat (padK9 m)]), Calls _ _ _ _ fun e w' => e = _ ∧ Sl w' _ _ (padB m) ∧ _) at RP
  have hxk : Hid (((UInt8.ofNat (padK9 m)).toNat : Int) = (padK9 m : Int)) := by show _ = _; rw [UInt8.toNat_ofNat', Nat.mod_eq_of_lt (by omega)]
  generalize padB m = PB at RP ⊢
  generalize UInt8.ofNat (padK9 m) = x at RP hxk
  obtain ⟨r, hr⟩ : ∃ r, r = m % 16 := ⟨_, rfl⟩
  generalize padK9 m = k at RP hk hkd hxk ⊢
  have u1 : (m : Int) % 16 = (r : Int) := by omega
  have u2 : 16 - (r : Int) = (k : Int) := by omega
  have u3 : (k : Int) % 256 = (k : Int) := by omega
  have u4 : IntKind.u8.wrap (k : Int) = (k : Int) := by rw [IntKind.wrap_u8]; omega
  have e1 : ¬ ((m : Int) < 0) := by omega
  clear hr hkd
  go_enter Try.func36, Try.ntmps36
  go_wp2_with fail
  have S0 : Hid (Sl (w.alloc (.cells #[.int .u8 (k : Int)] 5)) (some ⟨w.heap.size, 0, none⟩) 1 [x]) := by
    have h := sl_row (W := w.alloc (.cells #[.int .u8 (k : Int)] 5)) (g := w.heap.size) (t := 5) (fr := (0, 0)) (bs := [x]) (n := 1) rfl (by omega) (by rw [heap_alloc_new' w _]; simp [bv, hxk.out])
    exact h
  generalize hV : w.alloc _ = W0 at S0 ⊢
  have FB := Lib.hid (below_of_alloc hV (Nat.le_refl w.heap.size))
  clear hV
  refine (RP.out _ _ W0 S0.out).mono ?_
  rintro e w1 ⟨rfl, hS1, hb1⟩
  have S1 := Lib.hid hS1; have B1 := Lib.hid (FB.out.step hb1)
  have HG : Hid (w.heap.size ≤ W0.heap.size) := FB.out.size
  clear hS1 hb1
  go_wp2
  go_ret
  exact ⟨_, HG.out, rfl, S1.out, B1.out⟩
theorem cpad_neg (m : Int) (w : World) (hm : m < 0) : Calls Try.prog 36 #[.int .i64 m] w fun e w' => e = .returned (.slice none 0 0) ∧ w = w' := by
  go_enter Try.func36, Try.ntmps36
  go_wp2
  go_ret
  exact ⟨rfl, rfl⟩
/-- where a padding begins, if there is one -/
def upO (b : List UInt8) : Option Nat :=
  if b.length = 0 ∨ b.length % 16 ≠ 0 then none
  else if (b.getD (b.length - 1) 0).toNat ≤ b.length ∧ b.drop (b.length - (b.getD (b.length - 1) 0).toNat) = padB (b.length - (b.getD (b.length - 1) 0).toNat) then some (b.length - (b.getD (b.length - 1) 0).toNat) else none
def upE : Option Nat → Int
  | none => 16
  | some _ => 0
def upV : Option Nat → Int
  | none => 0
  | some k => (k : Int)
def upR : Option Nat → Int
  | none => -1
  | some k => (k : Int)
theorem c_sl_cell {w : World} {A : Option Addr} {c i : Nat} {bs : List UInt8} (h : Sl w A c bs) (hi : i < bs.length) : ∃ b o, A = some ⟨b, o, none⟩ ∧ b < w.heap.size ∧ ∀ j, j < bs.length → w.cell? ⟨b, o + j, none⟩ = some (.int .u8 ((bs.getD j 0).toNat : Int)) := by
  obtain ⟨b, o, rfl, hb, hc⟩ := h.2.2.at_ (by rw [List.length_map]; omega)
  refine ⟨b, o, rfl, hb, fun j hj => ?_⟩
  have := hc j (bv bs[j]) (by simp [hj])
  rw [this]; simp [List.getD, hj, bv]
theorem c_cut_ge {w : World} {A : Option Addr} {c k : Nat} {l : List UInt8} (h : Sl w A c l) (hk : k ≤ l.length) : Sl w (cutS A c k) (c - k) (l.drop k) := sl_cut h hk
end Go.Proofs.Ytfcnahbbieldfaa

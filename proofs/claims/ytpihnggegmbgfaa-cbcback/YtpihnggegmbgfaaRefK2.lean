/- palfreyref09.Padded. -/
import Derived.Test.YtpihnggegmbgfaaCbc1
import Derived.Test.YtpihnggegmbgfaaApp
namespace Go.Proofs.Ytpihnggegmbgfaa
open Go.RowKit
set_option linter.unusedVariables false
set_option linter.unusedSimpArgs false
set_option maxRecDepth 100000
theorem k_own_below {w w' : World} {base : Nat} {e : TypeId} {s : Nat} {v : Value} {n : Nat} {xs : List Value} (h : w.ownsRow base e s v n xs) (hb : Below w.heap.size w w') : w'.ownsRow base e s v n xs := by
  obtain ⟨h0, h | ⟨g, cap, cur, hv, hg, hh, r⟩⟩ := h
  · exact ⟨h0, .inl h⟩
  · exact ⟨h0, .inr ⟨g, cap, cur, hv, hg, (hb.block _ (lt_of_heap hh)).trans hh, r⟩⟩
theorem k_own_ge {w : World} {base : Nat} {e : TypeId} {s : Nat} {v : Value} {n : Nat} {xs : List Value} (h : w.ownsRow base e s v n xs) {B : Nat} (hB : B ≤ base) : ∀ g, v.ownBlock = some g → B ≤ g := fun g hq => Nat.le_trans hB (h.lt g hq).1
theorem k_own_alloc {w : World} {base : Nat} {e : TypeId} {s : Nat} {v : Value} {n : Nat} {xs : List Value} (h : w.ownsRow base e s v n xs) (o : Obj) : (w.alloc o).ownsRow base e s v n xs := k_own_below h ((Below.refl _ _).alloc (Nat.le_refl _) o)
theorem rep_snoc (bs : List UInt8) (x : UInt8) (j : Nat) : (bs ++ List.replicate j x) ++ [x] = bs ++ List.replicate (j + 1) x := by rw [List.append_assoc, List.replicate_succ']
theorem row_byte (W : World) (x : UInt8) (d : Int) (hx : ((x.toNat : Int)) = d) : RowAt (W.alloc (.cells #[.int .u8 d] 5)) (W.heap.size + 1) (some ⟨W.heap.size, 0, none⟩) (([x] : List UInt8).map bv) := by
  subst hx
  exact row_of_heap (bs := [x]) (heap_alloc_new' W (.cells (([x] : List UInt8).map bv).toArray 5)) (Nat.lt_succ_self _)
set_option maxHeartbeats 2000000 in
theorem refPadK_any (A : Option Addr) (n c : Nat) (bs : List UInt8) (w : World) (hl : bs.length = n) (hn : n ≤ 2147000000) (hS : Sl w A c bs) :
    Calls Try.prog 19 #[.slice A n c] w fun e w' => ∃ v, e = .returned v ∧ w'.ownsRow w.heap.size 5 1 v (n + padK9 n) ((bs ++ padB n).map bv) ∧ Below w.heap.size w w' := by
  have HL := Lib.hid hl; have HS := Lib.hid hS
  have hk := padK9_le n
  have hkd : padK9 n = 16 - n % 16 := rfl
  have hPB : padB n = List.replicate (padK9 n) (UInt8.ofNat (padK9 n)) := rfl
  have hxk : Hid (((UInt8.ofNat (padK9 n)).toNat : Int) = (padK9 n : Int)) := by show _ = _; rw [UInt8.toNat_ofNat', Nat.mod_eq_of_lt (by omega)]
  rw [hPB]
  generalize UInt8.ofNat (padK9 n) = x at hxk ⊢
  obtain ⟨d, hd⟩ : ∃ d, padK9 n = d := ⟨_, rfl⟩
  rw [hd] at hk hkd hxk ⊢
  have u2 : 16 - (n : Int) % 16 = (d : Int) := by omega
  have u3 : (d : Int) % 256 = (d : Int) := by omega
  have u4 : IntKind.u8.wrap (d : Int) = (d : Int) := by rw [IntKind.wrap_u8]; omega
  have hn31 : 0 + n ≤ 2147483647 := by omega
  obtain ⟨L, HLL⟩ : ∃ L, Hid (bs ++ List.replicate d x = L) := ⟨_, rfl⟩
  rw [HLL.out]
  clear hl hS hkd hd hPB
  go_enter Try.func19, Try.ntmps19
  go_wp2_with (
    at_builtin
    refine wpList_app8 rfl (.tmp 6) (.tmp 7) rfl w.heap.size _ 0 [] rfl ?_ A n c w.heap.size bs rfl ?_ ?_ ?_ ?_ ?_
    · exact own_heap (g := w.heap.size) (heap_alloc_new' w _) (Nat.le_refl _) rfl (Nat.zero_le _)
    · exact HS.out.2.2.below ((Below.refl _ _).alloc (Nat.le_refl _) _)
    · exact HL.out
    · exact hn31
    · simp
    rintro v1 w1 hown hgr
    have HB1 := Lib.hid (((Below.refl w.heap.size w).alloc (Nat.le_refl _) _).grown hgr (by simp) (ge_own w.heap.size 0))
    rw [List.nil_append, Nat.zero_add] at hown
    obtain ⟨A1, c1, rfl, _⟩ := own_read hown
    have HO1 := Lib.hid hown
    clear hgr hown)
  go_loopw [3, 5] (fun v3 v5 wr => ∃ (j m : Nat) (A' : Option Addr) (c' : Nat), j ≤ d ∧ Hid (m = n + j) ∧ v3 = .slice A' m c' ∧ v5 = .int .i64 (j : Int) ∧ Hid (wr.ownsRow w.heap.size 5 1 (.slice A' m c') m ((bs ++ List.replicate j x).map bv)) ∧ Hid (Below w.heap.size w wr)) (fun v3 v5 _ => d - (intOf v5).toNat)
  case atStart => exact ⟨0, n, A1, c1, Nat.zero_le _, rfl, rfl, rfl, by rw [List.replicate_zero, List.append_nil]; exact HO1, HB1⟩
  case round =>
    clear HO1 HB1
    obtain ⟨j, m, A', c', hj, HM, rfl, rfl, HO, HB⟩ := hrel
    have hm31 : m + 1 ≤ 2147483647 := by have h1 := HM.out; omega
    by_cases hlt : j < d
    · have q1 : (j : Int) < (d : Int) := by omega
      obtain ⟨m2, hm2⟩ : ∃ m2, m2 = m + 1 := ⟨_, rfl⟩
      have HM2 := Lib.hid hm2
      have HR := Lib.hid (row_byte wr x (d : Int) hxk.out)
      clear hm2
      go_wp2_with (
        at_builtin
        refine wpList_app8 rfl (.tmp 18) (.tmp 21) rfl w.heap.size _ m (bs ++ List.replicate j x) rfl ?_ (some ⟨wr.heap.size, 0, none⟩) 1 1 (wr.heap.size + 1) [x] rfl ?_ rfl hm31 ?_ ?_
        · exact k_own_alloc HO.out _
        · exact HR.out
        · simp; have := HB.out.size; omega
        rintro v2 w2 hown hgr
        rw [rep_snoc, ← HM2.out] at hown
        obtain ⟨A2, c2, rfl, _⟩ := own_read hown
        have O2 := Lib.hid hown
        have B2 := Lib.hid ((HB.out.alloc HB.out.size (.cells #[.int .u8 (d : Int)] 5)).grown hgr (by simp; have := HB.out.size; omega) (k_own_ge HO.out (Nat.le_refl _)))
        clear hown hgr)
      go_roundw
      case rel => exact ⟨j + 1, m2, A2, c2, hlt, by have h1 := HM.out; have h2 := HM2.out; show _ = _; omega, rfl, by go_num, O2, B2⟩
      case measure => simp [intOf]; omega
    · have q1 : ¬ ((j : Int) < (d : Int)) := by omega
      have HJ : Hid (j = d) := by show _ = _; omega
      go_wp2
      go_ret
      have HO2 : Hid (wr.ownsRow w.heap.size 5 1 (.slice A' (n + d) c') (n + d) (L.map bv)) := by
        have h := HO.out
        rw [HM.out, HJ.out, HLL.out] at h
        exact h
      have hm := HM.out
      rw [HJ.out] at hm
      exact ⟨_, rfl, by subst hm; exact HO2.out, HB.out⟩
end Go.Proofs.Ytpihnggegmbgfaa

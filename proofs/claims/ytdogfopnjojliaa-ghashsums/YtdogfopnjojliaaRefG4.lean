/- palfreyref06.Padded, Sum. -/
import Derived.Test.YtdogfopnjojliaaRefG3
import Derived.Test.YtdogfopnjojliaaGha4
import Derived.Test.YtdogfopnjojliaaSha8
namespace Go.Proofs.Ytdogfopnjojliaa
open Go.RowKit
set_option linter.unusedVariables false
set_option linter.unusedSimpArgs false
theorem g_own_alloc {w : World} {base : Nat} {e : TypeId} {s : Nat} {v : Value} {n : Nat} {xs : List Value} (h : w.ownsRow base e s v n xs) (o : Obj) : (w.alloc o).ownsRow base e s v n xs := g_own_below h ((Below.refl _ _).alloc (Nat.le_refl _) o)
theorem pad_rep (bs : List UInt8) (j : Nat) : (bs ++ List.replicate j (0 : UInt8)) ++ [0] = bs ++ List.replicate (j + 1) 0 := by rw [List.append_assoc, List.replicate_succ']
set_option maxHeartbeats 2000000 in
theorem refGpad_any (A : Option Addr) (n c : Nat) (bs : List UInt8) (w : World) (hl : bs.length = n) (hn : n ≤ 2147000000) (hS : Sl w A c bs) :
    Calls Try.prog 17 #[.slice A n c] w fun e w' => ∃ v, e = .returned v ∧ w'.ownsRow w.heap.size 5 1 v (n + padN n) ((bs ++ List.replicate (padN n) 0).map bv) ∧ Below w.heap.size w w' := by
  have HL := Lib.hid hl; have HS := Lib.hid hS
  have HPD : Hid (padN n ≤ 15 ∧ (n + padN n) % 16 = 0 ∧ ∀ j, j < padN n → (n + j) % 16 ≠ 0) := by
    show _ ∧ _ ∧ _
    unfold padN
    exact ⟨by omega, by omega, fun j hj => by omega⟩
  generalize padN n = d at HPD ⊢
  have hn31 : 0 + n ≤ 2147483647 := by omega
  clear hl hS
  go_enter Try.func17, Try.ntmps17
  go_wp2_with (
    at_builtin
    refine wpList_app8 rfl (.tmp 4) (.tmp 5) rfl w.heap.size _ 0 [] rfl ?_ A n c w.heap.size bs rfl ?_ ?_ ?_ ?_ ?_
    · exact own_heap (g := w.heap.size) (heap_alloc_new' w _) (Nat.le_refl _) rfl (Nat.zero_le _)
    · exact HS.out.2.2.below ((Below.refl _ _).alloc (Nat.le_refl _) _)
    · exact HL.out
    · exact hn31
    · simp
    rintro v1 w1 hown hgr
    have HB1 := Lib.hid (((Below.refl w.heap.size w).alloc (Nat.le_refl _) _).grown hgr (by simp) (ge_own w.heap.size 0))
    rw [List.nil_append, Nat.zero_add] at hown
    obtain ⟨A1, c1, rfl, _⟩ := own_read hown
    have HO1 := Lib.hid hown
    clear hgr hown)
  go_loopw [3] (fun v3 wr => ∃ (j m : Nat) (A' : Option Addr) (c' : Nat), j ≤ d ∧ Hid (m = n + j) ∧ v3 = .slice A' m c' ∧ Hid (wr.ownsRow w.heap.size 5 1 (.slice A' m c') m ((bs ++ List.replicate j 0).map bv)) ∧ Hid (Below w.heap.size w wr)) (fun v3 _ => n + d - sliceLen v3)
  case atStart => exact ⟨0, n, A1, c1, Nat.zero_le _, rfl, rfl, by rw [List.replicate_zero, List.append_nil]; exact HO1, HB1⟩
  case round =>
    clear HO1 HB1
    obtain ⟨j, m, A', c', hj, HM, rfl, HO, HB⟩ := hrel
    have hm31 : m + 1 ≤ 2147483647 := by have h1 := HM.out; have h2 := HPD.out; omega
    by_cases hlt : j < d
    · obtain ⟨r, hr⟩ : ∃ r, r = m % 16 := ⟨_, rfl⟩
      have e1 : (m : Int) % 16 = (r : Int) := by omega
      have e2 : ((r : Int) != 0) = true := by have := HPD.out.2.2 j hlt; have := HM.out; simp; omega
      obtain ⟨m2, hm2⟩ : ∃ m2, m2 = m + 1 := ⟨_, rfl⟩
      have HM2 := Lib.hid hm2
      clear hr hm2
      go_wp2_with (
        at_builtin
        refine wpList_app8 rfl (.tmp 11) (.tmp 12) rfl w.heap.size _ m (bs ++ List.replicate j 0) rfl ?_ (some ⟨wr.heap.size, 0, none⟩) 1 1 (wr.heap.size + 1) [0] rfl ?_ rfl hm31 ?_ ?_
        · exact g_own_alloc HO.out _
        · exact row_of_heap (bs := [0]) (heap_alloc_new' wr (.cells (([0] : List UInt8).map bv).toArray 5)) (Nat.lt_succ_self _)
        · simp; have := HB.out.size; omega
        rintro v2 w2 hown hgr
        rw [pad_rep, ← HM2.out] at hown
        obtain ⟨A2, c2, rfl, _⟩ := own_read hown
        have O2 := Lib.hid hown
        have B2 := Lib.hid ((HB.out.alloc HB.out.size (.cells (([0] : List UInt8).map bv).toArray 5)).grown hgr (by simp; have := HB.out.size; omega) (g_own_ge HO.out (Nat.le_refl _)))
        clear hown hgr)
      go_roundw
      case rel => exact ⟨j + 1, m2, A2, c2, hlt, by have h1 := HM.out; have h2 := HM2.out; show _ = _; omega, rfl, O2, B2⟩
      case measure => have h1 := HM.out; have h2 := HM2.out; simp [sliceLen]; omega
    · obtain ⟨r, hr⟩ : ∃ r, r = m % 16 := ⟨_, rfl⟩
      have hjd : j = d := by omega
      have e1 : (m : Int) % 16 = (r : Int) := by omega
      have e2 : ((r : Int) != 0) = false := by have := HPD.out.2.1; have := HM.out; simp; omega
      have HJ := Lib.hid hjd
      clear hr hjd
      go_wp2
      go_ret
      exact ⟨_, rfl, by have h := HO.out; rw [HM.out, HJ.out] at h; rw [HM.out, HJ.out]; exact h, HB.out⟩
/-- a block so far: the first k bytes mixed -/
def mixK (S : List UInt8) (f : Nat → UInt8) (k : Nat) : List UInt8 := (mixF S f).take k ++ S.drop k
theorem mixK_len (S : List UInt8) (f : Nat → UInt8) (k : Nat) (hS : S.length = 16) (hk : k ≤ 16) : (mixK S f k).length = 16 := by simp [mixK, mixF_len, hS]; omega
theorem mixK_get (S : List UInt8) (f : Nat → UInt8) (k : Nat) (hS : S.length = 16) (hk : k < 16) : (mixK S f k).getD k 0 = S.getD k 0 := by
  have hl : ((mixF S f).take k).length = k := by rw [List.length_take, mixF_len]; omega
  rw [mixK, List.getD_eq_getElem?_getD, List.getElem?_append_right (by omega), hl, List.getElem?_drop, List.getD_eq_getElem?_getD]; simp
theorem mixK_step (S : List UInt8) (f : Nat → UInt8) (k : Nat) (hS : S.length = 16) (hk : k < 16) : (mixK S f k).set k (S.getD k 0 ^^^ f k) = mixK S f (k + 1) := by
  have hl : ((mixF S f).take k).length = k := by rw [List.length_take, mixF_len]; omega
  have ha : k < (mixF S f).length := by rw [mixF_len]; exact hk
  unfold mixK
  rw [List.set_append_right _ _ (by omega), hl, Nat.sub_self, List.drop_eq_getElem_cons (by omega), List.set_cons_zero, List.take_succ_eq_append_getElem ha, List.append_assoc]
  congr 1
  simp [mixF]
theorem mixK_zero (S : List UInt8) (f : Nat → UInt8) : mixK S f 0 = S := by simp [mixK]
theorem mixK_end (S : List UInt8) (f : Nat → UInt8) (hS : S.length = 16) : mixK S f 16 = mixF S f := by
  rw [mixK, List.take_of_length_le (by rw [mixF_len]; omega), List.drop_of_length_le (by omega), List.append_nil]
theorem byteF_padded (bs : List UInt8) (d i : Nat) : (bs ++ List.replicate d 0).getD i 0 = byteF bs i := by
  unfold byteF
  rw [List.getD_eq_getElem?_getD, List.getD_eq_getElem?_getD]
  by_cases h : i < bs.length
  · rw [List.getElem?_append_left h]
  · rw [List.getElem?_append_right (by omega), List.getElem?_replicate, List.getElem?_eq_none (by omega : bs.length ≤ i)]
    split <;> rfl
end Go.Proofs.Ytdogfopnjojliaa

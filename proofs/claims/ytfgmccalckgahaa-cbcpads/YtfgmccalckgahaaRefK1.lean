/- palfreyref09.Unpadded, Padded. -/
import Derived.Test.YtfgmccalckgahaaCbc1
namespace Go.Proofs.Ytfgmccalckgahaa
open Go.RowKit
set_option linter.unusedVariables false
set_option linter.unusedSimpArgs false
set_option maxRecDepth 100000
theorem upO_bad (b : List UInt8) (n : Nat) (hl : b.length = n) (hn : 0 < n) (hr : n % 16 = 0) (h : (b.getD (n - 1) 0).toNat < 1 ∨ 16 < (b.getD (n - 1) 0).toNat) : upO b = none := by
  rw [upO, if_neg (by omega), hl]
  generalize (b.getD (n - 1) 0).toNat = z at h
  rw [if_neg]
  rintro ⟨h1, h2⟩
  have := congrArg List.length h2
  rw [List.length_drop, padB_len, hl] at this
  have := padK9_le (n - z)
  omega
theorem padB_at (n z : Nat) (hr : n % 16 = 0) (h1 : 1 ≤ z) (h2 : z ≤ 16) (h3 : z ≤ n) : padB (n - z) = List.replicate z (UInt8.ofNat z) := by
  have : padK9 (n - z) = z := by unfold padK9; omega
  rw [padB, this]
theorem upO_good (b : List UInt8) (n : Nat) (x : UInt8) (hl : b.length = n) (hn : 0 < n) (hr : n % 16 = 0) (hx : b.getD (n - 1) 0 = x) (h1 : 1 ≤ x.toNat) (h2 : x.toNat ≤ 16) (h : ∀ j, n - x.toNat ≤ j → j < n → b.getD j 0 = x) : upO b = some (n - x.toNat) := by
  rw [upO, if_neg (by omega), hl, hx, if_pos]
  refine ⟨by omega, ?_⟩
  rw [padB_at n _ hr h1 h2 (by omega)]
  have hof : UInt8.ofNat x.toNat = x := by apply UInt8.toNat_inj.1; rw [UInt8.toNat_ofNat', Nat.mod_eq_of_lt x.toNat_lt]
  rw [hof]
  apply List.ext_getElem
  · rw [List.length_drop, List.length_replicate, hl]; omega
  · intro j g1 g2
    rw [List.length_drop, hl] at g1
    rw [List.getElem_drop, List.getElem_replicate]
    have := h (n - x.toNat + j) (by omega) (by omega)
    rw [List.getD_eq_getElem?_getD, List.getElem?_eq_getElem (by omega)] at this
    exact this
theorem upO_not (b : List UInt8) (n j : Nat) (x : UInt8) (hl : b.length = n) (hn : 0 < n) (hr : n % 16 = 0) (hx : b.getD (n - 1) 0 = x) (h1 : 1 ≤ x.toNat) (h2 : x.toNat ≤ 16) (hj : n - x.toNat ≤ j) (hjn : j < n) (h : b.getD j 0 ≠ x) : upO b = none := by
  rw [upO, if_neg (by omega), hl, hx, if_neg]
  rintro ⟨g1, g2⟩
  rw [padB_at n _ hr h1 h2 (by omega)] at g2
  have hof : UInt8.ofNat x.toNat = x := by apply UInt8.toNat_inj.1; rw [UInt8.toNat_ofNat', Nat.mod_eq_of_lt x.toNat_lt]
  rw [hof] at g2
  have := congrArg (fun l : List UInt8 => l[j - (n - x.toNat)]?) g2
  simp only [List.getElem?_drop, List.getElem?_replicate] at this
  rw [show n - x.toNat + (j - (n - x.toNat)) = j by omega, if_pos (by omega)] at this
  apply h
  rw [List.getD_eq_getElem?_getD, this]; rfl
set_option maxHeartbeats 2000000 in
theorem refUnp_any (A : Option Addr) (n c : Nat) (b : List UInt8) (w : World) (hl : b.length = n) (hn : n ≤ 2147483647) (hS : Sl w A c b) :
    Calls Try.prog 18 #[.slice A n c] w fun e w' => e = .returned (.int .i64 (upR (upO b))) ∧ w = w' := by
  by_cases h0 : n = 0
  · have HU : Hid (upO b = none) := by show _ = _; rw [upO, if_pos (.inl (hl.trans h0))]
    rw [HU.out]
    have e1 : ((n : Int) == 0) = true := by simp [h0]
    clear hl hS h0
    go_enter Try.func18, Try.ntmps18
    go_wp2
    go_ret
    exact ⟨rfl, rfl⟩
  have e1 : ((n : Int) == 0) = false := by simp; omega
  obtain ⟨r, hr⟩ : ∃ r, r = n % 16 := ⟨_, rfl⟩
  have e2 : (n : Int) % 16 = (r : Int) := by omega
  by_cases hr0 : r = 0
  · have e3 : ((r : Int) != 0) = false := by simp [hr0]
    have hr16 : n % 16 = 0 := by omega
    have hn0 : 0 < n := by omega
    obtain ⟨z, hz⟩ : ∃ z, b.getD (n - 1) 0 = z := ⟨_, rfl⟩
    obtain ⟨b0, o0, hA, _, hcell⟩ := c_sl_cell hS (i := n - 1) (by omega)
    have c1 := hcell (n - 1) (by omega)
    rw [hz] at c1
    obtain ⟨n1, hn1⟩ : ∃ n1, n1 = n - 1 := ⟨_, rfl⟩
    rw [← hn1] at c1
    have e4 : (n : Int) - 1 = (n1 : Int) := by omega
    have e5 : (n1 : Int) < (n : Int) := by omega
    have HC := Lib.hid hcell
    have HL := Lib.hid hl
    have hz8 : z.toNat < 256 := z.toNat_lt
    subst hA
    by_cases hb1 : z.toNat < 1
    · have HU := Lib.hid (upO_bad b n hl hn0 hr16 (.inl (by rw [hz]; exact hb1)))
      rw [HU.out]
      have e6 : (z.toNat : Int) < 1 := by omega
      clear hcell hr hr0 hl hS hn1 hz h0
      go_enter Try.func18, Try.ntmps18
      go_wp2
      go_ret
      exact ⟨rfl, rfl⟩
    have e6 : ¬ ((z.toNat : Int) < 1) := by omega
    by_cases hb2 : 16 < z.toNat
    · have HU := Lib.hid (upO_bad b n hl hn0 hr16 (.inr (by rw [hz]; exact hb2)))
      rw [HU.out]
      have e7 : (16 : Int) < (z.toNat : Int) := by omega
      clear hcell hr hr0 hl hS hn1 hz h0
      go_enter Try.func18, Try.ntmps18
      go_wp2
      go_ret
      exact ⟨rfl, rfl⟩
    have e7 : ¬ ((16 : Int) < (z.toNat : Int)) := by omega
    have HG := Lib.hid (upO_good b n z hl hn0 hr16 hz (by omega) (by omega))
    have HB := Lib.hid (fun j => upO_not b n j z hl hn0 hr16 hz (by omega) (by omega))
    obtain ⟨m, hm⟩ : ∃ m, m = n - z.toNat := ⟨_, rfl⟩
    have e8 : (n : Int) - (z.toNat : Int) = (m : Int) := by omega
    rw [← hm] at HG HB
    have hmn : m ≤ n := by omega
    have HMN := Lib.hid hmn
    obtain ⟨u, HU⟩ : ∃ u, Hid (upO b = u) := ⟨_, rfl⟩
    rw [HU.out] at HG HB ⊢
    clear hcell hr hr0 hl hS hn1 hz h0 hm hb1 hb2 hmn hr16 hn0
    go_enter Try.func18, Try.ntmps18
    go_wp2_with fail
    go_loop [4] (fun vi => ∃ (i : Nat), m ≤ i ∧ i ≤ n ∧ vi = .int .i64 (i : Int) ∧ Hid (∀ j, m ≤ j → j < i → b.getD j 0 = z)) (fun i => n - (intOf i).toNat)
    case atStart => exact ⟨m, Nat.le_refl _, HMN.out, rfl, fun j h1 h2 => by omega⟩
    case round =>
      obtain ⟨i, hmi, hin, rfl, HJ⟩ := hrel
      by_cases hlt : i < n
      · have q1 : (i : Int) < (n : Int) := by omega
        have c2 := HC.out i (by rw [HL.out]; exact hlt)
        obtain ⟨x, hx⟩ : ∃ x, b.getD i 0 = x := ⟨_, rfl⟩
        rw [hx] at c2
        have hx8 : x.toNat < 256 := x.toNat_lt
        by_cases hxz : x = z
        · have q2 : ((x.toNat : Int) != (z.toNat : Int)) = false := by simp [hxz]
          have HJ2 : Hid (∀ j, m ≤ j → j < i + 1 → b.getD j 0 = z) := fun j h1 h2 => by
            by_cases hji : j < i
            · exact HJ.out j h1 hji
            · rw [show j = i by omega, hx, hxz]
          clear hx hxz
          go_wp2
          go_round
          case rel => exact ⟨i + 1, by omega, by omega, by go_num, HJ2⟩
          case measure => simp [intOf]; omega
        · have q2 : ((x.toNat : Int) != (z.toNat : Int)) = true := by
            simp only [bne_iff_ne, ne_eq]
            intro h
            exact hxz (UInt8.toNat_inj.1 (by omega))
          have HN : Hid (u = none) := HB.out i hmi hlt (by rw [hx]; exact hxz)
          clear hx hxz
          go_wp2
          go_ret
          exact ⟨by rw [HN.out]; rfl, rfl⟩
      · have q1 : ¬ ((i : Int) < (n : Int)) := by omega
        have HN : Hid (u = some m) := HG.out (fun j h1 h2 => HJ.out j h1 (by omega))
        go_wp2
        go_ret
        exact ⟨by rw [HN.out]; rfl, rfl⟩
  · have e3 : ((r : Int) != 0) = true := by simpa using hr0
    have HU : Hid (upO b = none) := by show _ = _; rw [upO, if_pos (.inr (by rw [hl]; omega))]
    rw [HU.out]
    clear hl hS hr
    go_enter Try.func18, Try.ntmps18
    go_wp2
    go_ret
    exact ⟨rfl, rfl⟩
end Go.Proofs.Ytfgmccalckgahaa

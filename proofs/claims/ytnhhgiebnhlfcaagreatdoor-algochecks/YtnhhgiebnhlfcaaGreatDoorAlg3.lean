/- algo.kinds: what is known of each algorithm. -/
import Derived.Test.YtnhhgiebnhlfcaaGreatDoorAlg2
import Derived.Test.YtnhhgiebnhlfcaaGreatDoorMap1
import Derived.Test.YtnhhgiebnhlfcaaGreatDoorReg6
import Derived.Test.YtnhhgiebnhlfcaaGreatDoorRefS1
import Derived.Test.YtnhhgiebnhlfcaaGreatDoorSha7
import Derived.RangeFuncOwn
import Derived.Great.Frames
namespace Go.Proofs.YtnhhgiebnhlfcaaGreatDoor
open Go.RowKit Go.Shelf
set_option linter.unusedVariables false
set_option linter.unusedSimpArgs false
set_option maxRecDepth 100000
def clsK : Nat → Int
  | 1 => 1 | 2 => 1 | 3 => 2 | 4 => 3 | 5 => 4 | 6 => 5 | _ => 0
def aadK : Nat → Int
  | 5 => 1000 | 6 => 1000 | _ => 0
def keyP : Nat → Nat → Bool
  | 1 => fun n => decide (n ∈ ([0] : List Nat))
  | 2 => fun n => decide (1 ≤ n) && decide (n ≤ 100)
  | 6 => fun n => decide (n ∈ ([32] : List Nat))
  | _ => fun n => decide (n ∈ ([16, 32] : List Nat))
def ivP : Nat → Nat → Bool
  | 1 => fun n => decide (n ∈ ([0] : List Nat))
  | 2 => fun n => decide (n ∈ ([0] : List Nat))
  | 5 => fun n => decide (1 ≤ n) && decide (n ≤ 64)
  | 6 => fun n => decide (n ∈ ([12] : List Nat))
  | _ => fun n => decide (n ∈ ([16] : List Nat))
def roomP : Nat → Bool → Nat → Int × Int
  | 1, _ => fun _ => (((32 : Nat) : Int), 0)
  | 2, _ => fun _ => (((32 : Nat) : Int), 0)
  | 3, _ => lessR 0
  | 4, false => fun n => (((n - n % 16 + 16 : Nat) : Int), 0)
  | 4, true => wholeR
  | _, false => fun n => ((n : Int) + ((16 : Nat) : Int), 0)
  | _, true => lessR 16
/-- what is done, by which function -/
def DoV (n0 : Nat) (W : World) : Nat → Bool → Value → Prop
  | 1, _, d => d = .func (.func 53) #[] #[]
  | 2, _, d => d = .func (.func 55) #[] #[]
  | 3, _, d => ByAes n0 W d 51
  | 4, false, d => ByAes n0 W d 57
  | 4, true, d => ByAes n0 W d 59
  | 5, false, d => ByAes n0 W d 61
  | 5, true, d => ByAes n0 W d 62
  | _, false, d => ByKey n0 W d 64
  | _, true, d => ByKey n0 W d 65
/-- an algorithm has a direction -/
def hasW (k : Nat) (o : Bool) : Bool := !(o && decide (k ≤ 2))
def WayRD (n0 : Nat) (W : World) (k : Nat) (o : Bool) (r d : Value) : Prop :=
  if hasW k o = true then RoomV n0 W r (roomP k o) ∧ DoV n0 W k o d else r = .nilFunc ∧ d = .nilFunc
def WayV (n0 : Nat) (W : World) (v : Value) (k : Nat) (o : Bool) : Prop := ∃ r d, v = .agg #[r, d] ∧ RoomV n0 W r (roomP k o) ∧ DoV n0 W k o d
def KindAt (n0 : Nat) (W : World) (v : Value) (k : Nat) : Prop := ∃ key iv r1 d1 r2 d2, v = .agg #[.int .i64 (clsK k), key, iv, .int .i64 (aadK k), r1, d1, r2, d2] ∧ FitV n0 W key (keyP k) ∧ FitV n0 W iv (ivP k) ∧ WayRD n0 W k false r1 d1 ∧ WayRD n0 W k true r2 d2
theorem DoV.keep' {n0 : Nat} {W W' : World} (hk : KeepL n0 W W') : ∀ (k : Nat) (o : Bool) (d : Value), DoV n0 W k o d → DoV n0 W' k o d
  | 0, false, _, h => ByKey.keep h hk
  | 0, true, _, h => ByKey.keep h hk
  | 1, _, _, h => h
  | 2, _, _, h => h
  | 3, _, _, h => ByAes.keep h hk
  | 4, false, _, h => ByAes.keep h hk
  | 4, true, _, h => ByAes.keep h hk
  | 5, false, _, h => ByAes.keep h hk
  | 5, true, _, h => ByAes.keep h hk
  | _ + 6, false, _, h => ByKey.keep h hk
  | _ + 6, true, _, h => ByKey.keep h hk
theorem DoV.keep {n0 : Nat} {W W' : World} {k : Nat} {o : Bool} {d : Value} (h : DoV n0 W k o d) (hk : KeepL n0 W W') : DoV n0 W' k o d := DoV.keep' hk k o d h
theorem WayRD.keep {n0 : Nat} {W W' : World} {k : Nat} {o : Bool} {r d : Value} (h : WayRD n0 W k o r d) (hk : KeepL n0 W W') : WayRD n0 W' k o r d := by
  unfold WayRD at h ⊢
  by_cases h1 : hasW k o = true
  · rw [if_pos h1] at h ⊢
    exact ⟨h.1.keep hk, h.2.keep hk⟩
  · rw [if_neg h1] at h ⊢
    exact h
theorem WayV.keep {n0 : Nat} {W W' : World} {v : Value} {k : Nat} {o : Bool} (h : WayV n0 W v k o) (hk : KeepL n0 W W') : WayV n0 W' v k o := by
  obtain ⟨r, d, h1, h2, h3⟩ := h
  exact ⟨r, d, h1, h2.keep hk, h3.keep hk⟩
theorem KindAt.keep {n0 : Nat} {W W' : World} {v : Value} {k : Nat} (h : KindAt n0 W v k) (hk : KeepL n0 W W') : KindAt n0 W' v k := by
  obtain ⟨a, b, c, d, e, f, h1, h2, h3, h4, h5⟩ := h
  exact ⟨a, b, c, d, e, f, h1, h2.keep hk, h3.keep hk, h4.keep hk, h5.keep hk⟩
def dkl : List Nat := [11, 12, 13, 14, 15, 16, 106, 17, 18, 19, 20, 21, 112, 22, 23, 24, 25, 26, 27, 119, 28, 29, 30, 31, 32, 33, 34, 35, 128, 36, 37, 38, 39, 40, 41, 42, 43, 44, 138, 45, 46, 47, 48, 49, 50, 51, 52, 53, 54, 55, 150, 56, 0]
def dk (i : Nat) : Nat := dkl.getD i 0
theorem dk_inj : ∀ i, i < 53 → ∀ j, j < 53 → i ≠ j → dk i ≠ dk j := by decide
theorem dk_base : ∀ i, i < 51 → 3 < dk i := by decide
def insK : Nat → Option Nat
  | 1 => some 6 | 2 => some 12 | 3 => some 19 | 4 => some 28 | 5 => some 38 | 6 => some 50 | _ => none
def DoneK (L : Nat → Bool) (k : Nat) : Prop := ∃ i, insK k = some i ∧ L i = true
def isIns (i : Nat) : Bool := i == 6 || i == 12 || i == 19 || i == 28 || i == 38 || i == 50
theorem insK_is {k i : Nat} (h : insK k = some i) : isIns i = true := by
  unfold insK at h
  split at h <;> first | (injection h with h; subst h; rfl) | cases h
theorem insK_lt {k i : Nat} (h : insK k = some i) : i < 51 ∧ 0 < i := by
  unfold insK at h
  split at h <;> first | (injection h with h; subst h; exact ⟨by decide, by decide⟩) | cases h
def kOf : Nat → Nat
  | 6 => 1 | 12 => 2 | 19 => 3 | 28 => 4 | 38 => 5 | 50 => 6 | _ => 0
theorem insK_kOf {k i : Nat} (h : insK k = some i) : kOf i = k := by
  unfold insK at h
  split at h <;> first | (injection h with h; subst h; rfl) | cases h
theorem insK_inj {k k' i : Nat} (h : insK k = some i) (h' : insK k' = some i) : k = k' := (insK_kOf h).symm.trans (insK_kOf h')
/-- what each operation leaves in its slot -/
def KP (n0 : Nat) (W : World) (v : Value) : Nat → Prop
  | 1 => FitV n0 W v (fun n => decide (n ∈ ([0] : List Nat)))
  | 2 => FitV n0 W v (fun n => decide (n ∈ ([0] : List Nat)))
  | 3 => RoomV n0 W v (fun _ => (((32 : Nat) : Int), 0))
  | 4 => WayV n0 W v 1 false
  | 5 => KindAt n0 W v 1
  | 7 => FitV n0 W v (fun n => decide (1 ≤ n) && decide (n ≤ 100))
  | 8 => FitV n0 W v (fun n => decide (n ∈ ([0] : List Nat)))
  | 9 => RoomV n0 W v (fun _ => (((32 : Nat) : Int), 0))
  | 10 => WayV n0 W v 2 false
  | 11 => KindAt n0 W v 2
  | 13 => FitV n0 W v (fun n => decide (n ∈ ([16, 32] : List Nat)))
  | 14 => IntsV n0 W v [16]
  | 15 => FitV n0 W v (fun n => decide (n ∈ ([16] : List Nat)))
  | 16 => WayV n0 W v 3 false
  | 17 => WayV n0 W v 3 true
  | 18 => KindAt n0 W v 3
  | 20 => FitV n0 W v (fun n => decide (n ∈ ([16, 32] : List Nat)))
  | 21 => IntsV n0 W v [16]
  | 22 => FitV n0 W v (fun n => decide (n ∈ ([16] : List Nat)))
  | 23 => ByAes n0 W v 57
  | 24 => WayV n0 W v 4 false
  | 25 => ByAes n0 W v 59
  | 26 => WayV n0 W v 4 true
  | 27 => KindAt n0 W v 4
  | 29 => FitV n0 W v (fun n => decide (n ∈ ([16, 32] : List Nat)))
  | 30 => FitV n0 W v (fun n => decide (1 ≤ n) && decide (n ≤ 64))
  | 31 => RoomV n0 W v (fun n => ((n : Int) + ((16 : Nat) : Int), 0))
  | 32 => ByAes n0 W v 61
  | 33 => WayV n0 W v 5 false
  | 34 => RoomV n0 W v (lessR 16)
  | 35 => ByAes n0 W v 62
  | 36 => WayV n0 W v 5 true
  | 37 => KindAt n0 W v 5
  | 39 => IntsV n0 W v [32]
  | 40 => FitV n0 W v (fun n => decide (n ∈ ([32] : List Nat)))
  | 41 => IntsV n0 W v [12]
  | 42 => FitV n0 W v (fun n => decide (n ∈ ([12] : List Nat)))
  | 43 => RoomV n0 W v (fun n => ((n : Int) + ((16 : Nat) : Int), 0))
  | 44 => ByKey n0 W v 64
  | 45 => WayV n0 W v 6 false
  | 46 => RoomV n0 W v (lessR 16)
  | 47 => ByKey n0 W v 65
  | 48 => WayV n0 W v 6 true
  | 49 => KindAt n0 W v 6
  | _ => True
theorem KP.keep' {n0 : Nat} {W W' : World} {v : Value} (hk : KeepL n0 W W') : ∀ i, KP n0 W v i → KP n0 W' v i
  | 0, _ => trivial
  | 1, h => FitV.keep h hk
  | 2, h => FitV.keep h hk
  | 3, h => RoomV.keep h hk
  | 4, h => WayV.keep h hk
  | 5, h => KindAt.keep h hk
  | 6, _ => trivial
  | 7, h => FitV.keep h hk
  | 8, h => FitV.keep h hk
  | 9, h => RoomV.keep h hk
  | 10, h => WayV.keep h hk
  | 11, h => KindAt.keep h hk
  | 12, _ => trivial
  | 13, h => FitV.keep h hk
  | 14, h => IntsV.keep h hk
  | 15, h => FitV.keep h hk
  | 16, h => WayV.keep h hk
  | 17, h => WayV.keep h hk
  | 18, h => KindAt.keep h hk
  | 19, _ => trivial
  | 20, h => FitV.keep h hk
  | 21, h => IntsV.keep h hk
  | 22, h => FitV.keep h hk
  | 23, h => ByAes.keep h hk
  | 24, h => WayV.keep h hk
  | 25, h => ByAes.keep h hk
  | 26, h => WayV.keep h hk
  | 27, h => KindAt.keep h hk
  | 28, _ => trivial
  | 29, h => FitV.keep h hk
  | 30, h => FitV.keep h hk
  | 31, h => RoomV.keep h hk
  | 32, h => ByAes.keep h hk
  | 33, h => WayV.keep h hk
  | 34, h => RoomV.keep h hk
  | 35, h => ByAes.keep h hk
  | 36, h => WayV.keep h hk
  | 37, h => KindAt.keep h hk
  | 38, _ => trivial
  | 39, h => IntsV.keep h hk
  | 40, h => FitV.keep h hk
  | 41, h => IntsV.keep h hk
  | 42, h => FitV.keep h hk
  | 43, h => RoomV.keep h hk
  | 44, h => ByKey.keep h hk
  | 45, h => WayV.keep h hk
  | 46, h => RoomV.keep h hk
  | 47, h => ByKey.keep h hk
  | 48, h => WayV.keep h hk
  | 49, h => KindAt.keep h hk
  | 50, _ => trivial
  | _ + 51, _ => trivial
theorem KP.keep {n0 : Nat} {W W' : World} {v : Value} {i : Nat} (h : KP n0 W v i) (hk : KeepL n0 W W') : KP n0 W' v i := KP.keep' hk i h
def MapS (n0 b : Nat) (v : Value) (W : World) (D : Nat → Prop) : Prop := ∃ g es clock ks, v = .map (some g) ∧ b ≤ g ∧ W.heap[g]? = some (.map es clock) ∧ Ents es.toList ks ∧ (∀ x E, kGet ks x = some E → ∃ k : Nat, x = (k : Int) ∧ KindAt n0 W E k) ∧ ∀ k : Nat, (∃ E, kGet ks (k : Int) = some E) ↔ D k
theorem MapS.ext {n0 b : Nat} {v : Value} {W W' : World} {D : Nat → Prop} (h : MapS n0 b v W D) (hb : Below W.heap.size W W') : MapS n0 b v W' D := by
  obtain ⟨g, es, clock, ks, h1, h2, h3, h4, h5, h6⟩ := h
  exact ⟨g, es, clock, ks, h1, h2, (hb.block _ (Array.getElem?_eq_some_iff.1 h3).1).trans h3, h4, fun x E hx => by
    obtain ⟨k, hk, hK⟩ := h5 x E hx
    exact ⟨k, hk, hK.keep (KeepL.of hb)⟩, h6⟩
/-- what holds while the region goes on -/
structure KJ (n0 : Nat) (w0 : World) (v1 v2 v3 : Value) (L : Nat → Bool) (a : Act) (W : World) : Prop where
  sz : a.tmps.size = 57
  df : a.defers = []
  n : n0 ≤ w0.heap.size
  b : Below w0.heap.size w0 W
  s1 : a.eval (.tmp 1) = v1
  s2 : a.eval (.tmp 2) = v2
  s3 : a.eval (.tmp 3) = v3
  f : ∀ i, i < 51 → L i = true → KP n0 W (a.eval (.tmp (dk i))) i
  m : L 0 = true → MapS n0 w0.heap.size (a.eval (.tmp 11)) W (DoneK L)
  dn : ∀ k, DoneK L k → L 0 = true
  t : (L 51 = true → a.eval (.tmp 56) = a.eval (.tmp 11)) ∧ (L 52 = true → L 51 = true ∧ a.eval (.tmp 0) = a.eval (.tmp 11)) ∧ (L 51 = true → ∀ i, i < 51 → L i = true)
theorem put_size (a : Act) (d : Nat) (x : Value) : (a.put (some d) x).tmps.size = a.tmps.size := by simp [Act.put]
theorem done_up {L : Nat → Bool} {i : Nat} (hi : isIns i = false) : DoneK (fun j => if j = i then true else L j) = DoneK L := by
  funext k
  apply propext
  constructor
  · rintro ⟨j, h1, h2⟩
    have hj := insK_is h1
    have hne : j ≠ i := fun e => by rw [e, hi] at hj; cases hj
    exact ⟨j, h1, by simpa [hne] using h2⟩
  · rintro ⟨j, h1, h2⟩
    exact ⟨j, h1, by simp [h2]⟩
theorem KJ.ext {n0 : Nat} {w0 : World} {v1 v2 v3 : Value} {L : Nat → Bool} {a : Act} {W W' : World} (H : KJ n0 w0 v1 v2 v3 L a W) (i d : Nat) (hi : i < 51) (h0 : i ≠ 0) (hI : isIns i = false) (hd : dk i = d) (hLi : L i = false) (hb : Below W.heap.size W W') (x : Value) (hx : KP n0 W' x i) :
    KJ n0 w0 v1 v2 v3 (fun j => if j = i then true else L j) (a.put (some d) x) W' := by
  have hdb := dk_base i hi
  rw [hd] at hdb
  have hn11 : d ≠ 11 := by rw [← hd]; exact fun e => dk_inj i (by omega) 0 (by omega) h0 e
  have h51 : L 51 = false := by
    cases h : L 51 with
    | false => rfl
    | true => rw [H.t.2.2 h i hi] at hLi; cases hLi
  have h52 : L 52 = false := by
    cases h : L 52 with
    | false => rfl
    | true => rw [(H.t.2.1 h).1] at h51; cases h51
  have ev : ∀ s, s ≠ d → (a.put (some d) x).eval (.tmp s) = a.eval (.tmp s) := fun s hs => Act.eval_put_ne a d s x (fun e => hs e.symm)
  refine ⟨by rw [put_size]; exact H.sz, H.df, H.n, H.b.step hb, by rw [ev 1 (by omega)]; exact H.s1, by rw [ev 2 (by omega)]; exact H.s2, by rw [ev 3 (by omega)]; exact H.s3, fun j hj hL => ?_, fun hL => ?_, fun k hk => ?_, ⟨fun h => ?_, fun h => ?_, fun h => ?_⟩⟩
  · by_cases e : j = i
    · subst e
      rw [hd]
      by_cases hlt : d < a.tmps.size
      · rw [Act.eval_put_same a d x hlt]; exact hx
      · exfalso
        have := H.sz
        have h57 : ∀ i, i < 51 → isIns i = false → dk i < 57 := by decide
        have := h57 j hj hI
        omega
    · rw [ev (dk j) (by rw [← hd]; exact dk_inj j (by omega) i (by omega) e)]
      have hL' : L j = true := by simpa [e] using hL
      exact (H.f j hj hL').keep (KeepL.of hb)
  · rw [done_up hI, ev 11 (by omega)]
    exact (H.m (by simpa [Ne.symm h0] using hL)).ext hb
  · rw [done_up hI] at hk
    have := H.dn k hk
    simp [this]
  · exact (upF h51 (by omega) h).elim
  · exact (upF h52 (by omega) h).elim
  · exact (upF h51 (by omega) h).elim
/-- the map is made -/
theorem KJ.mk0 {n0 : Nat} {w0 : World} {v1 v2 v3 : Value} {L : Nat → Bool} {a : Act} {W : World} (H : KJ n0 w0 v1 v2 v3 L a W) (hLi : L 0 = false) :
    KJ n0 w0 v1 v2 v3 (fun j => if j = 0 then true else L j) (a.put (some 11) (.map (some W.heap.size))) (W.alloc (.map #[] 0)) := by
  have hb : Below W.heap.size W (W.alloc (.map #[] 0)) := (Below.refl _ _).alloc (Nat.le_refl _) _
  have h51 : L 51 = false := by
    cases h : L 51 with
    | false => rfl
    | true => rw [H.t.2.2 h 0 (by omega)] at hLi; cases hLi
  have h52 : L 52 = false := by
    cases h : L 52 with
    | false => rfl
    | true => rw [(H.t.2.1 h).1] at h51; cases h51
  have ev : ∀ s, s ≠ 11 → (a.put (some 11) (.map (some W.heap.size))).eval (.tmp s) = a.eval (.tmp s) := fun s hs => Act.eval_put_ne a 11 s _ (fun e => hs e.symm)
  refine ⟨by rw [put_size]; exact H.sz, H.df, H.n, H.b.step hb, by rw [ev 1 (by decide)]; exact H.s1, by rw [ev 2 (by decide)]; exact H.s2, by rw [ev 3 (by decide)]; exact H.s3, fun j hj hL => ?_, fun hL => ?_, fun k hk => ?_, ⟨fun h => ?_, fun h => ?_, fun h => ?_⟩⟩
  · by_cases e : j = 0
    · subst e; exact trivial
    · rw [ev (dk j) (fun h => dk_inj j (by omega) 0 (by omega) e h)]
      have hL' : L j = true := by simpa [e] using hL
      exact (H.f j hj hL').keep (KeepL.of hb)
  · rw [Act.eval_put_same a 11 _ (by have := H.sz; omega), done_up (by rfl)]
    refine ⟨_, #[], 0, [], rfl, H.b.size, World.alloc_heap_new W _, rfl, fun x E h => by simp [kGet] at h, fun k => ⟨fun ⟨E, h⟩ => by simp [kGet] at h, fun h => ?_⟩⟩
    rw [H.dn k h] at hLi; cases hLi
  · rfl
  · exact (upF h51 (by omega) h).elim
  · exact (upF h52 (by omega) h).elim
  · exact (upF h51 (by omega) h).elim
/-- an entry is put in -/
theorem KJ.ins {n0 : Nat} {w0 : World} {v1 v2 v3 : Value} {L : Nat → Bool} {a : Act} {W : World} (H : KJ n0 w0 v1 v2 v3 L a W) (i k : Nat) (hi : insK k = some i) (hLi : L i = false) (h0 : L 0 = true) (E : Value) (hE : KindAt n0 W E k) (mt kt et : TypeId) (hT : Tryz.prog.underlying mt = some (.map kt et)) (hK : Tryz.prog.underlying kt = some (.int .i64)) :
    ∃ W', (Instr.mapUpdate mt (a.eval (.tmp 11)) (.int .i64 (k : Int)) E).run Tryz.prog W = .ok () W' ∧ KJ n0 w0 v1 v2 v3 (fun j => if j = i then true else L j) (a.put none undef) W' := by
  obtain ⟨g, es, clock, ks, h1, h2, h3, h4, h5, h6⟩ := H.m h0
  have hnone : kGet ks (k : Int) = none := by
    cases h : kGet ks (k : Int) with
    | none => rfl
    | some E' =>
      obtain ⟨j, hj1, hj2⟩ := (h6 k).1 ⟨E', h⟩
      rw [hi] at hj1
      injection hj1 with hj1
      rw [← hj1, hLi] at hj2; cases hj2
  have hrun := run_mapNew hT hK h3 h4 (k : Int) E hnone
  have hlt : g < W.heap.size := (Array.getElem?_eq_some_iff.1 h3).1
  rw [← h1] at hrun
  refine ⟨_, hrun, ?_⟩
  have hil := insK_lt hi
  have h51 : L 51 = false := by
    cases h : L 51 with
    | false => rfl
    | true => rw [H.t.2.2 h i hil.1] at hLi; cases hLi
  have h52 : L 52 = false := by
    cases h : L 52 with
    | false => rfl
    | true => rw [(H.t.2.1 h).1] at h51; cases h51
  have hkeep : KeepL n0 W (W.putObj g (.map (es.push { key := .int .i64 (k : Int), val := E, born := clock }) (clock + 1))) := by
    refine ⟨by simp, fun j cs t fr _ hj => ?_⟩
    have hne : j ≠ g := fun e => by rw [e, h3] at hj; cases hj
    exact (World.putObj_heap_other (by omega)).trans hj
  have hnew : (W.putObj g (.map (es.push { key := .int .i64 (k : Int), val := E, born := clock }) (clock + 1))).heap[g]? = some (.map (es.push { key := .int .i64 (k : Int), val := E, born := clock }) (clock + 1)) := World.putObj_heap_same hlt
  refine ⟨H.sz, H.df, H.n, ?_, H.s1, H.s2, H.s3, fun j hj hL => ?_, fun hL => ?_, fun k' hk' => ?_, ⟨fun h => ?_, fun h => ?_, fun h => ?_⟩⟩
  · exact H.b.grown (grownBy_putObj' W g _) H.b.size (fun k e => by cases e; exact h2)
  · by_cases e : j = i
    · subst e
      have hii := insK_is hi
      unfold KP
      split <;> first | exact trivial | (exfalso; revert hii; decide)
    · have hL' : L j = true := by simpa [e] using hL
      exact (H.f j hj hL').keep hkeep
  · refine ⟨g, _, _, _, h1, h2, hnew, ents_push h4 (k : Int) E clock, fun x E' hx => ?_, fun k' => ?_⟩
    · rw [kGet_snoc ks (k : Int) x E hnone] at hx
      split at hx
      · rename_i hxk
        injection hx with hx
        exact ⟨k, hxk, by rw [← hx]; exact hE.keep hkeep⟩
      · obtain ⟨k', h', h''⟩ := h5 x E' hx
        exact ⟨k', h', h''.keep hkeep⟩
    · rw [kGet_snoc ks (k : Int) (k' : Int) E hnone]
      constructor
      · rintro ⟨E', hx⟩
        split at hx
        · rename_i hxk
          have : k' = k := by omega
          exact ⟨i, by rw [this]; exact hi, by simp⟩
        · obtain ⟨j, hj1, hj2⟩ := (h6 k').1 ⟨E', hx⟩
          exact ⟨j, hj1, by simp [hj2]⟩
      · rintro ⟨j, hj1, hj2⟩
        by_cases hkk : k' = k
        · exact ⟨E, if_pos (by omega)⟩
        · have hji : j ≠ i := fun e => hkk (insK_inj (by rw [hj1, e]) hi)
          obtain ⟨E', h'⟩ := (h6 k').2 ⟨j, hj1, by simpa [hji] using hj2⟩
          exact ⟨E', by rw [if_neg (by omega)]; exact h'⟩
  · simp [h0]
  · exact (upF h51 (by omega) h).elim
  · exact (upF h52 (by omega) h).elim
  · exact (upF h51 (by omega) h).elim
theorem exec_moveK {o : Oper} {a : Act} {W : World} {x : Operand} (ho : o.op = .move x ∨ o.op = .assign x) : (execOp a.eval o).run Tryz.prog W = .ok (.value (a.eval x)) W := by
  unfold execOp
  rcases ho with ho | ho <;> simp [ho]
end Go.Proofs.YtnhhgiebnhlfcaaGreatDoor

/- algo: what is done by the key as it is, and by the key expanded (byKey$1, byAES$1). -/
import Derived.Test.YtnhhgiebnhlfcaaGreatDoorAlg8
namespace Go.Proofs.YtnhhgiebnhlfcaaGreatDoor
open Go.RowKit Go.Shelf
set_option linter.unusedVariables false
set_option linter.unusedSimpArgs false
set_option maxRecDepth 100000
set_option maxHeartbeats 4000000 in
theorem byKey1_any (R : Value → Int → World → Prop) (F : Nat) (hent : Enters Tryz.prog F) (x : Int) (o : Bool) (Ak : Option Addr) (kn kc : Nat) (Ai : Option Addr) (vn ic : Nat) (Aa : Option Addr) (an ac : Nat) (Ab : Option Addr) (n cb : Nat) (g : Nat) (t : TypeId) (w : World)
    (hg : w.heap[g]? = some (.cells #[.func (.func F) #[] #[]] t (0, 0)))
    (hcall : ∀ W, Below w.heap.size w W → Calls Tryz.prog F #[.slice Ak kn kc, .slice Ai vn ic, .slice Aa an ac, .slice Ab n cb] W fun e W' => ∃ v y, e = .returned (.tuple #[v, .int .i64 y]) ∧ R v y W' ∧ Below W.heap.size W W') :
    Calls Tryz.prog 101 #[.agg (parV x o Ak kn kc Ai vn ic Aa an ac).toArray, .slice Ab n cb, .pointer (some ⟨g, 0, none⟩)] w fun e w' => ∃ v y, e = .returned (.tuple #[v, .int .i64 y]) ∧ R v y w' ∧ Below w.heap.size w w' := by
  have PC := Lib.hid (fun (W : World) (g : Nat) (t : TypeId) (fr : Nat × Nat) (h : W.heap[g]? = some (.cells (parV x o Ak kn kc Ai vn ic Aa an ac).toArray t fr)) => par_cells h)
  have HC := Lib.hid hcall
  have HG := Lib.hid hg
  have hent : ∀ args W, (callFunc F args).run Tryz.prog W = .ok (.enter F args) W := hent
  generalize parV x o Ak kn kc Ai vn ic Aa an ac = PV at PC ⊢
  clear hcall hg
  go_enter Tryz.func101, Tryz.ntmps101
  go_upto_region 1 with (fail)
  have HB := Lib.hid (heap_alloc_new' w (.cells PV.toArray 29))
  have B0 : Hid (Below w.heap.size w (w.alloc (.cells PV.toArray 29))) := (Below.refl _ _).alloc (Nat.le_refl _) _
  generalize w.alloc _ = W0 at HB B0 ⊢
  have HG0 : Hid (W0.heap[g]? = _) := (B0.out.block _ (lt_of_heap HG.out)).trans HG.out
  have c2 := (PC.out _ _ _ _ HB.out).2.2.1
  have c3 := (PC.out _ _ _ _ HB.out).2.2.2.1
  have c4 := (PC.out _ _ _ _ HB.out).2.2.2.2
  have cF : Hid (W0.cell? ⟨g, 0, none⟩ = some (.func (.func F) #[] #[])) := cell_of_heap (cs := [.func (.func F) #[] #[]]) HG0.out 0
  clear PC HB HG HG0
  go_wp2_with (first
    | (refine wpList_ld rfl 91 (.tmp 2) rfl (load_cellW (hu := Tryz.underlying91) (hd := rfl) (v := .func (.func F) #[] #[]) cF.out) ?_)
    | fail)
  refine (HC.out W0 B0.out).mono ?_
  rintro e w6 ⟨v6, y6, rfl, hR6, hb6⟩
  have B6 := Lib.hid (B0.out.step hb6)
  have HR6 := Lib.hid hR6
  clear hR6 hb6 c2 c3 c4
  go_wp2
  go_ret2
  exact ⟨_, _, rfl, HR6.out, B6.out⟩
end Go.Proofs.YtnhhgiebnhlfcaaGreatDoor

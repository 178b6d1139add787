/-
  No cell of these rows narrows 'for every input' (looked for: loops, veiled, ifaces, maps, wideKeys, modest, calm, conditions, laid).
  DERIVED. THE GIVEN ROWS OF THIS SEAT. 7 by the template 'for every input the law returns true; each argument reads behind the call as it read before'; 0 by the template 'total and deterministic' (their statements: YtpihnggegmbgfaaTotals.lean).
  GIVEN WITH THE SEED: the statements are not yours to turn. If you find one false, say at which input.
  Laid BY PROGRAM, IN A SANDBOX (cutbox-rows.mjs): the forced cells as the released guide's own fill.sh prints them over the translation e0d3383292432721… (all of the seat's roots in one cut). By AI agents, Wed Nov 11 2026. No macro, syntax, notation, axiom, sorry.
-/
import Derived.Test.YtpihnggegmbgfaaChecked
import GoSem.Claim
import GoSem.ClaimJoined
import GoSem.ClaimMapViews
import Derived.JoinedTies
import Derived.KernelRfl
namespace Go.Proofs.Ytpihnggegmbgfaa
/- THE CELL 'sum', in the pinned program and in every row, IS THE sha256 OF THE DUMP (.gsa) THAT YtpihnggegmbgfaaProg.lean LOADS. Nothing in Lean hashes anything: it is a label: what it is worth is what the hold of that sum in a sandbox is worth. -/
noncomputable def Try.pinned : Pinned := { name := "ytpihnggegmbgfaa", sum := "e0d3383292432721bfc801505729b073ec8e8629dba264a467fe74bacf1a2f6f", checked := Try.checked }
namespace Rows
def none {H : Type} : Left H := { results := [], args := [] }

/-- 'palfreylaw09.CbcSeals': WHATEVER THE INPUT: true; the input reads as it did. -/
def cbcSealsSpec : ChangeSpec := { name := "cbcSeals", fn := fun _ => fun
  | [d1, d2] => { results := [.lit (.bool true)], args := [d1, d2] }
  | _ => none }
def cbcSealsRow : OpenClaim := { program := "ytpihnggegmbgfaa", sum := "e0d3383292432721bfc801505729b073ec8e8629dba264a467fe74bacf1a2f6f", func := "palfrey/palfreylaw09.CbcSeals", spec := "cbcSeals", inPlace := ["internal/bytealg.MakeNoZero"], unfollowed := true, recurses := true, apart := false }
def CbcSealsSaid : Prop := cbcSealsRow.holds Try.pinned (OpenSpec.ofChange cbcSealsSpec)

/-- ITS FALSE NEIGHBOUR: 'it returns false'. Refute it at one input. -/
def cbcSealsWrong : ChangeSpec := { name := "cbcSeals", fn := fun _ => fun
  | [d1, d2] => { results := [.lit (.bool false)], args := [d1, d2] }
  | _ => none }
def CbcSealsWrongFalsely : Prop := cbcSealsRow.holds Try.pinned (OpenSpec.ofChange cbcSealsWrong)

/-- 'palfreylaw09.CbcOpens': WHATEVER THE INPUT: true; the input reads as it did. -/
def cbcOpensSpec : ChangeSpec := { name := "cbcOpens", fn := fun _ => fun
  | [d1, d2] => { results := [.lit (.bool true)], args := [d1, d2] }
  | _ => none }
def cbcOpensRow : OpenClaim := { program := "ytpihnggegmbgfaa", sum := "e0d3383292432721bfc801505729b073ec8e8629dba264a467fe74bacf1a2f6f", func := "palfrey/palfreylaw09.CbcOpens", spec := "cbcOpens", inPlace := ["internal/bytealg.MakeNoZero"], unfollowed := true, recurses := true, apart := false }
def CbcOpensSaid : Prop := cbcOpensRow.holds Try.pinned (OpenSpec.ofChange cbcOpensSpec)

/-- ITS FALSE NEIGHBOUR: 'it returns false'. Refute it at one input. -/
def cbcOpensWrong : ChangeSpec := { name := "cbcOpens", fn := fun _ => fun
  | [d1, d2] => { results := [.lit (.bool false)], args := [d1, d2] }
  | _ => none }
def CbcOpensWrongFalsely : Prop := cbcOpensRow.holds Try.pinned (OpenSpec.ofChange cbcOpensWrong)

/-- 'palfreylaw09.CbcPads': WHATEVER THE INPUT: true; the input reads as it did. -/
def cbcPadsSpec : ChangeSpec := { name := "cbcPads", fn := fun _ => fun
  | [d1, d2] => { results := [.lit (.bool true)], args := [d1, d2] }
  | _ => none }
def cbcPadsRow : OpenClaim := { program := "ytpihnggegmbgfaa", sum := "e0d3383292432721bfc801505729b073ec8e8629dba264a467fe74bacf1a2f6f", func := "palfrey/palfreylaw09.CbcPads", spec := "cbcPads", inPlace := ["internal/bytealg.MakeNoZero"], apart := false }
def CbcPadsSaid : Prop := cbcPadsRow.holds Try.pinned (OpenSpec.ofChange cbcPadsSpec)

/-- ITS FALSE NEIGHBOUR: 'it returns false'. Refute it at one input. -/
def cbcPadsWrong : ChangeSpec := { name := "cbcPads", fn := fun _ => fun
  | [d1, d2] => { results := [.lit (.bool false)], args := [d1, d2] }
  | _ => none }
def CbcPadsWrongFalsely : Prop := cbcPadsRow.holds Try.pinned (OpenSpec.ofChange cbcPadsWrong)

/-- 'palfreylaw09.CbcBack': WHATEVER THE INPUT: true; the input reads as it did. -/
def cbcBackSpec : ChangeSpec := { name := "cbcBack", fn := fun _ => fun
  | [d1, d2] => { results := [.lit (.bool true)], args := [d1, d2] }
  | _ => none }
def cbcBackRow : OpenClaim := { program := "ytpihnggegmbgfaa", sum := "e0d3383292432721bfc801505729b073ec8e8629dba264a467fe74bacf1a2f6f", func := "palfrey/palfreylaw09.CbcBack", spec := "cbcBack", inPlace := ["internal/bytealg.MakeNoZero"], unfollowed := true, recurses := true, apart := false }
def CbcBackSaid : Prop := cbcBackRow.holds Try.pinned (OpenSpec.ofChange cbcBackSpec)

/-- ITS FALSE NEIGHBOUR: 'it returns false'. Refute it at one input. -/
def cbcBackWrong : ChangeSpec := { name := "cbcBack", fn := fun _ => fun
  | [d1, d2] => { results := [.lit (.bool false)], args := [d1, d2] }
  | _ => none }
def CbcBackWrongFalsely : Prop := cbcBackRow.holds Try.pinned (OpenSpec.ofChange cbcBackWrong)

/-- 'palfreylaw09.CbcChained': WHATEVER THE INPUT: true; the input reads as it did. -/
def cbcChainedSpec : ChangeSpec := { name := "cbcChained", fn := fun _ => fun
  | [d1, d2, d3] => { results := [.lit (.bool true)], args := [d1, d2, d3] }
  | _ => none }
def cbcChainedRow : OpenClaim := { program := "ytpihnggegmbgfaa", sum := "e0d3383292432721bfc801505729b073ec8e8629dba264a467fe74bacf1a2f6f", func := "palfrey/palfreylaw09.CbcChained", spec := "cbcChained", inPlace := ["internal/bytealg.MakeNoZero"], unfollowed := true, recurses := true, apart := false }
def CbcChainedSaid : Prop := cbcChainedRow.holds Try.pinned (OpenSpec.ofChange cbcChainedSpec)

/-- ITS FALSE NEIGHBOUR: 'it returns false'. Refute it at one input. -/
def cbcChainedWrong : ChangeSpec := { name := "cbcChained", fn := fun _ => fun
  | [d1, d2, d3] => { results := [.lit (.bool false)], args := [d1, d2, d3] }
  | _ => none }
def CbcChainedWrongFalsely : Prop := cbcChainedRow.holds Try.pinned (OpenSpec.ofChange cbcChainedWrong)

/-- 'palfreylaw09.CbcShort': WHATEVER THE INPUT: true; the input reads as it did. -/
def cbcShortSpec : ChangeSpec := { name := "cbcShort", fn := fun _ => fun
  | [d1, d2] => { results := [.lit (.bool true)], args := [d1, d2] }
  | _ => none }
def cbcShortRow : OpenClaim := { program := "ytpihnggegmbgfaa", sum := "e0d3383292432721bfc801505729b073ec8e8629dba264a467fe74bacf1a2f6f", func := "palfrey/palfreylaw09.CbcShort", spec := "cbcShort", inPlace := ["internal/bytealg.MakeNoZero"], unfollowed := true, recurses := true, apart := false }
def CbcShortSaid : Prop := cbcShortRow.holds Try.pinned (OpenSpec.ofChange cbcShortSpec)

/-- ITS FALSE NEIGHBOUR: 'it returns false'. Refute it at one input. -/
def cbcShortWrong : ChangeSpec := { name := "cbcShort", fn := fun _ => fun
  | [d1, d2] => { results := [.lit (.bool false)], args := [d1, d2] }
  | _ => none }
def CbcShortWrongFalsely : Prop := cbcShortRow.holds Try.pinned (OpenSpec.ofChange cbcShortWrong)

/-- 'palfreylaw09.CbcOne': WHATEVER THE INPUT: true; the input reads as it did. -/
def cbcOneSpec : ChangeSpec := { name := "cbcOne", fn := fun _ => fun
  | [d1, d2] => { results := [.lit (.bool true)], args := [d1, d2] }
  | _ => none }
def cbcOneRow : OpenClaim := { program := "ytpihnggegmbgfaa", sum := "e0d3383292432721bfc801505729b073ec8e8629dba264a467fe74bacf1a2f6f", func := "palfrey/palfreylaw09.CbcOne", spec := "cbcOne", inPlace := ["internal/bytealg.MakeNoZero"], unfollowed := true, recurses := true, apart := false }
def CbcOneSaid : Prop := cbcOneRow.holds Try.pinned (OpenSpec.ofChange cbcOneSpec)

/-- ITS FALSE NEIGHBOUR: 'it returns false'. Refute it at one input. -/
def cbcOneWrong : ChangeSpec := { name := "cbcOne", fn := fun _ => fun
  | [d1, d2] => { results := [.lit (.bool false)], args := [d1, d2] }
  | _ => none }
def CbcOneWrongFalsely : Prop := cbcOneRow.holds Try.pinned (OpenSpec.ofChange cbcOneWrong)

/- THE SECOND FORM. 'bulk': how many values and letters a reading holds, each counted each time it is reached (what is shared counts as often as it is met; a slice's spare places count too). A statement '..UptoSaid' is the law's where the arguments, and the package variables that the reading takes, are together of bulk at most 1048576: NARROWER than '..Said'. Prove '..Said' where nothing that the law and all that it calls make is longer than what came in: it says more and counts as full. Else prove '..UptoSaid'. A law counts once. -/
mutual
def uptoBulk {H : Type} : DataW H → Nat
  | .lit (.string bytes) => bytes.length + 1
  | .lit _ => 1
  | .nil => 1
  | .ptr d => uptoBulk d + 1
  | .slice elems spare => uptoBulkAll elems + uptoBulkAll spare + 1
  | .agg parts => uptoBulkAll parts + 1
  | .iface _ d => uptoBulk d + 1
  | .map entries => uptoBulkEntries entries + 1
  | .held _ => 1
def uptoBulkAll {H : Type} : List (DataW H) → Nat
  | [] => 0
  | d :: r => uptoBulk d + uptoBulkAll r
def uptoBulkEntries {H : Type} : List (Lit × DataW H) → Nat
  | [] => 0
  | x :: r => uptoBulkEntry x + uptoBulkEntries r
def uptoBulkEntry {H : Type} : Lit × DataW H → Nat
  | (.string bytes, d) => bytes.length + uptoBulk d + 1
  | (_, d) => uptoBulk d + 1
 end
def uptoSmall : (H : Type) → List (DataW H) → Bool := fun _ ds => decide (uptoBulkAll ds ≤ 1048576)
def OpenSpec.upto (s : _root_.Go.ChangeSpec) : _root_.Go.OpenSpec := { _root_.Go.OpenSpec.ofChange s with cond := some uptoSmall }

/-- 'palfreylaw09.CbcSeals', WHERE WHAT IT READS IS OF BULK AT MOST 1048576: true; the input reads as it did. -/
def cbcSealsUptoRow : OpenClaim := { program := "ytpihnggegmbgfaa", sum := "e0d3383292432721bfc801505729b073ec8e8629dba264a467fe74bacf1a2f6f", func := "palfrey/palfreylaw09.CbcSeals", spec := "cbcSeals", inPlace := ["internal/bytealg.MakeNoZero"], unfollowed := true, recurses := true, apart := false, narrowed := true }
def CbcSealsUptoSaid : Prop := cbcSealsUptoRow.holds Try.pinned (OpenSpec.upto cbcSealsSpec)

/-- 'palfreylaw09.CbcOpens', WHERE WHAT IT READS IS OF BULK AT MOST 1048576: true; the input reads as it did. -/
def cbcOpensUptoRow : OpenClaim := { program := "ytpihnggegmbgfaa", sum := "e0d3383292432721bfc801505729b073ec8e8629dba264a467fe74bacf1a2f6f", func := "palfrey/palfreylaw09.CbcOpens", spec := "cbcOpens", inPlace := ["internal/bytealg.MakeNoZero"], unfollowed := true, recurses := true, apart := false, narrowed := true }
def CbcOpensUptoSaid : Prop := cbcOpensUptoRow.holds Try.pinned (OpenSpec.upto cbcOpensSpec)

/-- 'palfreylaw09.CbcPads', WHERE WHAT IT READS IS OF BULK AT MOST 1048576: true; the input reads as it did. -/
def cbcPadsUptoRow : OpenClaim := { program := "ytpihnggegmbgfaa", sum := "e0d3383292432721bfc801505729b073ec8e8629dba264a467fe74bacf1a2f6f", func := "palfrey/palfreylaw09.CbcPads", spec := "cbcPads", inPlace := ["internal/bytealg.MakeNoZero"], apart := false, narrowed := true }
def CbcPadsUptoSaid : Prop := cbcPadsUptoRow.holds Try.pinned (OpenSpec.upto cbcPadsSpec)

/-- 'palfreylaw09.CbcBack', WHERE WHAT IT READS IS OF BULK AT MOST 1048576: true; the input reads as it did. -/
def cbcBackUptoRow : OpenClaim := { program := "ytpihnggegmbgfaa", sum := "e0d3383292432721bfc801505729b073ec8e8629dba264a467fe74bacf1a2f6f", func := "palfrey/palfreylaw09.CbcBack", spec := "cbcBack", inPlace := ["internal/bytealg.MakeNoZero"], unfollowed := true, recurses := true, apart := false, narrowed := true }
def CbcBackUptoSaid : Prop := cbcBackUptoRow.holds Try.pinned (OpenSpec.upto cbcBackSpec)

/-- 'palfreylaw09.CbcChained', WHERE WHAT IT READS IS OF BULK AT MOST 1048576: true; the input reads as it did. -/
def cbcChainedUptoRow : OpenClaim := { program := "ytpihnggegmbgfaa", sum := "e0d3383292432721bfc801505729b073ec8e8629dba264a467fe74bacf1a2f6f", func := "palfrey/palfreylaw09.CbcChained", spec := "cbcChained", inPlace := ["internal/bytealg.MakeNoZero"], unfollowed := true, recurses := true, apart := false, narrowed := true }
def CbcChainedUptoSaid : Prop := cbcChainedUptoRow.holds Try.pinned (OpenSpec.upto cbcChainedSpec)

/-- 'palfreylaw09.CbcShort', WHERE WHAT IT READS IS OF BULK AT MOST 1048576: true; the input reads as it did. -/
def cbcShortUptoRow : OpenClaim := { program := "ytpihnggegmbgfaa", sum := "e0d3383292432721bfc801505729b073ec8e8629dba264a467fe74bacf1a2f6f", func := "palfrey/palfreylaw09.CbcShort", spec := "cbcShort", inPlace := ["internal/bytealg.MakeNoZero"], unfollowed := true, recurses := true, apart := false, narrowed := true }
def CbcShortUptoSaid : Prop := cbcShortUptoRow.holds Try.pinned (OpenSpec.upto cbcShortSpec)

/-- 'palfreylaw09.CbcOne', WHERE WHAT IT READS IS OF BULK AT MOST 1048576: true; the input reads as it did. -/
def cbcOneUptoRow : OpenClaim := { program := "ytpihnggegmbgfaa", sum := "e0d3383292432721bfc801505729b073ec8e8629dba264a467fe74bacf1a2f6f", func := "palfrey/palfreylaw09.CbcOne", spec := "cbcOne", inPlace := ["internal/bytealg.MakeNoZero"], unfollowed := true, recurses := true, apart := false, narrowed := true }
def CbcOneUptoSaid : Prop := cbcOneUptoRow.holds Try.pinned (OpenSpec.upto cbcOneSpec)

end Rows
end Go.Proofs.Ytpihnggegmbgfaa

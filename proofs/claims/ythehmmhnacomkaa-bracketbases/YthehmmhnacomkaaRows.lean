/-
  No cell of these rows narrows 'for every input' (looked for: loops, veiled, ifaces, maps, wideKeys, modest, calm, conditions, laid).
  DERIVED. THE GIVEN ROWS OF THIS SEAT. 5 by the template 'for every input the law returns true; each argument reads behind the call as it read before'; 0 by the template 'total and deterministic' (their statements: YthehmmhnacomkaaTotals.lean).
  GIVEN WITH THE SEED: the statements are not yours to turn. If you find one false, say at which input.
  Laid BY PROGRAM, IN A SANDBOX (cutbox-rows.mjs): the forced cells as the released guide's own fill.sh prints them over the translation 134b416a9cc36d91… (all of the seat's roots in one cut). By AI agents, Wed Nov 11 2026. No macro, syntax, notation, axiom, sorry.
-/
import Derived.Test.YthehmmhnacomkaaChecked
import GoSem.Claim
import GoSem.ClaimJoined
import GoSem.ClaimMapViews
import Derived.JoinedTies
import Derived.KernelRfl
namespace Go.Proofs.Ythehmmhnacomkaa
/- THE CELL 'sum', in the pinned program and in every row, IS THE sha256 OF THE DUMP (.gsa) THAT YthehmmhnacomkaaProg.lean LOADS. Nothing in Lean hashes anything: it is a label: what it is worth is what the hold of that sum in a sandbox is worth. -/
noncomputable def Try.pinned : Pinned := { name := "ythehmmhnacomkaa", sum := "134b416a9cc36d91f925dfbbe6dae1b30f05e44f879886e8a7c6eefb499412fd", checked := Try.checked }
namespace Rows
def none {H : Type} : Left H := { results := [], args := [] }

/-- 'exciselaw14.BracketChecks': WHATEVER THE INPUT: true; the input reads as it did. -/
def bracketChecksSpec : ChangeSpec := { name := "bracketChecks", fn := fun _ => fun
  | [d1, d2] => { results := [.lit (.bool true)], args := [d1, d2] }
  | _ => none }
def bracketChecksRow : OpenClaim := { program := "ythehmmhnacomkaa", sum := "134b416a9cc36d91f925dfbbe6dae1b30f05e44f879886e8a7c6eefb499412fd", func := "excise/exciselaw14.BracketChecks", spec := "bracketChecks", inPlace := ["math/bits.Add64", "math/bits.Sub64"], unfollowed := true, recurses := true, named := ["math/bits.divideError", "math/bits.overflowError"], apart := false }
def BracketChecksSaid : Prop := bracketChecksRow.holds Try.pinned (OpenSpec.ofChange bracketChecksSpec)

/-- ITS FALSE NEIGHBOUR: 'it returns false'. Refute it at one input. -/
def bracketChecksWrong : ChangeSpec := { name := "bracketChecks", fn := fun _ => fun
  | [d1, d2] => { results := [.lit (.bool false)], args := [d1, d2] }
  | _ => none }
def BracketChecksWrongFalsely : Prop := bracketChecksRow.holds Try.pinned (OpenSpec.ofChange bracketChecksWrong)

/-- 'exciselaw14.BracketSays': WHATEVER THE INPUT: true; the input reads as it did. -/
def bracketSaysSpec : ChangeSpec := { name := "bracketSays", fn := fun _ => fun
  | [d1, d2, d3] => { results := [.lit (.bool true)], args := [d1, d2, d3] }
  | _ => none }
def bracketSaysRow : OpenClaim := { program := "ythehmmhnacomkaa", sum := "134b416a9cc36d91f925dfbbe6dae1b30f05e44f879886e8a7c6eefb499412fd", func := "excise/exciselaw14.BracketSays", spec := "bracketSays", inPlace := ["math/bits.Add64", "math/bits.Sub64"], unfollowed := true, recurses := true, named := ["math/bits.divideError", "math/bits.overflowError"], apart := false }
def BracketSaysSaid : Prop := bracketSaysRow.holds Try.pinned (OpenSpec.ofChange bracketSaysSpec)

/-- ITS FALSE NEIGHBOUR: 'it returns false'. Refute it at one input. -/
def bracketSaysWrong : ChangeSpec := { name := "bracketSays", fn := fun _ => fun
  | [d1, d2, d3] => { results := [.lit (.bool false)], args := [d1, d2, d3] }
  | _ => none }
def BracketSaysWrongFalsely : Prop := bracketSaysRow.holds Try.pinned (OpenSpec.ofChange bracketSaysWrong)

/-- 'exciselaw14.BracketShapes': WHATEVER THE INPUT: true; the input reads as it did. -/
def bracketShapesSpec : ChangeSpec := { name := "bracketShapes", fn := fun _ => fun
  | [d] => { results := [.lit (.bool true)], args := [d] }
  | _ => none }
def bracketShapesRow : OpenClaim := { program := "ythehmmhnacomkaa", sum := "134b416a9cc36d91f925dfbbe6dae1b30f05e44f879886e8a7c6eefb499412fd", func := "excise/exciselaw14.BracketShapes", spec := "bracketShapes", inPlace := ["math/bits.Add64", "math/bits.Sub64"], unfollowed := true, recurses := true, named := ["math/bits.divideError", "math/bits.overflowError"], apart := false }
def BracketShapesSaid : Prop := bracketShapesRow.holds Try.pinned (OpenSpec.ofChange bracketShapesSpec)

/-- ITS FALSE NEIGHBOUR: 'it returns false'. Refute it at one input. -/
def bracketShapesWrong : ChangeSpec := { name := "bracketShapes", fn := fun _ => fun
  | [d] => { results := [.lit (.bool false)], args := [d] }
  | _ => none }
def BracketShapesWrongFalsely : Prop := bracketShapesRow.holds Try.pinned (OpenSpec.ofChange bracketShapesWrong)

/-- 'exciselaw14.BracketRises': WHATEVER THE INPUT: true; the input reads as it did. -/
def bracketRisesSpec : ChangeSpec := { name := "bracketRises", fn := fun _ => fun
  | [d1, d2, d3] => { results := [.lit (.bool true)], args := [d1, d2, d3] }
  | _ => none }
def bracketRisesRow : OpenClaim := { program := "ythehmmhnacomkaa", sum := "134b416a9cc36d91f925dfbbe6dae1b30f05e44f879886e8a7c6eefb499412fd", func := "excise/exciselaw14.BracketRises", spec := "bracketRises", inPlace := ["math/bits.Add64", "math/bits.Sub64"], unfollowed := true, recurses := true, named := ["math/bits.divideError", "math/bits.overflowError"], apart := false }
def BracketRisesSaid : Prop := bracketRisesRow.holds Try.pinned (OpenSpec.ofChange bracketRisesSpec)

/-- ITS FALSE NEIGHBOUR: 'it returns false'. Refute it at one input. -/
def bracketRisesWrong : ChangeSpec := { name := "bracketRises", fn := fun _ => fun
  | [d1, d2, d3] => { results := [.lit (.bool false)], args := [d1, d2, d3] }
  | _ => none }
def BracketRisesWrongFalsely : Prop := bracketRisesRow.holds Try.pinned (OpenSpec.ofChange bracketRisesWrong)

/-- 'exciselaw14.BracketBases': WHATEVER THE INPUT: true; the input reads as it did. -/
def bracketBasesSpec : ChangeSpec := { name := "bracketBases", fn := fun _ => fun
  | [d] => { results := [.lit (.bool true)], args := [d] }
  | _ => none }
def bracketBasesRow : OpenClaim := { program := "ythehmmhnacomkaa", sum := "134b416a9cc36d91f925dfbbe6dae1b30f05e44f879886e8a7c6eefb499412fd", func := "excise/exciselaw14.BracketBases", spec := "bracketBases", inPlace := ["math/bits.Add64", "math/bits.Sub64"], unfollowed := true, recurses := true, named := ["math/bits.divideError", "math/bits.overflowError"], apart := false }
def BracketBasesSaid : Prop := bracketBasesRow.holds Try.pinned (OpenSpec.ofChange bracketBasesSpec)

/-- ITS FALSE NEIGHBOUR: 'it returns false'. Refute it at one input. -/
def bracketBasesWrong : ChangeSpec := { name := "bracketBases", fn := fun _ => fun
  | [d] => { results := [.lit (.bool false)], args := [d] }
  | _ => none }
def BracketBasesWrongFalsely : Prop := bracketBasesRow.holds Try.pinned (OpenSpec.ofChange bracketBasesWrong)

/- THE SECOND FORM. 'bulk': how many values and letters a reading holds, each counted each time it is reached (what is shared counts as often as it is met; a slice's spare places count too). A statement '..UptoSaid' is the law's where the arguments, and the package variables that the reading takes, are together of bulk at most 1048576: NARROWER than '..Said'. Prove '..Said' where nothing that the law and all that it calls make is longer than what came in: it says more and counts as full. Else prove '..UptoSaid'. A law counts once. -/
mutual
def uptoBulk {H : Type} : DataW H → Nat
  | .lit (.string bytes) => bytes.length + 1
  | .lit _ => 1
  | .nil => 1
  | .ptr d => uptoBulk d + 1
  | .slice elems spare => uptoBulkAll elems + uptoBulkAll spare + 1
  | .agg parts => uptoBulkAll parts + 1
  | .iface _ d => uptoBulk d + 1
  | .map entries => uptoBulkEntries entries + 1
  | .held _ => 1
def uptoBulkAll {H : Type} : List (DataW H) → Nat
  | [] => 0
  | d :: r => uptoBulk d + uptoBulkAll r
def uptoBulkEntries {H : Type} : List (Lit × DataW H) → Nat
  | [] => 0
  | x :: r => uptoBulkEntry x + uptoBulkEntries r
def uptoBulkEntry {H : Type} : Lit × DataW H → Nat
  | (.string bytes, d) => bytes.length + uptoBulk d + 1
  | (_, d) => uptoBulk d + 1
 end
def uptoSmall : (H : Type) → List (DataW H) → Bool := fun _ ds => decide (uptoBulkAll ds ≤ 1048576)
def OpenSpec.upto (s : _root_.Go.ChangeSpec) : _root_.Go.OpenSpec := { _root_.Go.OpenSpec.ofChange s with cond := some uptoSmall }

/-- 'exciselaw14.BracketChecks', WHERE WHAT IT READS IS OF BULK AT MOST 1048576: true; the input reads as it did. -/
def bracketChecksUptoRow : OpenClaim := { program := "ythehmmhnacomkaa", sum := "134b416a9cc36d91f925dfbbe6dae1b30f05e44f879886e8a7c6eefb499412fd", func := "excise/exciselaw14.BracketChecks", spec := "bracketChecks", inPlace := ["math/bits.Add64", "math/bits.Sub64"], unfollowed := true, recurses := true, named := ["math/bits.divideError", "math/bits.overflowError"], apart := false, narrowed := true }
def BracketChecksUptoSaid : Prop := bracketChecksUptoRow.holds Try.pinned (OpenSpec.upto bracketChecksSpec)

/-- 'exciselaw14.BracketSays', WHERE WHAT IT READS IS OF BULK AT MOST 1048576: true; the input reads as it did. -/
def bracketSaysUptoRow : OpenClaim := { program := "ythehmmhnacomkaa", sum := "134b416a9cc36d91f925dfbbe6dae1b30f05e44f879886e8a7c6eefb499412fd", func := "excise/exciselaw14.BracketSays", spec := "bracketSays", inPlace := ["math/bits.Add64", "math/bits.Sub64"], unfollowed := true, recurses := true, named := ["math/bits.divideError", "math/bits.overflowError"], apart := false, narrowed := true }
def BracketSaysUptoSaid : Prop := bracketSaysUptoRow.holds Try.pinned (OpenSpec.upto bracketSaysSpec)

/-- 'exciselaw14.BracketShapes', WHERE WHAT IT READS IS OF BULK AT MOST 1048576: true; the input reads as it did. -/
def bracketShapesUptoRow : OpenClaim := { program := "ythehmmhnacomkaa", sum := "134b416a9cc36d91f925dfbbe6dae1b30f05e44f879886e8a7c6eefb499412fd", func := "excise/exciselaw14.BracketShapes", spec := "bracketShapes", inPlace := ["math/bits.Add64", "math/bits.Sub64"], unfollowed := true, recurses := true, named := ["math/bits.divideError", "math/bits.overflowError"], apart := false, narrowed := true }
def BracketShapesUptoSaid : Prop := bracketShapesUptoRow.holds Try.pinned (OpenSpec.upto bracketShapesSpec)

/-- 'exciselaw14.BracketRises', WHERE WHAT IT READS IS OF BULK AT MOST 1048576: true; the input reads as it did. -/
def bracketRisesUptoRow : OpenClaim := { program := "ythehmmhnacomkaa", sum := "134b416a9cc36d91f925dfbbe6dae1b30f05e44f879886e8a7c6eefb499412fd", func := "excise/exciselaw14.BracketRises", spec := "bracketRises", inPlace := ["math/bits.Add64", "math/bits.Sub64"], unfollowed := true, recurses := true, named := ["math/bits.divideError", "math/bits.overflowError"], apart := false, narrowed := true }
def BracketRisesUptoSaid : Prop := bracketRisesUptoRow.holds Try.pinned (OpenSpec.upto bracketRisesSpec)

/-- 'exciselaw14.BracketBases', WHERE WHAT IT READS IS OF BULK AT MOST 1048576: true; the input reads as it did. -/
def bracketBasesUptoRow : OpenClaim := { program := "ythehmmhnacomkaa", sum := "134b416a9cc36d91f925dfbbe6dae1b30f05e44f879886e8a7c6eefb499412fd", func := "excise/exciselaw14.BracketBases", spec := "bracketBases", inPlace := ["math/bits.Add64", "math/bits.Sub64"], unfollowed := true, recurses := true, named := ["math/bits.divideError", "math/bits.overflowError"], apart := false, narrowed := true }
def BracketBasesUptoSaid : Prop := bracketBasesUptoRow.holds Try.pinned (OpenSpec.upto bracketBasesSpec)

end Rows
end Go.Proofs.Ythehmmhnacomkaa

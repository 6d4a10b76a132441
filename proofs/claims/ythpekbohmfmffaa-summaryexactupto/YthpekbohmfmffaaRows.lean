/-
  No cell of these rows narrows 'for every input' (looked for: loops, veiled, ifaces, maps, wideKeys, modest, calm, conditions, laid).
  DERIVED. THE GIVEN ROWS OF THIS SEAT. 6 by the template 'for every input the law returns true; each argument reads behind the call as it read before'; 0 by the template 'total and deterministic' (their statements: YthpekbohmfmffaaTotals.lean).
  GIVEN WITH THE SEED: the statements are not yours to turn. If you find one false, say at which input.
  Laid BY PROGRAM, IN A SANDBOX (cutbox-rows.mjs): the forced cells as the released guide's own fill.sh prints them over the translation 5ebbd37f50534283… (all of the seat's roots in one cut). By AI agents, Wed Nov 11 2026. No macro, syntax, notation, axiom, sorry.
-/
import Derived.Test.YthpekbohmfmffaaChecked
import GoSem.Claim
import GoSem.ClaimJoined
import GoSem.ClaimMapViews
import Derived.JoinedTies
import Derived.KernelRfl
namespace Go.Proofs.Ythpekbohmfmffaa
/- THE CELL 'sum', in the pinned program and in every row, IS THE sha256 OF THE DUMP (.gsa) THAT YthpekbohmfmffaaProg.lean LOADS. Nothing in Lean hashes anything: it is a label: what it is worth is what the hold of that sum in a sandbox is worth. -/
noncomputable def Try.pinned : Pinned := { name := "ythpekbohmfmffaa", sum := "5ebbd37f50534283171f7700a138fd49610127e49e45ce310a2942c4e2eacfc4", checked := Try.checked }
namespace Rows
def none {H : Type} : Left H := { results := [], args := [] }

/-- 'exciselaw05.SummaryOf': WHATEVER THE INPUT: true; the input reads as it did. -/
def summaryOfSpec : ChangeSpec := { name := "summaryOf", fn := fun _ => fun
  | [d1, d2] => { results := [.lit (.bool true)], args := [d1, d2] }
  | _ => none }
def summaryOfRow : OpenClaim := { program := "ythpekbohmfmffaa", sum := "5ebbd37f50534283171f7700a138fd49610127e49e45ce310a2942c4e2eacfc4", func := "excise/exciselaw05.SummaryOf", spec := "summaryOf", inPlace := ["math/bits.Add64"], apart := false }
def SummaryOfSaid : Prop := summaryOfRow.holds Try.pinned (OpenSpec.ofChange summaryOfSpec)

/-- ITS FALSE NEIGHBOUR: 'it returns false'. Refute it at one input. -/
def summaryOfWrong : ChangeSpec := { name := "summaryOf", fn := fun _ => fun
  | [d1, d2] => { results := [.lit (.bool false)], args := [d1, d2] }
  | _ => none }
def SummaryOfWrongFalsely : Prop := summaryOfRow.holds Try.pinned (OpenSpec.ofChange summaryOfWrong)

/-- 'exciselaw05.SummaryJoins': WHATEVER THE INPUT: true; the input reads as it did. -/
def summaryJoinsSpec : ChangeSpec := { name := "summaryJoins", fn := fun _ => fun
  | [d] => { results := [.lit (.bool true)], args := [d] }
  | _ => none }
def summaryJoinsRow : OpenClaim := { program := "ythpekbohmfmffaa", sum := "5ebbd37f50534283171f7700a138fd49610127e49e45ce310a2942c4e2eacfc4", func := "excise/exciselaw05.SummaryJoins", spec := "summaryJoins", inPlace := ["math/bits.Add64"], apart := false }
def SummaryJoinsSaid : Prop := summaryJoinsRow.holds Try.pinned (OpenSpec.ofChange summaryJoinsSpec)

/-- ITS FALSE NEIGHBOUR: 'it returns false'. Refute it at one input. -/
def summaryJoinsWrong : ChangeSpec := { name := "summaryJoins", fn := fun _ => fun
  | [d] => { results := [.lit (.bool false)], args := [d] }
  | _ => none }
def SummaryJoinsWrongFalsely : Prop := summaryJoinsRow.holds Try.pinned (OpenSpec.ofChange summaryJoinsWrong)

/-- 'exciselaw05.SummaryValues': WHATEVER THE INPUT: true; the input reads as it did. -/
def summaryValuesSpec : ChangeSpec := { name := "summaryValues", fn := fun _ => fun
  | [d1, d2, d3] => { results := [.lit (.bool true)], args := [d1, d2, d3] }
  | _ => none }
def summaryValuesRow : OpenClaim := { program := "ythpekbohmfmffaa", sum := "5ebbd37f50534283171f7700a138fd49610127e49e45ce310a2942c4e2eacfc4", func := "excise/exciselaw05.SummaryValues", spec := "summaryValues", inPlace := ["math/bits.Add64"], apart := false }
def SummaryValuesSaid : Prop := summaryValuesRow.holds Try.pinned (OpenSpec.ofChange summaryValuesSpec)

/-- ITS FALSE NEIGHBOUR: 'it returns false'. Refute it at one input. -/
def summaryValuesWrong : ChangeSpec := { name := "summaryValues", fn := fun _ => fun
  | [d1, d2, d3] => { results := [.lit (.bool false)], args := [d1, d2, d3] }
  | _ => none }
def SummaryValuesWrongFalsely : Prop := summaryValuesRow.holds Try.pinned (OpenSpec.ofChange summaryValuesWrong)

/-- 'exciselaw05.SummaryWide': WHATEVER THE INPUT: true; the input reads as it did. -/
def summaryWideSpec : ChangeSpec := { name := "summaryWide", fn := fun _ => fun
  | [d1, d2, d3] => { results := [.lit (.bool true)], args := [d1, d2, d3] }
  | _ => none }
def summaryWideRow : OpenClaim := { program := "ythpekbohmfmffaa", sum := "5ebbd37f50534283171f7700a138fd49610127e49e45ce310a2942c4e2eacfc4", func := "excise/exciselaw05.SummaryWide", spec := "summaryWide", inPlace := ["math/bits.Add64"], apart := false }
def SummaryWideSaid : Prop := summaryWideRow.holds Try.pinned (OpenSpec.ofChange summaryWideSpec)

/-- ITS FALSE NEIGHBOUR: 'it returns false'. Refute it at one input. -/
def summaryWideWrong : ChangeSpec := { name := "summaryWide", fn := fun _ => fun
  | [d1, d2, d3] => { results := [.lit (.bool false)], args := [d1, d2, d3] }
  | _ => none }
def SummaryWideWrongFalsely : Prop := summaryWideRow.holds Try.pinned (OpenSpec.ofChange summaryWideWrong)

/-- 'exciselaw05.SummaryMonoid': WHATEVER THE INPUT: true; the input reads as it did. -/
def summaryMonoidSpec : ChangeSpec := { name := "summaryMonoid", fn := fun _ => fun
  | [d1, d2, d3] => { results := [.lit (.bool true)], args := [d1, d2, d3] }
  | _ => none }
def summaryMonoidRow : OpenClaim := { program := "ythpekbohmfmffaa", sum := "5ebbd37f50534283171f7700a138fd49610127e49e45ce310a2942c4e2eacfc4", func := "excise/exciselaw05.SummaryMonoid", spec := "summaryMonoid", inPlace := ["math/bits.Add64"], recurses := true, apart := false }
def SummaryMonoidSaid : Prop := summaryMonoidRow.holds Try.pinned (OpenSpec.ofChange summaryMonoidSpec)

/-- ITS FALSE NEIGHBOUR: 'it returns false'. Refute it at one input. -/
def summaryMonoidWrong : ChangeSpec := { name := "summaryMonoid", fn := fun _ => fun
  | [d1, d2, d3] => { results := [.lit (.bool false)], args := [d1, d2, d3] }
  | _ => none }
def SummaryMonoidWrongFalsely : Prop := summaryMonoidRow.holds Try.pinned (OpenSpec.ofChange summaryMonoidWrong)

/-- 'exciselaw05.SummaryExact': WHATEVER THE INPUT: true; the input reads as it did. -/
def summaryExactSpec : ChangeSpec := { name := "summaryExact", fn := fun _ => fun
  | [d1, d2] => { results := [.lit (.bool true)], args := [d1, d2] }
  | _ => none }
def summaryExactRow : OpenClaim := { program := "ythpekbohmfmffaa", sum := "5ebbd37f50534283171f7700a138fd49610127e49e45ce310a2942c4e2eacfc4", func := "excise/exciselaw05.SummaryExact", spec := "summaryExact", inPlace := ["math/bits.Add64"], apart := false }
def SummaryExactSaid : Prop := summaryExactRow.holds Try.pinned (OpenSpec.ofChange summaryExactSpec)

/-- ITS FALSE NEIGHBOUR: 'it returns false'. Refute it at one input. -/
def summaryExactWrong : ChangeSpec := { name := "summaryExact", fn := fun _ => fun
  | [d1, d2] => { results := [.lit (.bool false)], args := [d1, d2] }
  | _ => none }
def SummaryExactWrongFalsely : Prop := summaryExactRow.holds Try.pinned (OpenSpec.ofChange summaryExactWrong)

/- THE SECOND FORM. 'bulk': how many values and letters a reading holds, each counted each time it is reached (what is shared counts as often as it is met; a slice's spare places count too). A statement '..UptoSaid' is the law's where the arguments, and the package variables that the reading takes, are together of bulk at most 1048576: NARROWER than '..Said'. Prove '..Said' where nothing that the law and all that it calls make is longer than what came in: it says more and counts as full. Else prove '..UptoSaid'. A law counts once. -/
mutual
def uptoBulk {H : Type} : DataW H → Nat
  | .lit (.string bytes) => bytes.length + 1
  | .lit _ => 1
  | .nil => 1
  | .ptr d => uptoBulk d + 1
  | .slice elems spare => uptoBulkAll elems + uptoBulkAll spare + 1
  | .agg parts => uptoBulkAll parts + 1
  | .iface _ d => uptoBulk d + 1
  | .map entries => uptoBulkEntries entries + 1
  | .held _ => 1
def uptoBulkAll {H : Type} : List (DataW H) → Nat
  | [] => 0
  | d :: r => uptoBulk d + uptoBulkAll r
def uptoBulkEntries {H : Type} : List (Lit × DataW H) → Nat
  | [] => 0
  | x :: r => uptoBulkEntry x + uptoBulkEntries r
def uptoBulkEntry {H : Type} : Lit × DataW H → Nat
  | (.string bytes, d) => bytes.length + uptoBulk d + 1
  | (_, d) => uptoBulk d + 1
 end
def uptoSmall : (H : Type) → List (DataW H) → Bool := fun _ ds => decide (uptoBulkAll ds ≤ 1048576)
def OpenSpec.upto (s : _root_.Go.ChangeSpec) : _root_.Go.OpenSpec := { _root_.Go.OpenSpec.ofChange s with cond := some uptoSmall }

/-- 'exciselaw05.SummaryOf', WHERE WHAT IT READS IS OF BULK AT MOST 1048576: true; the input reads as it did. -/
def summaryOfUptoRow : OpenClaim := { program := "ythpekbohmfmffaa", sum := "5ebbd37f50534283171f7700a138fd49610127e49e45ce310a2942c4e2eacfc4", func := "excise/exciselaw05.SummaryOf", spec := "summaryOf", inPlace := ["math/bits.Add64"], apart := false, narrowed := true }
def SummaryOfUptoSaid : Prop := summaryOfUptoRow.holds Try.pinned (OpenSpec.upto summaryOfSpec)

/-- 'exciselaw05.SummaryJoins', WHERE WHAT IT READS IS OF BULK AT MOST 1048576: true; the input reads as it did. -/
def summaryJoinsUptoRow : OpenClaim := { program := "ythpekbohmfmffaa", sum := "5ebbd37f50534283171f7700a138fd49610127e49e45ce310a2942c4e2eacfc4", func := "excise/exciselaw05.SummaryJoins", spec := "summaryJoins", inPlace := ["math/bits.Add64"], apart := false, narrowed := true }
def SummaryJoinsUptoSaid : Prop := summaryJoinsUptoRow.holds Try.pinned (OpenSpec.upto summaryJoinsSpec)

/-- 'exciselaw05.SummaryValues', WHERE WHAT IT READS IS OF BULK AT MOST 1048576: true; the input reads as it did. -/
def summaryValuesUptoRow : OpenClaim := { program := "ythpekbohmfmffaa", sum := "5ebbd37f50534283171f7700a138fd49610127e49e45ce310a2942c4e2eacfc4", func := "excise/exciselaw05.SummaryValues", spec := "summaryValues", inPlace := ["math/bits.Add64"], apart := false, narrowed := true }
def SummaryValuesUptoSaid : Prop := summaryValuesUptoRow.holds Try.pinned (OpenSpec.upto summaryValuesSpec)

/-- 'exciselaw05.SummaryWide', WHERE WHAT IT READS IS OF BULK AT MOST 1048576: true; the input reads as it did. -/
def summaryWideUptoRow : OpenClaim := { program := "ythpekbohmfmffaa", sum := "5ebbd37f50534283171f7700a138fd49610127e49e45ce310a2942c4e2eacfc4", func := "excise/exciselaw05.SummaryWide", spec := "summaryWide", inPlace := ["math/bits.Add64"], apart := false, narrowed := true }
def SummaryWideUptoSaid : Prop := summaryWideUptoRow.holds Try.pinned (OpenSpec.upto summaryWideSpec)

/-- 'exciselaw05.SummaryMonoid', WHERE WHAT IT READS IS OF BULK AT MOST 1048576: true; the input reads as it did. -/
def summaryMonoidUptoRow : OpenClaim := { program := "ythpekbohmfmffaa", sum := "5ebbd37f50534283171f7700a138fd49610127e49e45ce310a2942c4e2eacfc4", func := "excise/exciselaw05.SummaryMonoid", spec := "summaryMonoid", inPlace := ["math/bits.Add64"], recurses := true, apart := false, narrowed := true }
def SummaryMonoidUptoSaid : Prop := summaryMonoidUptoRow.holds Try.pinned (OpenSpec.upto summaryMonoidSpec)

/-- 'exciselaw05.SummaryExact', WHERE WHAT IT READS IS OF BULK AT MOST 1048576: true; the input reads as it did. -/
def summaryExactUptoRow : OpenClaim := { program := "ythpekbohmfmffaa", sum := "5ebbd37f50534283171f7700a138fd49610127e49e45ce310a2942c4e2eacfc4", func := "excise/exciselaw05.SummaryExact", spec := "summaryExact", inPlace := ["math/bits.Add64"], apart := false, narrowed := true }
def SummaryExactUptoSaid : Prop := summaryExactUptoRow.holds Try.pinned (OpenSpec.upto summaryExactSpec)

end Rows
end Go.Proofs.Ythpekbohmfmffaa

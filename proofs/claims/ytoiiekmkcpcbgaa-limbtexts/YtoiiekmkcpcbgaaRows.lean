/-
  No cell of these rows narrows 'for every input' (looked for: loops, veiled, ifaces, maps, wideKeys, modest, calm, conditions, laid).
  DERIVED. THE GIVEN ROWS OF THIS SEAT. 12 by the template 'for every input the law returns true; each argument reads behind the call as it read before'; 0 by the template 'total and deterministic' (their statements: YtoiiekmkcpcbgaaTotals.lean).
  GIVEN WITH THE SEED: the statements are not yours to turn. If you find one false, say at which input.
  Laid BY PROGRAM, IN A SANDBOX (cutbox-rows.mjs): the forced cells as the released guide's own fill.sh prints them over the translation 23e01331fa4c4bde… (all of the seat's roots in one cut). By AI agents, Wed Nov 11 2026. No macro, syntax, notation, axiom, sorry.
-/
import Derived.Test.YtoiiekmkcpcbgaaChecked
import GoSem.Claim
import GoSem.ClaimJoined
import GoSem.ClaimMapViews
import Derived.JoinedTies
import Derived.KernelRfl
namespace Go.Proofs.Ytoiiekmkcpcbgaa
/- THE CELL 'sum', in the pinned program and in every row, IS THE sha256 OF THE DUMP (.gsa) THAT YtoiiekmkcpcbgaaProg.lean LOADS. Nothing in Lean hashes anything: it is a label: what it is worth is what the hold of that sum in a sandbox is worth. -/
noncomputable def Try.pinned : Pinned := { name := "ytoiiekmkcpcbgaa", sum := "23e01331fa4c4bdeaf3844f0f08153acbc5524283e34c046f07cb0a622b46ca7", checked := Try.checked }
namespace Rows
def none {H : Type} : Left H := { results := [], args := [] }

/-- 'exciselaw01.LimbProducts': WHATEVER THE INPUT: true; the input reads as it did. -/
def limbProductsSpec : ChangeSpec := { name := "limbProducts", fn := fun _ => fun
  | [d1, d2] => { results := [.lit (.bool true)], args := [d1, d2] }
  | _ => none }
def limbProductsRow : OpenClaim := { program := "ytoiiekmkcpcbgaa", sum := "23e01331fa4c4bdeaf3844f0f08153acbc5524283e34c046f07cb0a622b46ca7", func := "excise/exciselaw01.LimbProducts", spec := "limbProducts", inPlace := ["math/bits.Add64"], named := ["math/bits.divideError", "math/bits.overflowError"], apart := false }
def LimbProductsSaid : Prop := limbProductsRow.holds Try.pinned (OpenSpec.ofChange limbProductsSpec)

/-- ITS FALSE NEIGHBOUR: 'it returns false'. Refute it at one input. -/
def limbProductsWrong : ChangeSpec := { name := "limbProducts", fn := fun _ => fun
  | [d1, d2] => { results := [.lit (.bool false)], args := [d1, d2] }
  | _ => none }
def LimbProductsWrongFalsely : Prop := limbProductsRow.holds Try.pinned (OpenSpec.ofChange limbProductsWrong)

/-- 'exciselaw01.LimbDivides': WHATEVER THE INPUT: true; the input reads as it did. -/
def limbDividesSpec : ChangeSpec := { name := "limbDivides", fn := fun _ => fun
  | [d1, d2, d3] => { results := [.lit (.bool true)], args := [d1, d2, d3] }
  | _ => none }
def limbDividesRow : OpenClaim := { program := "ytoiiekmkcpcbgaa", sum := "23e01331fa4c4bdeaf3844f0f08153acbc5524283e34c046f07cb0a622b46ca7", func := "excise/exciselaw01.LimbDivides", spec := "limbDivides", inPlace := ["math/bits.Add64", "math/bits.Sub64"], named := ["math/bits.divideError", "math/bits.overflowError"], apart := false }
def LimbDividesSaid : Prop := limbDividesRow.holds Try.pinned (OpenSpec.ofChange limbDividesSpec)

/-- ITS FALSE NEIGHBOUR: 'it returns false'. Refute it at one input. -/
def limbDividesWrong : ChangeSpec := { name := "limbDivides", fn := fun _ => fun
  | [d1, d2, d3] => { results := [.lit (.bool false)], args := [d1, d2, d3] }
  | _ => none }
def LimbDividesWrongFalsely : Prop := limbDividesRow.holds Try.pinned (OpenSpec.ofChange limbDividesWrong)

/-- 'exciselaw01.LimbTexts': WHATEVER THE INPUT: true; the input reads as it did. -/
def limbTextsSpec : ChangeSpec := { name := "limbTexts", fn := fun _ => fun
  | [d1, d2, d3] => { results := [.lit (.bool true)], args := [d1, d2, d3] }
  | _ => none }
def limbTextsRow : OpenClaim := { program := "ytoiiekmkcpcbgaa", sum := "23e01331fa4c4bdeaf3844f0f08153acbc5524283e34c046f07cb0a622b46ca7", func := "excise/exciselaw01.LimbTexts", spec := "limbTexts", inPlace := ["math/bits.Add64"], named := ["math/bits.divideError", "math/bits.overflowError"], apart := false }
def LimbTextsSaid : Prop := limbTextsRow.holds Try.pinned (OpenSpec.ofChange limbTextsSpec)

/-- ITS FALSE NEIGHBOUR: 'it returns false'. Refute it at one input. -/
def limbTextsWrong : ChangeSpec := { name := "limbTexts", fn := fun _ => fun
  | [d1, d2, d3] => { results := [.lit (.bool false)], args := [d1, d2, d3] }
  | _ => none }
def LimbTextsWrongFalsely : Prop := limbTextsRow.holds Try.pinned (OpenSpec.ofChange limbTextsWrong)

/-- 'exciselaw02.DecimalChecks': WHATEVER THE INPUT: true; the input reads as it did. -/
def decimalChecksSpec : ChangeSpec := { name := "decimalChecks", fn := fun _ => fun
  | [d1, d2, d3] => { results := [.lit (.bool true)], args := [d1, d2, d3] }
  | _ => none }
def decimalChecksRow : OpenClaim := { program := "ytoiiekmkcpcbgaa", sum := "23e01331fa4c4bdeaf3844f0f08153acbc5524283e34c046f07cb0a622b46ca7", func := "excise/exciselaw02.DecimalChecks", spec := "decimalChecks", inPlace := ["math/bits.Add64", "math/bits.Sub64"], named := ["math/bits.divideError", "math/bits.overflowError"], apart := false }
def DecimalChecksSaid : Prop := decimalChecksRow.holds Try.pinned (OpenSpec.ofChange decimalChecksSpec)

/-- ITS FALSE NEIGHBOUR: 'it returns false'. Refute it at one input. -/
def decimalChecksWrong : ChangeSpec := { name := "decimalChecks", fn := fun _ => fun
  | [d1, d2, d3] => { results := [.lit (.bool false)], args := [d1, d2, d3] }
  | _ => none }
def DecimalChecksWrongFalsely : Prop := decimalChecksRow.holds Try.pinned (OpenSpec.ofChange decimalChecksWrong)

/-- 'exciselaw02.DecimalSums': WHATEVER THE INPUT: true; the input reads as it did. -/
def decimalSumsSpec : ChangeSpec := { name := "decimalSums", fn := fun _ => fun
  | [d1, d2] => { results := [.lit (.bool true)], args := [d1, d2] }
  | _ => none }
def decimalSumsRow : OpenClaim := { program := "ytoiiekmkcpcbgaa", sum := "23e01331fa4c4bdeaf3844f0f08153acbc5524283e34c046f07cb0a622b46ca7", func := "excise/exciselaw02.DecimalSums", spec := "decimalSums", inPlace := ["math/bits.Add64", "math/bits.Sub64"], named := ["math/bits.divideError", "math/bits.overflowError"], apart := false }
def DecimalSumsSaid : Prop := decimalSumsRow.holds Try.pinned (OpenSpec.ofChange decimalSumsSpec)

/-- ITS FALSE NEIGHBOUR: 'it returns false'. Refute it at one input. -/
def decimalSumsWrong : ChangeSpec := { name := "decimalSums", fn := fun _ => fun
  | [d1, d2] => { results := [.lit (.bool false)], args := [d1, d2] }
  | _ => none }
def DecimalSumsWrongFalsely : Prop := decimalSumsRow.holds Try.pinned (OpenSpec.ofChange decimalSumsWrong)

/-- 'exciselaw02.DecimalProducts': WHATEVER THE INPUT: true; the input reads as it did. -/
def decimalProductsSpec : ChangeSpec := { name := "decimalProducts", fn := fun _ => fun
  | [d1, d2, d3, d4] => { results := [.lit (.bool true)], args := [d1, d2, d3, d4] }
  | _ => none }
def decimalProductsRow : OpenClaim := { program := "ytoiiekmkcpcbgaa", sum := "23e01331fa4c4bdeaf3844f0f08153acbc5524283e34c046f07cb0a622b46ca7", func := "excise/exciselaw02.DecimalProducts", spec := "decimalProducts", inPlace := ["math/bits.Add64", "math/bits.Sub64"], named := ["math/bits.divideError", "math/bits.overflowError"], apart := false }
def DecimalProductsSaid : Prop := decimalProductsRow.holds Try.pinned (OpenSpec.ofChange decimalProductsSpec)

/-- ITS FALSE NEIGHBOUR: 'it returns false'. Refute it at one input. -/
def decimalProductsWrong : ChangeSpec := { name := "decimalProducts", fn := fun _ => fun
  | [d1, d2, d3, d4] => { results := [.lit (.bool false)], args := [d1, d2, d3, d4] }
  | _ => none }
def DecimalProductsWrongFalsely : Prop := decimalProductsRow.holds Try.pinned (OpenSpec.ofChange decimalProductsWrong)

/-- 'exciselaw02.DecimalScales': WHATEVER THE INPUT: true; the input reads as it did. -/
def decimalScalesSpec : ChangeSpec := { name := "decimalScales", fn := fun _ => fun
  | [d1, d2, d3] => { results := [.lit (.bool true)], args := [d1, d2, d3] }
  | _ => none }
def decimalScalesRow : OpenClaim := { program := "ytoiiekmkcpcbgaa", sum := "23e01331fa4c4bdeaf3844f0f08153acbc5524283e34c046f07cb0a622b46ca7", func := "excise/exciselaw02.DecimalScales", spec := "decimalScales", inPlace := ["math/bits.Add64", "math/bits.Sub64"], named := ["math/bits.divideError", "math/bits.overflowError"], apart := false }
def DecimalScalesSaid : Prop := decimalScalesRow.holds Try.pinned (OpenSpec.ofChange decimalScalesSpec)

/-- ITS FALSE NEIGHBOUR: 'it returns false'. Refute it at one input. -/
def decimalScalesWrong : ChangeSpec := { name := "decimalScales", fn := fun _ => fun
  | [d1, d2, d3] => { results := [.lit (.bool false)], args := [d1, d2, d3] }
  | _ => none }
def DecimalScalesWrongFalsely : Prop := decimalScalesRow.holds Try.pinned (OpenSpec.ofChange decimalScalesWrong)

/-- 'exciselaw02.DecimalCompares': WHATEVER THE INPUT: true; the input reads as it did. -/
def decimalComparesSpec : ChangeSpec := { name := "decimalCompares", fn := fun _ => fun
  | [d1, d2] => { results := [.lit (.bool true)], args := [d1, d2] }
  | _ => none }
def decimalComparesRow : OpenClaim := { program := "ytoiiekmkcpcbgaa", sum := "23e01331fa4c4bdeaf3844f0f08153acbc5524283e34c046f07cb0a622b46ca7", func := "excise/exciselaw02.DecimalCompares", spec := "decimalCompares", inPlace := ["math/bits.Add64", "math/bits.Sub64"], named := ["math/bits.divideError", "math/bits.overflowError"], apart := false }
def DecimalComparesSaid : Prop := decimalComparesRow.holds Try.pinned (OpenSpec.ofChange decimalComparesSpec)

/-- ITS FALSE NEIGHBOUR: 'it returns false'. Refute it at one input. -/
def decimalComparesWrong : ChangeSpec := { name := "decimalCompares", fn := fun _ => fun
  | [d1, d2] => { results := [.lit (.bool false)], args := [d1, d2] }
  | _ => none }
def DecimalComparesWrongFalsely : Prop := decimalComparesRow.holds Try.pinned (OpenSpec.ofChange decimalComparesWrong)

/-- 'exciselaw02.DecimalUndoes': WHATEVER THE INPUT: true; the input reads as it did. -/
def decimalUndoesSpec : ChangeSpec := { name := "decimalUndoes", fn := fun _ => fun
  | [d1, d2] => { results := [.lit (.bool true)], args := [d1, d2] }
  | _ => none }
def decimalUndoesRow : OpenClaim := { program := "ytoiiekmkcpcbgaa", sum := "23e01331fa4c4bdeaf3844f0f08153acbc5524283e34c046f07cb0a622b46ca7", func := "excise/exciselaw02.DecimalUndoes", spec := "decimalUndoes", inPlace := ["math/bits.Add64", "math/bits.Sub64"], named := ["math/bits.divideError", "math/bits.overflowError"], apart := false }
def DecimalUndoesSaid : Prop := decimalUndoesRow.holds Try.pinned (OpenSpec.ofChange decimalUndoesSpec)

/-- ITS FALSE NEIGHBOUR: 'it returns false'. Refute it at one input. -/
def decimalUndoesWrong : ChangeSpec := { name := "decimalUndoes", fn := fun _ => fun
  | [d1, d2] => { results := [.lit (.bool false)], args := [d1, d2] }
  | _ => none }
def DecimalUndoesWrongFalsely : Prop := decimalUndoesRow.holds Try.pinned (OpenSpec.ofChange decimalUndoesWrong)

/-- 'exciselaw02.DecimalRounds': WHATEVER THE INPUT: true; the input reads as it did. -/
def decimalRoundsSpec : ChangeSpec := { name := "decimalRounds", fn := fun _ => fun
  | [d1, d2, d3] => { results := [.lit (.bool true)], args := [d1, d2, d3] }
  | _ => none }
def decimalRoundsRow : OpenClaim := { program := "ytoiiekmkcpcbgaa", sum := "23e01331fa4c4bdeaf3844f0f08153acbc5524283e34c046f07cb0a622b46ca7", func := "excise/exciselaw02.DecimalRounds", spec := "decimalRounds", inPlace := ["math/bits.Add64", "math/bits.Sub64"], named := ["math/bits.divideError", "math/bits.overflowError"], apart := false }
def DecimalRoundsSaid : Prop := decimalRoundsRow.holds Try.pinned (OpenSpec.ofChange decimalRoundsSpec)

/-- ITS FALSE NEIGHBOUR: 'it returns false'. Refute it at one input. -/
def decimalRoundsWrong : ChangeSpec := { name := "decimalRounds", fn := fun _ => fun
  | [d1, d2, d3] => { results := [.lit (.bool false)], args := [d1, d2, d3] }
  | _ => none }
def DecimalRoundsWrongFalsely : Prop := decimalRoundsRow.holds Try.pinned (OpenSpec.ofChange decimalRoundsWrong)

/-- 'exciselaw02.DecimalHalves': WHATEVER THE INPUT: true; the input reads as it did. -/
def decimalHalvesSpec : ChangeSpec := { name := "decimalHalves", fn := fun _ => fun
  | [d1, d2] => { results := [.lit (.bool true)], args := [d1, d2] }
  | _ => none }
def decimalHalvesRow : OpenClaim := { program := "ytoiiekmkcpcbgaa", sum := "23e01331fa4c4bdeaf3844f0f08153acbc5524283e34c046f07cb0a622b46ca7", func := "excise/exciselaw02.DecimalHalves", spec := "decimalHalves", inPlace := ["math/bits.Add64", "math/bits.Sub64"], named := ["math/bits.divideError", "math/bits.overflowError"], apart := false }
def DecimalHalvesSaid : Prop := decimalHalvesRow.holds Try.pinned (OpenSpec.ofChange decimalHalvesSpec)

/-- ITS FALSE NEIGHBOUR: 'it returns false'. Refute it at one input. -/
def decimalHalvesWrong : ChangeSpec := { name := "decimalHalves", fn := fun _ => fun
  | [d1, d2] => { results := [.lit (.bool false)], args := [d1, d2] }
  | _ => none }
def DecimalHalvesWrongFalsely : Prop := decimalHalvesRow.holds Try.pinned (OpenSpec.ofChange decimalHalvesWrong)

/-- 'exciselaw02.DecimalOrder': WHATEVER THE INPUT: true; the input reads as it did. -/
def decimalOrderSpec : ChangeSpec := { name := "decimalOrder", fn := fun _ => fun
  | [d1, d2, d3] => { results := [.lit (.bool true)], args := [d1, d2, d3] }
  | _ => none }
def decimalOrderRow : OpenClaim := { program := "ytoiiekmkcpcbgaa", sum := "23e01331fa4c4bdeaf3844f0f08153acbc5524283e34c046f07cb0a622b46ca7", func := "excise/exciselaw02.DecimalOrder", spec := "decimalOrder", inPlace := ["math/bits.Add64", "math/bits.Sub64"], named := ["math/bits.divideError", "math/bits.overflowError"], apart := false }
def DecimalOrderSaid : Prop := decimalOrderRow.holds Try.pinned (OpenSpec.ofChange decimalOrderSpec)

/-- ITS FALSE NEIGHBOUR: 'it returns false'. Refute it at one input. -/
def decimalOrderWrong : ChangeSpec := { name := "decimalOrder", fn := fun _ => fun
  | [d1, d2, d3] => { results := [.lit (.bool false)], args := [d1, d2, d3] }
  | _ => none }
def DecimalOrderWrongFalsely : Prop := decimalOrderRow.holds Try.pinned (OpenSpec.ofChange decimalOrderWrong)

/- THE SECOND FORM. 'bulk': how many values and letters a reading holds, each counted each time it is reached (what is shared counts as often as it is met; a slice's spare places count too). A statement '..UptoSaid' is the law's where the arguments, and the package variables that the reading takes, are together of bulk at most 1048576: NARROWER than '..Said'. Prove '..Said' where nothing that the law and all that it calls make is longer than what came in: it says more and counts as full. Else prove '..UptoSaid'. A law counts once. -/
mutual
def uptoBulk {H : Type} : DataW H → Nat
  | .lit (.string bytes) => bytes.length + 1
  | .lit _ => 1
  | .nil => 1
  | .ptr d => uptoBulk d + 1
  | .slice elems spare => uptoBulkAll elems + uptoBulkAll spare + 1
  | .agg parts => uptoBulkAll parts + 1
  | .iface _ d => uptoBulk d + 1
  | .map entries => uptoBulkEntries entries + 1
  | .held _ => 1
def uptoBulkAll {H : Type} : List (DataW H) → Nat
  | [] => 0
  | d :: r => uptoBulk d + uptoBulkAll r
def uptoBulkEntries {H : Type} : List (Lit × DataW H) → Nat
  | [] => 0
  | x :: r => uptoBulkEntry x + uptoBulkEntries r
def uptoBulkEntry {H : Type} : Lit × DataW H → Nat
  | (.string bytes, d) => bytes.length + uptoBulk d + 1
  | (_, d) => uptoBulk d + 1
 end
def uptoSmall : (H : Type) → List (DataW H) → Bool := fun _ ds => decide (uptoBulkAll ds ≤ 1048576)
def OpenSpec.upto (s : _root_.Go.ChangeSpec) : _root_.Go.OpenSpec := { _root_.Go.OpenSpec.ofChange s with cond := some uptoSmall }

/-- 'exciselaw01.LimbProducts', WHERE WHAT IT READS IS OF BULK AT MOST 1048576: true; the input reads as it did. -/
def limbProductsUptoRow : OpenClaim := { program := "ytoiiekmkcpcbgaa", sum := "23e01331fa4c4bdeaf3844f0f08153acbc5524283e34c046f07cb0a622b46ca7", func := "excise/exciselaw01.LimbProducts", spec := "limbProducts", inPlace := ["math/bits.Add64"], named := ["math/bits.divideError", "math/bits.overflowError"], apart := false, narrowed := true }
def LimbProductsUptoSaid : Prop := limbProductsUptoRow.holds Try.pinned (OpenSpec.upto limbProductsSpec)

/-- 'exciselaw01.LimbDivides', WHERE WHAT IT READS IS OF BULK AT MOST 1048576: true; the input reads as it did. -/
def limbDividesUptoRow : OpenClaim := { program := "ytoiiekmkcpcbgaa", sum := "23e01331fa4c4bdeaf3844f0f08153acbc5524283e34c046f07cb0a622b46ca7", func := "excise/exciselaw01.LimbDivides", spec := "limbDivides", inPlace := ["math/bits.Add64", "math/bits.Sub64"], named := ["math/bits.divideError", "math/bits.overflowError"], apart := false, narrowed := true }
def LimbDividesUptoSaid : Prop := limbDividesUptoRow.holds Try.pinned (OpenSpec.upto limbDividesSpec)

/-- 'exciselaw01.LimbTexts', WHERE WHAT IT READS IS OF BULK AT MOST 1048576: true; the input reads as it did. -/
def limbTextsUptoRow : OpenClaim := { program := "ytoiiekmkcpcbgaa", sum := "23e01331fa4c4bdeaf3844f0f08153acbc5524283e34c046f07cb0a622b46ca7", func := "excise/exciselaw01.LimbTexts", spec := "limbTexts", inPlace := ["math/bits.Add64"], named := ["math/bits.divideError", "math/bits.overflowError"], apart := false, narrowed := true }
def LimbTextsUptoSaid : Prop := limbTextsUptoRow.holds Try.pinned (OpenSpec.upto limbTextsSpec)

/-- 'exciselaw02.DecimalChecks', WHERE WHAT IT READS IS OF BULK AT MOST 1048576: true; the input reads as it did. -/
def decimalChecksUptoRow : OpenClaim := { program := "ytoiiekmkcpcbgaa", sum := "23e01331fa4c4bdeaf3844f0f08153acbc5524283e34c046f07cb0a622b46ca7", func := "excise/exciselaw02.DecimalChecks", spec := "decimalChecks", inPlace := ["math/bits.Add64", "math/bits.Sub64"], named := ["math/bits.divideError", "math/bits.overflowError"], apart := false, narrowed := true }
def DecimalChecksUptoSaid : Prop := decimalChecksUptoRow.holds Try.pinned (OpenSpec.upto decimalChecksSpec)

/-- 'exciselaw02.DecimalSums', WHERE WHAT IT READS IS OF BULK AT MOST 1048576: true; the input reads as it did. -/
def decimalSumsUptoRow : OpenClaim := { program := "ytoiiekmkcpcbgaa", sum := "23e01331fa4c4bdeaf3844f0f08153acbc5524283e34c046f07cb0a622b46ca7", func := "excise/exciselaw02.DecimalSums", spec := "decimalSums", inPlace := ["math/bits.Add64", "math/bits.Sub64"], named := ["math/bits.divideError", "math/bits.overflowError"], apart := false, narrowed := true }
def DecimalSumsUptoSaid : Prop := decimalSumsUptoRow.holds Try.pinned (OpenSpec.upto decimalSumsSpec)

/-- 'exciselaw02.DecimalProducts', WHERE WHAT IT READS IS OF BULK AT MOST 1048576: true; the input reads as it did. -/
def decimalProductsUptoRow : OpenClaim := { program := "ytoiiekmkcpcbgaa", sum := "23e01331fa4c4bdeaf3844f0f08153acbc5524283e34c046f07cb0a622b46ca7", func := "excise/exciselaw02.DecimalProducts", spec := "decimalProducts", inPlace := ["math/bits.Add64", "math/bits.Sub64"], named := ["math/bits.divideError", "math/bits.overflowError"], apart := false, narrowed := true }
def DecimalProductsUptoSaid : Prop := decimalProductsUptoRow.holds Try.pinned (OpenSpec.upto decimalProductsSpec)

/-- 'exciselaw02.DecimalScales', WHERE WHAT IT READS IS OF BULK AT MOST 1048576: true; the input reads as it did. -/
def decimalScalesUptoRow : OpenClaim := { program := "ytoiiekmkcpcbgaa", sum := "23e01331fa4c4bdeaf3844f0f08153acbc5524283e34c046f07cb0a622b46ca7", func := "excise/exciselaw02.DecimalScales", spec := "decimalScales", inPlace := ["math/bits.Add64", "math/bits.Sub64"], named := ["math/bits.divideError", "math/bits.overflowError"], apart := false, narrowed := true }
def DecimalScalesUptoSaid : Prop := decimalScalesUptoRow.holds Try.pinned (OpenSpec.upto decimalScalesSpec)

/-- 'exciselaw02.DecimalCompares', WHERE WHAT IT READS IS OF BULK AT MOST 1048576: true; the input reads as it did. -/
def decimalComparesUptoRow : OpenClaim := { program := "ytoiiekmkcpcbgaa", sum := "23e01331fa4c4bdeaf3844f0f08153acbc5524283e34c046f07cb0a622b46ca7", func := "excise/exciselaw02.DecimalCompares", spec := "decimalCompares", inPlace := ["math/bits.Add64", "math/bits.Sub64"], named := ["math/bits.divideError", "math/bits.overflowError"], apart := false, narrowed := true }
def DecimalComparesUptoSaid : Prop := decimalComparesUptoRow.holds Try.pinned (OpenSpec.upto decimalComparesSpec)

/-- 'exciselaw02.DecimalUndoes', WHERE WHAT IT READS IS OF BULK AT MOST 1048576: true; the input reads as it did. -/
def decimalUndoesUptoRow : OpenClaim := { program := "ytoiiekmkcpcbgaa", sum := "23e01331fa4c4bdeaf3844f0f08153acbc5524283e34c046f07cb0a622b46ca7", func := "excise/exciselaw02.DecimalUndoes", spec := "decimalUndoes", inPlace := ["math/bits.Add64", "math/bits.Sub64"], named := ["math/bits.divideError", "math/bits.overflowError"], apart := false, narrowed := true }
def DecimalUndoesUptoSaid : Prop := decimalUndoesUptoRow.holds Try.pinned (OpenSpec.upto decimalUndoesSpec)

/-- 'exciselaw02.DecimalRounds', WHERE WHAT IT READS IS OF BULK AT MOST 1048576: true; the input reads as it did. -/
def decimalRoundsUptoRow : OpenClaim := { program := "ytoiiekmkcpcbgaa", sum := "23e01331fa4c4bdeaf3844f0f08153acbc5524283e34c046f07cb0a622b46ca7", func := "excise/exciselaw02.DecimalRounds", spec := "decimalRounds", inPlace := ["math/bits.Add64", "math/bits.Sub64"], named := ["math/bits.divideError", "math/bits.overflowError"], apart := false, narrowed := true }
def DecimalRoundsUptoSaid : Prop := decimalRoundsUptoRow.holds Try.pinned (OpenSpec.upto decimalRoundsSpec)

/-- 'exciselaw02.DecimalHalves', WHERE WHAT IT READS IS OF BULK AT MOST 1048576: true; the input reads as it did. -/
def decimalHalvesUptoRow : OpenClaim := { program := "ytoiiekmkcpcbgaa", sum := "23e01331fa4c4bdeaf3844f0f08153acbc5524283e34c046f07cb0a622b46ca7", func := "excise/exciselaw02.DecimalHalves", spec := "decimalHalves", inPlace := ["math/bits.Add64", "math/bits.Sub64"], named := ["math/bits.divideError", "math/bits.overflowError"], apart := false, narrowed := true }
def DecimalHalvesUptoSaid : Prop := decimalHalvesUptoRow.holds Try.pinned (OpenSpec.upto decimalHalvesSpec)

/-- 'exciselaw02.DecimalOrder', WHERE WHAT IT READS IS OF BULK AT MOST 1048576: true; the input reads as it did. -/
def decimalOrderUptoRow : OpenClaim := { program := "ytoiiekmkcpcbgaa", sum := "23e01331fa4c4bdeaf3844f0f08153acbc5524283e34c046f07cb0a622b46ca7", func := "excise/exciselaw02.DecimalOrder", spec := "decimalOrder", inPlace := ["math/bits.Add64", "math/bits.Sub64"], named := ["math/bits.divideError", "math/bits.overflowError"], apart := false, narrowed := true }
def DecimalOrderUptoSaid : Prop := decimalOrderUptoRow.holds Try.pinned (OpenSpec.upto decimalOrderSpec)

end Rows
end Go.Proofs.Ytoiiekmkcpcbgaa

/-
  Both Names.
-/
import Derived.Test.YtepfokoepibkcaaBs
namespace Go.Proofs.Ytepfokoepibkcaa
open Go.RowKit
theorem eq9 {a b : ByteArray} {r : Bool} (h : (a.toList == b.toList) = r) (x y : Operand) (w : World) : (do eqGuard .eql 9 x y (.string a) (.string b); binOp .eql 9 (.string a) (.string b)).run Try.prog w = .ok (.bool r) w := by
  subst h; simp [go_sem]
/-- Letters and digits alone from a place on. -/
def nmA (s : ByteArray) (k : Nat) : Bool := if h : k < s.size then (ltr (bt s k) || dgt (bt s k)) && nmA s (k + 1) else true
termination_by s.size - k
decreasing_by omega
/-- May a text name a thing? -/
def nam (s : ByteArray) : Bool := !decide (s.size = 0) && !decide (32 < s.size) && ltr (bt s 0) && nmA s 0
end Go.Proofs.Ytepfokoepibkcaa


/-
  Both Names.
-/
import Derived.Test.YtepfokoepibkcaaGreatBs
namespace Go.Proofs.YtepfokoepibkcaaGreat
open Go.RowKit
theorem eq9 {a b : ByteArray} {r : Bool} (h : (a.toList == b.toList) = r) (x y : Operand) (w : World) : (do eqGuard .eql 9 x y (.string a) (.string b); binOp .eql 9 (.string a) (.string b)).run Tryz.prog w = .ok (.bool r) w := by
  subst h; simp [go_sem]
end Go.Proofs.YtepfokoepibkcaaGreat


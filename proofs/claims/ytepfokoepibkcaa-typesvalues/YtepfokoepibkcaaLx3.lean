/-
  Both Names.
-/
import Derived.Test.YtepfokoepibkcaaBs
namespace Go.Proofs.Ytepfokoepibkcaa
open Go.RowKit
theorem eq9 {a b : ByteArray} {r : Bool} (h : (a.toList == b.toList) = r) (x y : Operand) (w : World) : (do eqGuard .eql 9 x y (.string a) (.string b); binOp .eql 9 (.string a) (.string b)).run Try.prog w = .ok (.bool r) w := by
  subst h; simp [go_sem]
/-- Letters and digits alone from a place on. -/
def nmF (s : ByteArray) : Nat → Nat → Bool
  | 0, _ => true
  | n + 1, k => (ltr (bt s k) || dgt (bt s k)) && nmF s n (k + 1)
def nmA (s : ByteArray) (k : Nat) : Bool := nmF s (s.size - k) k
theorem nmA_eq (s : ByteArray) (k : Nat) : nmA s k = if _h : k < s.size then (ltr (bt s k) || dgt (bt s k)) && nmA s (k + 1) else true := by
  unfold nmA
  by_cases h : k < s.size
  · rw [dif_pos h, show s.size - k = (s.size - (k + 1)) + 1 by omega]; rfl
  · rw [dif_neg h, show s.size - k = 0 by omega]; rfl
/-- May a text name a thing? -/
def nam (s : ByteArray) : Bool := !decide (s.size = 0) && !decide (32 < s.size) && ltr (bt s 0) && nmA s 0
end Go.Proofs.Ytepfokoepibkcaa


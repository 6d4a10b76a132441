/-
  The definitions that live holds: what Check says of them.
-/
import Derived.Test.YtepfokoepibkcaaQLx3
namespace Go.Proofs.Ytepfokoepibkcaa
open Go.RowKit D
/-! The definitions that live holds. -/
section
variable {k1 k2 : Nat} {s : ByteArray}
end
theorem SL.nil {w : World} {n : Nat} {α : Type} {cells : α → List Value} {pa : Option Addr} : SL w n cells pa ([] : List α) := ⟨Nat.zero_le _, fun i o h => by simp at h⟩
end Go.Proofs.Ytepfokoepibkcaa


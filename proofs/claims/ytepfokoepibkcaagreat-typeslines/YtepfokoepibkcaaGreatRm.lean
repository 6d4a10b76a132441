/-
  What an expression reads, as lists; == of what is read; a map by it.
-/
import Derived.Test.YtepfokoepibkcaaGreatRb
import Derived.MapKept
namespace Go.Proofs.YtepfokoepibkcaaGreat
open Go.RowKit D
/-- How many nodes. -/
def nd : Ex → Nat
  | .mk _ _ _ _ _ _ _ _ _ args => args.foldl (fun n a => n + nd a) 1
theorem nd_eq : ∀ x : Ex, nd x = x.args.foldl (fun n a => n + nd a) 1
  | .mk k op nm se v sc po pa cap args => by
    rw [nd]
/-! == of what is read; a map by what is read. -/
end Go.Proofs.YtepfokoepibkcaaGreat


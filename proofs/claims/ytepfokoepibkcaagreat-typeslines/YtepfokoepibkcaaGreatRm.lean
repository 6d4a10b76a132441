/-
  What an expression reads, as lists; == of what is read; a map by it.
-/
import Derived.Test.YtepfokoepibkcaaGreatRb
import Derived.MapKept
namespace Go.Proofs.YtepfokoepibkcaaGreat
open Go.RowKit D
/-- How many nodes. -/
def nd : Ex → Nat
  | .mk _ _ _ _ _ _ _ _ _ args => args.attach.foldl (fun n a => n + nd a.1) 1
termination_by e => SizeOf.sizeOf e
decreasing_by
  have := List.sizeOf_lt_of_mem a.2
  simp only [Ex.mk.sizeOf_spec]; omega
theorem nd_eq : ∀ x : Ex, nd x = x.args.foldl (fun n a => n + nd a) 1
  | .mk k op nm se v sc po pa cap args => by
    rw [nd]
    show _ = args.foldl _ _
    conv => rhs; rw [← List.attach_map_subtype_val args, List.foldl_map]
/-! == of what is read; a map by what is read. -/
end Go.Proofs.YtepfokoepibkcaaGreat


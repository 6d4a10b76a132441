/-
  The document's half, a digit to the base 2^32, whatever the number: the walk.
-/
import Derived.Test.YthpekbohmfmffaaRmm
import Derived.Test.YthpekbohmfmffaaAid
namespace Go.Proofs.Ythpekbohmfmffaa
open Go.RowKit
set_option maxHeartbeats 1000000 in
theorem half_any (n : Int) (i : Nat) (w : World) (hi : i < 8) :
    Calls Try.prog 66 #[nv n, .int .i64 (i : Int)] w fun e w' => e = .returned (.int .u64 (dg n i)) ∧ Mo w w' := by
  have fin : ∀ (r : Int) (w' : World), r = dg n i → Mo w w' → (Ending.returned (.int .u64 r) = .returned (.int .u64 (dg n i)) ∧ Mo w w') := fun r w' h m => ⟨by rw [h], m⟩
  have hq : i = 0 ∨ i = 1 ∨ i = 2 ∨ i = 3 ∨ i = 4 ∨ i = 5 ∨ i = 6 ∨ i = 7 := by omega
  rcases hq with rfl | rfl | rfl | rfl | rfl | rfl | rfl | rfl
  all_goals
    go_enter Try.func66, Try.ntmps66
    go_wp2
    go_ret
    refine fin _ _ ?_ ((Mo.refl _).alloc _ _)
    simp [dg, l0, l1, l2, l3]
    rw [Int.tmod_eq_emod_of_nonneg (by omega)]
    omega
end Go.Proofs.Ythpekbohmfmffaa

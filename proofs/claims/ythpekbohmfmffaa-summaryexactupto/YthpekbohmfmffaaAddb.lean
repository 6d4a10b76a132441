/-
  limb.Add and limb.Sub, From, Odd, the document's From and not, whatever the limbs: the walks.
-/
import Derived.Test.YthpekbohmfmffaaAdd
namespace Go.Proofs.Ythpekbohmfmffaa
open Go.RowKit

set_option maxHeartbeats 400000 in
theorem from20_any (u : Int) (w : World) (h : U1 u) :
    Calls Try.prog 56 #[.int .u64 u] w fun e w' => e = .returned (nv u) ∧ Mo w w' := by
  have e0 : l0 u = u := by unfold U1 at h; unfold l0; omega
  have e1 : l1 u = 0 := by unfold U1 at h; unfold l1; omega
  have e2 : l2 u = 0 := by unfold U1 at h; unfold l2; omega
  have e3 : l3 u = 0 := by unfold U1 at h; unfold l3; omega
  rw [nv, e0, e1, e2, e3]
  clear e0 e1 e2 e3
  go_enter Try.func56, Try.ntmps56
  go_wp2
  refine bodyPost_ret (by simp [results, Try.results56, go_sem]; rfl) rfl ?_
  refine ⟨rfl, ?_⟩
  repeat (first | exact Mo.refl _ | with_reducible apply Mo.drew | with_reducible apply Mo.drewN | with_reducible apply Mo.alloc | with_reducible refine Mo.setCell ?_ (by simp <;> omega) _ | with_reducible refine Mo.trans ?_ (by assumption))

set_option maxHeartbeats 400000 in
theorem from34_any (u : Int) (w : World) (h : U1 u) :
    Calls Try.prog 46 #[.int .u64 u] w fun e w' => e = .returned (nv u) ∧ Mo w w' := by
  have e0 : l0 u = u := by unfold U1 at h; unfold l0; omega
  have e1 : l1 u = 0 := by unfold U1 at h; unfold l1; omega
  have e2 : l2 u = 0 := by unfold U1 at h; unfold l2; omega
  have e3 : l3 u = 0 := by unfold U1 at h; unfold l3; omega
  rw [nv, e0, e1, e2, e3]
  clear e0 e1 e2 e3
  go_enter Try.func46, Try.ntmps46
  go_wp2
  refine bodyPost_ret (by simp [results, Try.results46, go_sem]; rfl) rfl ?_
  refine ⟨rfl, ?_⟩
  repeat (first | exact Mo.refl _ | with_reducible apply Mo.drew | with_reducible apply Mo.drewN | with_reducible apply Mo.alloc | with_reducible refine Mo.setCell ?_ (by simp <;> omega) _ | with_reducible refine Mo.trans ?_ (by assumption))

end Go.Proofs.Ythpekbohmfmffaa

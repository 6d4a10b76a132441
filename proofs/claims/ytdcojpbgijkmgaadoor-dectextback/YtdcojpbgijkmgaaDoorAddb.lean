/-
  limb.Add and limb.Sub, From, Odd, the document's From and not, whatever the limbs: the walks.
-/
import Derived.Test.YtdcojpbgijkmgaaDoorAdd
namespace Go.Proofs.YtdcojpbgijkmgaaDoor
open Go.RowKit

set_option maxHeartbeats 1000000 in
theorem add_any (a0 a1 a2 a3 b0 b1 b2 b3 : Int) (w : World) (ha : U4 a0 a1 a2 a3) (hb : U4 b0 b1 b2 b3) :
    Calls Tryd.prog 72 #[.agg #[.int .u64 a0, .int .u64 a1, .int .u64 a2, .int .u64 a3], .agg #[.int .u64 b0, .int .u64 b1, .int .u64 b2, .int .u64 b3]] w fun e w' =>
      e = .returned (.tuple #[nv (vl a0 a1 a2 a3 + vl b0 b1 b2 b3), .bool (ov (vl a0 a1 a2 a3 + vl b0 b1 b2 b3))]) ∧ Mo w w' := by
  rw [← ov_ne ha hb]
  go_enter Tryd.func72, Tryd.ntmps72
  go_wp2_with fail
  refine (addCarry_any a0 a1 a2 a3 b0 b1 b2 b3 _ ha hb).mono ?_
  rintro e w1 ⟨rfl, hm⟩
  have hc := hm.cell
  have hf := hm.2
  have hz := hm.size
  simp only [World.size_alloc] at hz hc
  have hz2 : w.heap.size + 1 + 1 < w1.heap.size := by omega
  go_wp2
  refine bodyPost_ret (by simp [results, Tryd.results72, go_sem, hc, hz2]; rfl) rfl ?_
  refine ⟨rfl, ?_⟩
  repeat (first | exact Mo.refl _ | with_reducible apply Mo.drew | with_reducible apply Mo.drewN | with_reducible apply Mo.alloc | with_reducible refine Mo.setCell ?_ (by simp <;> omega) _ | with_reducible refine Mo.trans ?_ (by assumption))

set_option maxHeartbeats 400000 in
theorem from20_any (u : Int) (w : World) (h : U1 u) :
    Calls Tryd.prog 58 #[.int .u64 u] w fun e w' => e = .returned (nv u) ∧ Mo w w' := by
  have e0 : l0 u = u := by unfold U1 at h; unfold l0; omega
  have e1 : l1 u = 0 := by unfold U1 at h; unfold l1; omega
  have e2 : l2 u = 0 := by unfold U1 at h; unfold l2; omega
  have e3 : l3 u = 0 := by unfold U1 at h; unfold l3; omega
  rw [nv, e0, e1, e2, e3]
  clear e0 e1 e2 e3
  go_enter Tryd.func58, Tryd.ntmps58
  go_wp2
  refine bodyPost_ret (by simp [results, Tryd.results58, go_sem]; rfl) rfl ?_
  refine ⟨rfl, ?_⟩
  repeat (first | exact Mo.refl _ | with_reducible apply Mo.drew | with_reducible apply Mo.drewN | with_reducible apply Mo.alloc | with_reducible refine Mo.setCell ?_ (by simp <;> omega) _ | with_reducible refine Mo.trans ?_ (by assumption))

set_option maxHeartbeats 400000 in
theorem from34_any (u : Int) (w : World) (h : U1 u) :
    Calls Tryd.prog 55 #[.int .u64 u] w fun e w' => e = .returned (nv u) ∧ Mo w w' := by
  have e0 : l0 u = u := by unfold U1 at h; unfold l0; omega
  have e1 : l1 u = 0 := by unfold U1 at h; unfold l1; omega
  have e2 : l2 u = 0 := by unfold U1 at h; unfold l2; omega
  have e3 : l3 u = 0 := by unfold U1 at h; unfold l3; omega
  rw [nv, e0, e1, e2, e3]
  clear e0 e1 e2 e3
  go_enter Tryd.func55, Tryd.ntmps55
  go_wp2
  refine bodyPost_ret (by simp [results, Tryd.results55, go_sem]; rfl) rfl ?_
  refine ⟨rfl, ?_⟩
  repeat (first | exact Mo.refl _ | with_reducible apply Mo.drew | with_reducible apply Mo.drewN | with_reducible apply Mo.alloc | with_reducible refine Mo.setCell ?_ (by simp <;> omega) _ | with_reducible refine Mo.trans ?_ (by assumption))

set_option maxHeartbeats 400000 in
theorem odd_any (a0 a1 a2 a3 : Int) (w : World) (ha : U4 a0 a1 a2 a3) :
    Calls Tryd.prog 114 #[.agg #[.int .u64 a0, .int .u64 a1, .int .u64 a2, .int .u64 a3]] w fun e w' => e = .returned (.bool (a0 % 2 == 1)) ∧ Mo w w' := by
  obtain ⟨⟨p0, q0⟩, ⟨p1, q1⟩, ⟨p2, q2⟩, ⟨p3, q3⟩⟩ := ha
  go_enter Tryd.func114, Tryd.ntmps114
  go_wp2
  go_ret
  refine ⟨rfl, ?_⟩
  repeat (first | exact Mo.refl _ | with_reducible apply Mo.drew | with_reducible apply Mo.drewN | with_reducible apply Mo.alloc | with_reducible refine Mo.setCell ?_ (by simp <;> omega) _ | with_reducible refine Mo.trans ?_ (by assumption))

end Go.Proofs.YtdcojpbgijkmgaaDoor

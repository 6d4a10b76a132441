/-
  limb.Add and limb.Sub, From, Odd, the document's From and not, whatever the limbs: the walks.
-/
import Derived.Test.YtoiiekmkcpcbgaaAdd
namespace Go.Proofs.Ytoiiekmkcpcbgaa
open Go.RowKit

set_option maxHeartbeats 1000000 in
theorem add_any (a0 a1 a2 a3 b0 b1 b2 b3 : Int) (w : World) (ha : U4 a0 a1 a2 a3) (hb : U4 b0 b1 b2 b3) :
    Calls Try.prog 60 #[.agg #[.int .u64 a0, .int .u64 a1, .int .u64 a2, .int .u64 a3], .agg #[.int .u64 b0, .int .u64 b1, .int .u64 b2, .int .u64 b3]] w fun e w' =>
      e = .returned (.tuple #[nv (vl a0 a1 a2 a3 + vl b0 b1 b2 b3), .bool (ov (vl a0 a1 a2 a3 + vl b0 b1 b2 b3))]) ∧ Mo w w' := by
  rw [← ov_ne ha hb]
  go_enter Try.func60, Try.ntmps60
  go_wp2_with fail
  refine (addCarry_any a0 a1 a2 a3 b0 b1 b2 b3 _ ha hb).mono ?_
  rintro e w1 ⟨rfl, hm⟩
  have hc := hm.cell
  have hf := hm.2
  have hz := hm.size
  simp only [World.size_alloc] at hz hc
  have hz2 : w.heap.size + 1 + 1 < w1.heap.size := by omega
  go_wp2
  refine bodyPost_ret (by simp [results, Try.results60, go_sem, hc, hz2]; rfl) rfl ?_
  refine ⟨rfl, ?_⟩
  repeat (first | exact Mo.refl _ | with_reducible apply Mo.drew | with_reducible apply Mo.drewN | with_reducible apply Mo.alloc | with_reducible refine Mo.setCell ?_ (by simp <;> omega) _ | with_reducible refine Mo.trans ?_ (by assumption))

set_option maxHeartbeats 1000000 in
theorem sub_any (a0 a1 a2 a3 b0 b1 b2 b3 : Int) (w : World) (ha : U4 a0 a1 a2 a3) (hb : U4 b0 b1 b2 b3) :
    Calls Try.prog 100 #[.agg #[.int .u64 a0, .int .u64 a1, .int .u64 a2, .int .u64 a3], .agg #[.int .u64 b0, .int .u64 b1, .int .u64 b2, .int .u64 b3]] w fun e w' =>
      e = .returned (.tuple #[nv ((vl a0 a1 a2 a3 - vl b0 b1 b2 b3) % MM), .bool (un (vl a0 a1 a2 a3 - vl b0 b1 b2 b3))]) ∧ Mo w w' := by
  rw [← un_ne ha hb]
  go_enter Try.func100, Try.ntmps100
  go_wp2_with fail
  refine (subBorrow_any a0 a1 a2 a3 b0 b1 b2 b3 _ ha hb).mono ?_
  rintro e w1 ⟨rfl, hm⟩
  have hc := hm.cell
  have hf := hm.2
  have hz := hm.size
  simp only [World.size_alloc] at hz hc
  have hz2 : w.heap.size + 1 + 1 < w1.heap.size := by omega
  go_wp2
  refine bodyPost_ret (by simp [results, Try.results100, go_sem, hc, hz2]; rfl) rfl ?_
  refine ⟨rfl, ?_⟩
  repeat (first | exact Mo.refl _ | with_reducible apply Mo.drew | with_reducible apply Mo.drewN | with_reducible apply Mo.alloc | with_reducible refine Mo.setCell ?_ (by simp <;> omega) _ | with_reducible refine Mo.trans ?_ (by assumption))

set_option maxHeartbeats 400000 in
theorem from20_any (u : Int) (w : World) (h : U1 u) :
    Calls Try.prog 56 #[.int .u64 u] w fun e w' => e = .returned (nv u) ∧ Mo w w' := by
  have e0 : l0 u = u := by unfold U1 at h; unfold l0; omega
  have e1 : l1 u = 0 := by unfold U1 at h; unfold l1; omega
  have e2 : l2 u = 0 := by unfold U1 at h; unfold l2; omega
  have e3 : l3 u = 0 := by unfold U1 at h; unfold l3; omega
  rw [nv, e0, e1, e2, e3]
  clear e0 e1 e2 e3
  go_enter Try.func56, Try.ntmps56
  go_wp2
  refine bodyPost_ret (by simp [results, Try.results56, go_sem]; rfl) rfl ?_
  refine ⟨rfl, ?_⟩
  repeat (first | exact Mo.refl _ | with_reducible apply Mo.drew | with_reducible apply Mo.drewN | with_reducible apply Mo.alloc | with_reducible refine Mo.setCell ?_ (by simp <;> omega) _ | with_reducible refine Mo.trans ?_ (by assumption))

set_option maxHeartbeats 400000 in
theorem from34_any (u : Int) (w : World) (h : U1 u) :
    Calls Try.prog 69 #[.int .u64 u] w fun e w' => e = .returned (nv u) ∧ Mo w w' := by
  have e0 : l0 u = u := by unfold U1 at h; unfold l0; omega
  have e1 : l1 u = 0 := by unfold U1 at h; unfold l1; omega
  have e2 : l2 u = 0 := by unfold U1 at h; unfold l2; omega
  have e3 : l3 u = 0 := by unfold U1 at h; unfold l3; omega
  rw [nv, e0, e1, e2, e3]
  clear e0 e1 e2 e3
  go_enter Try.func69, Try.ntmps69
  go_wp2
  refine bodyPost_ret (by simp [results, Try.results69, go_sem]; rfl) rfl ?_
  refine ⟨rfl, ?_⟩
  repeat (first | exact Mo.refl _ | with_reducible apply Mo.drew | with_reducible apply Mo.drewN | with_reducible apply Mo.alloc | with_reducible refine Mo.setCell ?_ (by simp <;> omega) _ | with_reducible refine Mo.trans ?_ (by assumption))

set_option maxHeartbeats 400000 in
theorem odd_any (a0 a1 a2 a3 : Int) (w : World) (ha : U4 a0 a1 a2 a3) :
    Calls Try.prog 108 #[.agg #[.int .u64 a0, .int .u64 a1, .int .u64 a2, .int .u64 a3]] w fun e w' => e = .returned (.bool (a0 % 2 == 1)) ∧ Mo w w' := by
  obtain ⟨⟨p0, q0⟩, ⟨p1, q1⟩, ⟨p2, q2⟩, ⟨p3, q3⟩⟩ := ha
  go_enter Try.func108, Try.ntmps108
  go_wp2
  go_ret
  refine ⟨rfl, ?_⟩
  repeat (first | exact Mo.refl _ | with_reducible apply Mo.drew | with_reducible apply Mo.drewN | with_reducible apply Mo.alloc | with_reducible refine Mo.setCell ?_ (by simp <;> omega) _ | with_reducible refine Mo.trans ?_ (by assumption))

set_option maxHeartbeats 400000 in
theorem not_any (a0 a1 a2 a3 : Int) (w : World) (ha : U4 a0 a1 a2 a3) :
    Calls Try.prog 98 #[.agg #[.int .u64 a0, .int .u64 a1, .int .u64 a2, .int .u64 a3]] w fun e w' => e = .returned (nv (MM - 1 - vl a0 a1 a2 a3)) ∧ Mo w w' := by
  have e0 : 18446744073709551615 - a0 = l0 (MM - 1 - vl a0 a1 a2 a3) := by unfold U4 U1 at ha; unfold l0 MM vl; omega
  have e1 : 18446744073709551615 - a1 = l1 (MM - 1 - vl a0 a1 a2 a3) := by unfold U4 U1 at ha; unfold l1 MM vl; omega
  have e2 : 18446744073709551615 - a2 = l2 (MM - 1 - vl a0 a1 a2 a3) := by unfold U4 U1 at ha; unfold l2 MM vl; omega
  have e3 : 18446744073709551615 - a3 = l3 (MM - 1 - vl a0 a1 a2 a3) := by unfold U4 U1 at ha; unfold l3 MM vl; omega
  rw [nv, ← e0, ← e1, ← e2, ← e3]
  clear e0 e1 e2 e3
  obtain ⟨⟨p0, q0⟩, ⟨p1, q1⟩, ⟨p2, q2⟩, ⟨p3, q3⟩⟩ := ha
  go_enter Try.func98, Try.ntmps98
  go_wp2
  simp only [bnot a0 p0 q0, bnot a1 p1 q1, bnot a2 p2 q2, bnot a3 p3 q3]
  refine bodyPost_ret (by simp [results, Try.results98, go_sem]; rfl) rfl ?_
  refine ⟨rfl, ?_⟩
  repeat (first | exact Mo.refl _ | with_reducible apply Mo.drew | with_reducible apply Mo.drewN | with_reducible apply Mo.alloc | with_reducible refine Mo.setCell ?_ (by simp <;> omega) _ | with_reducible refine Mo.trans ?_ (by assumption))
end Go.Proofs.Ytoiiekmkcpcbgaa

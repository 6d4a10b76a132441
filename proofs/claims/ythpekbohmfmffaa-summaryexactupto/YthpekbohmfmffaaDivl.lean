/-
  limb.divLimb, whatever the limbs: the walk.
-/
import Derived.Test.YthpekbohmfmffaaDivb
namespace Go.Proofs.Ythpekbohmfmffaa
open Go.RowKit
theorem dl_step {r a c q s : Int} (hr : 0 ≤ r) (hrc : r < c) (ha : U1 a) (_hc : 0 < c) (hq : q = (r * 18446744073709551616 + a) / c) (hs : s = (r * 18446744073709551616 + a) % c) : U1 q ∧ 0 ≤ s ∧ s < c ∧ c * q + s = r * 18446744073709551616 + a := by
  subst hq hs
  obtain ⟨a0, a1⟩ := ha
  refine ⟨⟨Int.ediv_nonneg (by omega) (by omega), Int.ediv_lt_of_lt_mul (by omega) (by omega)⟩, Int.emod_nonneg _ (by omega), Int.emod_lt_of_pos _ (by omega), Int.mul_ediv_add_emod _ _⟩
theorem dl_eq {a0 a1 a2 a3 c q0 q1 q2 q3 r0 r1 r2 r3 : Int} (ha : U4 a0 a1 a2 a3) (hc : 0 < c)
    (e3 : q3 = a3 / c) (f3 : r3 = a3 % c) (e2 : q2 = (r3 * 18446744073709551616 + a2) / c) (f2 : r2 = (r3 * 18446744073709551616 + a2) % c) (e1 : q1 = (r2 * 18446744073709551616 + a1) / c) (f1 : r1 = (r2 * 18446744073709551616 + a1) % c) (e0 : q0 = (r1 * 18446744073709551616 + a0) / c) (f0 : r0 = (r1 * 18446744073709551616 + a0) % c) :
    (U4 q0 q1 q2 q3 ∧ (0 ≤ r3 ∧ r3 < c) ∧ (0 ≤ r2 ∧ r2 < c) ∧ (0 ≤ r1 ∧ r1 < c) ∧ (0 ≤ r0 ∧ r0 < c)) ∧ vl q0 q1 q2 q3 = vl a0 a1 a2 a3 / c ∧ r0 = vl a0 a1 a2 a3 % c := by
  obtain ⟨g0, g1, g2, g3⟩ := ha
  obtain ⟨u3, s3, t3, m3⟩ := dl_step (Int.le_refl 0) hc g3 hc (show q3 = (0 * 18446744073709551616 + a3) / c by rw [e3]; simp) (show r3 = (0 * 18446744073709551616 + a3) % c by rw [f3]; simp)
  obtain ⟨u2, s2, t2, m2⟩ := dl_step s3 t3 g2 hc e2 f2
  obtain ⟨u1, s1, t1, m1⟩ := dl_step s2 t2 g1 hc e1 f1
  obtain ⟨u0, s0, t0, m0⟩ := dl_step s1 t1 g0 hc e0 f0
  have key : vl a0 a1 a2 a3 = r0 + c * vl q0 q1 q2 q3 := by
    have e : c * vl q0 q1 q2 q3 = c * q0 + 18446744073709551616 * (c * q1) + 340282366920938463463374607431768211456 * (c * q2) + 6277101735386680763835789423207666416102355444464034512896 * (c * q3) := by
      unfold vl; rw [Int.mul_add, Int.mul_add, Int.mul_add, Int.mul_left_comm, Int.mul_left_comm c _ q2, Int.mul_left_comm c _ q3]
    rw [e]; unfold vl; omega
  refine ⟨⟨⟨u0, u1, u2, u3⟩, ⟨s3, t3⟩, ⟨s2, t2⟩, ⟨s1, t1⟩, s0, t0⟩, ?_, ?_⟩
  · rw [key, Int.add_mul_ediv_left _ _ (by omega), Int.ediv_eq_zero_of_lt s0 t0, Int.zero_add]
  · rw [key, Int.add_mul_emod_self_left, Int.emod_eq_of_lt s0 t0]

theorem setd (w : World) (n : Nat) (a : Addr) (v : Value) : (w.drewN n).setCell a v = (w.setCell a v).drewN n := rfl
end Go.Proofs.Ythpekbohmfmffaa

/-
  limb.divLimb, whatever the limbs: the walk.
-/
import Derived.Test.YtdcojpbgijkmgaaDoorDivb
namespace Go.Proofs.YtdcojpbgijkmgaaDoor
open Go.RowKit
theorem dl_step {r a c q s : Int} (hr : 0 ≤ r) (hrc : r < c) (ha : U1 a) (_hc : 0 < c) (hq : q = (r * 18446744073709551616 + a) / c) (hs : s = (r * 18446744073709551616 + a) % c) : U1 q ∧ 0 ≤ s ∧ s < c ∧ c * q + s = r * 18446744073709551616 + a := by
  subst hq hs
  obtain ⟨a0, a1⟩ := ha
  refine ⟨⟨Int.ediv_nonneg (by omega) (by omega), Int.ediv_lt_of_lt_mul (by omega) (by omega)⟩, Int.emod_nonneg _ (by omega), Int.emod_lt_of_pos _ (by omega), Int.mul_ediv_add_emod _ _⟩
theorem dl_eq {a0 a1 a2 a3 c q0 q1 q2 q3 r0 r1 r2 r3 : Int} (ha : U4 a0 a1 a2 a3) (hc : 0 < c)
    (e3 : q3 = a3 / c) (f3 : r3 = a3 % c) (e2 : q2 = (r3 * 18446744073709551616 + a2) / c) (f2 : r2 = (r3 * 18446744073709551616 + a2) % c) (e1 : q1 = (r2 * 18446744073709551616 + a1) / c) (f1 : r1 = (r2 * 18446744073709551616 + a1) % c) (e0 : q0 = (r1 * 18446744073709551616 + a0) / c) (f0 : r0 = (r1 * 18446744073709551616 + a0) % c) :
    (U4 q0 q1 q2 q3 ∧ (0 ≤ r3 ∧ r3 < c) ∧ (0 ≤ r2 ∧ r2 < c) ∧ (0 ≤ r1 ∧ r1 < c) ∧ (0 ≤ r0 ∧ r0 < c)) ∧ vl q0 q1 q2 q3 = vl a0 a1 a2 a3 / c ∧ r0 = vl a0 a1 a2 a3 % c := by
  obtain ⟨g0, g1, g2, g3⟩ := ha
  obtain ⟨u3, s3, t3, m3⟩ := dl_step (Int.le_refl 0) hc g3 hc (show q3 = (0 * 18446744073709551616 + a3) / c by rw [e3]; simp) (show r3 = (0 * 18446744073709551616 + a3) % c by rw [f3]; simp)
  obtain ⟨u2, s2, t2, m2⟩ := dl_step s3 t3 g2 hc e2 f2
  obtain ⟨u1, s1, t1, m1⟩ := dl_step s2 t2 g1 hc e1 f1
  obtain ⟨u0, s0, t0, m0⟩ := dl_step s1 t1 g0 hc e0 f0
  have key : vl a0 a1 a2 a3 = r0 + c * vl q0 q1 q2 q3 := by
    have e : c * vl q0 q1 q2 q3 = c * q0 + 18446744073709551616 * (c * q1) + 340282366920938463463374607431768211456 * (c * q2) + 6277101735386680763835789423207666416102355444464034512896 * (c * q3) := by
      unfold vl; rw [Int.mul_add, Int.mul_add, Int.mul_add, Int.mul_left_comm, Int.mul_left_comm c _ q2, Int.mul_left_comm c _ q3]
    rw [e]; unfold vl; omega
  refine ⟨⟨⟨u0, u1, u2, u3⟩, ⟨s3, t3⟩, ⟨s2, t2⟩, ⟨s1, t1⟩, s0, t0⟩, ?_, ?_⟩
  · rw [key, Int.add_mul_ediv_left _ _ (by omega), Int.ediv_eq_zero_of_lt s0 t0, Int.zero_add]
  · rw [key, Int.add_mul_emod_self_left, Int.emod_eq_of_lt s0 t0]

theorem setd (w : World) (n : Nat) (a : Addr) (v : Value) : (w.drewN n).setCell a v = (w.setCell a v).drewN n := rfl
set_option maxHeartbeats 1000000 in
theorem divLimb_raw (a0 a1 a2 a3 c q0 q1 q2 q3 r0 r1 r2 r3 : Int) (w : World) (ha : U4 a0 a1 a2 a3) (hc : 0 < c) (hc2 : c < 18446744073709551616) (b3 : 0 ≤ r3) (b3' : r3 < c) (b2 : 0 ≤ r2) (b2' : r2 < c) (b1 : 0 ≤ r1) (b1' : r1 < c)
    (e3 : a3 / c = q3) (f3 : a3 % c = r3) (e2 : (r3 * 18446744073709551616 + a2) / c = q2) (f2 : (r3 * 18446744073709551616 + a2) % c = r2) (e1 : (r2 * 18446744073709551616 + a1) / c = q1) (f1 : (r2 * 18446744073709551616 + a1) % c = r1) (e0 : (r1 * 18446744073709551616 + a0) / c = q0) (f0 : (r1 * 18446744073709551616 + a0) % c = r0) :
    Calls Tryd.prog 46 #[.agg #[.int .u64 a0, .int .u64 a1, .int .u64 a2, .int .u64 a3], .int .u64 c] w fun e w' =>
      e = .returned (.tuple #[.agg #[.int .u64 q0, .int .u64 q1, .int .u64 q2, .int .u64 q3], .int .u64 r0]) ∧ Mo w w' := by
  obtain ⟨⟨p0, s0⟩, ⟨p1, s1⟩, ⟨p2, s2⟩, ⟨p3, s3⟩⟩ := ha
  have sd := setd
  go_enter Tryd.func46, Tryd.ntmps46
  go_wp2
  refine wp_loop_rounds 5 ?_
  rw [rounds_succ]
  go_wp2_with (go_at_call 69; refine (div64_any 0 a3 c _ (Int.le_refl 0) hc p3 s3 hc2).mono ?_; rintro e w' ⟨rfl, n, rfl⟩)
  rw [rounds_succ]
  go_wp2_with (go_at_call 69; refine (div64_any r3 a2 c _ b3 b3' p2 s2 hc2).mono ?_; rintro e w' ⟨rfl, n, rfl⟩)
  rw [rounds_succ]
  go_wp2_with (go_at_call 69; refine (div64_any r2 a1 c _ b2 b2' p1 s1 hc2).mono ?_; rintro e w' ⟨rfl, n, rfl⟩)
  rw [rounds_succ]
  go_wp2_with (go_at_call 69; refine (div64_any r1 a0 c _ b1 b1' p0 s0 hc2).mono ?_; rintro e w' ⟨rfl, n, rfl⟩)
  rw [rounds_succ]
  go_wp2
  refine bodyPost_ret (v := .tuple #[.agg #[.int .u64 q0, .int .u64 q1, .int .u64 q2, .int .u64 q3], .int .u64 r0]) (by simp [results, Tryd.results46, go_sem]) rfl ?_
  refine ⟨rfl, ?_⟩
  repeat (first | with_reducible exact Mo.refl _ | with_reducible apply Mo.drew | with_reducible apply Mo.drewN | with_reducible apply Mo.alloc | with_reducible refine Mo.setCell ?_ (by simp <;> omega) _ | with_reducible refine Mo.trans ?_ (by with_reducible assumption))

theorem divLimb_any (a0 a1 a2 a3 c : Int) (w : World) (ha : U4 a0 a1 a2 a3) (hc : 0 < c) (hc2 : c < 18446744073709551616) :
    Calls Tryd.prog 46 #[.agg #[.int .u64 a0, .int .u64 a1, .int .u64 a2, .int .u64 a3], .int .u64 c] w fun e w' =>
      e = .returned (.tuple #[nv (vl a0 a1 a2 a3 / c), .int .u64 (vl a0 a1 a2 a3 % c)]) ∧ Mo w w' := by
  obtain ⟨⟨u, ⟨x3, y3⟩, ⟨x2, y2⟩, ⟨x1, y1⟩, _⟩, e, f⟩ := dl_eq ha hc rfl rfl rfl rfl rfl rfl rfl rfl
  rw [← e, ← f, nv_vl u]
  exact divLimb_raw a0 a1 a2 a3 c _ _ _ _ _ _ _ _ w ha hc hc2 x3 y3 x2 y2 x1 y1 rfl rfl rfl rfl rfl rfl rfl rfl
end Go.Proofs.YtdcojpbgijkmgaaDoor

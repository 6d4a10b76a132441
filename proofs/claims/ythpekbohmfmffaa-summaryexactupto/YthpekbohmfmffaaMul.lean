/-
  limb.mulLimb, whatever the limbs: the walk.
-/
import Derived.Test.YthpekbohmfmffaaAddb
import Derived.Test.YthpekbohmfmffaaShelf
namespace Go.Proofs.Ythpekbohmfmffaa
open Go.RowKit
/-- The two words of a product of two words. -/
def mh (x y : Int) : Int := x * y / 18446744073709551616
def ml (x y : Int) : Int := x * y % 18446744073709551616
theorem mul64 (x y : Int) (hx : U1 x) (hy : U1 y) (w : World) :
    Calls Try.prog 68 #[.int .u64 x, .int .u64 y] w fun e w' => e = .returned (.tuple #[.int .u64 (mh x y), .int .u64 (ml x y)]) ∧ w' = w := by
  obtain ⟨x0, x1⟩ := hx
  obtain ⟨y0, y1⟩ := hy
  obtain ⟨x, rfl⟩ := Int.eq_ofNat_of_zero_le x0
  obtain ⟨y, rfl⟩ := Int.eq_ofNat_of_zero_le y0
  have e1 : mh (x : Int) y = ((x * y / 18446744073709551616 : Nat) : Int) := by unfold mh; omega
  have e2 : ml (x : Int) y = ((x * y % 18446744073709551616 : Nat) : Int) := by unfold ml; omega
  rw [e1, e2]
  exact Try.bits_Mul64 x y (by omega) (by omega) w

theorem mul_bd {x y : Int} (hx : U1 x) (hy : U1 y) : 0 ≤ x * y ∧ x * y ≤ 340282366920938463426481119284349108225 := by
  obtain ⟨x0, x1⟩ := hx
  obtain ⟨y0, y1⟩ := hy
  refine ⟨Int.mul_nonneg x0 y0, ?_⟩
  exact Int.mul_le_mul (by omega : x ≤ 18446744073709551615) (by omega : y ≤ 18446744073709551615) y0 (by decide)
theorem mh_bd {x y : Int} (hx : U1 x) (hy : U1 y) : 0 ≤ mh x y ∧ mh x y ≤ 18446744073709551614 := by
  have h := mul_bd hx hy; unfold mh; omega
theorem ml_bd {x y : Int} (_hx : U1 x) (_hy : U1 y) : 0 ≤ ml x y ∧ ml x y < 18446744073709551616 := by
  unfold ml; omega

theorem mull_eq {a0 a1 a2 a3 c t1 t2 t3 t4 : Int} (ha : U4 a0 a1 a2 a3) (hc : U1 c) (h1 : t1 = mh a0 c) (h2 : t2 = mh a1 c + (ml a1 c + t1) / 18446744073709551616) (h3 : t3 = mh a2 c + (ml a2 c + t2) / 18446744073709551616) (h4 : t4 = mh a3 c + (ml a3 c + t3) / 18446744073709551616) :
    ml a0 c = l0 (vl a0 a1 a2 a3 * c) ∧ (ml a1 c + t1) % 18446744073709551616 = l1 (vl a0 a1 a2 a3 * c) ∧ (ml a2 c + t2) % 18446744073709551616 = l2 (vl a0 a1 a2 a3 * c) ∧ (ml a3 c + t3) % 18446744073709551616 = l3 (vl a0 a1 a2 a3 * c) ∧ t4 = vl a0 a1 a2 a3 * c / MM := by
  obtain ⟨g0, g1, g2, g3⟩ := ha
  have b0 := mul_bd g0 hc
  have b1 := mul_bd g1 hc
  have b2 := mul_bd g2 hc
  have b3 := mul_bd g3 hc
  have e : vl a0 a1 a2 a3 * c = a0 * c + 18446744073709551616 * (a1 * c) + 340282366920938463463374607431768211456 * (a2 * c) + 6277101735386680763835789423207666416102355444464034512896 * (a3 * c) := by
    unfold vl; rw [Int.add_mul, Int.add_mul, Int.add_mul, Int.mul_assoc, Int.mul_assoc, Int.mul_assoc]
  rw [e]
  unfold mh ml at *
  generalize a0 * c = p0 at *
  generalize a1 * c = p1 at *
  generalize a2 * c = p2 at *
  generalize a3 * c = p3 at *
  unfold l0 l1 l2 l3 MM
  omega

set_option maxHeartbeats 2000000 in
theorem mulLimb_raw (a0 a1 a2 a3 c t1 t2 t3 t4 : Int) (w : World) (ha : U4 a0 a1 a2 a3) (hc : U1 c) (h1 : Hid (t1 = mh a0 c)) (h2 : Hid (t2 = mh a1 c + (ml a1 c + t1) / 18446744073709551616)) (h3 : Hid (t3 = mh a2 c + (ml a2 c + t2) / 18446744073709551616)) (h4 : Hid (t4 = mh a3 c + (ml a3 c + t3) / 18446744073709551616)) :
    Calls Try.prog 67 #[.agg #[.int .u64 a0, .int .u64 a1, .int .u64 a2, .int .u64 a3], .int .u64 c] w fun e w' =>
      e = .returned (.tuple #[.agg #[.int .u64 (ml a0 c), .int .u64 ((ml a1 c + t1) % 18446744073709551616), .int .u64 ((ml a2 c + t2) % 18446744073709551616), .int .u64 ((ml a3 c + t3) % 18446744073709551616)], .int .u64 t4]) ∧ Mo w w' := by
  have g := ha
  obtain ⟨g0, g1, g2, g3⟩ := g
  obtain ⟨p0, q0⟩ := mh_bd g0 hc
  obtain ⟨r0, s0⟩ := ml_bd g0 hc
  obtain ⟨p1, q1⟩ := mh_bd g1 hc
  obtain ⟨r1, s1⟩ := ml_bd g1 hc
  obtain ⟨p2, q2⟩ := mh_bd g2 hc
  obtain ⟨r2, s2⟩ := ml_bd g2 hc
  obtain ⟨p3, q3⟩ := mh_bd g3 hc
  obtain ⟨r3, s3⟩ := ml_bd g3 hc
  have j1 : 0 ≤ t1 ∧ t1 < 18446744073709551616 := by have := h1.out; omega
  have j2 : 0 ≤ t2 ∧ t2 < 18446744073709551616 := by have := h2.out; omega
  have j3 : 0 ≤ t3 ∧ t3 < 18446744073709551616 := by have := h3.out; omega
  obtain ⟨u1, v1⟩ := j1
  obtain ⟨u2, v2⟩ := j2
  obtain ⟨u3, v3⟩ := j3
  have x1 : mh a0 c + ml a0 c / 18446744073709551616 = t1 := by have := h1.out; omega
  have x2 : mh a1 c + (ml a1 c + t1) / 18446744073709551616 = t2 := h2.out.symm
  have x3 : mh a2 c + (ml a2 c + t2) / 18446744073709551616 = t3 := h3.out.symm
  have x4 : mh a3 c + (ml a3 c + t3) / 18446744073709551616 = t4 := h4.out.symm
  have y1 : ml a0 c % 18446744073709551616 = ml a0 c := by omega
  have i0 : ∀ w : World, (Instr.index 24 (.agg #[.int .u64 a0, .int .u64 a1, .int .u64 a2, .int .u64 a3]) (.int .i64 0)).run Try.prog w = .ok (.int .u64 a0) w := fun _ => by kernel_rfl
  have i1 : ∀ w : World, (Instr.index 24 (.agg #[.int .u64 a0, .int .u64 a1, .int .u64 a2, .int .u64 a3]) (.int .i64 1)).run Try.prog w = .ok (.int .u64 a1) w := fun _ => by kernel_rfl
  have i2 : ∀ w : World, (Instr.index 24 (.agg #[.int .u64 a0, .int .u64 a1, .int .u64 a2, .int .u64 a3]) (.int .i64 2)).run Try.prog w = .ok (.int .u64 a2) w := fun _ => by kernel_rfl
  have i3 : ∀ w : World, (Instr.index 24 (.agg #[.int .u64 a0, .int .u64 a1, .int .u64 a2, .int .u64 a3]) (.int .i64 3)).run Try.prog w = .ok (.int .u64 a3) w := fun _ => by kernel_rfl
  go_enter Try.func67, Try.ntmps67
  go_wp2
  refine wp_loop_rounds 5 ?_
  rw [rounds_succ]
  go_wp2_with (first | (go_at_call 68; refine (mul64 a0 c g0 hc _).mono ?_; rintro e w' ⟨rfl, rfl⟩) | simp only [add64_0 (ml a0 c) 0 r0 (Int.le_refl 0)])
  rw [rounds_succ]
  go_wp2_with (first | (go_at_call 68; refine (mul64 a1 c g1 hc _).mono ?_; rintro e w' ⟨rfl, rfl⟩) | simp only [add64_0 (ml a1 c) t1 r1 u1])
  rw [rounds_succ]
  go_wp2_with (first | (go_at_call 68; refine (mul64 a2 c g2 hc _).mono ?_; rintro e w' ⟨rfl, rfl⟩) | simp only [add64_0 (ml a2 c) t2 r2 u2])
  rw [rounds_succ]
  go_wp2_with (first | (go_at_call 68; refine (mul64 a3 c g3 hc _).mono ?_; rintro e w' ⟨rfl, rfl⟩) | simp only [add64_0 (ml a3 c) t3 r3 u3])
  rw [rounds_succ]
  go_wp2
  refine bodyPost_ret (by simp [results, Try.results67, go_sem]; rfl) rfl ?_
  refine ⟨rfl, ?_⟩
  repeat (first | exact Mo.refl _ | with_reducible apply Mo.drew | with_reducible apply Mo.drewN | with_reducible apply Mo.alloc | with_reducible refine Mo.setCell ?_ (by simp <;> omega) _ | with_reducible refine Mo.trans ?_ (by assumption))

theorem mulLimb_any (a0 a1 a2 a3 c : Int) (w : World) (ha : U4 a0 a1 a2 a3) (hc : U1 c) :
    Calls Try.prog 67 #[.agg #[.int .u64 a0, .int .u64 a1, .int .u64 a2, .int .u64 a3], .int .u64 c] w fun e w' =>
      e = .returned (.tuple #[nv (vl a0 a1 a2 a3 * c), .int .u64 (vl a0 a1 a2 a3 * c / MM)]) ∧ Mo w w' := by
  refine (mulLimb_raw a0 a1 a2 a3 c _ _ _ _ w ha hc rfl rfl rfl rfl).mono ?_
  rintro e w' ⟨rfl, hm⟩
  obtain ⟨e0, e1, e2, e3, e4⟩ := mull_eq ha hc rfl rfl rfl rfl
  refine ⟨?_, hm⟩
  rw [nv_of e0 e1 e2 e3, e4]
end Go.Proofs.Ythpekbohmfmffaa

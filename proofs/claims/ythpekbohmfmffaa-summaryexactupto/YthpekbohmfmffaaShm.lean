/-
  Plain arithmetic of shifts of four limbs.
-/
import Derived.Test.YthpekbohmfmffaaBitm
namespace Go.Proofs.Ythpekbohmfmffaa
/-- A limb shifted up, with what comes from below. -/
def sl (r : Nat) (a b : Int) : Int := a * 2 ^ r % 18446744073709551616 + b / 2 ^ (64 - r)
/-- A limb shifted down, with what comes from above. -/
def sr (r : Nat) (a b : Int) : Int := a / 2 ^ r + b * 2 ^ (64 - r) % 18446744073709551616
theorem pq (r : Nat) (hr : r < 64) : (0 : Int) < 2 ^ r ∧ (0 : Int) < 2 ^ (64 - r) ∧ (2 : Int) ^ (64 - r) * 2 ^ r = 18446744073709551616 :=
  ⟨Int.pow_pos (by decide), Int.pow_pos (by decide), pow_split r (by omega)⟩
theorem sl_top (r : Nat) (hr : r < 64) (a : Int) : a * 2 ^ r % 18446744073709551616 = a % 2 ^ (64 - r) * 2 ^ r ∧ a * 2 ^ r / 18446744073709551616 = a / 2 ^ (64 - r) := by
  obtain ⟨hP, hQ, e⟩ := pq r hr
  rw [← e]
  have d : a * 2 ^ r / (2 ^ (64 - r) * 2 ^ r) = a / 2 ^ (64 - r) := Int.mul_ediv_mul_of_pos_left _ _ hP
  refine ⟨?_, d⟩
  rw [mod_sub, d, mod_sub a, Int.sub_mul, Int.mul_assoc]
theorem low_lt (r : Nat) (hr : r < 64) {b : Int} (hb : U1 b) : 0 ≤ b / 2 ^ (64 - r) ∧ b / 2 ^ (64 - r) < 2 ^ r := by
  obtain ⟨hP, hQ, e⟩ := pq r hr
  obtain ⟨b0, b1⟩ := hb
  refine ⟨Int.ediv_nonneg b0 (by omega), Int.ediv_lt_of_lt_mul hQ ?_⟩
  rw [Int.mul_comm, e]; exact b1
theorem sl_u (r : Nat) (hr : r < 64) {a b : Int} (_ha : U1 a) (hb : U1 b) : U1 (sl r a b) := by
  obtain ⟨hP, hQ, e⟩ := pq r hr
  obtain ⟨t1, t2⟩ := sl_top r hr a
  obtain ⟨w1, w2⟩ := low_lt r hr hb
  unfold sl
  have m0 := Int.emod_nonneg a (show (2 : Int) ^ (64 - r) ≠ 0 by omega)
  have m1 := Int.emod_lt_of_pos a hQ
  have k0 : 0 ≤ a % 2 ^ (64 - r) * 2 ^ r := Int.mul_nonneg m0 (by omega)
  have k1 : (a % 2 ^ (64 - r) + 1) * 2 ^ r ≤ 2 ^ (64 - r) * 2 ^ r := Int.mul_le_mul_of_nonneg_right (by omega) (by omega)
  rw [Int.add_mul, Int.one_mul, e] at k1
  rw [t1]
  exact ⟨by omega, by omega⟩
theorem sl_or (r : Nat) (hr : r < 64) {a b : Int} (ha : U1 a) (hb : U1 b) : Go.bits .or .u64 (Go.IntKind.u64.wrap (a * 2 ^ r)) (b / 2 ^ (64 - r)) = sl r a b := by
  obtain ⟨t1, t2⟩ := sl_top r hr a
  obtain ⟨w1, w2⟩ := low_lt r hr hb
  have u := sl_u r hr ha hb
  obtain ⟨hP, hQ, e⟩ := pq r hr
  have m0 := Int.emod_nonneg a (show (2 : Int) ^ (64 - r) ≠ 0 by omega)
  unfold sl at *
  rw [Go.IntKind.wrap_u64, t1] at *
  exact or_join _ _ r m0 w1 w2 u.2
theorem sl_0 (r : Nat) (a : Int) : Go.IntKind.u64.wrap (a * 2 ^ r) = sl r a 0 := by
  unfold sl; rw [Go.IntKind.wrap_u64, Int.zero_ediv, Int.add_zero]
theorem sl_vl (r : Nat) (hr : r < 64) {a0 a1 a2 a3 : Int} (ha : U4 a0 a1 a2 a3) :
    U4 (sl r a0 0) (sl r a1 a0) (sl r a2 a1) (sl r a3 a2) ∧ vl (sl r a0 0) (sl r a1 a0) (sl r a2 a1) (sl r a3 a2) + MM * (a3 / 2 ^ (64 - r)) = vl a0 a1 a2 a3 * 2 ^ r := by
  obtain ⟨g0, g1, g2, g3⟩ := ha
  refine ⟨⟨sl_u r hr g0 ⟨by decide, by decide⟩, sl_u r hr g1 g0, sl_u r hr g2 g1, sl_u r hr g3 g2⟩, ?_⟩
  have e0 := (sl_top r hr a0).2
  have e1 := (sl_top r hr a1).2
  have e2 := (sl_top r hr a2).2
  have e3 := (sl_top r hr a3).2
  have e : vl a0 a1 a2 a3 * 2 ^ r = a0 * 2 ^ r + 18446744073709551616 * (a1 * 2 ^ r) + 340282366920938463463374607431768211456 * (a2 * 2 ^ r) + 6277101735386680763835789423207666416102355444464034512896 * (a3 * 2 ^ r) := by
    unfold vl; rw [Int.add_mul, Int.add_mul, Int.add_mul, Int.mul_assoc, Int.mul_assoc, Int.mul_assoc]
  rw [e]
  unfold sl
  rw [Int.zero_ediv, ← e0, ← e1, ← e2, ← e3]
  generalize a0 * 2 ^ r = x0 at *
  generalize a1 * 2 ^ r = x1 at *
  generalize a2 * 2 ^ r = x2 at *
  generalize a3 * 2 ^ r = x3 at *
  unfold vl MM
  omega
theorem sr_parts (r : Nat) (hr : r < 64) {a b : Int} (ha : U1 a) (_hb : U1 b) : b * 2 ^ (64 - r) % 18446744073709551616 = b % 2 ^ r * 2 ^ (64 - r) ∧ 0 ≤ a / 2 ^ r ∧ a / 2 ^ r < 2 ^ (64 - r) ∧ 0 ≤ b % 2 ^ r ∧ (b % 2 ^ r + 1) * 2 ^ (64 - r) ≤ 18446744073709551616 ∧ 0 ≤ b % 2 ^ r * 2 ^ (64 - r) := by
  obtain ⟨hP, hQ, e⟩ := pq r hr
  obtain ⟨a0, a1⟩ := ha
  have m0 := Int.emod_nonneg b (show (2 : Int) ^ r ≠ 0 by omega)
  have m1 := Int.emod_lt_of_pos b hP
  refine ⟨?_, Int.ediv_nonneg a0 (by omega), Int.ediv_lt_of_lt_mul hP (by rw [e]; exact a1), m0, ?_, Int.mul_nonneg m0 (by omega)⟩
  · rw [← e, Int.mul_comm (2 ^ (64 - r)) (2 ^ r)]
    have d : b * 2 ^ (64 - r) / (2 ^ r * 2 ^ (64 - r)) = b / 2 ^ r := Int.mul_ediv_mul_of_pos_left _ _ hQ
    rw [mod_sub, d, mod_sub b, Int.sub_mul, Int.mul_assoc]
  · have := Int.mul_le_mul_of_nonneg_right (show b % 2 ^ r + 1 ≤ 2 ^ r by omega) (show (0 : Int) ≤ 2 ^ (64 - r) by omega)
    rw [Int.mul_comm (2 ^ r) (2 ^ (64 - r)), e] at this
    exact this
theorem sr_u (r : Nat) (hr : r < 64) {a b : Int} (ha : U1 a) (hb : U1 b) : U1 (sr r a b) := by
  obtain ⟨p1, p2, p3, p4, p5, p6⟩ := sr_parts r hr ha hb
  rw [Int.add_mul, Int.one_mul] at p5
  unfold sr
  rw [p1]
  exact ⟨by omega, by omega⟩
theorem or_join' (a b : Int) (k : Nat) (ha : 0 ≤ a) (hb : 0 ≤ b) (hb2 : b < 2 ^ k) (h : a * 2 ^ k + b < 18446744073709551616) : Go.bits .or .u64 b (a * 2 ^ k) = b + a * 2 ^ k := by
  have e := or_join a b k ha hb hb2 h
  obtain ⟨x, rfl⟩ := Int.eq_ofNat_of_zero_le ha
  obtain ⟨z, rfl⟩ := Int.eq_ofNat_of_zero_le hb
  have e1 : ((x * 2 ^ k : Nat) : Int) = (x : Int) * 2 ^ k := by rw [Int.natCast_mul, Int.natCast_pow]; rfl
  rw [← e1] at e h ⊢
  rw [Go.bits_or_u64_nat _ _ (by omega) (by omega)] at e ⊢
  rw [Nat.or_comm, e, Int.add_comm]
theorem sr_or (r : Nat) (hr : r < 64) {a b : Int} (ha : U1 a) (hb : U1 b) : Go.bits .or .u64 (a / 2 ^ r) (Go.IntKind.u64.wrap (b * 2 ^ (64 - r))) = sr r a b := by
  obtain ⟨p1, p2, p3, p4, p5, p6⟩ := sr_parts r hr ha hb
  have u := (sr_u r hr ha hb).2
  unfold sr at *
  rw [Go.IntKind.wrap_u64, p1] at *
  exact or_join' _ _ _ p4 p2 p3 (by omega)
theorem sr_0 (r : Nat) (a : Int) : a / 2 ^ r = sr r a 0 := by
  unfold sr; rw [Int.zero_mul, Int.zero_emod, Int.add_zero]
theorem sr_vl (r : Nat) (hr : r < 64) {a0 a1 a2 a3 : Int} (ha : U4 a0 a1 a2 a3) :
    U4 (sr r a0 a1) (sr r a1 a2) (sr r a2 a3) (sr r a3 0) ∧ vl (sr r a0 a1) (sr r a1 a2) (sr r a2 a3) (sr r a3 0) = vl a0 a1 a2 a3 / 2 ^ r := by
  obtain ⟨g0, g1, g2, g3⟩ := ha
  have gz : U1 0 := ⟨by decide, by decide⟩
  refine ⟨⟨sr_u r hr g0 g1, sr_u r hr g1 g2, sr_u r hr g2 g3, sr_u r hr g3 gz⟩, ?_⟩
  obtain ⟨hP, hQ, e⟩ := pq r hr
  have p1 := (sr_parts r hr g0 g1).1
  have p2 := (sr_parts r hr g1 g2).1
  have p3 := (sr_parts r hr g2 g3).1
  have d0 := Int.mul_ediv_add_emod a0 (2 ^ r)
  have d1 := Int.mul_ediv_add_emod a1 (2 ^ r)
  have d2 := Int.mul_ediv_add_emod a2 (2 ^ r)
  have d3 := Int.mul_ediv_add_emod a3 (2 ^ r)
  have m0 := Int.emod_nonneg a0 (show (2 : Int) ^ r ≠ 0 by omega)
  have m1 := Int.emod_lt_of_pos a0 hP
  have f : ∀ x : Int, 2 ^ r * (x * 2 ^ (64 - r)) = x * 18446744073709551616 := fun x => by rw [Int.mul_left_comm, Int.mul_comm (2 ^ r) (2 ^ (64 - r)), e]
  have key : vl a0 a1 a2 a3 = a0 % 2 ^ r + 2 ^ r * vl (sr r a0 a1) (sr r a1 a2) (sr r a2 a3) (sr r a3 0) := by
    have f1 := f (a1 % 2 ^ r)
    have f2 := f (a2 % 2 ^ r)
    have f3 := f (a3 % 2 ^ r)
    have ev : ∀ x y z t : Int, 2 ^ r * vl x y z t = 2 ^ r * x + 18446744073709551616 * (2 ^ r * y) + 340282366920938463463374607431768211456 * (2 ^ r * z) + 6277101735386680763835789423207666416102355444464034512896 * (2 ^ r * t) := fun x y z t => by
      unfold vl; rw [Int.mul_add, Int.mul_add, Int.mul_add, Int.mul_left_comm, Int.mul_left_comm (2 ^ r) _ z, Int.mul_left_comm (2 ^ r) _ t]
    rw [ev]
    unfold sr
    rw [p1, p2, p3, Int.zero_mul, Int.zero_emod]
    simp only [Int.mul_add, Int.add_zero, f1, f2, f3]
    unfold vl
    generalize 2 ^ r * (a0 / 2 ^ r) = y0 at *
    generalize 2 ^ r * (a1 / 2 ^ r) = y1 at *
    generalize 2 ^ r * (a2 / 2 ^ r) = y2 at *
    generalize 2 ^ r * (a3 / 2 ^ r) = y3 at *
    generalize a0 % 2 ^ r = n0 at *
    generalize a1 % 2 ^ r = n1 at *
    generalize a2 % 2 ^ r = n2 at *
    generalize a3 % 2 ^ r = n3 at *
    clear p1 p2 p3 f f1 f2 f3 ev e hP hQ m0 m1
    omega
  rw [key, Int.add_mul_ediv_left _ _ (by omega), Int.ediv_eq_zero_of_lt m0 m1, Int.zero_add]
end Go.Proofs.Ythpekbohmfmffaa

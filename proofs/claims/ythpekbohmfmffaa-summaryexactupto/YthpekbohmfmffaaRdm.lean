/-
  Division bit by bit: plain arithmetic, no program in sight.
-/
import Derived.Test.YthpekbohmfmffaaNf
namespace Go.Proofs.Ythpekbohmfmffaa
open Go.RowKit
theorem low_limb (q : Int) (m r : Nat) (hr : r < 64) (_hq : 0 ≤ q) :
    ∃ c : Int, 0 ≤ c ∧ q * 2 ^ (m + r + 1) / 2 ^ m % 18446744073709551616 = c * 2 ^ (r + 1) ∧ c * 2 ^ (r + 1) + 2 ^ r < 18446744073709551616 := by
  have hm : (0 : Int) < 2 ^ m := Int.pow_pos (by decide)
  have hp : (0 : Int) < 2 ^ (r + 1) := Int.pow_pos (by decide)
  have hp0 : (0 : Int) < 2 ^ r := Int.pow_pos (by decide)
  have hp2 : (0 : Int) < 2 ^ (63 - r) := Int.pow_pos (by decide)
  have e1 : q * 2 ^ (m + r + 1) / 2 ^ m = 2 ^ (r + 1) * q := by
    rw [Nat.add_assoc, Int.pow_add, Int.mul_left_comm, Int.mul_ediv_cancel_left _ (by omega), Int.mul_comm]
  have e2 : (18446744073709551616 : Int) = 2 ^ (r + 1) * 2 ^ (63 - r) := by
    rw [← Int.pow_add, show r + 1 + (63 - r) = 64 from by omega]; decide
  have a := Int.emod_nonneg q (show (2 : Int) ^ (63 - r) ≠ 0 by omega)
  have b := Int.emod_lt_of_pos q hp2
  refine ⟨q % 2 ^ (63 - r), a, ?_, ?_⟩
  · rw [e1, e2, Int.mul_emod_mul_of_pos _ _ hp, Int.mul_comm]
  · have e3 : q % 2 ^ (63 - r) * 2 ^ (r + 1) ≤ (2 ^ (63 - r) - 1) * 2 ^ (r + 1) := Int.mul_le_mul_of_nonneg_right (by omega) (by omega)
    rw [Int.sub_mul, Int.one_mul, Int.mul_comm (2 ^ (63 - r)), ← e2] at e3
    have e4 : (2 : Int) ^ (r + 1) = 2 ^ r * 2 := Int.pow_succ 2 r
    omega
theorem or_bit {x : Int} {r : Nat} (c : Int) (hc : 0 ≤ c) (h : x = c * 2 ^ (r + 1)) (h2 : c * 2 ^ (r + 1) + 2 ^ r < 18446744073709551616) : bits .or .u64 x (2 ^ r) = x + 2 ^ r := by
  have hp0 : (0 : Int) < 2 ^ r := Int.pow_pos (by decide)
  have e4 : (2 : Int) ^ (r + 1) = 2 ^ r * 2 := Int.pow_succ 2 r
  rw [h]
  exact or_join c (2 ^ r) (r + 1) hc (by omega) (by omega) h2
theorem Qlt {q : Int} {i : Nat} (hi : i < 256) (hq : q < 2 ^ (255 - i)) : q * 2 ^ (i + 1) < MM ∧ q * 2 ^ (i + 1) + 2 ^ i < MM := by
  have hp0 : (0 : Int) < 2 ^ i := Int.pow_pos (by decide)
  have e4 : (2 : Int) ^ (i + 1) = 2 ^ i * 2 := Int.pow_succ 2 i
  have e1 : q * 2 ^ (i + 1) ≤ (2 ^ (255 - i) - 1) * 2 ^ (i + 1) := Int.mul_le_mul_of_nonneg_right (by omega) (by omega)
  rw [Int.sub_mul, Int.one_mul, ← Int.pow_add, show 255 - i + (i + 1) = 256 from by omega, show (2 : Int) ^ 256 = MM from by decide] at e1
  omega
theorem bit_set {q : Int} {i : Nat} (hi : i < 256) (hq0 : 0 ≤ q) (hq : q < 2 ^ (255 - i)) (r : Nat) (hr : r = i % 64) :
    (i / 64 = 0 ∧ bits .or .u64 (l0 (q * 2 ^ (i + 1))) (2 ^ r) = l0 (q * 2 ^ (i + 1) + 2 ^ i) ∧ l1 (q * 2 ^ (i + 1) + 2 ^ i) = l1 (q * 2 ^ (i + 1)) ∧ l2 (q * 2 ^ (i + 1) + 2 ^ i) = l2 (q * 2 ^ (i + 1)) ∧ l3 (q * 2 ^ (i + 1) + 2 ^ i) = l3 (q * 2 ^ (i + 1))) ∨
    (i / 64 = 1 ∧ bits .or .u64 (l1 (q * 2 ^ (i + 1))) (2 ^ r) = l1 (q * 2 ^ (i + 1) + 2 ^ i) ∧ l0 (q * 2 ^ (i + 1) + 2 ^ i) = l0 (q * 2 ^ (i + 1)) ∧ l2 (q * 2 ^ (i + 1) + 2 ^ i) = l2 (q * 2 ^ (i + 1)) ∧ l3 (q * 2 ^ (i + 1) + 2 ^ i) = l3 (q * 2 ^ (i + 1))) ∨
    (i / 64 = 2 ∧ bits .or .u64 (l2 (q * 2 ^ (i + 1))) (2 ^ r) = l2 (q * 2 ^ (i + 1) + 2 ^ i) ∧ l0 (q * 2 ^ (i + 1) + 2 ^ i) = l0 (q * 2 ^ (i + 1)) ∧ l1 (q * 2 ^ (i + 1) + 2 ^ i) = l1 (q * 2 ^ (i + 1)) ∧ l3 (q * 2 ^ (i + 1) + 2 ^ i) = l3 (q * 2 ^ (i + 1))) ∨
    (i / 64 = 3 ∧ bits .or .u64 (l3 (q * 2 ^ (i + 1))) (2 ^ r) = l3 (q * 2 ^ (i + 1) + 2 ^ i) ∧ l0 (q * 2 ^ (i + 1) + 2 ^ i) = l0 (q * 2 ^ (i + 1)) ∧ l1 (q * 2 ^ (i + 1) + 2 ^ i) = l1 (q * 2 ^ (i + 1)) ∧ l2 (q * 2 ^ (i + 1) + 2 ^ i) = l2 (q * 2 ^ (i + 1))) := by
  have hQ := (Qlt hi hq).1
  have hp : (0 : Int) < 2 ^ (i + 1) := Int.pow_pos (by decide)
  have hQ0 : 0 ≤ q * 2 ^ (i + 1) := Int.mul_nonneg hq0 (by omega)
  have hV := vl_lb _ hQ0 hQ
  obtain ⟨u0, u1, u2, u3⟩ := u4_lb (q * 2 ^ (i + 1))
  have hr64 : r < 64 := by omega
  have hp0 : (0 : Int) < 2 ^ r := Int.pow_pos (by decide)
  have hm : i / 64 = 0 ∨ i / 64 = 1 ∨ i / 64 = 2 ∨ i / 64 = 3 := by omega
  rcases hm with hm | hm | hm | hm
  · refine Or.inl ⟨hm, ?_⟩
    obtain ⟨c, c0, c1, c2⟩ := low_limb q 0 r hr64 hq0
    have e : i = 0 + r := by omega
    have el : l0 (q * 2 ^ (i + 1)) = c * 2 ^ (r + 1) := by rw [← c1, e]; unfold l0; simp
    have ep : (2 : Int) ^ i = 2 ^ r := by rw [e]; simp
    rw [or_bit c c0 el c2]
    have hu : U4 (l0 (q * 2 ^ (i + 1)) + 2 ^ r) (l1 (q * 2 ^ (i + 1))) (l2 (q * 2 ^ (i + 1))) (l3 (q * 2 ^ (i + 1))) := ⟨⟨by have := u0.1; omega, by omega⟩, u1, u2, u3⟩
    have ev : q * 2 ^ (i + 1) + 2 ^ i = vl (l0 (q * 2 ^ (i + 1)) + 2 ^ r) (l1 (q * 2 ^ (i + 1))) (l2 (q * 2 ^ (i + 1))) (l3 (q * 2 ^ (i + 1))) := by
      rw [ep]; unfold vl at *; omega
    rw [ev, l0_vl hu, l1_vl hu, l2_vl hu, l3_vl hu]
    exact ⟨rfl, rfl, rfl, rfl⟩
  · refine Or.inr (Or.inl ⟨hm, ?_⟩)
    obtain ⟨c, c0, c1, c2⟩ := low_limb q 64 r hr64 hq0
    have e : i = 64 + r := by omega
    have el : l1 (q * 2 ^ (i + 1)) = c * 2 ^ (r + 1) := by rw [← c1, e]; unfold l1; rfl
    have ep : (2 : Int) ^ i = 18446744073709551616 * 2 ^ r := by rw [e, Int.pow_add]; rfl
    rw [or_bit c c0 el c2]
    have hu : U4 (l0 (q * 2 ^ (i + 1))) (l1 (q * 2 ^ (i + 1)) + 2 ^ r) (l2 (q * 2 ^ (i + 1))) (l3 (q * 2 ^ (i + 1))) := ⟨u0, ⟨by have := u1.1; omega, by omega⟩, u2, u3⟩
    have ev : q * 2 ^ (i + 1) + 2 ^ i = vl (l0 (q * 2 ^ (i + 1))) (l1 (q * 2 ^ (i + 1)) + 2 ^ r) (l2 (q * 2 ^ (i + 1))) (l3 (q * 2 ^ (i + 1))) := by
      rw [ep]; unfold vl at *; omega
    rw [ev, l0_vl hu, l1_vl hu, l2_vl hu, l3_vl hu]
    exact ⟨rfl, rfl, rfl, rfl⟩
  · refine Or.inr (Or.inr (Or.inl ⟨hm, ?_⟩))
    obtain ⟨c, c0, c1, c2⟩ := low_limb q 128 r hr64 hq0
    have e : i = 128 + r := by omega
    have el : l2 (q * 2 ^ (i + 1)) = c * 2 ^ (r + 1) := by rw [← c1, e]; unfold l2; rfl
    have ep : (2 : Int) ^ i = 340282366920938463463374607431768211456 * 2 ^ r := by rw [e, Int.pow_add]; rfl
    rw [or_bit c c0 el c2]
    have hu : U4 (l0 (q * 2 ^ (i + 1))) (l1 (q * 2 ^ (i + 1))) (l2 (q * 2 ^ (i + 1)) + 2 ^ r) (l3 (q * 2 ^ (i + 1))) := ⟨u0, u1, ⟨by have := u2.1; omega, by omega⟩, u3⟩
    have ev : q * 2 ^ (i + 1) + 2 ^ i = vl (l0 (q * 2 ^ (i + 1))) (l1 (q * 2 ^ (i + 1))) (l2 (q * 2 ^ (i + 1)) + 2 ^ r) (l3 (q * 2 ^ (i + 1))) := by
      rw [ep]; unfold vl at *; omega
    rw [ev, l0_vl hu, l1_vl hu, l2_vl hu, l3_vl hu]
    exact ⟨rfl, rfl, rfl, rfl⟩
  · refine Or.inr (Or.inr (Or.inr ⟨hm, ?_⟩))
    obtain ⟨c, c0, c1, c2⟩ := low_limb q 192 r hr64 hq0
    have e : i = 192 + r := by omega
    have el : l3 (q * 2 ^ (i + 1)) = c * 2 ^ (r + 1) := by rw [← c1, e]; unfold l3; rfl
    have ep : (2 : Int) ^ i = 6277101735386680763835789423207666416102355444464034512896 * 2 ^ r := by rw [e, Int.pow_add]; rfl
    rw [or_bit c c0 el c2]
    have hu : U4 (l0 (q * 2 ^ (i + 1))) (l1 (q * 2 ^ (i + 1))) (l2 (q * 2 ^ (i + 1))) (l3 (q * 2 ^ (i + 1)) + 2 ^ r) := ⟨u0, u1, u2, ⟨by have := u3.1; omega, by omega⟩⟩
    have ev : q * 2 ^ (i + 1) + 2 ^ i = vl (l0 (q * 2 ^ (i + 1))) (l1 (q * 2 ^ (i + 1))) (l2 (q * 2 ^ (i + 1))) (l3 (q * 2 ^ (i + 1)) + 2 ^ r) := by
      rw [ep]; unfold vl at *; omega
    rw [ev, l0_vl hu, l1_vl hu, l2_vl hu, l3_vl hu]
    exact ⟨rfl, rfl, rfl, rfl⟩
/-- What is divided, down to the bit j. -/
def nj (H L : Int) (j : Nat) : Int := H * 2 ^ (256 - j) + L / 2 ^ j
theorem nj_top (H : Int) {L : Int} (h0 : 0 ≤ L) (h : L < MM) : nj H L 256 = H := by
  unfold nj
  rw [show (2 : Int) ^ 256 = MM from by decide, Int.ediv_eq_zero_of_lt h0 h]
  simp
theorem nj_low (H L : Int) : nj H L 0 = H * MM + L := by
  unfold nj
  rw [show (256 - 0 : Nat) = 256 from rfl, show (2 : Int) ^ 256 = MM from by decide]
  simp
theorem nj_step (H L : Int) {i : Nat} (hi : i < 256) : nj H L i = 2 * nj H L (i + 1) + L / 2 ^ i % 2 := by
  unfold nj
  have e1 : (2 : Int) ^ (256 - i) = 2 ^ (256 - (i + 1)) * 2 := by rw [← Int.pow_succ]; congr 1; omega
  have e2 : L / 2 ^ (i + 1) = L / 2 ^ i / 2 := by
    rw [Int.pow_succ, Int.ediv_ediv_of_nonneg (Int.le_of_lt (Int.pow_pos (by decide)))]
  rw [e1, e2, ← Int.mul_assoc]
  omega
theorem div_no_step {q R D H L : Int} {i : Nat} (hi : i < 256) (h : q * D + R = nj H L (i + 1)) : 2 * q * D + (2 * R + L / 2 ^ i % 2) = nj H L i := by
  rw [nj_step H L hi, ← h, Int.mul_assoc]; omega
theorem div_yes_step {q R D H L : Int} {i : Nat} (hi : i < 256) (h : q * D + R = nj H L (i + 1)) : (2 * q + 1) * D + (2 * R + L / 2 ^ i % 2 - D) = nj H L i := by
  rw [nj_step H L hi, ← h, Int.add_mul, Int.mul_assoc]; omega
theorem q_no {q : Int} {i : Nat} (hi : i < 256) (hq : q < 2 ^ (255 - i)) : 2 * q < 2 ^ (256 - i) ∧ 2 * q + 1 < 2 ^ (256 - i) := by
  have e1 : (2 : Int) ^ (256 - i) = 2 ^ (255 - i) * 2 := by rw [← Int.pow_succ]; congr 1; omega
  omega
theorem div_end {q R D H L : Int} (hR0 : 0 ≤ R) (hR : R < D) (h : q * D + R = H * MM + L) : (H * MM + L) / D = q ∧ (H * MM + L) % D = R := by
  rw [← h]
  constructor
  · rw [Int.add_comm, Int.add_mul_ediv_right _ _ (by omega), Int.ediv_eq_zero_of_lt hR0 hR, Int.zero_add]
  · rw [Int.add_comm, Int.add_mul_emod_self_right, Int.emod_eq_of_lt hR0 hR]
theorem q_pow (q : Int) (i : Nat) : 2 * q * 2 ^ i = q * 2 ^ (i + 1) := by rw [Int.pow_succ]; grind
theorem q_pow1 (q : Int) (i : Nat) : (2 * q + 1) * 2 ^ i = q * 2 ^ (i + 1) + 2 ^ i := by rw [Int.pow_succ]; grind
end Go.Proofs.Ythpekbohmfmffaa

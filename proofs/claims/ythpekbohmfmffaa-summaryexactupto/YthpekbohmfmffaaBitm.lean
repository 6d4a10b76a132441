/-
  Plain arithmetic of bits: how many a number has, and which.
-/
import Derived.Test.YthpekbohmfmffaaDivb
namespace Go.Proofs.Ythpekbohmfmffaa
/-- How many bits a number has. -/
def bln (n : Int) : Int := if n = 0 then 0 else (Nat.log2 n.toNat : Int) + 1
theorem cast_pow (k : Nat) : ((2 ^ k : Nat) : Int) = (2 : Int) ^ k := by rw [Int.natCast_pow]; rfl
theorem bln_of {n : Int} (k : Nat) (h1 : (2 : Int) ^ k ≤ n) (h2 : n < 2 ^ (k + 1)) : bln n = k + 1 := by
  have hp : (0 : Int) < 2 ^ k := Int.pow_pos (by decide)
  obtain ⟨m, rfl⟩ := Int.eq_ofNat_of_zero_le (show 0 ≤ n by omega)
  rw [← cast_pow] at h1 h2
  have : Nat.log2 m = k := (Nat.log2_eq_iff (by omega)).2 ⟨by omega, by omega⟩
  unfold bln
  rw [if_neg (by omega), Int.toNat_natCast, this]
theorem bln_join {a low : Int} (s : Nat) (ha : 0 < a) (ha2 : a < 18446744073709551616) (h0 : 0 ≤ low) (h1 : low < 2 ^ s) : bln (a * 2 ^ s + low) = s + Lib.bitLen a.toNat := by
  obtain ⟨x, rfl⟩ := Int.eq_ofNat_of_zero_le (show 0 ≤ a by omega)
  obtain ⟨b1, b2, b3, b4⟩ := bitLen_bd 64 x (by omega) (by omega) (by omega)
  rw [Int.toNat_natCast]
  generalize Lib.bitLen x = L at *
  obtain ⟨m, rfl⟩ : ∃ j, L = j + 1 := ⟨L - 1, by omega⟩
  have b3' : 2 ^ m ≤ x := by simpa using b3
  have c3 : (2 : Int) ^ m ≤ x := by rw [← cast_pow]; omega
  have c4 : (x : Int) + 1 ≤ 2 ^ (m + 1) := by rw [← cast_pow]; omega
  have hp : (0 : Int) ≤ 2 ^ s := Int.le_of_lt (Int.pow_pos (by decide))
  have e := bln_of (n := (x : Int) * 2 ^ s + low) (s + m) ?_ ?_
  · rw [e]; omega
  · have := Int.mul_le_mul_of_nonneg_right c3 hp
    rw [← Int.pow_add, Nat.add_comm] at this
    omega
  · have := Int.mul_le_mul_of_nonneg_right c4 hp
    rw [← Int.pow_add, Int.add_mul, Int.one_mul, show m + 1 + s = s + m + 1 from by omega] at this
    omega
/-- A bit within a limb. -/
theorem bit_low (a Z : Int) (r : Nat) (hr : r < 64) : (a + 18446744073709551616 * Z) / 2 ^ r % 2 = a / 2 ^ r % 2 := by
  have e : (18446744073709551616 : Int) = 2 ^ r * (2 * 2 ^ (63 - r)) := by
    rw [show (2 : Int) * 2 ^ (63 - r) = 2 ^ (63 - r + 1) from by rw [Int.pow_succ, Int.mul_comm], ← Int.pow_add, show r + (63 - r + 1) = 64 from by omega]; decide
  have hp : (2 : Int) ^ r ≠ 0 := by have : (0 : Int) < 2 ^ r := Int.pow_pos (by decide); omega
  rw [e, Int.mul_assoc, Int.add_mul_ediv_left _ _ hp, Int.mul_assoc, Int.add_mul_emod_self_left]
theorem div_pow_split (n : Int) (i j : Nat) : n / 2 ^ (i + j) = n / 2 ^ i / 2 ^ j := by
  rw [Int.pow_add, Int.ediv_ediv_of_nonneg (Int.le_of_lt (Int.pow_pos (by decide)))]
end Go.Proofs.Ythpekbohmfmffaa

/-
  math/bits.Div64, whatever the words: the walk.
-/
import Derived.Test.YthpekbohmfmffaaAid
import Derived.Test.YthpekbohmfmffaaDiva
import Derived.Test.YthpekbohmfmffaaDivs
import Derived.Test.YthpekbohmfmffaaShelf
import Derived.Deep.CutBlock
namespace Go.Proofs.Ythpekbohmfmffaa
open Go.RowKit
theorem bitLen_zero : Lib.bitLen 0 = 0 := by decide
theorem bitLen_bd : ∀ (k x : Nat), x < 2 ^ k → k ≤ 64 → x ≠ 0 → 1 ≤ Lib.bitLen x ∧ Lib.bitLen x ≤ k ∧ 2 ^ (Lib.bitLen x - 1) ≤ x ∧ x < 2 ^ Lib.bitLen x
  | 0, x, h, _, h0 => by simp at h; omega
  | k + 1, x, h, hk, h0 => by
    have h64 : x < 2 ^ 64 := Nat.lt_of_lt_of_le h (Nat.pow_le_pow_right (n := 2) (by decide) hk)
    have e := Lib.bitLen_half x h0 h64
    by_cases hx : x / 2 = 0
    · rw [hx, bitLen_zero] at e
      have : x = 1 := by omega
      subst this
      rw [e]; simp
    · have h2 : x / 2 < 2 ^ k := by rw [Nat.pow_succ] at h; omega
      obtain ⟨a, b, c, d⟩ := bitLen_bd k (x / 2) h2 (by omega) hx
      rw [e]
      generalize Lib.bitLen (x / 2) = m at *
      obtain ⟨m, rfl⟩ : ∃ j, m = j + 1 := ⟨m - 1, by omega⟩
      have c' : 2 ^ m ≤ x / 2 := by simpa using c
      refine ⟨by omega, by omega, ?_, ?_⟩
      · rw [show 1 + (m + 1) - 1 = m + 1 from by omega, Nat.pow_succ]; omega
      · rw [show 1 + (m + 1) = m + 1 + 1 from by omega, Nat.pow_succ]; omega
/-- How far a word is from having its top bit set. -/
theorem lead (y : Int) (h0 : 0 < y) (h1 : y < 18446744073709551616) : ∃ k : Nat, (64 - (Lib.bitLen y.toNat : Int)) = k ∧ k ≤ 63 ∧ 9223372036854775808 ≤ y * 2 ^ k ∧ y * 2 ^ k < 18446744073709551616 := by
  obtain ⟨x, rfl⟩ := Int.eq_ofNat_of_zero_le (show 0 ≤ y by omega)
  obtain ⟨a, b, c, d⟩ := bitLen_bd 64 x (by omega) (by omega) (by omega)
  refine ⟨64 - Lib.bitLen x, ?_, by omega, ?_, ?_⟩
  · simp; omega
  · have h : 2 ^ (Lib.bitLen x - 1) * 2 ^ (64 - Lib.bitLen x) ≤ x * 2 ^ (64 - Lib.bitLen x) := Nat.mul_le_mul_right _ c
    rw [← Nat.pow_add, show Lib.bitLen x - 1 + (64 - Lib.bitLen x) = 63 from by omega] at h
    have e : ((x * 2 ^ (64 - Lib.bitLen x) : Nat) : Int) = (x : Int) * 2 ^ (64 - Lib.bitLen x) := by rw [Int.natCast_mul, Int.natCast_pow]; rfl
    rw [← e]
    generalize x * 2 ^ (64 - Lib.bitLen x) = z at *
    omega
  · have h : x * 2 ^ (64 - Lib.bitLen x) < 2 ^ Lib.bitLen x * 2 ^ (64 - Lib.bitLen x) := Nat.mul_lt_mul_of_pos_right d (Nat.pow_pos (by decide))
    rw [← Nat.pow_add, show Lib.bitLen x + (64 - Lib.bitLen x) = 64 from by omega] at h
    have e : ((x * 2 ^ (64 - Lib.bitLen x) : Nat) : Int) = (x : Int) * 2 ^ (64 - Lib.bitLen x) := by rw [Int.natCast_mul, Int.natCast_pow]; rfl
    rw [← e]
    generalize x * 2 ^ (64 - Lib.bitLen x) = z at *
    omega

theorem div_fit {u h : Int} (hu : 0 ≤ u) (hh : 0 < h) : 0 ≤ u / h ∧ u / h ≤ u ∧ 0 ≤ u / h * h ∧ u / h * h ≤ u := by
  have a := Int.ediv_nonneg hu (show 0 ≤ h by omega)
  have b := Int.ediv_mul_le u (show h ≠ 0 by omega)
  refine ⟨a, ?_, Int.mul_nonneg a (by omega), b⟩
  exact Int.ediv_le_self h hu
theorem mod_sub (u h : Int) : u % h = u - u / h * h := by rw [Int.emod_def, Int.mul_comm]

theorem mask32 (a : Int) (h0 : 0 ≤ a) (h1 : a < 18446744073709551616) : bits .and .u64 a 4294967295 = a % 4294967296 := by
  obtain ⟨x, rfl⟩ := Int.eq_ofNat_of_zero_le h0
  rw [Mul64.maskN x (by omega)]
  omega
/-- Two words joined: no bit in both. -/
theorem or_join (a b : Int) (k : Nat) (ha : 0 ≤ a) (hb : 0 ≤ b) (hb2 : b < 2 ^ k) (h : a * 2 ^ k + b < 18446744073709551616) : bits .or .u64 (a * 2 ^ k) b = a * 2 ^ k + b := by
  obtain ⟨x, rfl⟩ := Int.eq_ofNat_of_zero_le ha
  obtain ⟨z, rfl⟩ := Int.eq_ofNat_of_zero_le hb
  have e : ((x * 2 ^ k : Nat) : Int) = (x : Int) * 2 ^ k := by rw [Int.natCast_mul, Int.natCast_pow]; rfl
  have e2 : ((2 ^ k : Nat) : Int) = (2 : Int) ^ k := by rw [Int.natCast_pow]; rfl
  rw [← e] at h ⊢
  rw [← e2] at hb2
  have j : x * 2 ^ k ||| z = x * 2 ^ k + z := by
    rw [Nat.mul_comm x]; exact (Nat.two_pow_add_eq_or_of_lt (by omega) x).symm
  rw [bits_or_u64_nat (x * 2 ^ k) z (by omega) (by omega), j]
  omega
theorem pow_split (k : Nat) (hk : k ≤ 63) : (2 : Int) ^ (64 - k) * 2 ^ k = 18446744073709551616 := by
  rw [← Int.pow_add, show 64 - k + k = 64 from by omega]; decide

end Go.Proofs.Ythpekbohmfmffaa

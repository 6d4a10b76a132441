/-
  Numbers by their digits to the base 2^32: plain arithmetic, no program in sight.
-/
import Derived.Test.YthpekbohmfmffaaNum
namespace Go.Proofs.Ythpekbohmfmffaa

/-- The digit j of a number to the base 2^32. -/
def dg (V : Int) (j : Nat) : Int := V / 2 ^ (32 * j) % 4294967296
theorem dg_bd (V : Int) (j : Nat) : 0 ≤ dg V j ∧ dg V j < 4294967296 := by unfold dg; omega
theorem pp (n : Nat) : (0 : Int) < 2 ^ n := Int.pow_pos (by decide)
theorem p32 (j : Nat) : (2 : Int) ^ (32 * (j + 1)) = 2 ^ (32 * j) * 4294967296 := by
  rw [Nat.mul_add, Int.pow_add]; rfl
theorem dg_set {W n : Int} {j : Nat} (hn0 : 0 ≤ n) (hn : n < 4294967296) (m : Nat) :
    dg (W + (n - dg W j) * 2 ^ (32 * j)) m = if m = j then n else dg W m := by
  have hP := pp (32 * j)
  have e1 : (W + (n - dg W j) * 2 ^ (32 * j)) / 2 ^ (32 * j) = W / 2 ^ (32 * j) + (n - dg W j) := Int.add_mul_ediv_right _ _ (by omega)
  rcases Nat.lt_trichotomy m j with h | h | h
  · rw [if_neg (by omega)]
    obtain ⟨t, rfl⟩ : ∃ t, j = m + 1 + t := ⟨j - (m + 1), by omega⟩
    have e2 : (2 : Int) ^ (32 * (m + 1 + t)) = 4294967296 * 2 ^ (32 * t) * 2 ^ (32 * m) := by
      rw [Nat.mul_add, Int.pow_add, p32, Int.mul_comm (2 ^ (32 * m)), Int.mul_assoc, Int.mul_assoc, Int.mul_comm (2 ^ (32 * m))]
    generalize hc : n - dg W (m + 1 + t) = c
    have hQ := pp (32 * m)
    unfold dg
    rw [e2, ← Int.mul_assoc, Int.add_mul_ediv_right _ _ (by omega), Int.mul_comm 4294967296, ← Int.mul_assoc, Int.add_mul_emod_self_right]
  · subst h
    rw [if_pos rfl]
    unfold dg at e1 ⊢
    rw [e1]
    omega
  · rw [if_neg (by omega)]
    obtain ⟨t, rfl⟩ : ∃ t, m = j + 1 + t := ⟨m - (j + 1), by omega⟩
    have e2 : (2 : Int) ^ (32 * (j + 1 + t)) = 2 ^ (32 * j) * 4294967296 * 2 ^ (32 * t) := by
      rw [Nat.mul_add, Int.pow_add, p32]
    have e3 : (W / 2 ^ (32 * j) + (n - dg W j)) / 4294967296 = W / 2 ^ (32 * j) / 4294967296 := by unfold dg; omega
    have hd : ∀ x : Int, x / 2 ^ (32 * (j + 1 + t)) = x / 2 ^ (32 * j) / 4294967296 / 2 ^ (32 * t) := by
      intro x
      rw [e2, ← Int.ediv_ediv_of_nonneg (by omega), ← Int.ediv_ediv_of_nonneg (by omega)]
    rw [dg, hd, e1, e3, ← hd, ← dg]
theorem dg_high {W : Int} {j M : Nat} (h0 : 0 ≤ W) (h : W < 2 ^ (32 * M)) (hj : M ≤ j) : dg W j = 0 := by
  obtain ⟨t, rfl⟩ : ∃ t, j = M + t := ⟨j - M, by omega⟩
  have e : W / 2 ^ (32 * (M + t)) = 0 := by
    apply Int.ediv_eq_zero_of_lt h0
    rw [Nat.mul_add, Int.pow_add]
    have h1 := pp (32 * t)
    have h2 : 2 ^ (32 * M) * 1 ≤ (2 : Int) ^ (32 * M) * 2 ^ (32 * t) := Int.mul_le_mul_of_nonneg_left (by omega) (by omega)
    omega
  unfold dg
  rw [e]
  rfl

/-- One round of the inner loop. -/
theorem inner {W c V x B : Int} {i k : Nat} (h : W + c * 2 ^ (32 * (i + k)) = V + x * 2 ^ (32 * i) * (B % 2 ^ (32 * k))) :
    (W + ((dg W (i + k) + x * dg B k + c) % 4294967296 - dg W (i + k)) * 2 ^ (32 * (i + k))) + (dg W (i + k) + x * dg B k + c) / 4294967296 * 2 ^ (32 * (i + (k + 1))) = V + x * 2 ^ (32 * i) * (B % 2 ^ (32 * (k + 1))) := by
  have e1 : (2 : Int) ^ (32 * (i + (k + 1))) = 2 ^ (32 * (i + k)) * 4294967296 := p32 (i + k)
  have e2 : B % 2 ^ (32 * (k + 1)) = B % 2 ^ (32 * k) + 2 ^ (32 * k) * dg B k := by
    have hP := pp (32 * k)
    rw [p32, dg, Int.emod_def B (2 ^ (32 * k) * 4294967296), Int.emod_def B (2 ^ (32 * k)), Int.emod_def _ 4294967296, ← Int.ediv_ediv_of_nonneg (by omega)]
    generalize (2 : Int) ^ (32 * k) = P
    generalize B / P = u
    rw [Int.mul_sub, Int.mul_assoc]
    omega
  have e3 : (2 : Int) ^ (32 * (i + k)) = 2 ^ (32 * i) * 2 ^ (32 * k) := by rw [Nat.mul_add, Int.pow_add]
  generalize hs : dg W (i + k) + x * dg B k + c = s at *
  have hs2 : s = s % 4294967296 + 4294967296 * (s / 4294967296) := by omega
  generalize hq : s / 4294967296 = q at *
  generalize hr : s % 4294967296 = r at *
  rw [e1, e2]
  rw [e3] at h ⊢
  generalize (2 : Int) ^ (32 * i) = P at *
  generalize (2 : Int) ^ (32 * k) = Q at *
  have hr2 : r = dg W (i + k) + x * dg B k + c - 4294967296 * q := by omega
  rw [hr2]
  generalize dg W (i + k) = d at *
  generalize dg B k = b at *
  generalize B % Q = m at *
  grind

theorem dg_set_bd {W n : Int} {j M : Nat} (h0 : 0 ≤ W) (h : W < 2 ^ (32 * M)) (hj : j < M) (hn0 : 0 ≤ n) (hn : n < 4294967296) :
    0 ≤ W + (n - dg W j) * 2 ^ (32 * j) ∧ W + (n - dg W j) * 2 ^ (32 * j) < 2 ^ (32 * M) := by
  obtain ⟨t, rfl⟩ : ∃ t, M = j + 1 + t := ⟨M - (j + 1), by omega⟩
  have hP := pp (32 * j)
  have hR := pp (32 * t)
  rw [Nat.mul_add, Int.pow_add, p32] at h ⊢
  have e1 : W = 2 ^ (32 * j) * (4294967296 * (W / 2 ^ (32 * j) / 4294967296) + dg W j) + W % 2 ^ (32 * j) := by
    rw [show 4294967296 * (W / 2 ^ (32 * j) / 4294967296) + dg W j = W / 2 ^ (32 * j) from by unfold dg; omega]
    exact (Int.mul_ediv_add_emod W (2 ^ (32 * j))).symm
  have e2 := Int.emod_nonneg W (show (2 : Int) ^ (32 * j) ≠ 0 by omega)
  have e3 := Int.emod_lt_of_pos W hP
  have e4 : 0 ≤ W / 2 ^ (32 * j) / 4294967296 := by
    have := Int.ediv_nonneg h0 (show (0 : Int) ≤ 2 ^ (32 * j) by omega)
    omega
  have e5 : W / 2 ^ (32 * j) / 4294967296 < 2 ^ (32 * t) := by
    rw [Int.ediv_ediv_of_nonneg (by omega)]
    apply Int.ediv_lt_of_lt_mul (by omega)
    rw [Int.mul_comm]
    exact h
  have e6 := dg_bd W j
  generalize dg W j = d at *
  generalize W / 2 ^ (32 * j) / 4294967296 = H at *
  generalize W % 2 ^ (32 * j) = L at *
  generalize (2 : Int) ^ (32 * j) = P at *
  generalize (2 : Int) ^ (32 * t) = R at *
  have e7 : W + (n - d) * P = P * (4294967296 * H + n) + L := by grind
  rw [e7]
  constructor
  · have := Int.mul_nonneg (show 0 ≤ P by omega) (show 0 ≤ 4294967296 * H + n by omega)
    omega
  · have a1 : P * (4294967296 * H + n) ≤ P * (4294967296 * R - 1) := Int.mul_le_mul_of_nonneg_left (by omega) (by omega)
    have a2 : P * (4294967296 * R - 1) = P * 4294967296 * R - P := by grind
    omega
theorem carry_bd {d x b c : Int} (hd : 0 ≤ d ∧ d < 4294967296) (hx : 0 ≤ x ∧ x < 4294967296) (hb : 0 ≤ b ∧ b < 4294967296) (hc : 0 ≤ c ∧ c < 4294967296) :
    0 ≤ x * b ∧ x * b ≤ 18446744065119617025 ∧ 0 ≤ d + x * b + c ∧ d + x * b + c < 18446744073709551616 := by
  have h1 := Int.mul_nonneg hx.1 hb.1
  have h2 : x * b ≤ 4294967295 * 4294967295 := Int.mul_le_mul (by omega) (by omega) hb.1 (by decide)
  omega

/-- What stands behind the first rounds. -/
def vi (A B : Int) (i : Nat) : Int := A % 2 ^ (32 * i) * B
theorem vi_zero (A B : Int) : vi A B 0 = 0 := by
  have : A % 1 = 0 := by omega
  simp [vi, this]
theorem mod_succ (A : Int) (i : Nat) : A % 2 ^ (32 * (i + 1)) = A % 2 ^ (32 * i) + 2 ^ (32 * i) * dg A i := by
  have hP := pp (32 * i)
  rw [p32, dg, Int.emod_def A (2 ^ (32 * i) * 4294967296), Int.emod_def A (2 ^ (32 * i)), Int.emod_def _ 4294967296, ← Int.ediv_ediv_of_nonneg (by omega)]
  generalize (2 : Int) ^ (32 * i) = P
  generalize A / P = u
  rw [Int.mul_sub, Int.mul_assoc]
  omega
theorem vi_succ (A B : Int) (i : Nat) : vi A B (i + 1) = vi A B i + dg A i * 2 ^ (32 * i) * B := by
  unfold vi
  rw [mod_succ, Int.add_mul, Int.mul_comm (2 ^ (32 * i)) (dg A i)]
theorem vi_bd {A B : Int} (i : Nat) (hB0 : 0 ≤ B) (hB : B < 2 ^ (32 * 8)) : 0 ≤ vi A B i ∧ vi A B i < 2 ^ (32 * (i + 8)) := by
  have hP := pp (32 * i)
  have e2 := Int.emod_nonneg A (show (2 : Int) ^ (32 * i) ≠ 0 by omega)
  have e3 := Int.emod_lt_of_pos A hP
  unfold vi
  refine ⟨Int.mul_nonneg e2 hB0, ?_⟩
  rw [Nat.mul_add, Int.pow_add]
  refine Int.lt_of_le_of_lt (Int.mul_le_mul_of_nonneg_right (Int.le_of_lt e3) hB0) ?_
  exact Int.mul_lt_mul_of_pos_left hB hP
theorem vi_last {A B : Int} (h0 : 0 ≤ A) (h : A < 2 ^ (32 * 8)) : vi A B 8 = A * B := by
  unfold vi; rw [Int.emod_eq_of_lt h0 h]
theorem mod_last {B : Int} (h0 : 0 ≤ B) (h : B < 2 ^ (32 * 8)) : B % 2 ^ (32 * 8) = B := Int.emod_eq_of_lt h0 h
/-- The outer loop's last deed: the carry is the next digit. -/
theorem outer {W c : Int} {i : Nat} (h0 : 0 ≤ W) (h : W < 2 ^ (32 * (i + 8))) :
    W + (c - dg W (i + 8)) * 2 ^ (32 * (i + 8)) = W + c * 2 ^ (32 * (i + 8)) := by
  rw [dg_high h0 h (Nat.le_refl _), Int.sub_zero]
theorem inner0 (W V x B : Int) (i : Nat) (h : W = V) : W + 0 * 2 ^ (32 * (i + 0)) = V + x * 2 ^ (32 * i) * (B % 2 ^ (32 * 0)) := by
  have : B % 1 = 0 := by omega
  simp [this, h]
end Go.Proofs.Ythpekbohmfmffaa

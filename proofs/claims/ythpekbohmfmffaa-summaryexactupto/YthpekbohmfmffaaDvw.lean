/-
  limb.Div: the worlds of the call, and the arithmetic of its four steps.
-/
import Derived.Test.YthpekbohmfmffaaAid
import Derived.Test.YthpekbohmfmffaaBitm
namespace Go.Proofs.Ythpekbohmfmffaa
open Go.RowKit
/-- The block k holds the limbs of n. -/
def AtN (w : World) (k : Nat) (n : Int) : Prop := At4 w k (l0 n) (l1 n) (l2 n) (l3 n) ∧ Fz w k ∧ k < w.heap.size
/-- A number stored into the block k. -/
abbrev st4 (w : World) (k : Nat) (z : Int) : World := (((w.setCell ⟨k, 0, none⟩ (.int .u64 (l0 z))).setCell ⟨k, 1, none⟩ (.int .u64 (l1 z))).setCell ⟨k, 2, none⟩ (.int .u64 (l2 z))).setCell ⟨k, 3, none⟩ (.int .u64 (l3 z))
theorem AtN.mo {w w' : World} {k : Nat} {n : Int} (h : AtN w k n) (m : Mo w w') : AtN w' k n :=
  ⟨h.1.mo m h.2.2, h.2.1.mo m, Nat.lt_of_lt_of_le h.2.2 m.size⟩
theorem AtN.same {w : World} {k : Nat} {n : Int} (h : AtN w k n) (z : Int) : AtN (st4 w k z) k z := by
  obtain ⟨⟨b0, b1, b2, b3⟩, f, s⟩ := h
  refine ⟨by simp [At4, go_sem, *], fun o => by simp [World.frozen?_setCell, f o], by simpa [World.setCell] using s⟩
theorem AtN.other {w : World} {k j : Nat} {n : Int} (h : AtN w j n) (hk : j ≠ k) (z : Int) : AtN (st4 w k z) j n := by
  obtain ⟨⟨b0, b1, b2, b3⟩, f, s⟩ := h
  refine ⟨by simp [At4, go_sem, *], fun o => by simp [World.frozen?_setCell, f o], by simpa [World.setCell] using s⟩
theorem AtN.new (w : World) (n : Int) : AtN (w.alloc (.cells #[.int .u64 (l0 n), .int .u64 (l1 n), .int .u64 (l2 n), .int .u64 (l3 n)] 24)) w.heap.size n :=
  ⟨by simp [At4, go_sem], fun o => by simp [go_sem], by simp⟩
theorem Mo.st4 {a b : World} (h : Mo a b) {k : Nat} (hk : a.heap.size ≤ k) (z : Int) : Mo a (st4 b k z) :=
  (((h.setCell hk _).setCell hk _).setCell hk _).setCell hk _
/-- The blocks of the call: high, low, by, and the two results. -/
def VW (w wx : World) (h l d : Int) : Prop := Mo w wx ∧ AtN wx w.heap.size h ∧ AtN wx (w.heap.size + 1) l ∧ AtN wx (w.heap.size + 1 + 1) d ∧ AtN wx (w.heap.size + 1 + 1 + 1) 0 ∧ AtN wx (w.heap.size + 1 + 1 + 1 + 1) 0
theorem VW.mo {w wx w1 : World} {h l d : Int} (v : VW w wx h l d) (m : Mo wx w1) : VW w w1 h l d := by
  obtain ⟨v1, v2, v3, v4, v5, v6⟩ := v
  exact ⟨v1.trans m, v2.mo m, v3.mo m, v4.mo m, v5.mo m, v6.mo m⟩
theorem VW.setd {w wx : World} {h l d : Int} (v : VW w wx h l d) (z : Int) : VW w (st4 wx (w.heap.size + 1 + 1) z) h l z := by
  obtain ⟨v1, v2, v3, v4, v5, v6⟩ := v
  exact ⟨v1.st4 (by omega) z, v2.other (by omega) z, v3.other (by omega) z, v4.same z, v5.other (by omega) z, v6.other (by omega) z⟩
theorem VW.setl {w wx : World} {h l d : Int} (v : VW w wx h l d) (z : Int) : VW w (st4 wx (w.heap.size + 1) z) h z d := by
  obtain ⟨v1, v2, v3, v4, v5, v6⟩ := v
  exact ⟨v1.st4 (by omega) z, v2.other (by omega) z, v3.same z, v4.other (by omega) z, v5.other (by omega) z, v6.other (by omega) z⟩
theorem VW.setk {w wx : World} {h l d : Int} (v : VW w wx h l d) {k : Nat} (hk : w.heap.size + 1 + 1 + 1 + 1 < k) (z : Int) : VW w (st4 wx k z) h l d := by
  obtain ⟨v1, v2, v3, v4, v5, v6⟩ := v
  exact ⟨v1.st4 (by omega) z, v2.other (by omega) z, v3.other (by omega) z, v4.other (by omega) z, v5.other (by omega) z, v6.other (by omega) z⟩
theorem VW.start (w : World) (h l d : Int) : VW w (((((w.alloc (.cells #[.int .u64 (l0 h), .int .u64 (l1 h), .int .u64 (l2 h), .int .u64 (l3 h)] 24)).alloc (.cells #[.int .u64 (l0 l), .int .u64 (l1 l), .int .u64 (l2 l), .int .u64 (l3 l)] 24)).alloc (.cells #[.int .u64 (l0 d), .int .u64 (l1 d), .int .u64 (l2 d), .int .u64 (l3 d)] 24)).alloc (.cells #[.int .u64 0, .int .u64 0, .int .u64 0, .int .u64 0] 24)).alloc (.cells #[.int .u64 0, .int .u64 0, .int .u64 0, .int .u64 0] 24)) h l d := by
  have z0 : l0 0 = 0 := by decide
  have z1 : l1 0 = 0 := by decide
  have z2 : l2 0 = 0 := by decide
  have z3 : l3 0 = 0 := by decide
  refine ⟨(((((Mo.refl _).alloc _ _).alloc _ _).alloc _ _).alloc _ _).alloc _ _, ⟨by simp [At4, go_sem], fun o => by simp [go_sem], by simp <;> omega⟩, ⟨by simp [At4, go_sem], fun o => by simp [go_sem], by simp <;> omega⟩, ⟨by simp [At4, go_sem], fun o => by simp [go_sem], by simp <;> omega⟩, ⟨by simp [At4, go_sem, z0, z1, z2, z3], fun o => by simp [go_sem], by simp <;> omega⟩, ⟨by simp [At4, go_sem, z0, z1, z2, z3], fun o => by simp [go_sem], by simp <;> omega⟩⟩

/-- How far the divisor is from having its top bit set. -/
theorem dshift {D : Int} (h0 : 0 < D) (h : D < MM) : ∃ s : Nat, 256 - bln D = (s : Int) ∧ s ≤ 255 ∧ D * 2 ^ s < MM ∧ 57896044618658097711785492504343953926634992332820282019728792003956564819968 ≤ D * 2 ^ s := by
  obtain ⟨m, rfl⟩ := Int.eq_ofNat_of_zero_le (show 0 ≤ D by omega)
  have ne : m ≠ 0 := by omega
  have a1 := Nat.log2_self_le ne
  have a2 := @Nat.lt_log2_self m
  have lt : Nat.log2 m < 256 := (Nat.log2_lt ne).2 (by unfold MM at h; omega)
  refine ⟨255 - Nat.log2 m, ?_, by omega, ?_, ?_⟩
  · unfold bln; rw [if_neg (by omega), Int.toNat_natCast]; omega
  · have b : m * 2 ^ (255 - Nat.log2 m) < 2 ^ (Nat.log2 m + 1) * 2 ^ (255 - Nat.log2 m) := Nat.mul_lt_mul_of_pos_right a2 (Nat.pow_pos (by decide))
    rw [← Nat.pow_add, show Nat.log2 m + 1 + (255 - Nat.log2 m) = 256 from by omega] at b
    have e : ((m * 2 ^ (255 - Nat.log2 m) : Nat) : Int) = (m : Int) * 2 ^ (255 - Nat.log2 m) := by rw [Int.natCast_mul, cast_pow]
    rw [← e]
    generalize m * 2 ^ (255 - Nat.log2 m) = z at *
    unfold MM; omega
  · have b : 2 ^ Nat.log2 m * 2 ^ (255 - Nat.log2 m) ≤ m * 2 ^ (255 - Nat.log2 m) := Nat.mul_le_mul_right _ a1
    rw [← Nat.pow_add, show Nat.log2 m + (255 - Nat.log2 m) = 255 from by omega] at b
    have e : ((m * 2 ^ (255 - Nat.log2 m) : Nat) : Int) = (m : Int) * 2 ^ (255 - Nat.log2 m) := by rw [Int.natCast_mul, cast_pow]
    rw [← e]
    generalize m * 2 ^ (255 - Nat.log2 m) = z at *
    omega

theorem step_bd {P e D : Int} (h0 : 0 ≤ P) (h : P < D) (he : U1 e) : U1 ((P * 18446744073709551616 + e) / D) ∧ 0 ≤ (P * 18446744073709551616 + e) % D ∧ (P * 18446744073709551616 + e) % D < D ∧ D * ((P * 18446744073709551616 + e) / D) + (P * 18446744073709551616 + e) % D = P * 18446744073709551616 + e := by
  obtain ⟨a, b⟩ := he
  refine ⟨⟨Int.ediv_nonneg (by omega) (by omega), Int.ediv_lt_of_lt_mul (by omega) (by omega)⟩, Int.emod_nonneg _ (by omega), Int.emod_lt_of_pos _ (by omega), Int.mul_ediv_add_emod _ _⟩
/-- Four steps make the quotient and the rest. -/
theorem steps_eq {P4 P3 P2 P1 P0 q3 q2 q1 q0 low D : Int} (h0 : 0 ≤ P4) (h : P4 < D) (hl0 : 0 ≤ low) (hl : low < MM)
    (e3 : q3 = (P4 * 18446744073709551616 + l3 low) / D) (f3 : P3 = (P4 * 18446744073709551616 + l3 low) % D) (e2 : q2 = (P3 * 18446744073709551616 + l2 low) / D) (f2 : P2 = (P3 * 18446744073709551616 + l2 low) % D)
    (e1 : q1 = (P2 * 18446744073709551616 + l1 low) / D) (f1 : P1 = (P2 * 18446744073709551616 + l1 low) % D) (e0 : q0 = (P1 * 18446744073709551616 + l0 low) / D) (f0 : P0 = (P1 * 18446744073709551616 + l0 low) % D) :
    U4 q0 q1 q2 q3 ∧ (0 ≤ P3 ∧ P3 < D) ∧ (0 ≤ P2 ∧ P2 < D) ∧ (0 ≤ P1 ∧ P1 < D) ∧ (0 ≤ P0 ∧ P0 < D) ∧ vl q0 q1 q2 q3 = (P4 * MM + low) / D ∧ P0 = (P4 * MM + low) % D := by
  obtain ⟨u0, u1, u2, u3⟩ := u4_lb low
  obtain ⟨a3, b3, c3, d3⟩ := step_bd h0 h u3
  rw [← e3, ← f3] at d3; rw [← e3] at a3; rw [← f3] at b3 c3
  obtain ⟨a2, b2, c2, d2⟩ := step_bd b3 c3 u2
  rw [← e2, ← f2] at d2; rw [← e2] at a2; rw [← f2] at b2 c2
  obtain ⟨a1, b1, c1, d1⟩ := step_bd b2 c2 u1
  rw [← e1, ← f1] at d1; rw [← e1] at a1; rw [← f1] at b1 c1
  obtain ⟨a0, b0, c0, d0⟩ := step_bd b1 c1 u0
  rw [← e0, ← f0] at d0; rw [← e0] at a0; rw [← f0] at b0 c0
  have lw := vl_lb low hl0 hl
  have key : P4 * MM + low = P0 + D * vl q0 q1 q2 q3 := by
    have e : D * vl q0 q1 q2 q3 = D * q0 + 18446744073709551616 * (D * q1) + 340282366920938463463374607431768211456 * (D * q2) + 6277101735386680763835789423207666416102355444464034512896 * (D * q3) := by
      unfold vl; rw [Int.mul_add, Int.mul_add, Int.mul_add, Int.mul_left_comm, Int.mul_left_comm D _ q2, Int.mul_left_comm D _ q3]
    rw [e, ← lw]
    clear e e0 e1 e2 e3 f0 f1 f2 f3 lw
    unfold vl MM
    omega
  refine ⟨⟨a0, a1, a2, a3⟩, ⟨b3, c3⟩, ⟨b2, c2⟩, ⟨b1, c1⟩, ⟨b0, c0⟩, ?_, ?_⟩
  · rw [key, Int.add_mul_ediv_left _ _ (by omega), Int.ediv_eq_zero_of_lt b0 c0, Int.zero_add]
  · rw [key, Int.add_mul_emod_self_left, Int.emod_eq_of_lt b0 c0]
/-- Both sides shifted: the same quotient, the rest shifted. -/
theorem shifted {H L D : Int} {s : Nat} (hs : s ≤ 255) (hH : 0 ≤ H) (hHD : H < D) (hL0 : 0 ≤ L) (hL : L < MM) :
    0 ≤ H * 2 ^ s + L / 2 ^ (256 - s) ∧ H * 2 ^ s + L / 2 ^ (256 - s) < D * 2 ^ s ∧
    ((H * 2 ^ s + L / 2 ^ (256 - s)) * MM + L * 2 ^ s % MM) / (D * 2 ^ s) = (H * MM + L) / D ∧ ((H * 2 ^ s + L / 2 ^ (256 - s)) * MM + L * 2 ^ s % MM) % (D * 2 ^ s) / 2 ^ s = (H * MM + L) % D := by
  have hP : (0 : Int) < 2 ^ s := Int.pow_pos (by decide)
  have hQ : (0 : Int) < 2 ^ (256 - s) := Int.pow_pos (by decide)
  have hPQ : (2 : Int) ^ (256 - s) * 2 ^ s = MM := by rw [← Int.pow_add, show 256 - s + s = 256 from by omega]; decide
  have lq0 : 0 ≤ L / 2 ^ (256 - s) := Int.ediv_nonneg hL0 (by omega)
  have lq : L / 2 ^ (256 - s) < 2 ^ s := Int.ediv_lt_of_lt_mul hQ (by rw [Int.mul_comm, hPQ]; exact hL)
  have hy1 : (H + 1) * 2 ^ s ≤ D * 2 ^ s := Int.mul_le_mul_of_nonneg_right (by omega) (by omega)
  rw [Int.add_mul, Int.one_mul] at hy1
  have hiP : 0 ≤ H * 2 ^ s := Int.mul_nonneg hH (by omega)
  have lop : L * 2 ^ s / MM = L / 2 ^ (256 - s) := by rw [← hPQ]; exact Int.mul_ediv_mul_of_pos_left _ _ hP
  have whole : (H * 2 ^ s + L / 2 ^ (256 - s)) * MM + L * 2 ^ s % MM = (H * MM + L) * 2 ^ s := by
    rw [Int.add_mul (H * MM), Int.mul_right_comm H MM, ← lop, Int.add_mul]
    have := Int.mul_ediv_add_emod (L * 2 ^ s) MM
    rw [Int.mul_comm MM] at this
    omega
  have div1 : (H * MM + L) * 2 ^ s / (D * 2 ^ s) = (H * MM + L) / D := Int.mul_ediv_mul_of_pos_left _ _ hP
  refine ⟨by omega, by omega, ?_, ?_⟩
  · rw [whole, div1]
  · rw [whole, mod_sub, div1, mod_sub, ← Int.mul_assoc, ← Int.sub_mul, Int.mul_ediv_cancel _ (by omega)]
end Go.Proofs.Ythpekbohmfmffaa

/-
  limb.guessLimb and limb.divStep, whatever the limbs: the walks.
-/
import Derived.Test.YthpekbohmfmffaaDivl
import Derived.Test.YthpekbohmfmffaaMul
import Derived.Test.YthpekbohmfmffaaAid
import Derived.Deep.CutRange
namespace Go.Proofs.Ythpekbohmfmffaa
open Go.RowKit
/-- The guess of a limb of the quotient. -/
def gl (r2 r3 b3 : Int) : Int := if b3 ≤ r3 then 18446744073709551615 else (r3 * 18446744073709551616 + r2) / b3
/-- The guess is a word, and not below the quotient. -/
theorem gl_bd {r0 r1 r2 r3 b0 b1 b2 b3 x : Int} (hr : U4 r0 r1 r2 r3) (hb : U4 b0 b1 b2 b3) (hx : U1 x) (hlt : vl r0 r1 r2 r3 < vl b0 b1 b2 b3) :
    U1 (gl r2 r3 b3) ∧ (vl r0 r1 r2 r3 * 18446744073709551616 + x) / vl b0 b1 b2 b3 ≤ gl r2 r3 b3 := by
  have rb := vl_bd hr
  have bb := vl_bd hb
  obtain ⟨⟨p0, q0⟩, ⟨p1, q1⟩, ⟨p2, q2⟩, ⟨p3, q3⟩⟩ := hr
  obtain ⟨⟨u0, v0⟩, ⟨u1, v1⟩, ⟨u2, v2⟩, ⟨u3, v3⟩⟩ := hb
  obtain ⟨x0, x1⟩ := hx
  have qlt : (vl r0 r1 r2 r3 * 18446744073709551616 + x) / vl b0 b1 b2 b3 < 18446744073709551616 := by
    apply Int.ediv_lt_of_lt_mul (by omega)
    have : (vl r0 r1 r2 r3 + 1) * 18446744073709551616 ≤ vl b0 b1 b2 b3 * 18446744073709551616 := by omega
    omega
  have qn : 0 ≤ (vl r0 r1 r2 r3 * 18446744073709551616 + x) / vl b0 b1 b2 b3 := Int.ediv_nonneg (by omega) (by omega)
  unfold gl
  by_cases h : b3 ≤ r3
  · rw [if_pos h]
    exact ⟨⟨by decide, by decide⟩, by omega⟩
  · rw [if_neg h]
    refine ⟨⟨Int.ediv_nonneg (by omega) u3, Int.ediv_lt_of_lt_mul (by omega) (by omega)⟩, ?_⟩
    apply (Int.le_ediv_iff_mul_le (by omega)).2
    have m := Int.ediv_mul_le (vl r0 r1 r2 r3 * 18446744073709551616 + x) (show vl b0 b1 b2 b3 ≠ 0 by omega)
    generalize (vl r0 r1 r2 r3 * 18446744073709551616 + x) / vl b0 b1 b2 b3 = q at *
    have m2 : q * (6277101735386680763835789423207666416102355444464034512896 * b3) ≤ q * vl b0 b1 b2 b3 := Int.mul_le_mul_of_nonneg_left (by unfold vl; omega) qn
    rw [Int.mul_left_comm] at m2
    have m3 : vl r0 r1 r2 r3 * 18446744073709551616 + x < 6277101735386680763835789423207666416102355444464034512896 * (r3 * 18446744073709551616 + r2 + 1) := by unfold vl; omega
    omega

/-- What is left and its top limb, of Y = N less D times the guess, whatever its sign. -/
theorem left_eq {r0 r1 r2 r3 x T lo N DG Y : Int} (hN : N = vl r0 r1 r2 r3 * 18446744073709551616 + x) (hT : T = DG / MM) (hlo : lo = DG % MM) (hY : Y = N - DG) :
    (vl x r0 r1 r2 - lo) % MM = Y % MM ∧ IntKind.u64.wrap (IntKind.u64.wrap (r3 - T) - -((vl x r0 r1 r2 - lo) / MM)) = Y / MM % 18446744073709551616 := by
  rw [IntKind.wrap_u64, IntKind.wrap_u64]
  have e : Y = (vl x r0 r1 r2 - lo) + MM * (r3 - T) := by subst hN hY hT hlo; unfold vl MM; omega
  constructor
  · rw [e]; unfold MM; omega
  · rw [e]; unfold MM; omega
theorem back_eq {Y D S : Int} (hS : S = Y % MM + D) : nv S = nv (Y + D) ∧ IntKind.u64.wrap (Y / MM % 18446744073709551616 + S / MM) = (Y + D) / MM % 18446744073709551616 := by
  constructor
  · rw [← nv_mod S, ← nv_mod (Y + D), hS, Int.emod_add_emod]
  · rw [IntKind.wrap_u64, hS]; unfold MM; omega
/-- Where the top limb is not 0, what is left is below 0; else the guess is the quotient. -/
theorem top_says {N D g Y t : Int} (hD : 0 < D) (hD2 : D < MM) (hN : 0 ≤ N) (hg : 0 ≤ g) (hg2 : g < 18446744073709551616) (hq : N / D ≤ g) (hY : Y = N - D * g) (ht : t = Y / MM % 18446744073709551616) :
    (t ≠ 0 → N / D ≤ g - 1 ∧ 1 ≤ g) ∧ (t = 0 → g = N / D ∧ Y = N % D) := by
  have m1 : N < (N / D + 1) * D := Int.lt_ediv_add_one_mul_self N hD
  have m2 : (N / D + 1) * D ≤ (g + 1) * D := Int.mul_le_mul_of_nonneg_right (by omega) (by omega)
  rw [Int.add_mul g, Int.one_mul, Int.mul_comm g] at m2
  have m3 : D * g ≤ D * 18446744073709551615 := Int.mul_le_mul_of_nonneg_left (by omega) (by omega)
  have qn : 0 ≤ N / D := Int.ediv_nonneg hN (by omega)
  have ylt : Y < D := by omega
  refine ⟨fun h => ?_, fun h => ?_⟩
  · have yneg : Y < 0 := by
      apply Int.lt_of_not_ge
      intro hge
      apply h
      rw [ht]
      unfold MM at *
      omega
    have : N / D < g := by
      apply Int.ediv_lt_of_lt_mul hD
      rw [Int.mul_comm]
      omega
    omega
  · have ypos : 0 ≤ Y := by
      apply Int.le_of_not_gt
      intro hlt
      rw [ht] at h
      unfold MM at *
      omega
    have : g ≤ N / D := by
      apply (Int.le_ediv_iff_mul_le hD).2
      rw [Int.mul_comm]
      omega
    have e : g = N / D := by omega
    refine ⟨e, ?_⟩
    rw [hY, e, Int.emod_def]

/-- The world of a step. -/
def DW (w wr : World) (k : Nat) (b0 b1 b2 b3 y0 y1 y2 y3 : Int) : Prop := Mo w wr ∧ w.heap.size + 1 + 1 < k ∧ k < wr.heap.size ∧ At4 wr (w.heap.size + 1) b0 b1 b2 b3 ∧ At4 wr (w.heap.size + 1 + 1) 0 0 0 0 ∧ Fz wr (w.heap.size + 1 + 1) ∧ At4 wr k y0 y1 y2 y3 ∧ Fz wr k
theorem DW.mo {w wr w1 : World} {k : Nat} {b0 b1 b2 b3 y0 y1 y2 y3 : Int} (h : DW w wr k b0 b1 b2 b3 y0 y1 y2 y3) (m : Mo wr w1) : DW w w1 k b0 b1 b2 b3 y0 y1 y2 y3 := by
  obtain ⟨h1, h2, h3, h4, h5, h6, h7, h8⟩ := h
  have := m.size
  exact ⟨h1.trans m, h2, by omega, h4.mo m (by omega), h5.mo m (by omega), h6.mo m, h7.mo m h3, h8.mo m⟩
theorem DW.put {w w1 : World} {k : Nat} {b0 b1 b2 b3 y0 y1 y2 y3 : Int} (h : DW w w1 k b0 b1 b2 b3 y0 y1 y2 y3) (z0 z1 z2 z3 : Int) : DW w ((((w1.setCell ⟨k, 0, none⟩ (.int .u64 z0)).setCell ⟨k, 1, none⟩ (.int .u64 z1)).setCell ⟨k, 2, none⟩ (.int .u64 z2)).setCell ⟨k, 3, none⟩ (.int .u64 z3)) k b0 b1 b2 b3 z0 z1 z2 z3 := by
  obtain ⟨h1, h2, h3, ⟨a0, a1, a2, a3⟩, ⟨c0, c1, c2, c3⟩, h6, ⟨d0, d1, d2, d3⟩, h8⟩ := h
  have le : w.heap.size ≤ k := by omega
  have n1 : ¬ w.heap.size + 1 = k := by omega
  have n2 : ¬ w.heap.size + 1 + 1 = k := by omega
  refine ⟨(((h1.setCell le _).setCell le _).setCell le _).setCell le _, h2, by simpa [World.setCell] using h3, ?_, ?_, ?_, ?_, ?_⟩
  · simp [At4, go_sem, *]
  · simp [At4, go_sem, *]
  · intro o; simp [World.frozen?_setCell, h6 o]
  · simp [At4, go_sem, *]
  · intro o; simp [World.frozen?_setCell, h8 o]

end Go.Proofs.Ythpekbohmfmffaa

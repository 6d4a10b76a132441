/-
  Plain arithmetic of math/bits.Div64: a digit of 32 bits, guessed and mended.
-/
import Derived.Test.YthpekbohmfmffaaNum
namespace Go.Proofs.Ythpekbohmfmffaa
/-- What holds at each test of the guess q and its rest r: y = h, l in halves; u below y; d the next digit. -/
structure Gs (u d h l q r : Int) : Prop where
  hh : 2147483648 ≤ h
  hh2 : h < 4294967296
  hl : 0 ≤ l
  hl2 : l < 4294967296
  hd : 0 ≤ d
  hd2 : d < 4294967296
  hu : 0 ≤ u
  hu2 : u < h * 4294967296 + l
  hq : 0 ≤ q
  hr : 0 ≤ r
  hr2 : r < 4294967296
  hqr : q * h + r = u
  ht : (u * 4294967296 + d) / (h * 4294967296 + l) ≤ q
theorem Gs.qy {h l : Int} (q : Int) : q * (h * 4294967296 + l) = q * h * 4294967296 + q * l := by
  rw [Int.mul_add, Int.mul_assoc]
theorem Gs.tlt {u d h l q r : Int} (g : Gs u d h l q r) : (u * 4294967296 + d) / (h * 4294967296 + l) < 4294967296 := by
  have := g.hh; have := g.hl; have := g.hu2; have := g.hd2
  apply Int.ediv_lt_of_lt_mul (by omega)
  have : 4294967296 * (h * 4294967296 + l) ≥ 4294967296 * (u + 1) := Int.mul_le_mul_of_nonneg_left (by omega) (by decide)
  omega
theorem Gs.start {u d h l : Int} (hh : 2147483648 ≤ h) (hh2 : h < 4294967296) (hl : 0 ≤ l) (hl2 : l < 4294967296) (hd : 0 ≤ d) (hd2 : d < 4294967296) (hu : 0 ≤ u) (hu2 : u < h * 4294967296 + l) :
    Gs u d h l (u / h) (u % h) := by
  have e := Int.emod_lt_of_pos u (show 0 < h by omega)
  have e0 := Int.emod_nonneg u (show h ≠ 0 by omega)
  have e1 : u / h * h + u % h = u := by rw [Int.mul_comm]; exact Int.mul_ediv_add_emod u h
  refine ⟨hh, hh2, hl, hl2, hd, hd2, hu, hu2, Int.ediv_nonneg hu (by omega), e0, by omega, e1, ?_⟩
  have hy : 0 < h * 4294967296 + l := by omega
  have t := Int.ediv_mul_le (u * 4294967296 + d) (show h * 4294967296 + l ≠ 0 by omega)
  have tn : 0 ≤ (u * 4294967296 + d) / (h * 4294967296 + l) := Int.ediv_nonneg (by omega) (by omega)
  generalize (u * 4294967296 + d) / (h * 4294967296 + l) = T at *
  rw [Gs.qy] at t
  have : 0 ≤ T * l := Int.mul_nonneg tn hl
  exact (Int.le_ediv_iff_mul_le (by omega)).2 (by omega)
/-- No number goes round at the test. -/
theorem Gs.fit {u d h l q r : Int} (g : Gs u d h l q r) (hq : q < 4294967296) : 0 ≤ q * l ∧ q * l < 18446744073709551616 := by
  have := g.hl; have := g.hl2; have := g.hq
  refine ⟨Int.mul_nonneg g.hq g.hl, ?_⟩
  have : q * l ≤ 4294967295 * 4294967295 := Int.mul_le_mul (by omega) (by omega) g.hl (by decide)
  omega
theorem Gs.done {u d h l q r : Int} (g : Gs u d h l q r) (ht : q * l ≤ 4294967296 * r + d) : q = (u * 4294967296 + d) / (h * 4294967296 + l) := by
  have := g.ht
  have hy : 0 < h * 4294967296 + l := by have := g.hh; have := g.hl; omega
  have : q ≤ (u * 4294967296 + d) / (h * 4294967296 + l) := by
    apply (Int.le_ediv_iff_mul_le hy).2
    rw [Gs.qy]
    have := g.hqr
    omega
  omega
theorem Gs.down {u d h l q r : Int} (g : Gs u d h l q r) (ht : 4294967296 ≤ q ∨ 4294967296 * r + d < q * l) : 1 ≤ q ∧ (u * 4294967296 + d) / (h * 4294967296 + l) ≤ q - 1 := by
  have hy : 0 < h * 4294967296 + l := by have := g.hh; have := g.hl; omega
  have tn : 0 ≤ (u * 4294967296 + d) / (h * 4294967296 + l) := by have := g.hu; have := g.hd; exact Int.ediv_nonneg (by omega) (by omega)
  have tl := g.tlt
  rcases ht with ht | ht
  · omega
  · have : (u * 4294967296 + d) / (h * 4294967296 + l) < q := by
      apply Int.ediv_lt_of_lt_mul hy
      rw [Gs.qy]
      have := g.hqr
      omega
    omega
theorem Gs.next {u d h l q r : Int} (g : Gs u d h l q r) (ht : 4294967296 ≤ q ∨ 4294967296 * r + d < q * l) (hr : r + h < 4294967296) : Gs u d h l (q - 1) (r + h) := by
  obtain ⟨d1, d2⟩ := g.down ht
  refine ⟨g.hh, g.hh2, g.hl, g.hl2, g.hd, g.hd2, g.hu, g.hu2, by omega, ?_, hr, ?_, d2⟩
  · have := g.hr; have := g.hh; omega
  · have := g.hqr; rw [Int.sub_mul]; omega
theorem Gs.stop {u d h l q r : Int} (g : Gs u d h l q r) (ht : 4294967296 ≤ q ∨ 4294967296 * r + d < q * l) (hr : 4294967296 ≤ r + h) : q - 1 = (u * 4294967296 + d) / (h * 4294967296 + l) := by
  obtain ⟨d1, d2⟩ := g.down ht
  have hy : 0 < h * 4294967296 + l := by have := g.hh; have := g.hl; omega
  have e : (q - 1) * h + (r + h) = u := by have := g.hqr; rw [Int.sub_mul]; omega
  have lt : q - 1 < 4294967296 := by
    apply Int.lt_of_not_ge
    intro hge
    have := Int.mul_le_mul_of_nonneg_right (c := h) hge (by have := g.hh; omega)
    have := g.hu2; have := g.hl2
    omega
  have m : (q - 1) * l ≤ 4294967295 * 4294967295 := Int.mul_le_mul (by omega) (by have := g.hl2; omega) g.hl (by decide)
  have : q - 1 ≤ (u * 4294967296 + d) / (h * 4294967296 + l) := by
    apply (Int.le_ediv_iff_mul_le hy).2
    rw [Gs.qy]
    have := g.hd
    omega
  omega
end Go.Proofs.Ythpekbohmfmffaa

/-
  decimal.addDouble: the walk.
-/
import Derived.Test.YthpekbohmfmffaaEqs
namespace Go.Proofs.Ythpekbohmfmffaa
open Go.RowKit
theorem dsum {X Y : Int} (hX0 : 0 ≤ X) (hX : X < MM * MM) (hY0 : 0 ≤ Y) (hY : Y < MM * MM) :
    nv (X % MM + Y % MM) = nv (X + Y) ∧ ((ov (X % MM + Y % MM) = false ∧ nv (X / MM % MM + Y / MM % MM) = nv ((X + Y) / MM)) ∨ (ov (X % MM + Y % MM) = true ∧ nv ((X / MM % MM + Y / MM % MM) % MM + 1 % MM) = nv ((X + Y) / MM))) := by
  have p : (0 : Int) < MM := by decide
  have a1 := Int.ediv_nonneg hX0 (show (0 : Int) ≤ MM by omega)
  have a2 := Int.ediv_lt_of_lt_mul p hX
  have b1 := Int.ediv_nonneg hY0 (show (0 : Int) ≤ MM by omega)
  have b2 := Int.ediv_lt_of_lt_mul p hY
  rw [Int.emod_eq_of_lt a1 a2, Int.emod_eq_of_lt b1 b2]
  refine ⟨nv_add_mod X Y, ?_⟩
  have eX := Int.mul_ediv_add_emod X MM
  have eY := Int.mul_ediv_add_emod Y MM
  have cX := Int.emod_nonneg X (show MM ≠ 0 by omega)
  have dX := Int.emod_lt_of_pos X p
  have cY := Int.emod_nonneg Y (show MM ≠ 0 by omega)
  have dY := Int.emod_lt_of_pos Y p
  by_cases h : MM ≤ X % MM + Y % MM
  · refine Or.inr ⟨decide_eq_true h, ?_⟩
    rw [nv_add_mod]
    congr 1
    unfold MM at *
    omega
  · refine Or.inl ⟨decide_eq_false h, ?_⟩
    congr 1
    unfold MM at *
    omega
theorem AtW.set178 {w : World} {k j : Nat} {X : Int} (h : AtW w j X) (hk : j ≠ k) (o : Nat) (v : Value) : AtW (w.setCell ⟨k, o, none⟩ v) j X := by
  obtain ⟨⟨b0, b1, b2, b3, b4, b5, b6, b7⟩, f, s⟩ := h
  refine ⟨by simp [go_sem, *], fun o => by simp [World.frozen?_setCell, f o], by simpa [World.setCell] using s⟩
theorem dw_of78 {h l Z : Int} (h1 : nv h = nv (Z / MM)) (h2 : nv l = nv Z) : (Value.agg #[.int .u64 (l0 (h)), .int .u64 (l1 (h)), .int .u64 (l2 (h)), .int .u64 (l3 (h)), .int .u64 (l0 (l)), .int .u64 (l1 (l)), .int .u64 (l2 (l)), .int .u64 (l3 (l))]) = dw Z := by
  simp [nv] at h1 h2
  simp [h1, h2]
end Go.Proofs.Ythpekbohmfmffaa

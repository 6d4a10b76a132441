/-
  Decimals as whole numbers with a scale; decimal.fit by them.
-/
import Derived.Test.YthpekbohmfmffaaDec3b
import Derived.Test.YthpekbohmfmffaaDec2a
import Derived.Test.YthpekbohmfmffaaDec2b
import Derived.Test.YthpekbohmfmffaaDec2c
namespace Go.Proofs.Ythpekbohmfmffaa
open Go.RowKit
/-- A whole number's size. -/
def ab (v : Int) : Int := if v < 0 then -v else v
/-- The decimal of a whole number and a scale. -/
abbrev dz (v s : Int) : Value := dc (decide (v < 0)) (ab v) s
theorem ab_nn (v : Int) : 0 ≤ ab v := by unfold ab; split <;> omega
theorem ck_dz {v s : Int} (h : sc s = true) : ck (decide (v < 0)) (ab v) s = 0 := by
  unfold ck
  rw [h]
  have : (decide (v < 0) && decide (ab v = 0)) = false := by
    unfold ab
    by_cases hv : v < 0
    · rw [if_pos hv, decide_eq_false (p := -v = 0) (by omega)]; simp
    · rw [decide_eq_false hv]; rfl
  rw [this]; rfl
theorem sc_iff {s : Int} : sc s = true ↔ 0 ≤ s ∧ s ≤ 18 := by unfold sc; simp
/-- A decimal that may be is one of a whole number. -/
theorem dz_of {b : Bool} {n s : Int} (hn : 0 ≤ n) (h : ck b n s = 0) : sc s = true ∧ ∃ v, ab v = n ∧ decide (v < 0) = b := by
  unfold ck at h
  split at h
  next hh =>
    simp at hh
    refine ⟨hh.1, ?_⟩
    cases b
    · exact ⟨n, by unfold ab; rw [if_neg (by omega)], decide_eq_false (by omega)⟩
    · have : n ≠ 0 := fun e => by simp [e] at hh
      exact ⟨-n, by unfold ab; rw [if_pos (by omega)]; omega, decide_eq_true (by omega)⟩
  next => cases h
/-- What is answered where the whole number has room, or not. -/
def fz (v s : Int) : Value := if ab v < MM then .tuple #[dz v s, .int .i64 0] else er 7
end Go.Proofs.Ythpekbohmfmffaa

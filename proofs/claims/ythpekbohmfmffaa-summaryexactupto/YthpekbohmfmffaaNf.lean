/-
  The contracts of limb's functions and of the document's, in plain numbers.
-/
import Derived.Test.YthpekbohmfmffaaRmul
import Derived.Test.YthpekbohmfmffaaRsub
import Derived.Test.YthpekbohmfmffaaLive
namespace Go.Proofs.Ythpekbohmfmffaa
open Go.RowKit
theorem mul_n (A B : Int) (w : World) (hA0 : 0 ≤ A) (hAM : A < MM) (hB0 : 0 ≤ B) (hBM : B < MM) :
    Calls Try.prog 64 #[nv A, nv B] w fun e w' => e = .returned (.tuple #[nv (A * B / MM), nv (A * B)]) ∧ Mo w w' := by
  have h := mul_any (l0 A) (l1 A) (l2 A) (l3 A) (l0 B) (l1 B) (l2 B) (l3 B) w (u4_lb A) (u4_lb B)
  rw [vl_lb A hA0 hAM, vl_lb B hB0 hBM] at h
  exact h
theorem cmp_n (A B : Int) (w : World) (hA0 : 0 ≤ A) (hAM : A < MM) (hB0 : 0 ≤ B) (hBM : B < MM) :
    Calls Try.prog 58 #[nv A, nv B] w fun e w' => e = .returned (.int .i64 (cm A B)) ∧ Mo w w' := by
  have h := cmp15_any (l0 A) (l1 A) (l2 A) (l3 A) (l0 B) (l1 B) (l2 B) (l3 B) w (u4_lb A) (u4_lb B)
  rw [vl_lb A hA0 hAM, vl_lb B hB0 hBM] at h
  exact h
theorem rcmp_n (A B : Int) (w : World) (hA0 : 0 ≤ A) (hAM : A < MM) (hB0 : 0 ≤ B) (hBM : B < MM) :
    Calls Try.prog 63 #[nv A, nv B] w fun e w' => e = .returned (.int .i64 (cm A B)) ∧ Mo w w' := by
  have h := cmp16_any (l0 A) (l1 A) (l2 A) (l3 A) (l0 B) (l1 B) (l2 B) (l3 B) w (u4_lb A) (u4_lb B)
  rw [vl_lb A hA0 hAM, vl_lb B hB0 hBM] at h
  exact h
/-- == of two numbers. -/
theorem eqn (a b : Int) (w : World) : (Op.equalIn 10000 24 (nv a) (nv b)).run Try.prog w = .ok (decide (a % MM = b % MM)) w := by
  rw [eq4]
  congr 1
  rw [Bool.eq_iff_iff]
  simp
  constructor
  · rintro ⟨e0, e1, e2, e3⟩
    rw [← vl_nv a, ← vl_nv b, e0, e1, e2, e3]
  · intro h
    have h1 : nv a = nv b := by rw [← nv_mod a, ← nv_mod b, h]
    simp [nv] at h1
    exact h1
end Go.Proofs.Ythpekbohmfmffaa

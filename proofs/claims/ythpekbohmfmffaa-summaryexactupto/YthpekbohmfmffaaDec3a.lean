/-
  decimal.fit and cmpDouble: the walks.
-/
import Derived.Test.YthpekbohmfmffaaEqs
namespace Go.Proofs.Ythpekbohmfmffaa
open Go.RowKit
/-- An error, and no number. -/
abbrev er (c : Int) : Value := .tuple #[.agg #[.bool false, .int .u64 0, .int .u64 0, .int .u64 0, .int .u64 0, .int .i64 0], .int .i64 c]
theorem cmp_m (A B : Int) (w : World) : Calls Try.prog 58 #[nv A, nv B] w fun e w' => e = .returned (.int .i64 (cm (A % MM) (B % MM))) ∧ Mo w w' := by
  have h := cmp15_any (l0 A) (l1 A) (l2 A) (l3 A) (l0 B) (l1 B) (l2 B) (l3 B) w (u4_lb A) (u4_lb B)
  rw [vl_nv, vl_nv] at h
  exact h
theorem cm_wide {X Y : Int} : cm X Y = if cm (X / MM) (Y / MM) = 0 then cm (X % MM) (Y % MM) else cm (X / MM) (Y / MM) := by
  have p : (0 : Int) < MM := by decide
  have eX := Int.mul_ediv_add_emod X MM
  have eY := Int.mul_ediv_add_emod Y MM
  have cX := Int.emod_nonneg X (show MM ≠ 0 by omega)
  have dX := Int.emod_lt_of_pos X p
  have cY := Int.emod_nonneg Y (show MM ≠ 0 by omega)
  have dY := Int.emod_lt_of_pos Y p
  unfold cm
  unfold MM at *
  split <;> split <;> split <;> (try split) <;> (try split) <;> (try split) <;> omega
set_option maxHeartbeats 4000000 in
theorem cmpDouble_n (X Y : Int) (w : World) (hX0 : 0 ≤ X) (hX : X < MM * MM) (hY0 : 0 ≤ Y) (hY : Y < MM * MM) :
    Calls Try.prog 50 #[dw X, dw Y] w fun e w' => e = .returned (.int .i64 (cm X Y)) ∧ Mo w w' := by
  have q8 := eq81
  have we := wide_eq hX0 hX hY0 hY
  have p : (0 : Int) < MM := by decide
  have a1 : X / MM % MM = X / MM := Int.emod_eq_of_lt (Int.ediv_nonneg hX0 (by omega)) (Int.ediv_lt_of_lt_mul p hX)
  have b1 : Y / MM % MM = Y / MM := Int.emod_eq_of_lt (Int.ediv_nonneg hY0 (by omega)) (Int.ediv_lt_of_lt_mul p hY)
  have A1 : Hid _ := a1
  have B1 : Hid _ := b1
  clear a1 b1 p
  by_cases h : X = Y
  · rw [decide_eq_true h] at we
    have e : Hid (cm X Y = 0) := by show _ = _; subst h; unfold cm; simp
    clear h
    go_enter Try.func50, Try.ntmps50
    go_wp2
    go_ret
    exact ⟨by rw [e.out]; rfl, ((Mo.refl _).alloc _ _).alloc _ _⟩
  · rw [decide_eq_false h] at we
    have e : Hid _ := cm_wide (X := X) (Y := Y)
    clear h
    go_enter Try.func50, Try.ntmps50
    go_wp2_with fail
    refine (cmp_m (X / MM) (Y / MM) _).mono ?_
    rintro e w1 ⟨rfl, hm1⟩
    rw [A1.out, B1.out]
    have m : Mo w w1 := Mo.trans (by repeat (first | with_reducible exact Mo.refl _ | with_reducible apply Mo.drew | with_reducible apply Mo.alloc)) hm1
    have M := m
    have Qx : AtW w1 (w.heap.size) X := AtW.mo ⟨by simp [go_sem], fun o => by simp [go_sem], by simp <;> omega⟩ hm1
    have Qy : AtW w1 (w.heap.size + 1) Y := AtW.mo ⟨by simp [go_sem], fun o => by simp [go_sem], by simp <;> omega⟩ hm1
    clear hm1 m
    have Ox := Qx
    obtain ⟨⟨cx0, cx1, cx2, cx3, cx4, cx5, cx6, cx7⟩, fx, sx⟩ := Ox
    have fx := fun o => fx o
    have sxx : w.heap.size < w1.heap.size + 1 := by omega
    have syx : w.heap.size < w1.heap.size + 1 + 1 := by omega
    have Oy := Qy
    obtain ⟨⟨cy0, cy1, cy2, cy3, cy4, cy5, cy6, cy7⟩, fy, sy⟩ := Oy
    have fy := fun o => fy o
    have sxy : w.heap.size + 1 < w1.heap.size + 1 := by omega
    have syy : w.heap.size + 1 < w1.heap.size + 1 + 1 := by omega
    by_cases hz : cm (X / MM) (Y / MM) = 0
    · have hb : (cm (X / MM) (Y / MM) == 0) = true := by rw [hz]; rfl
      have e2 := e.out
      rw [if_pos hz] at e2
      have E2 : Hid _ := e2
      clear e2 hz
      go_wp2_with fail
      refine (cmp_m X Y _).mono ?_
      rintro e w2 ⟨rfl, hm2⟩
      have m : Mo w1 w2 := Mo.trans (by repeat (first | with_reducible exact Mo.refl _ | with_reducible apply Mo.drew | with_reducible apply Mo.alloc)) hm2
      clear cx0 cx1 cx2 cx3 cx4 cx5 cx6 cx7 fx sx sxx syx cy0 cy1 cy2 cy3 cy4 cy5 cy6 cy7 fy sy sxy syy
      have Qx := Qx.mo m
      have Qy := Qy.mo m
      have M := M.trans m
      clear hm2 m
      have Ox := Qx
      obtain ⟨⟨cx0, cx1, cx2, cx3, cx4, cx5, cx6, cx7⟩, fx, sx⟩ := Ox
      have fx := fun o => fx o
      have sxx : w.heap.size < w2.heap.size + 1 := by omega
      have syx : w.heap.size < w2.heap.size + 1 + 1 := by omega
      have Oy := Qy
      obtain ⟨⟨cy0, cy1, cy2, cy3, cy4, cy5, cy6, cy7⟩, fy, sy⟩ := Oy
      have fy := fun o => fy o
      have sxy : w.heap.size + 1 < w2.heap.size + 1 := by omega
      have syy : w.heap.size + 1 < w2.heap.size + 1 + 1 := by omega
      go_wp2
      go_ret
      exact ⟨by rw [E2.out]; rfl, M⟩
    · have hb : (cm (X / MM) (Y / MM) == 0) = false := by simp [hz]
      have e2 := e.out
      rw [if_neg hz] at e2
      have E2 : Hid _ := e2
      clear e2 hz
      go_wp2
      go_ret
      exact ⟨by rw [E2.out]; rfl, M⟩
end Go.Proofs.Ythpekbohmfmffaa

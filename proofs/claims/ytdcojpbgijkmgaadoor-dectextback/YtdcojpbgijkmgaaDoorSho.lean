/-
  decimal.shorten by whole numbers.
-/
import Derived.Test.YtdcojpbgijkmgaaDoorDec6
namespace Go.Proofs.YtdcojpbgijkmgaaDoor
open Go.RowKit
/-- A size with a sign. -/
def sv (b : Bool) (V : Int) : Int := if b then -V else V
theorem ab_sv {b : Bool} {V : Int} (h : 0 ≤ V) : ab (sv b V) = V := by unfold ab sv; cases b <;> simp <;> omega
theorem neg_sv {b : Bool} {V : Int} (h : 0 ≤ V) : decide (sv b V < 0) = (b && !decide (V = 0)) := by
  unfold sv
  cases b
  · simp; omega
  · rw [Bool.eq_iff_iff]; simp; omega
/-- A size rounded: what a number by ten to the k is, by the policy. -/
def ro (b : Bool) (X : Int) (k : Nat) (p : Int) : Int := X / 10 ^ k + if aw b (X / 10 ^ k) (X % 10 ^ k) (10 ^ k) p then 1 else 0
theorem ro_nn {b : Bool} {X : Int} {k : Nat} {p : Int} (h : 0 ≤ X) : 0 ≤ ro b X k p := by
  have := Int.ediv_nonneg h (show (0 : Int) ≤ 10 ^ k from Int.le_of_lt (Int.pow_pos (by decide)))
  unfold ro; split <;> omega
theorem dc_sv {b : Bool} {V s : Int} (h : 0 ≤ V) : dc (b && !decide (V = 0)) V s = dz (sv b V) s := by rw [dz, ab_sv h, neg_sv h]
theorem shorten_room (b : Bool) (X S p : Int) (k : Nat) (w : World) (hX0 : 0 ≤ X) (hX : X < MM * MM) (hk : k ≤ 36) (hp1 : 1 ≤ p) (hp5 : p ≤ 5) (h : ro b X k p < MM) :
    Calls Tryd.prog 84 #[.bool b, dx X, .int .i64 (k : Int), .int .i64 S, .int .i64 p] w fun e w' => e = .returned (.tuple #[dz (sv b (ro b X k p)) S, .int .i64 0]) ∧ Mo w w' := by
  have t := (ten_bd k (by omega)).1
  have hq : X / 10 ^ k < MM := by unfold ro at h; split at h <;> omega
  have hl : X / MM < 10 ^ k := by
    apply Int.ediv_lt_of_lt_mul (by decide)
    have a := Int.lt_ediv_add_one_mul_self X t
    have b := Int.mul_le_mul_of_nonneg_right (show X / 10 ^ k + 1 ≤ MM by omega) (Int.le_of_lt t)
    rw [Int.mul_comm (10 ^ k)]
    omega
  rw [← dc_sv (ro_nn hX0)]
  unfold ro at h ⊢
  cases ha : aw b (X / 10 ^ k) (X % 10 ^ k) (10 ^ k) p
  · simp only [Bool.false_eq_true, if_false, Int.add_zero]
    exact shorten_stay b X S p k w hX0 hX hk hp1 hp5 hl ha
  · rw [ha] at h
    simp only [if_true] at h ⊢
    exact shorten_up b X S p k w hX0 hX hk hp1 hp5 hl ha h
theorem shorten_full (b : Bool) (X S p : Int) (k : Nat) (w : World) (hX0 : 0 ≤ X) (hX : X < MM * MM) (hk : k ≤ 36) (hp1 : 1 ≤ p) (hp5 : p ≤ 5) (h : MM ≤ ro b X k p) :
    Calls Tryd.prog 84 #[.bool b, dx X, .int .i64 (k : Int), .int .i64 S, .int .i64 p] w fun e w' => e = .returned (er 7) ∧ Mo w w' := by
  have t := (ten_bd k (by omega)).1
  by_cases hl : X / MM < 10 ^ k
  · have hq : X / 10 ^ k < MM := by
      apply Int.ediv_lt_of_lt_mul t
      have a := Int.lt_ediv_add_one_mul_self X (show (0 : Int) < MM by decide)
      have b := Int.mul_le_mul_of_nonneg_right (show X / MM + 1 ≤ 10 ^ k by omega) (show (0 : Int) ≤ MM by decide)
      rw [Int.mul_comm MM]
      omega
    unfold ro at h
    cases ha : aw b (X / 10 ^ k) (X % 10 ^ k) (10 ^ k) p
    · rw [ha] at h
      simp at h
      omega
    · rw [ha] at h
      simp only [if_true] at h
      exact shorten_over b X S p k w hX0 hX hk hp1 hp5 hl ha h
  · exact shorten_no b X S p k w hX0 hX (by omega) hp1 hp5 (by omega)
theorem fit_room (b : Bool) (X s : Int) (w : World) (hX0 : 0 ≤ X) (hX : X < MM) :
    Calls Tryd.prog 85 #[.bool b, dx X, .int .i64 s] w fun e w' => e = .returned (.tuple #[dz (sv b X) s, .int .i64 0]) ∧ Mo w w' := by
  rw [← dc_sv hX0]; exact fit_yes b X s w hX0 hX
theorem fit_full (b : Bool) (X s : Int) (w : World) (hX0 : MM ≤ X) (hX : X < MM * MM) :
    Calls Tryd.prog 85 #[.bool b, dx X, .int .i64 s] w fun e w' => e = .returned (er 7) ∧ Mo w w' := fit_no b X s w hX0 hX
theorem AtX.cells {w : World} {k : Nat} {X : Int} (h : AtX w k X) : w.cell? ⟨k, 0, none⟩ = some (.int .u64 (l0 (X / MM))) ∧ w.cell? ⟨k, 1, none⟩ = some (.int .u64 (l1 (X / MM))) ∧ w.cell? ⟨k, 2, none⟩ = some (.int .u64 (l2 (X / MM))) ∧ w.cell? ⟨k, 3, none⟩ = some (.int .u64 (l3 (X / MM))) ∧ w.cell? ⟨k, 4, none⟩ = some (.int .u64 (l0 X)) ∧ w.cell? ⟨k, 5, none⟩ = some (.int .u64 (l1 X)) ∧ w.cell? ⟨k, 6, none⟩ = some (.int .u64 (l2 X)) ∧ w.cell? ⟨k, 7, none⟩ = some (.int .u64 (l3 X)) := by
  have c := fun j v hv => h.1 j v hv
  simp only [Nat.zero_add] at c
  exact ⟨c 0 _ rfl, c 1 _ rfl, c 2 _ rfl, c 3 _ rfl, c 4 _ rfl, c 5 _ rfl, c 6 _ rfl, c 7 _ rfl⟩
end Go.Proofs.YtdcojpbgijkmgaaDoor

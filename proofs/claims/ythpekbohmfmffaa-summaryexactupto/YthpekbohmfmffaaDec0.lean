/-
  Decimals as the program holds them, and the smallest functions of package decimal: the walks.
-/
import Derived.Test.YthpekbohmfmffaaRdiv
namespace Go.Proofs.Ythpekbohmfmffaa
open Go.RowKit
/-- A decimal: its sign, its number, its scale. -/
abbrev dc (b : Bool) (n s : Int) : Value := .agg #[.bool b, .int .u64 (l0 n), .int .u64 (l1 n), .int .u64 (l2 n), .int .u64 (l3 n), .int .i64 s]
/-- A number of twice as many bits. -/
abbrev dw (X : Int) : Value := .agg #[.int .u64 (l0 (X / MM)), .int .u64 (l1 (X / MM)), .int .u64 (l2 (X / MM)), .int .u64 (l3 (X / MM)), .int .u64 (l0 X), .int .u64 (l1 X), .int .u64 (l2 X), .int .u64 (l3 X)]
/-- The block k holds a decimal. -/
def AtD (w : World) (k : Nat) (b : Bool) (n s : Int) : Prop := (w.cell? ⟨k, 0, none⟩ = some (.bool b) ∧ w.cell? ⟨k, 1, none⟩ = some (.int .u64 (l0 n)) ∧ w.cell? ⟨k, 2, none⟩ = some (.int .u64 (l1 n)) ∧ w.cell? ⟨k, 3, none⟩ = some (.int .u64 (l2 n)) ∧ w.cell? ⟨k, 4, none⟩ = some (.int .u64 (l3 n)) ∧ w.cell? ⟨k, 5, none⟩ = some (.int .i64 s)) ∧ Fz w k ∧ k < w.heap.size
theorem AtD.mo {w w' : World} {k : Nat} {b : Bool} {n s : Int} (h : AtD w k b n s) (m : Mo w w') : AtD w' k b n s := by
  obtain ⟨c, f, z⟩ := h
  refine ⟨?_, f.mo m, Nat.lt_of_lt_of_le z m.size⟩
  simp only [m.cell k _ z]; exact c
/-- The block k holds a number of twice as many bits. -/
def AtW (w : World) (k : Nat) (X : Int) : Prop := (w.cell? ⟨k, 0, none⟩ = some (.int .u64 (l0 (X / MM))) ∧ w.cell? ⟨k, 1, none⟩ = some (.int .u64 (l1 (X / MM))) ∧ w.cell? ⟨k, 2, none⟩ = some (.int .u64 (l2 (X / MM))) ∧ w.cell? ⟨k, 3, none⟩ = some (.int .u64 (l3 (X / MM))) ∧ w.cell? ⟨k, 4, none⟩ = some (.int .u64 (l0 X)) ∧ w.cell? ⟨k, 5, none⟩ = some (.int .u64 (l1 X)) ∧ w.cell? ⟨k, 6, none⟩ = some (.int .u64 (l2 X)) ∧ w.cell? ⟨k, 7, none⟩ = some (.int .u64 (l3 X))) ∧ Fz w k ∧ k < w.heap.size
theorem AtW.mo {w w' : World} {k : Nat} {X : Int} (h : AtW w k X) (m : Mo w w') : AtW w' k X := by
  obtain ⟨c, f, z⟩ := h
  refine ⟨?_, f.mo m, Nat.lt_of_lt_of_le z m.size⟩
  simp only [m.cell k _ z]; exact c

/-- The scale may be. -/
def sc (s : Int) : Bool := decide (0 ≤ s) && decide (s ≤ 18)
set_option maxHeartbeats 1000000 in
theorem isScale_n (s : Int) (w : World) : Calls Try.prog 40 #[.int .i64 s] w fun e w' => e = .returned (.bool (sc s)) ∧ Mo w w' := by
  by_cases h : 0 ≤ s
  · have h1 : decide (s ≥ 0) = true := decide_eq_true h
    have e : sc s = decide (s ≤ 18) := by unfold sc; rw [decide_eq_true h]; rfl
    rw [e]
    go_enter Try.func40, Try.ntmps40
    go_wp2
    go_ret
    exact ⟨rfl, Mo.refl _⟩
  · have h1 : decide (s ≥ 0) = false := decide_eq_false h
    have e : sc s = false := by unfold sc; rw [decide_eq_false h]; rfl
    rw [e]
    go_enter Try.func40, Try.ntmps40
    go_wp2
    go_ret
    exact ⟨rfl, Mo.refl _⟩
/-- The number is 0, by its limbs. -/
theorem zb {n : Int} (h0 : 0 ≤ n) (h : n < MM) : (l0 n == 0 && (l1 n == 0 && (l2 n == 0 && l3 n == 0))) = decide (n = 0) := zero4 h0 h
/-- What Check answers. -/
def ck (b : Bool) (n s : Int) : Int := if sc s && !(b && decide (n = 0)) then 0 else 20
set_option maxHeartbeats 2000000 in
theorem check_n (b : Bool) (n s : Int) (w : World) (hn0 : 0 ≤ n) (hn : n < MM) : Calls Try.prog 26 #[dc b n s] w fun e w' => e = .returned (.int .i64 (ck b n s)) ∧ Mo w w' := by
  have q4 := eq4
  have z4 := zb hn0 hn
  have Q : AtD (w.alloc (.cells #[.bool b, .int .u64 (l0 n), .int .u64 (l1 n), .int .u64 (l2 n), .int .u64 (l3 n), .int .i64 s] 26)) w.heap.size b n s := ⟨by simp [go_sem], fun o => by simp [go_sem], by simp⟩
  go_enter Try.func26, Try.ntmps26
  go_wp2_with fail
  refine (isScale_n s _).mono ?_
  rintro e w1 ⟨rfl, hm1⟩
  have M1 : Mo w w1 := ((Mo.refl _).alloc _ _).trans hm1
  obtain ⟨⟨a0, a1, a2, a3, a4, a5⟩, _, sz⟩ := Q.mo hm1
  clear Q hm1
  cases hs : sc s <;> cases hb : b <;> cases hz : decide (n = 0)
  all_goals
    rw [hz] at z4
    go_wp2
    go_ret
    exact ⟨by simp [ck, *], M1⟩
end Go.Proofs.Ythpekbohmfmffaa

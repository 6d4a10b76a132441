/-
  Numbers of items at any numbers; those that read an item, by rounds.
-/
import Derived.Test.YthghblgbjgghcaaGqa
namespace Go.Proofs.Ythghblgbjgghcaa
open Go.RowKit D Go.Proofs
/-- An item's number, or none. -/
def nuA (l : List S5) (s j : Int) : Value := if hasS l s && decide (0 ≤ j) && decide (j < ((itn l s.toNat).length : Int)) then .tuple #[.int .i64 ((fsn l s.toNat + j.toNat : Nat) : Int), .bool true] else .tuple #[.int .i64 0, .bool false]
theorem nuA_yes {l : List S5} {s j : Nat} {y : S5} (hy : l[s]? = some y) (hj : j < y.items.length) : nuA l ((s : Nat) : Int) ((j : Nat) : Int) = .tuple #[.int .i64 ((fsn l s + j : Nat) : Int), .bool true] := by
  have hs := lt_of_get hy
  unfold nuA; rw [if_pos (by simp [hasS, hs, itn_eq hy, hj])]; simp
theorem nuA_no {l : List S5} {s j : Int} (h : hasS l s = false ∨ j < 0 ∨ ((itn l s.toNat).length : Int) ≤ j) : nuA l s j = .tuple #[.int .i64 0, .bool false] := by
  unfold nuA; rw [if_neg]
  simp only [Bool.and_eq_true, decide_eq_true_eq, not_and]
  rintro ⟨h1, h2⟩ h3
  rcases h with q | q | q
  · rw [q] at h1; cases h1
  · omega
  · omega
/-! Rounds until nothing changes. -/
/-- Whoever reads one of those that are in, or the item itself, is in. -/
theorem Snd.all {R : List (List Nat)} {n : Nat} {B : List Bool} (hS : Snd R n B) (hl : B.length = R.length) (hc : ∀ k, B[k]? = some false → ∀ y ∈ row R k, y ≠ n ∧ B[y]? ≠ some true) (u : Nat) : B[u]? = some true ↔ Rch R u n := by
  have key : ∀ k u, rch R k u n → B[u]? = some true := by
    intro k
    induction k with
    | zero =>
      intro u h
      have hul := row_lt (show n ∈ row R u from h)
      obtain ⟨b, hb⟩ := get_of_lt (show u < B.length by omega)
      cases b with
      | true => exact hb
      | false => exact absurd rfl (hc u hb n h).1
    | succ k ih =>
      intro u ⟨c, h1, h2⟩
      have hc2 := ih c h2
      have hul := row_lt h1
      obtain ⟨b, hb⟩ := get_of_lt (show u < B.length by omega)
      cases b with
      | true => exact hb
      | false => exact absurd hc2 (hc u hb c h1).2
  exact ⟨hS u, fun ⟨k, h⟩ => key k u h⟩
theorem gd_iff : ∀ {o : Option Bool}, o.getD false = true ↔ o = some true
  | none => by simp
  | some b => by simp
/-- How many are not in yet. -/
theorem cfl_pos {E : List Bool} {s : Nat} (hs : E[s]? = some false) : 0 < cfl E := by have := cfl_set hs; omega
end Go.Proofs.Ythghblgbjgghcaa

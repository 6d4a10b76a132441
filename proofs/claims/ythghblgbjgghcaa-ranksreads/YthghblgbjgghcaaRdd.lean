/-
  Ranks by rounds: what stands, what is left.
-/
import Derived.Test.YthghblgbjgghcaaG32
namespace Go.Proofs.Ythghblgbjgghcaa
open Go.RowKit D
/-- What is ranked is ranked right. -/
def Gr (R : List (List Nat)) (zs : List Int) : Prop := ∀ n v, zs[n]? = some v → v = -1 ∨ ∃ r : Nat, RkS R n r ∧ v = ((r : Nat) : Int)
theorem Gr.set {R : List (List Nat)} {zs : List Int} (h : Gr R zs) {n r : Nat} (hr : RkS R n r) : Gr R (zs.set n ((r : Nat) : Int)) := fun m v hm => by
  by_cases e : n = m
  · subst e
    have hl := lt_of_get hm
    rw [List.getElem?_set_self (by simpa using hl)] at hm
    cases hm; exact Or.inr ⟨r, hr, rfl⟩
  · rw [List.getElem?_set_ne e] at hm; exact h m v hm
def Ng (zs : List Int) : Nat := zs.count (-1)
theorem Ng_set : ∀ {zs : List Int} {n : Nat} {r : Nat}, zs[n]? = some (-1) → Ng (zs.set n ((r : Nat) : Int)) + 1 = Ng zs
  | [], _, _, h => by simp at h
  | z :: zs, 0, r, h => by
    simp at h; subst h
    unfold Ng
    rw [List.set_cons_zero, List.count_cons, List.count_cons]
    have : ¬ (((r : Nat) : Int) == -1) = true := by simp
    simp [this]
  | z :: zs, n + 1, r, h => by
    have := Ng_set (zs := zs) (n := n) (r := r) (by simpa using h)
    unfold Ng at this ⊢
    rw [List.set_cons_succ, List.count_cons, List.count_cons]
    omega
/-- Where a round changes nothing, what is left has no rank. -/
theorem left_none {R : List (List Nat)} {zs : List Int} (h : ∀ n, zs[n]? = some (-1) → ∃ y ∈ row R n, zs[y]? = some (-1)) : ∀ n, zs[n]? = some (-1) → RkN R n := by
  have key : ∀ r n, zs[n]? = some (-1) → ¬ RkS R n r := by
    intro r
    induction r using Nat.strongRecOn with
    | ind r ih =>
      intro n hn hr
      obtain ⟨y, hy, hz⟩ := h n hn
      obtain ⟨r', h1, h2⟩ := (Rch.one hy).rank hr
      exact ih r' h2 y hz h1
  intro n hn
  rcases rk_or R n with ⟨r, hr⟩ | q
  · exact (key r n hn hr).elim
  · exact q
theorem Gr.all {R : List (List Nat)} {zs : List Int} (h : Gr R zs) (hf : ∀ n, zs[n]? = some (-1) → ∃ y ∈ row R n, zs[y]? = some (-1)) : ∀ n v, zs[n]? = some v → Rkv R n v := fun n v hn => by
  rcases h n v hn with e | ⟨r, hr, e⟩
  · subst e; exact Or.inr ⟨left_none hf n hn, rfl⟩
  · exact Or.inl ⟨r, hr, e⟩
end Go.Proofs.Ythghblgbjgghcaa

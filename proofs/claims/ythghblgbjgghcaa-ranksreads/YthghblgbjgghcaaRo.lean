/-
  Sums over sections; the state at first and at last.
-/
import Derived.Test.YthghblgbjgghcaaG9
namespace Go.Proofs.Ythghblgbjgghcaa
open Go.RowKit D
theorem sum_nodup (f : Nat → Nat) : ∀ (n : Nat) (W : List Nat), W.Nodup → (∀ x ∈ W, x < n) → (W.map f).sum ≤ ((List.range n).map f).sum
  | 0, W, _, h => by
    cases W with
    | nil => exact Nat.le_refl _
    | cons x W => exact absurd (h x (List.mem_cons_self ..)) (Nat.not_lt_zero _)
  | n + 1, W, hd, h => by
    have h1 := sum_nodup f n (W.filter (fun x => decide (x ≠ n))) (hd.filter _) (fun x hx => by
      have := List.mem_filter.1 hx
      have h2 := h x this.1
      simp at this; omega)
    have h2 : ∀ M : List Nat, M.Nodup → (M.map f).sum ≤ ((M.filter (fun x => decide (x ≠ n))).map f).sum + f n := by
      intro M
      induction M with
      | nil => intro _; simp
      | cons x M ih =>
        intro hM
        have hM2 := List.nodup_cons.1 hM
        by_cases e : x = n
        · subst e
          have h4 : M.filter (fun y => decide (y ≠ x)) = M := List.filter_eq_self.2 (fun y hy => by simp; intro e; subst e; exact hM2.1 hy)
          have h3 : decide (x ≠ x) = false := by simp
          rw [List.filter_cons, h3, h4]; simp; omega
        · have h3 : decide (x ≠ n) = true := by simp [e]
          rw [List.filter_cons, h3]
          have := ih hM2.2
          simp only [if_true, List.map_cons, List.sum_cons]; omega
    have := h2 W hd
    rw [List.range_succ, List.map_append, List.sum_append]
    simp; omega
theorem nI_sum (l : List S5) : ((List.range l.length).map (fun s => (itn l s).length)).sum = nI l := by
  have key : ∀ n, n ≤ l.length → ((List.range n).map (fun s => (itn l s).length)).sum = fsn l n := by
    intro n
    induction n with
    | zero => intro _; simp [fsn]
    | succ n ih =>
      intro h
      obtain ⟨x, hx⟩ := get_of_lt (show n < l.length by omega)
      rw [List.range_succ, List.map_append, List.sum_append, ih (by omega), fsn_s hx]
      simp [itn_eq hx]
  exact key _ (Nat.le_refl _)
theorem sumI_le {l : List S5} {W : List Nat} (hd : W.Nodup) (h : ∀ x ∈ W, x < l.length) : sumI l W ≤ nI l := by
  rw [← nI_sum]; exact sum_nodup _ _ W hd h
theorem rem_nI (l : List S5) (E : List Bool) : rem l E ≤ nI l := by
  rw [← nI_sum]; exact sum_le _ (fun t _ => by split <;> omega)
theorem rep_get {α : Type} {n t : Nat} {a b : α} (h : (List.replicate n a)[t]? = some b) : b = a := by
  rw [List.getElem?_replicate] at h; split at h
  · exact (Option.some.inj h).symm
  · cases h
/-- At the end all rows are right. -/
theorem all_done {l : List S5} {E : List Bool} {R R0 : List (List Nat)} (hX : Gx l (List.replicate l.length false) R0 E R) (hR : R0.length = nI l) (h : ∀ j, j < l.length → E[j]? = some true) : R = RA l := by
  refine RA_all (by rw [hX.lr, hR]) (fun t ht => hX.ok t (h t ht) ?_)
  rw [List.getElem?_replicate, if_pos ht]
theorem closed {l : List S5} {E : List Bool} {R R0 : List (List Nat)} (hX : Gx l (List.replicate l.length false) R0 E R) : ∀ t : Nat, E[t]? = some true → ∀ u, u < l.length → par l u = (t : Int) → E[u]? = some true := fun t ht u hu hp => by
  have h1 := lt_of_get ht
  rw [hX.le, List.length_replicate] at h1
  exact hX.kd t ht (by rw [List.getElem?_replicate, if_pos h1]) u hu hp
theorem sub1N {n : Nat} (h : 0 < n) (hb : n ≤ 9223372036854775807) (x y : Operand) (w : World) : (do eqGuard .sub 3 x y (.int .i64 ((n : Nat) : Int)) (.int .i64 1); binOp .sub 3 (.int .i64 ((n : Nat) : Int)) (.int .i64 1)).run Try.prog w = .ok (.int .i64 ((n - 1 : Nat) : Int)) w := by
  have e : ((n - 1 : Nat) : Int) = (n : Int) - 1 := by omega
  rw [e]; exact subZ (by omega) (by omega) x y w
end Go.Proofs.Ythghblgbjgghcaa

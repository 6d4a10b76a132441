/-
  Items laid rank by rank; one sorted list.
-/
import Derived.Test.YthghblgbjgghcaaG34
namespace Go.Proofs.Ythghblgbjgghcaa
open Go.RowKit D
def rkq (rs : List Nat) (q : Nat) : Nat → Bool := fun n => decide (rs.getD n 0 = q)
def lay (rs : List Nat) (r : Nat) : List Nat := (List.range r).flatMap (fun q => ris rs.length (rkq rs q))
theorem lay_s (rs : List Nat) (r : Nat) : lay rs (r + 1) = lay rs r ++ ris rs.length (rkq rs r) := by
  unfold lay; rw [List.range_succ, List.flatMap_append]; simp
theorem part_perm {p q : Nat → Bool} : ∀ L : List Nat, (∀ x ∈ L, ¬ (p x = true ∧ q x = true)) → (L.filter p ++ L.filter q).Perm (L.filter (fun x => p x || q x))
  | [], _ => List.Perm.refl _
  | x :: L, h => by
    have ih := part_perm L (fun y hy => h y (List.mem_cons_of_mem _ hy))
    have hx := h x (List.mem_cons_self ..)
    cases hp : p x <;> cases hq : q x <;> simp only [List.filter_cons, hp, hq, Bool.or_true, Bool.or_false, Bool.false_eq_true, if_true, if_false, Bool.or_self]
    · exact ih
    · exact List.perm_middle.trans (ih.cons x)
    · exact ih.cons x
    · exact (hx ⟨hp, hq⟩).elim
theorem lay_perm (rs : List Nat) : ∀ r, (lay rs r).Perm (ris rs.length (fun n => decide (rs.getD n 0 < r)))
  | 0 => by
    have e : ris rs.length (fun n => decide (rs.getD n 0 < 0)) = [] := by unfold ris; rw [List.filter_eq_nil_iff]; intro x _; simp
    rw [e]; exact List.Perm.refl _
  | r + 1 => by
    rw [lay_s]
    refine ((lay_perm rs r).append_right _).trans ?_
    unfold ris
    refine (part_perm (List.range rs.length) (fun x _ => by unfold rkq; simp only [decide_eq_true_eq]; omega)).trans ?_
    rw [List.filter_congr (q := fun n => decide (rs.getD n 0 < r + 1)) (fun x _ => by
      unfold rkq
      rw [Bool.eq_iff_iff]
      simp only [Bool.or_eq_true, decide_eq_true_eq]; omega)]
theorem lay_len (rs : List Nat) (r : Nat) : (lay rs r).length ≤ rs.length := by rw [(lay_perm rs r).length_eq]; exact ris_len _ _
theorem lay_pw (rs : List Nat) : ∀ r, (lay rs r).Pairwise (fun a b => cfO rs a b < 0)
  | 0 => List.Pairwise.nil
  | r + 1 => by
    rw [lay_s, List.pairwise_append]
    refine ⟨lay_pw rs r, ?_, fun a ha b hb => ?_⟩
    · have h := ris_up rs.length (rkq rs r)
      refine (List.Pairwise.and_mem.1 h).imp (fun {a b} ⟨ha, hb, hab⟩ => ?_)
      have h1 := of_decide_eq_true (mem_ris.1 ha).2
      have h2 := of_decide_eq_true (mem_ris.1 hb).2
      rw [cfO_lt]; omega
    · have h1 := of_decide_eq_true (mem_ris.1 ((lay_perm rs r).mem_iff.1 ha)).2
      have h2 := of_decide_eq_true (mem_ris.1 hb).2
      rw [cfO_lt]; omega
theorem lay_all {rs : List Nat} {r : Nat} (h : (lay rs r).length = rs.length) : (lay rs r).Perm (List.range rs.length) := by
  have h1 := lay_perm rs r
  have h2 : ris rs.length (fun n => decide (rs.getD n 0 < r)) = List.range rs.length := by
    unfold ris
    rw [List.filter_eq_self]
    have h3 := h1.length_eq
    rw [h] at h3
    unfold ris at h3
    have h4 : (List.filter (fun n => decide (rs.getD n 0 < r)) (List.range rs.length)).length = (List.range rs.length).length := by rw [← h3]; simp
    exact fun a ha => (List.length_filter_eq_length_iff.1 h4) a ha
  rw [h2] at h1; exact h1
theorem lay_end {rs : List Nat} {r : Nat} (h : ∀ (n v : Nat), rs[n]? = some v → v < r) : (lay rs r).length = rs.length := by
  rw [(lay_perm rs r).length_eq]
  unfold ris
  have : (List.range rs.length).filter (fun n => decide (rs.getD n 0 < r)) = List.range rs.length := by
    rw [List.filter_eq_self]
    intro a ha
    obtain ⟨v, hv⟩ := get_of_lt (List.mem_range.1 ha)
    have := h a v hv
    simp [List.getD, hv, this]
  rw [this]; simp
theorem pw_one {rs : List Nat} : ∀ (xs ys : List Nat), xs.Pairwise (fun a b => cfO rs a b < 0) → ys.Pairwise (fun a b => cfO rs a b < 0) → (∀ x, x ∈ xs ↔ x ∈ ys) → xs = ys
  | [], [], _, _, _ => rfl
  | [], b :: ys, _, _, h => by have := (h b).2 (List.mem_cons_self ..); simp at this
  | a :: xs, [], _, _, h => by have := (h a).1 (List.mem_cons_self ..); simp at this
  | a :: xs, b :: ys, ha, hb, h => by
    rw [List.pairwise_cons] at ha hb
    have irr : ∀ x, ¬ cfO rs x x < 0 := fun x q => by rw [cfO_lt] at q; omega
    have asy : ∀ x y, cfO rs x y < 0 → ¬ cfO rs y x < 0 := fun x y q1 q2 => by rw [cfO_lt] at q1 q2; omega
    have e : a = b := by
      rcases List.mem_cons.1 ((h a).1 (List.mem_cons_self ..)) with q | q
      · exact q
      · rcases List.mem_cons.1 ((h b).2 (List.mem_cons_self ..)) with q2 | q2
        · exact q2.symm
        · exact (asy _ _ (hb.1 a q) (ha.1 b q2)).elim
    subst e
    congr 1
    refine pw_one xs ys ha.2 hb.2 (fun x => ⟨fun hx => ?_, fun hx => ?_⟩)
    · rcases List.mem_cons.1 ((h x).1 (List.mem_cons_of_mem _ hx)) with q | q
      · subst q; exact (irr _ (ha.1 x hx)).elim
      · exact q
    · rcases List.mem_cons.1 ((h x).2 (List.mem_cons_of_mem _ hx)) with q | q
      · subst q; exact (irr _ (hb.1 x hx)).elim
      · exact q
end Go.Proofs.Ythghblgbjgghcaa

/-
  Sorting and compacting a slice of one's own; rising lists.
-/
import Derived.Test.YthghblgbjgghcaaG7
import Derived.Test.YthghblgbjgghcaaShf
import Derived.Sort.OwnSortedInts
namespace Go.Proofs.Ythghblgbjgghcaa
open Go.RowKit D Go.Sort
theorem incr_ext : ∀ (xs ys : List Int), xs.Pairwise (· < ·) → ys.Pairwise (· < ·) → (∀ x, x ∈ xs ↔ x ∈ ys) → xs = ys
  | [], [], _, _, _ => rfl
  | [], b :: ys, _, _, h => by have := (h b).2 (List.mem_cons_self ..); simp at this
  | a :: xs, [], _, _, h => by have := (h a).1 (List.mem_cons_self ..); simp at this
  | a :: xs, b :: ys, ha, hb, h => by
    rw [List.pairwise_cons] at ha hb
    have e : a = b := by
      have h1 := (h a).1 (List.mem_cons_self ..)
      have h2 := (h b).2 (List.mem_cons_self ..)
      rcases List.mem_cons.1 h1 with q | q
      · exact q
      · rcases List.mem_cons.1 h2 with q2 | q2
        · exact q2.symm
        · have := hb.1 a q; have := ha.1 b q2; omega
    subst e
    congr 1
    refine incr_ext xs ys ha.2 hb.2 (fun x => ⟨fun hx => ?_, fun hx => ?_⟩)
    · rcases List.mem_cons.1 ((h x).1 (List.mem_cons_of_mem _ hx)) with q | q
      · have := ha.1 x hx; omega
      · exact q
    · rcases List.mem_cons.1 ((h x).2 (List.mem_cons_of_mem _ hx)) with q | q
      · have := hb.1 x hx; omega
      · exact q
/-- A rising list of what has a property, below n. -/
def ris (n : Nat) (p : Nat → Bool) : List Nat := (List.range n).filter p
theorem ris_incr (n : Nat) (p : Nat → Bool) : ((ris n p).map (fun k : Nat => (k : Int))).Pairwise (· < ·) := by
  rw [List.pairwise_map]
  unfold ris
  refine List.Pairwise.filter _ ?_
  exact List.pairwise_lt_range.imp (fun h => by omega)
theorem mem_ris {n : Nat} {p : Nat → Bool} {k : Nat} : k ∈ ris n p ↔ k < n ∧ p k = true := by unfold ris; rw [List.mem_filter, List.mem_range]
theorem ris_congr {n : Nat} {p q : Nat → Bool} (h : ∀ k, k < n → p k = q k) : ris n p = ris n q := by
  unfold ris; exact List.filter_congr (fun k hk => h k (List.mem_range.1 hk))
theorem ris_len (n : Nat) (p : Nat → Bool) : (ris n p).length ≤ n := by unfold ris; have := List.length_filter_le p (List.range n); simpa using this
section compact
open Go.Lib
theorem comp_inv (d : Array Int) (hs : ∀ i j, i < j → j < d.size → d[i]! ≤ d[j]!) : ∀ m, m ≤ d.size → (compactUpTo d m).Pairwise (· < ·) ∧ (∀ x, x ∈ compactUpTo d m ↔ ∃ j, j < m ∧ d[j]! = x)
  | 0, _ => ⟨by simp [compactUpTo], fun x => by simp [compactUpTo]⟩
  | m + 1, hm => by
    obtain ⟨h1, h2⟩ := comp_inv d hs m (by omega)
    rw [compactUpTo_succ]
    by_cases hk : keeps d m = true
    · rw [if_pos hk]
      refine ⟨?_, fun x => ?_⟩
      · rw [List.pairwise_append]
        refine ⟨h1, by simp, fun a ha b hb => ?_⟩
        simp at hb; subst hb
        obtain ⟨j, hj, rfl⟩ := (h2 a).1 ha
        have h3 : d[j]! ≤ d[m - 1]! := by
          rcases Nat.lt_or_ge j (m - 1) with q | q
          · exact hs j (m - 1) q (by omega)
          · rw [show j = m - 1 by omega]; exact Int.le_refl _
        have h4 : d[m - 1]! ≤ d[m]! := hs (m - 1) m (by omega) (by omega)
        have h5 : d[m]! ≠ d[m - 1]! := by
          unfold keeps at hk
          have := of_decide_eq_true hk
          rcases this with q | q
          · omega
          · exact q
        omega
      · rw [List.mem_append, h2 x]
        constructor
        · rintro (⟨j, hj, e⟩ | e)
          · exact ⟨j, by omega, e⟩
          · simp at e; exact ⟨m, by omega, e.symm⟩
        · rintro ⟨j, hj, e⟩
          rcases Nat.lt_or_ge j m with q | q
          · exact Or.inl ⟨j, q, e⟩
          · rw [show j = m by omega] at e; exact Or.inr (by simp [e])
    · rw [if_neg hk, List.append_nil]
      refine ⟨h1, fun x => ?_⟩
      rw [h2 x]
      constructor
      · rintro ⟨j, hj, e⟩; exact ⟨j, by omega, e⟩
      · rintro ⟨j, hj, e⟩
        rcases Nat.lt_or_ge j m with q | q
        · exact ⟨j, q, e⟩
        · have hjm : j = m := by omega
          subst hjm
          have hk2 : ¬ (j = 0 ∨ d[j]! ≠ d[j - 1]!) := fun q2 => hk (by unfold keeps; exact decide_eq_true q2)
          have h0 : 0 < j := Nat.pos_of_ne_zero (fun q2 => hk2 (Or.inl q2))
          refine ⟨j - 1, by omega, ?_⟩
          rw [← e]
          exact Classical.byContradiction fun q2 => hk2 (Or.inr (fun e2 => q2 e2.symm))
/-- Sorted and compacted: what is in it, rising. -/
theorem comp_ris {N : Nat} (L : List Nat) (hL : ∀ x ∈ L, x < N) : compact ((L.map (fun k : Nat => (k : Int))).mergeSort fun x y => decide (x ≤ y)) = (ris N (fun k => decide (k ∈ L))).map (fun k : Nat => (k : Int)) := by
  let zs : List Int := (L.map (fun k : Nat => (k : Int))).mergeSort fun x y => decide (x ≤ y)
  have hsort : zs.Pairwise (fun a b => (decide (a ≤ b)) = true) := List.pairwise_mergeSort (fun a b c h1 h2 => by simp at h1 h2 ⊢; omega) (fun a b => by simp; omega) _
  have hget : ∀ (j : Nat) (hj : j < zs.length), zs.toArray[j]! = zs[j] := fun j hj => by simp [hj]
  have hs : ∀ i j, i < j → j < zs.toArray.size → zs.toArray[i]! ≤ zs.toArray[j]! := fun i j hij hj => by
    have hj' : j < zs.length := by simpa using hj
    rw [hget i (by omega), hget j hj']
    have := List.pairwise_iff_getElem.1 hsort i j (by omega) hj' hij
    exact of_decide_eq_true this
  obtain ⟨h1, h2⟩ := comp_inv zs.toArray hs zs.length (by simp)
  refine incr_ext _ _ h1 (ris_incr _ _) (fun x => ?_)
  show x ∈ compactUpTo zs.toArray zs.length ↔ _
  rw [h2 x]
  have hm : (∃ j, j < zs.length ∧ zs.toArray[j]! = x) ↔ x ∈ zs := by
    constructor
    · rintro ⟨j, hj, e⟩; rw [hget j hj] at e; exact e ▸ List.getElem_mem hj
    · intro hx; obtain ⟨j, hj, e⟩ := List.mem_iff_getElem.1 hx; exact ⟨j, hj, by rw [hget j hj]; exact e⟩
  rw [hm, List.mem_mergeSort, List.mem_map, List.mem_map]
  constructor
  · rintro ⟨k, hk, e⟩; exact ⟨k, mem_ris.2 ⟨hL k hk, by simp [hk]⟩, e⟩
  · rintro ⟨k, hk, e⟩; have := (mem_ris.1 hk).2; exact ⟨k, by simpa using this, e⟩
end compact
/-- The same, as a slice's cells. -/
theorem flat_int (L : List Nat) : L.flatMap ic = (L.map (fun k : Nat => (k : Int))).map (Value.int .i64) := by rw [flat_ic, List.map_map]; rfl
theorem sort_n {w : World} {N : Nat} {pv : Option Addr} {cv : Nat} {L : List Nat} (h : Ow N 3 1 ic w pv cv L) (hz : L.length < 4000000) : Calls Try.prog 59 #[.slice pv L.length cv] w fun e w' => e = .returned (.tuple #[]) ∧ (∃ zs : List Int, zs = ((L.map (fun k : Nat => (k : Int))).mergeSort fun x y => decide (x ≤ y)) ∧ w'.ownsRow N 3 1 (.slice pv L.length cv) L.length (zs.map (Value.int .i64))) ∧ Mk (fun j => obk pv L.length cv = some j) w w' := by
  rcases h.2 with ⟨e, h0⟩ | ⟨g, c2, cur, e, hg, hb, hnc, hcm, hcs, htk⟩
  · rw [Value.slice.injEq] at e
    obtain ⟨e1, _, e3⟩ := e
    have hL : L = [] := List.length_eq_zero_iff.1 h0
    subst hL
    refine (Try.slices_Sort_int_none pv cv w).mono ?_
    rintro e w' ⟨rfl, rfl⟩
    exact ⟨rfl, ⟨[], by simp, h⟩, Mk.refl _ _⟩
  · rw [Value.slice.injEq] at e
    obtain ⟨e1, _, e3⟩ := e
    subst e1; subst e3
    have hl : (L.map (fun k : Nat => (k : Int))).length = L.length := by simp
    have hH : Holds (Value.int .i64) w g 0 (L.map (fun k : Nat => (k : Int))).toArray := holds_of_blockI hb (by rw [hl, ← flat_int]; rw [Nat.mul_one] at htk; exact htk)
    have hc := Try.slices_Sort_int g 0 cv (L.map (fun k : Nat => (k : Int))) w hH (Array.getElem?_eq_some_iff.1 hb).1 (by omega)
    rw [hl] at hc
    refine hc.mono ?_
    rintro e w' ⟨rfl, n, os, rfl⟩
    have hgr := grownBy_sortedI (w := w) (g := g) (n := n) (os := os) ((L.map (fun k : Nat => (k : Int))).mergeSort fun x y => decide (x ≤ y)).toArray
    refine ⟨rfl, ⟨_, rfl, ?_⟩, ⟨hgr.os, hgr.tape, hgr.output, hgr.size, fun k hk hne => hgr.block k hk (fun e => hne (by cases e; rfl)), fun a ha => ?_⟩⟩
    · have := ownsRow_sortedI (w := w) (base := N) (g := g) (cap := cv) (n := n) (e := 3) (os := os) (ss := L.map (fun k : Nat => (k : Int))) (ts := (L.map (fun k : Nat => (k : Int))).mergeSort fun x y => decide (x ≤ y)) (by simp) hg hb (by rw [hl]; exact hnc) hcm hcs
      rw [hl] at this; exact this
    · by_cases e : a.block = g
      · have h9 := heap_sortedI (w := w) (g := g) (n := n) (os := os) ((L.map (fun k : Nat => (k : Int))).mergeSort fun x y => decide (x ≤ y)).toArray hb
        simp only [World.frozen?, e, h9, hb]
      · exact World.frozen?_of_block (hgr.block a.block ha (fun q => e (Option.some.inj q)))
theorem compact_n {w : World} {N : Nat} {pv : Option Addr} {cv : Nat} {zs : List Int} (h : w.ownsRow N 3 1 (.slice pv zs.length cv) zs.length (zs.map (Value.int .i64))) (hz : zs.length < 4000000) {C : List Nat} (hC : Lib.compact zs = C.map (fun k : Nat => (k : Int))) : Calls Try.prog 60 #[.slice pv zs.length cv] w fun e w' => e = .returned (.slice pv C.length cv) ∧ Ow N 3 1 ic w' pv cv C ∧ Mk (fun j => obk pv zs.length cv = some j) w w' := by
  have hlC : (Lib.compact zs).length = C.length := by rw [hC]; simp
  rcases h.2 with ⟨e, h0⟩ | ⟨g, c2, cur, e, hg, hb, hnc, hcm, hcs, htk⟩
  · rw [Value.slice.injEq] at e
    obtain ⟨e1, _, e3⟩ := e
    have hL : zs = [] := List.length_eq_zero_iff.1 h0
    subst hL
    have hC0 : C = [] := by
      have : C.length = 0 := by rw [← hlC]; rfl
      exact List.length_eq_zero_iff.1 this
    subst hC0
    refine (Try.slices_Compact_int_empty pv cv w).mono ?_
    rintro e w' ⟨rfl, rfl⟩
    exact ⟨rfl, h, Mk.refl _ _⟩
  · rw [Value.slice.injEq] at e
    obtain ⟨e1, _, e3⟩ := e
    subst e1; subst e3
    have hH : Holds (Value.int .i64) w g 0 zs.toArray := holds_of_blockI hb (by rw [Nat.mul_one] at htk; exact htk)
    refine (Try.slices_Compact_int g 0 cv zs w hH (by omega) hnc).mono ?_
    rintro e w' ⟨rfl, q, rfl⟩
    have hle : C.length ≤ zs.length := by
      rw [← hlC]; unfold Lib.compact Lib.compactUpTo
      rw [List.length_map]
      have := List.length_filter_le (Lib.keeps zs.toArray) (List.range zs.length)
      simpa using this
    have hT : (Lib.compact zs ++ List.replicate (zs.length - (Lib.compact zs).length) (0 : Int)).length = zs.length := by simp; omega
    have hg0 : ∀ (W : World) (d : Array Int), putRow (Value.int .i64) W g 0 d = grow (putRow (Value.int .i64) W g 0 d) #[] := fun W d => (grow_empty _).symm
    rw [hg0]
    have hgr := grownBy_sortedI (w := w) (g := g) (n := q) (os := #[]) (Lib.compact zs ++ List.replicate (zs.length - (Lib.compact zs).length) (0 : Int)).toArray
    have hown := ownsRow_sortedI (w := w) (base := N) (g := g) (cap := cv) (n := q) (e := 3) (os := #[]) (ss := zs) (ts := Lib.compact zs ++ List.replicate (zs.length - (Lib.compact zs).length) (0 : Int)) hT hg hb hnc hcm hcs
    refine ⟨by rw [hlC], ?_, ⟨hgr.os, hgr.tape, hgr.output, hgr.size, fun k hk hne => hgr.block k hk (fun e => hne (by cases e; rfl)), fun a ha => ?_⟩⟩
    · rcases hown.2 with ⟨e, h0⟩ | ⟨g', c3, cur', e, hg', hb', hnc', hcm', hcs', htk'⟩
      · cases e
      · rw [Value.slice.injEq] at e
        obtain ⟨e1, _, e3⟩ := e
        cases e1; subst e3
        refine ⟨flat_len (cells := ic) (fun _ => rfl) C, Or.inr ⟨g, cv, cur', rfl, hg, hb', by omega, hcm', hcs', ?_⟩⟩
        have h9 := congrArg (List.take (C.length * 1)) htk'
        rw [List.take_take, Nat.min_eq_left (by omega), List.map_append, List.take_append_of_le_length (by simp [hlC]), hC, ← flat_int] at h9
        rw [h9]
        exact List.take_of_length_le (by rw [flat_len (cells := ic) (fun _ => rfl)]; exact Nat.le_refl _)
    · by_cases e : a.block = g
      · have h9 := heap_sortedI (w := w) (g := g) (n := q) (os := #[]) (Lib.compact zs ++ List.replicate (zs.length - (Lib.compact zs).length) (0 : Int)).toArray hb
        simp only [World.frozen?, e, h9, hb]
      · exact World.frozen?_of_block (hgr.block a.block ha (fun q => e (Option.some.inj q)))
end Go.Proofs.Ythghblgbjgghcaa

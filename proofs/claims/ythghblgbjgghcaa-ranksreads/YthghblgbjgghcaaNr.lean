/-
  A reader under way: what its lists and maps hold behind so many sections.
-/
import Derived.Test.YthghblgbjgghcaaOa
import Derived.Test.YthghblgbjgghcaaG2
import Derived.Test.YthghblgbjgghcaaG3
namespace Go.Proofs.Ythghblgbjgghcaa
open Go.RowKit D
/-- The kids, behind the first i sections. -/
def kidI (l : List S5) (i s : Nat) : List Nat := (List.range i).filter (fun t => decide (par l t = (s : Int)))
theorem kidI_s {l : List S5} {i s : Nat} : kidI l (i + 1) s = if par l i = (s : Int) then kidI l i s ++ [i] else kidI l i s := by
  unfold kidI; rw [List.range_succ, List.filter_append]
  by_cases h : par l i = (s : Int) <;> simp [h]
def VK (l : List S5) (i : Nat) (V : List Iz) : Prop := V.map Iz.L = (List.range l.length).map (kidI l i)
theorem VK.get {l : List S5} {i : Nat} {V : List Iz} (h : VK l i V) {s : Nat} (hs : s < l.length) : ∃ x, V[s]? = some x ∧ x.L = kidI l i s := by
  have h1 := congrArg (fun L => L[s]?) h
  simp only [List.getElem?_map, List.getElem?_range hs, Option.map_some] at h1
  cases e : V[s]? with
  | none => rw [e] at h1; cases h1
  | some x => rw [e] at h1; exact ⟨x, rfl, by simpa using h1⟩
theorem VK.len {l : List S5} {i : Nat} {V : List Iz} (h : VK l i V) : V.length = l.length := by have := congrArg List.length h; simpa using this
theorem VK.same {l : List S5} {i : Nat} {V : List Iz} (h : VK l i V) (hp : hasS l (par l i) = false) : VK l (i + 1) V := by
  unfold VK at h ⊢; rw [h]
  apply List.map_congr_left
  intro s hs
  rw [kidI_s, if_neg (fun e => by rw [e, hasS_nat, decide_eq_true (List.mem_range.1 hs)] at hp; cases hp)]
theorem VK.more {l : List S5} {i k : Nat} {V : List Iz} (h : VK l i V) (hk : k < l.length) (hp : par l i = (k : Int)) {x : Iz} (hx : V[k]? = some x) (pv : Option Addr) (cv : Nat) : VK l (i + 1) (V.set k ⟨pv, cv, x.L ++ [i]⟩) := by
  obtain ⟨x', hx', hL⟩ := h.get hk
  rw [hx] at hx'; cases hx'
  unfold VK at h ⊢
  rw [List.map_set, h]
  apply List.ext_getElem?
  intro s
  rw [List.getElem?_set]
  by_cases e : k = s
  · subst e; simp [hk, kidI_s, hp, hL]
  · simp only [e, if_false, List.getElem?_map]
    rcases Nat.lt_or_ge s l.length with q | q
    · rw [List.getElem?_range q]; simp only [Option.map_some, kidI_s]
      rw [if_neg (fun e2 => by rw [hp] at e2; omega)]
    · rw [List.getElem?_eq_none (by simpa using q)]; rfl
/-- Kids by names, behind the first i sections. -/
def NK (l : List S5) (i : Nat) (al : List (Spo × Int)) : Prop := ∀ s nm, lkq al (s, nm) = ((if hasS l s then (l.take i).findIdx? (fun x => decide (x.pr = s) && decide (x.nm = nm)) else none).map Int.ofNat)
theorem NK.nil (l : List S5) : NK l 0 [] := fun s nm => by simp [lkq]
theorem lkq_kf {al : List (Spo × Int)} {a c : Spo} {v : Int} : lkq (kfq al a v) c = if a = c then (some ((lkq al a).getD v)) else lkq al c := by
  unfold kfq
  cases h : lkq al a with
  | some u => by_cases e : a = c
              · subst e; simp [h]
              · simp [e]
  | none => simp only [Option.isSome_none, Bool.false_eq_true, if_false, lkq_put, Option.getD_none]
theorem NK.same {l : List S5} {i : Nat} {al : List (Spo × Int)} (h : NK l i al) {x : S5} (hx : l[i]? = some x) (hp : hasS l x.pr = false) : NK l (i + 1) al := fun s nm => by
  rw [h s nm, List.take_add_one, hx, List.findIdx?_append]
  by_cases hs : hasS l s = true
  · have : ¬ x.pr = s := fun e => by rw [e, hs] at hp; cases hp
    simp only [hs, if_true, Option.toList_some, List.findIdx?_cons, List.findIdx?_nil, this, decide_false, Bool.false_and]
    cases (List.take i l).findIdx? (fun x => decide (x.pr = s) && decide (x.nm = nm)) <;> rfl
  · simp [hs]
theorem NK.more {l : List S5} {i : Nat} {al : List (Spo × Int)} (h : NK l i al) {x : S5} (hx : l[i]? = some x) (hp : hasS l x.pr = true) : NK l (i + 1) (kfq al (x.pr, x.nm) (i : Int)) := fun s nm => by
  rw [lkq_kf, List.take_add_one, hx, List.findIdx?_append]
  have hl : (l.take i).length = i := by have := lt_of_get hx; simp; omega
  by_cases e : (x.pr, x.nm) = (s, nm)
  · cases e
    rw [if_pos rfl, h x.pr x.nm]
    simp only [hp, if_true, Option.toList_some, List.findIdx?_cons, decide_true, Bool.and_self, hl]
    cases (List.take i l).findIdx? (fun y => decide (y.pr = x.pr) && decide (y.nm = x.nm)) with
    | none => simp
    | some k => simp
  · rw [if_neg e, h s nm]
    by_cases hs : hasS l s = true
    · have : (decide (x.pr = s) && decide (x.nm = nm)) = false := by
        cases q : (decide (x.pr = s) && decide (x.nm = nm)) with
        | false => rfl
        | true => simp at q; exact absurd (by rw [q.1, q.2]) e
      simp only [hs, if_true, Option.toList_some, List.findIdx?_cons, List.findIdx?_nil, this]
      cases (List.take i l).findIdx? (fun x => decide (x.pr = s) && decide (x.nm = nm)) <;> rfl
    · simp [hs]
theorem NK.all {l : List S5} {al : List (Spo × Int)} (h : NK l l.length al) : ∀ s nm, lkq al (s, nm) = (kidN l s nm).map Int.ofNat := fun s nm => by
  rw [h s nm, List.take_length]; rfl
/-- Own names, behind the first i sections and j items of the next one. -/
def OK2 (l : List S5) (i j : Nat) (al : List (Spo × Int)) : Prop := ∀ (s : Nat) nm, lkq al ((s : Int), nm) = (if s < i then (ownN l s nm).map Int.ofNat else if s = i then ((ownI ((itn l i).take j) nm).map (fun k => Int.ofNat (fsn l i + k))) else none)
theorem OK2.nil (l : List S5) : OK2 l 0 0 [] := fun s nm => by simp [lkq, ownI]
theorem OK2.same {l : List S5} {i j : Nat} {al : List (Spo × Int)} (h : OK2 l i j al) {y : It} (hy : (itn l i)[j]? = some y) (hr : rdb y.k = false) : OK2 l i (j + 1) al := fun s nm => by
  rw [h s nm, List.take_add_one, hy]
  unfold ownI
  rw [List.findIdx?_append]
  simp only [Option.toList_some, List.findIdx?_cons, List.findIdx?_nil, hr, Bool.false_and]
  cases ((itn l i).take j).findIdx? (fun y => rdb y.k && decide (y.nm = nm)) <;> rfl
theorem OK2.more {l : List S5} {i j : Nat} {al : List (Spo × Int)} (h : OK2 l i j al) {y : It} (hy : (itn l i)[j]? = some y) (hr : rdb y.k = true) : OK2 l i (j + 1) (kfq al ((i : Int), y.nm) ((fsn l i + j : Nat) : Int)) := fun s nm => by
  have hl : ((itn l i).take j).length = j := by have := lt_of_get hy; simp; omega
  rw [lkq_kf]
  by_cases e : ((i : Int), y.nm) = ((s : Int), nm)
  · have e1 : i = s := by have := congrArg Prod.fst e; simp at this; omega
    have e2 : y.nm = nm := congrArg Prod.snd e
    subst e1; subst e2
    rw [if_pos rfl, h i y.nm, if_neg (Nat.lt_irrefl _), if_pos rfl, List.take_add_one, hy]
    unfold ownI
    rw [if_neg (Nat.lt_irrefl _), if_pos rfl, List.findIdx?_append]
    simp only [Option.toList_some, List.findIdx?_cons, hr, decide_true, Bool.and_self, hl]
    cases ((itn l i).take j).findIdx? (fun z => rdb z.k && decide (z.nm = y.nm)) with
    | none => simp
    | some k => simp
  · rw [if_neg e, h s nm]
    split
    · rfl
    · split
      · rename_i h2
        subst h2
        rw [List.take_add_one, hy]
        unfold ownI
        rw [List.findIdx?_append]
        have : ¬ y.nm = nm := fun q => e (by rw [q])
        simp only [Option.toList_some, List.findIdx?_cons, List.findIdx?_nil, hr, this, decide_false, Bool.and_false]
        cases ((itn l s).take j).findIdx? (fun y => rdb y.k && decide (y.nm = nm)) <;> rfl
      · rfl
theorem OK2.next {l : List S5} {i : Nat} {al : List (Spo × Int)} (h : OK2 l i (itn l i).length al) : OK2 l (i + 1) 0 al := fun s nm => by
  rw [h s nm, List.take_length]
  by_cases h1 : s < i
  · rw [if_pos h1, if_pos (by omega)]
  · rw [if_neg h1]
    by_cases h2 : s = i
    · subst h2; rw [if_pos rfl, if_pos (by omega)]; unfold ownN; cases ownI (itn l s) nm <;> rfl
    · rw [if_neg h2, if_neg (by omega)]; simp [ownI]
theorem OK2.all {l : List S5} {al : List (Spo × Int)} (h : OK2 l l.length 0 al) : ∀ (s : Nat) nm, lkq al ((s : Int), nm) = (ownN l s nm).map Int.ofNat := fun s nm => by
  rw [h s nm]
  split
  · rfl
  · rename_i h1
    have : itn l s = [] := by unfold itn; rw [List.getElem?_eq_none (by omega)]; rfl
    simp [ownN, ownI, this]
def fsI (l : List S5) (i : Nat) : List Nat := (List.range i).map (fsn l)
theorem fsI_s (l : List S5) (i : Nat) : fsI l (i + 1) = fsI l i ++ [fsn l i] := by unfold fsI; rw [List.range_succ, List.map_append]; rfl
theorem fsI_len (l : List S5) (i : Nat) : (fsI l i).length = i := by simp [fsI]
/-- A slice's block is none of theirs. -/
def Apt (pf : Option Addr) (n cf : Nat) (V : List Iz) : Prop := ∀ x ∈ V, ∀ k, x.b = some k → obk pf n cf ≠ some k
theorem Apt.set {pf : Option Addr} {n cf : Nat} {V : List Iz} {w : World} {N : Nat} (h : Apt pf n cf V) {L : List Nat} (hF : Ow N 3 1 ic w pf cf L) (hn : n = L.length) {j : Nat} {x : Iz} {pv : Option Addr} {cv : Nat} {L2 : List Nat} (hx : V[j]? = some x) (h2 : ∀ k, obk pv L2.length cv = some k → x.b = some k ∨ w.heap.size ≤ k) : Apt pf n cf (V.set j ⟨pv, cv, L2⟩) := fun z hz k e e2 => by
  subst hn
  rcases List.mem_or_eq_of_mem_set hz with q | q
  · exact h z q k e e2
  · subst q
    rcases h2 k e with q | q
    · exact h x (List.mem_of_getElem? hx) k q e2
    · have := (own_lt hF e2).1; omega
theorem Apt.app {pf pf2 : Option Addr} {n cf n2 cf2 : Nat} {V : List Iz} {w : World} {N kb : Nat} (h : Apt pf n cf V) (hV : Vs N w kb V) (h2 : ∀ k, obk pf2 n2 cf2 = some k → obk pf n cf = some k ∨ w.heap.size ≤ k) : Apt pf2 n2 cf2 V := fun x hx k e e2 => by
  rcases h2 k e2 with q | q
  · exact h x hx k e q
  · have := (own_lt (hV.ow x hx) e).1; omega
end Go.Proofs.Ythghblgbjgghcaa

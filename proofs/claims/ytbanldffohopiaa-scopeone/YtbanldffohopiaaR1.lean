/-
  First ones, lists of pairs: plain facts for the document's side.
-/
import Derived.Test.YtbanldffohopiaaSg
namespace Go.Proofs.Ytbanldffohopiaa
open Go.RowKit D
/-- The number of the first one with a property. -/
def fiG {α : Type} (f : α → Bool) (l : List α) (i : Nat) : Option Nat := (l[i]?).bind (fun x => if f x then some i else none)
def ffi {α : Type} (f : α → Bool) (l : List α) : Option Nat := (List.range l.length).findSome? (fiG f l)
theorem fiG_1 {α : Type} {f : α → Bool} {l : List α} {i : Nat} {x : α} (h : l[i]? = some x) (e : f x = true) : fiG f l i = some i := by unfold fiG; rw [h]; exact if_pos e
theorem fiG_0 {α : Type} {f : α → Bool} {l : List α} {i : Nat} {x : α} (h : l[i]? = some x) (e : f x = false) : fiG f l i = none := by
  unfold fiG; rw [h]
  show (if f x then _ else _) = _
  rw [e]; rfl
theorem ffi_some {α : Type} {f : α → Bool} {l : List α} {k : Nat} (h : ffi f l = some k) : ∃ x, l[k]? = some x ∧ f x = true ∧ k < l.length := by
  obtain ⟨j, hj, e⟩ := List.exists_of_findSome?_eq_some h
  unfold fiG at e
  cases hx : l[j]? with
  | none => rw [hx] at e; cases e
  | some x =>
    rw [hx] at e
    change (if f x then some j else none) = some k at e
    split at e
    · rename_i hf; cases e; exact ⟨x, hx, hf, lt_of_get hx⟩
    · cases e
theorem ffi_none {α : Type} {f : α → Bool} {l : List α} (h : ffi f l = none) : l.any f = false := by
  rw [List.any_eq_false]
  intro x hx
  obtain ⟨i, hi⟩ := List.getElem?_of_mem hx
  have := fs_inv h i (lt_of_get hi)
  unfold fiG at this
  rw [hi] at this
  change (if f x then some i else none) = none at this
  split at this
  · cases this
  · assumption
theorem ffi_isSome {α : Type} (f : α → Bool) (l : List α) : (ffi f l).isSome = l.any f := by
  cases h : ffi f l with
  | none => rw [ffi_none h]; rfl
  | some k =>
    obtain ⟨x, hx, hf, _⟩ := ffi_some h
    rw [any_hit hx hf]; rfl
theorem take_any {α : Type} {f : α → Bool} {l : List α} {i : Nat} : (l.take i).any f = true ↔ ∃ j x, j < i ∧ l[j]? = some x ∧ f x = true := by
  rw [List.any_eq_true]
  constructor
  · rintro ⟨x, hx, hf⟩
    obtain ⟨j, hj⟩ := List.getElem?_of_mem hx
    rw [List.getElem?_take] at hj
    split at hj
    · rename_i h; exact ⟨j, x, h, hj, hf⟩
    · cases hj
  · rintro ⟨j, x, hj, hx, hf⟩
    exact ⟨x, List.mem_of_getElem? (i := j) (by rw [List.getElem?_take, if_pos hj]; exact hx), hf⟩
/-- The first one stands ahead of a place, just where one does. -/
theorem ffi_lt {α : Type} {f : α → Bool} {l : List α} {i : Nat} {x : α} (h : l[i]? = some x) (hf : f x = true) : ∃ k, ffi f l = some k ∧ decide (k < i) = (l.take i).any f := by
  cases hk : ffi f l with
  | none => have := ffi_none hk; rw [any_hit h hf] at this; cases this
  | some k =>
    refine ⟨k, rfl, ?_⟩
    obtain ⟨y, hy, hfy, hkl⟩ := ffi_some hk
    rw [Bool.eq_iff_iff, decide_eq_true_iff, take_any]
    constructor
    · intro hki; exact ⟨k, y, hki, hy, hfy⟩
    · rintro ⟨j, z, hj, hz, hfz⟩
      rcases Nat.lt_or_ge j k with q | q
      · exfalso
        -- an earlier one would have been told
        have e : ffi f l = some j ∨ ∃ m, m < j ∧ ffi f l = some m := by
          have hl := lt_of_get hz
          cases hq : (List.range j).findSome? (fiG f l) with
          | none =>
            left
            exact fs_hit (fs_inv hq) (fiG_1 hz hfz) hl
          | some m =>
            right
            obtain ⟨m', hm', em⟩ := List.exists_of_findSome?_eq_some hq
            refine ⟨m, ?_, ?_⟩
            · unfold fiG at em
              cases hx : l[m']? with
              | none => rw [hx] at em; cases em
              | some u =>
                rw [hx] at em
                change (if f u then some m' else none) = some m at em
                split at em
                · cases em; simpa using hm'
                · cases em
            · have e2 : List.range l.length = List.range j ++ (List.range (l.length - j)).map (j + ·) := by rw [← List.range_add]; congr 1; omega
              unfold ffi
              rw [e2, List.findSome?_append, hq]; rfl
        rcases e with e | ⟨m, hm, e⟩
        · rw [hk] at e; cases e; omega
        · rw [hk] at e; cases e; omega
      · omega
theorem lk_any (al : List (ByteArray × Int)) (s : ByteArray) : (lk al s).isSome = al.any (fun p => decide (p.1 = s)) := by
  unfold lk
  rw [Option.isSome_map, Bool.eq_iff_iff, List.find?_isSome, List.any_eq_true]
theorem itA_any {l : List It} {s : ByteArray} : ∀ i, (lk (itA l i) s).isSome = (l.take i).any (fun y => decide (y.nm = s))
  | 0 => rfl
  | i + 1 => by
    cases h : l[i]? with
    | none =>
      rw [show itA l (i + 1) = itA l i by rw [itA, h], itA_any i, List.take_add_one, h]; simp
    | some x =>
      rw [itA_s h, lk_any, List.any_cons, ← lk_any, itA_any i, List.take_add_one, h, List.any_append, Bool.or_comm]; simp
theorem tbA_any {l : List Tb} {s : ByteArray} : ∀ i, (lk (tbA l i) s).isSome = (l.take i).any (fun y => decide (y.nm = s))
  | 0 => rfl
  | i + 1 => by
    cases h : l[i]? with
    | none =>
      rw [show tbA l (i + 1) = tbA l i by rw [tbA, h], tbA_any i, List.take_add_one, h]; simp
    | some x =>
      rw [tbA_s h, lk_any, List.any_cons, ← lk_any, tbA_any i, List.take_add_one, h, List.any_append, Bool.or_comm]; simp
theorem pgA_any {l : List Pg} {s : ByteArray} : ∀ i, (lk (pgA l i) s).isSome = (l.take i).any (fun y => decide (y.nm = s))
  | 0 => rfl
  | i + 1 => by
    cases h : l[i]? with
    | none =>
      rw [show pgA l (i + 1) = pgA l i by rw [pgA, h], pgA_any i, List.take_add_one, h]; simp
    | some x =>
      rw [pgA_s h, lk_any, List.any_cons, ← lk_any, pgA_any i, List.take_add_one, h, List.any_append, Bool.or_comm]; simp
theorem kdA_any {L : List S5} {p : Nat} {s : ByteArray} : ∀ i, (lk (kdA L p i) s).isSome = (L.take i).any (fun y => decide (y.pr = p) && decide (y.nm = s))
  | 0 => rfl
  | i + 1 => by
    cases h : L[i]? with
    | none =>
      rw [show kdA L p (i + 1) = kdA L p i by rw [kdA, h], kdA_any i, List.take_add_one, h]; simp
    | some x =>
      rw [List.take_add_one, h, List.any_append, ← kdA_any i, kdA, h]
      by_cases hp : x.pr = p
      · simp only [hp, if_true]
        rw [lk_any, List.any_cons, ← lk_any, Bool.or_comm]; simp [hp]
      · simp only [hp, if_false]; simp [hp]
/-- Has a section around one, or an item of such, the name? -/
def arP (L : List S5) (nm : ByteArray) (a : Nat) : Bool := decide (nmO L a = nm) || (itO L a).any (fun y => decide (y.nm = nm))
def arn (L : List S5) (k : Nat) (nm : ByteArray) : Bool := (anc L k).tail.any (arP L nm)
theorem anc_len (L : List S5) : ∀ s, (anc L s).length ≤ s + 1 := by
  intro s
  induction s using Nat.strongRecOn with
  | ind s ih =>
    rw [anc]
    split
    · rename_i h
      have := ih _ h.2
      simp only [List.length_cons]
      omega
    · simp
theorem anc_le (L : List S5) : ∀ s, ∀ a ∈ anc L s, a ≤ s := by
  intro s
  induction s using Nat.strongRecOn with
  | ind s ih =>
    intro a ha
    rw [anc] at ha
    rcases List.mem_cons.1 ha with rfl | ha
    · exact Nat.le_refl _
    · split at ha
      · rename_i h
        have := ih _ h.2 a ha
        omega
      · cases ha
def rdP (nm : ByteArray) (y : It) : Bool := decide (y.nm = nm) && cbr y.k
/-- Is there a field or a line of that name, here or around? -/
def rfd (L : List S5) (s : Nat) (nm : ByteArray) : Bool := (anc L s).any (fun a => (itO L a).any (rdP nm))
def kdP (p : Nat) (nm : ByteArray) (y : S5) : Bool := decide (y.pr = p) && decide (y.nm = nm)
end Go.Proofs.Ytbanldffohopiaa

/-
  The ids with their records' blocks; where an id lies; a node of a tree and what is above it.
-/
import Derived.Test.YtbmbldloeblbbaaSi
namespace Go.Proofs.Ytbmbldloeblbbaa
open Go.RowKit
/-- The ids with their records' blocks, in their order. -/
def T.kv : T → List (Int × Nat)
  | .e => []
  | .n k i _ l r => l.kv ++ (i, k) :: r.kv
theorem T.kv_ids : ∀ tr : T, tr.kv.map (·.1) = tr.ids
  | .e => rfl
  | .n _ _ _ l r => by unfold T.kv T.ids; simp [T.kv_ids l, T.kv_ids r]
theorem lightL_kv (k : Nat) (i : Int) (l r : T) : (lightL k i l r).kv = l.kv ++ (i, k) :: r.kv := by
  unfold lightL
  cases l with
  | e => rfl
  | n kk ii ss a b =>
    cases hd : decide (2 * (a.sz + 1) ≤ b.sz + 1) <;> cases b <;> simp [hd, T.kv]
theorem lightR_kv (k : Nat) (i : Int) (l r : T) : (lightR k i l r).kv = l.kv ++ (i, k) :: r.kv := by
  unfold lightR
  cases r with
  | e => rfl
  | n kk ii ss b a =>
    cases hd : decide (2 * (a.sz + 1) ≤ b.sz + 1) <;> cases b <;> simp [hd, T.kv]
theorem bal_kv (k : Nat) (i : Int) (l r : T) : (bal k i l r).kv = l.kv ++ (i, k) :: r.kv := by
  unfold bal
  split
  · exact lightL_kv k i l r
  · split
    · exact lightR_kv k i l r
    · rfl
def preC : Cx → List (Int × Nat)
  | [] => []
  | f :: C => preC C ++ (if f.d then f.o.kv ++ [(f.i, f.k)] else [])
def posC : Cx → List (Int × Nat)
  | [] => []
  | f :: C => (if f.d then [] else (f.i, f.k) :: f.o.kv) ++ posC C
theorem plug_kv : ∀ (C : Cx) (tr : T), (plug C tr).kv = preC C ++ tr.kv ++ posC C
  | [], tr => by show tr.kv = [] ++ tr.kv ++ []; simp
  | f :: C, tr => by
    show (plug C (f.jn tr)).kv = _
    rw [plug_kv C]
    unfold Fr.jn
    show _ = (preC C ++ (if f.d then f.o.kv ++ [(f.i, f.k)] else [])) ++ tr.kv ++ ((if f.d then [] else (f.i, f.k) :: f.o.kv) ++ posC C)
    cases f.d <;> simp [T.kv]
theorem rebuild_kv : ∀ (C : Cx) (tr : T), (rebuild C tr).kv = preC C ++ tr.kv ++ posC C
  | [], tr => by show tr.kv = [] ++ tr.kv ++ []; simp
  | f :: C, tr => by
    show (rebuild C (balF f tr)).kv = _
    rw [rebuild_kv C]
    unfold balF
    show _ = (preC C ++ (if f.d then f.o.kv ++ [(f.i, f.k)] else [])) ++ tr.kv ++ ((if f.d then [] else (f.i, f.k) :: f.o.kv) ++ posC C)
    cases f.d <;> simp [bal_kv]
theorem T.kv_len (tr : T) : (tr.kv.length : Int) = tr.sz := by rw [T.sz_ids, ← T.kv_ids]; simp
theorem pre_len : ∀ C : Cx, ((preC C).length : Int) = ix C
  | [] => rfl
  | f :: C => by
    have := pre_len C
    have h2 := T.kv_len f.o
    show ((preC C ++ (if f.d then f.o.kv ++ [(f.i, f.k)] else [])).length : Int) = (if f.d then f.o.sz + 1 else 0) + ix C
    cases f.d <;> simp <;> omega
/-- Where an id lies. -/
def adr (l : List (Int × Nat)) (id : Int) : Option Nat := l.lookup id
theorem adr_mid {A B : List (Int × Nat)} {id : Int} {k : Nat} (h : id ∉ A.map (·.1)) : adr (A ++ (id, k) :: B) id = some k := by
  unfold adr
  induction A with
  | nil => simp
  | cons x A ih =>
    simp only [List.map_cons, List.mem_cons, not_or] at h
    have : (id == x.1) = false := beq_eq_false_iff_ne.2 h.1
    show List.lookup id (x :: (A ++ (id, k) :: B)) = some k
    rw [List.lookup_cons, this]
    exact ih h.2
theorem adr_off {A B : List (Int × Nat)} {id j : Int} {k : Nat} (h : j ≠ id) : adr (A ++ (id, k) :: B) j = adr (A ++ B) j := by
  unfold adr
  induction A with
  | nil =>
    have : (j == id) = false := beq_eq_false_iff_ne.2 h
    show List.lookup j ((id, k) :: B) = List.lookup j B
    rw [List.lookup_cons, this]
  | cons x A ih =>
    show List.lookup j (x :: (A ++ (id, k) :: B)) = List.lookup j (x :: (A ++ B))
    rw [List.lookup_cons, List.lookup_cons, ih]
theorem adr_none {l : List (Int × Nat)} {id : Int} (h : id ∉ l.map (·.1)) : adr l id = none := by
  unfold adr
  induction l with
  | nil => rfl
  | cons x l ih =>
    simp only [List.map_cons, List.mem_cons, not_or] at h
    have : (id == x.1) = false := beq_eq_false_iff_ne.2 h.1
    rw [List.lookup_cons, this]
    exact ih h.2
theorem adr_some {l : List (Int × Nat)} {id : Int} {k : Nat} (h : adr l id = some k) : (id, k) ∈ l := by
  unfold adr at h
  induction l with
  | nil => cases h
  | cons x l ih =>
    rw [List.lookup_cons] at h
    by_cases e : id = x.1
    · subst e
      simp at h
      subst h
      simp
    · rw [beq_eq_false_iff_ne.2 e] at h
      exact List.mem_cons_of_mem _ (ih h)
theorem adr_is {l : List (Int × Nat)} {id : Int} : (adr l id).isSome = true ↔ id ∈ l.map (·.1) := by
  constructor
  · intro h
    obtain ⟨k, hk⟩ := Option.isSome_iff_exists.1 h
    exact List.mem_map.2 ⟨_, adr_some hk, rfl⟩
  · intro h
    cases hq : adr l id with
    | some k => rfl
    | none =>
      exfalso
      unfold adr at hq
      induction l with
      | nil => cases h
      | cons x l ih =>
        rw [List.lookup_cons] at hq
        by_cases e : id = x.1
        · rw [beq_iff_eq.2 e] at hq; cases hq
        · rw [beq_eq_false_iff_ne.2 e] at hq
          simp only [List.map_cons, List.mem_cons] at h
          exact ih (h.resolve_left e) hq
theorem fu_ins {A B : List (Int × Nat)} {id : Int} {k : Nat} (h : id ∉ A.map (·.1)) : fu (adr (A ++ B)) id (some k) = adr (A ++ (id, k) :: B) := by
  funext j
  by_cases e : j = id
  · subst e; rw [fu_same, adr_mid h]
  · rw [fu_ne _ _ e, adr_off e]
theorem fu_del {A B : List (Int × Nat)} {id : Int} {k : Nat} (h : id ∉ (A ++ B).map (·.1)) : fu (adr (A ++ (id, k) :: B)) id none = adr (A ++ B) := by
  funext j
  by_cases e : j = id
  · subst e; rw [fu_same, adr_none h]
  · rw [fu_ne _ _ e, adr_off e]
theorem plug_app : ∀ (A B : Cx) (tr : T), plug (A ++ B) tr = plug B (plug A tr)
  | [], _, _ => rfl
  | f :: A, B, tr => plug_app A B (f.jn tr)
/-- A node that lies in a tree, and what is above it. -/
theorem kv_focus : ∀ (tr : T) {id : Int} {k : Nat}, (id, k) ∈ tr.kv → ∃ C s l r, plug C (.n k id s l r) = tr
  | .e, _, _, h => by cases h
  | .n q i s l r, id, k, h => by
    unfold T.kv at h
    rcases List.mem_append.1 h with h | h
    · obtain ⟨C, s', l', r', e⟩ := kv_focus l h
      refine ⟨C ++ [⟨q, i, s, false, r⟩], s', l', r', ?_⟩
      rw [plug_app, e]
      rfl
    · rcases List.mem_cons.1 h with h | h
      · cases h; exact ⟨[], s, l, r, rfl⟩
      · obtain ⟨C, s', l', r', e⟩ := kv_focus r h
        refine ⟨C ++ [⟨q, i, s, true, l⟩], s', l', r', ?_⟩
        rw [plug_app, e]
        rfl
theorem plug_okC : ∀ (C : Cx) {tr : T}, (plug C tr).ok → okC C ∧ tr.ok
  | [], _, h => ⟨fun _ m => (by cases m), h⟩
  | f :: C, tr, h => by
    obtain ⟨h1, h2⟩ := plug_okC C (tr := f.jn tr) h
    unfold Fr.jn at h2
    cases hd : f.d with
    | true =>
      rw [hd] at h2
      exact ⟨fun g m => by rcases List.mem_cons.1 m with rfl | m; exact h2.2.1; exact h1 g m, h2.2.2⟩
    | false =>
      rw [hd] at h2
      exact ⟨fun g m => by rcases List.mem_cons.1 m with rfl | m; exact h2.2.2; exact h1 g m, h2.2.1⟩
theorem plug_sz : ∀ (C : Cx) (tr : T), (plug C tr).sz = csz C + tr.sz
  | [], tr => by show tr.sz = 0 + tr.sz; omega
  | f :: C, tr => by
    show (plug C (f.jn tr)).sz = 1 + f.o.sz + csz C + tr.sz
    rw [plug_sz C]
    unfold Fr.jn
    cases f.d <;> simp [T.sz] <;> omega
theorem plug_ht : ∀ (C : Cx) (tr : T), C.length + tr.ht ≤ (plug C tr).ht
  | [], tr => by show 0 + tr.ht ≤ tr.ht; omega
  | f :: C, tr => by
    have := plug_ht C (f.jn tr)
    show (f :: C).length + tr.ht ≤ (plug C (f.jn tr)).ht
    have h2 : 1 + tr.ht ≤ (f.jn tr).ht := by
      unfold Fr.jn
      cases f.d
      · show 1 + tr.ht ≤ 1 + max tr.ht f.o.ht; omega
      · show 1 + tr.ht ≤ 1 + max f.o.ht tr.ht; omega
    simp only [List.length_cons]
    omega
theorem TS.at {D : Nat → Prop} {w : World} {t mb : Nat} {lk : Int} : ∀ (C B : Cx) {tr : T}, TS D w t mb B (plug C tr) lk → TS D w t mb (C ++ B) tr lk
  | [], _, _, h => h
  | f :: C, B, _, h => TS.dn (TS.at C B (tr := f.jn _) h)
theorem TS.at0 {D : Nat → Prop} {w : World} {t mb : Nat} {lk : Int} {C : Cx} {tr : T} (h : TS D w t mb [] (plug C tr) lk) : TS D w t mb C tr lk := by
  have := TS.at C [] h
  rw [List.append_nil] at this
  exact this
theorem TS.all {D : Nat → Prop} {w : World} {t mb : Nat} {lk : Int} : ∀ {C : Cx} {tr : T}, TS D w t mb C tr lk → TS D w t mb [] (plug C tr) lk
  | [], _, h => h
  | _ :: C, _, h => TS.all (C := C) h.up
end Go.Proofs.Ytbmbldloeblbbaa

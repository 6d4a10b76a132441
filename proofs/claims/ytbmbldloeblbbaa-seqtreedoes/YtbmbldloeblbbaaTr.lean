/-
  Trees as they lie, and what is above a place of theirs; what hanging one in changes.
-/
import Derived.Test.YtbmbldloeblbbaaHs
namespace Go.Proofs.Ytbmbldloeblbbaa
open Go.RowKit
/-- A tree as it lies: a node's block, its id, the size that it keeps, its sides. -/
inductive T where
  | e : T
  | n (k : Nat) (i s : Int) (l r : T) : T
def T.p : T → Option Nat
  | .e => none
  | .n k _ _ _ _ => some k
def T.ad : T → List Nat
  | .e => []
  | .n k _ _ l r => k :: (l.ad ++ r.ad)
def T.ids : T → List Int
  | .e => []
  | .n _ i _ l r => l.ids ++ i :: r.ids
def T.sz : T → Int
  | .e => 0
  | .n _ _ _ l r => 1 + l.sz + r.sz
/-- The kept sizes are right. -/
def T.ok : T → Prop
  | .e => True
  | .n _ _ s l r => s = 1 + l.sz + r.sz ∧ l.ok ∧ r.ok
theorem T.sz_nn : ∀ t : T, 0 ≤ t.sz
  | .e => Int.le_refl 0
  | .n _ _ _ l r => by have := T.sz_nn l; have := T.sz_nn r; unfold T.sz; omega
theorem T.sz_ids : ∀ t : T, t.sz = t.ids.length
  | .e => rfl
  | .n _ _ _ l r => by unfold T.sz T.ids; rw [T.sz_ids l, T.sz_ids r]; simp; omega
/-- The records are those of the tree, which hangs on u. -/
def Rep (R : Mp) (u : Option Nat) : T → Prop
  | .e => True
  | .n k i s l r => R k = some ⟨u, l.p, r.p, s, i⟩ ∧ Rep R (some k) l ∧ Rep R (some k) r
/-- What is above a place: node by node upwards; d: the place is on the right. -/
structure Fr where
  k : Nat
  i : Int
  s : Int
  d : Bool
  o : T
abbrev Cx := List Fr
def top : Cx → Option Nat
  | [] => none
  | f :: _ => some f.k
def sideC : Cx → Bool
  | [] => false
  | f :: _ => f.d
def Fr.rc (f : Fr) (u p : Option Nat) : Rc := ⟨u, if f.d then f.o.p else p, if f.d then p else f.o.p, f.s, f.i⟩
def RepC (R : Mp) (root : Option Nat) : Cx → Option Nat → Prop
  | [], p => root = p
  | f :: C, p => R f.k = some (f.rc (top C) p) ∧ Rep R (some f.k) f.o ∧ RepC R root C (some f.k)
def adC : Cx → List Nat
  | [] => []
  | f :: C => f.k :: (f.o.ad ++ adC C)
def Fr.jn (f : Fr) (t : T) : T := if f.d then .n f.k f.i f.s f.o t else .n f.k f.i f.s t f.o
def plug : Cx → T → T
  | [], t => t
  | f :: C, t => plug C (f.jn t)
theorem Rep.ud {R : Mp} {k : Nat} {q : Rc} : ∀ {t : T} {u : Option Nat}, k ∉ t.ad → Rep R u t → Rep (ud R k q) u t
  | .e, _, _, _ => trivial
  | .n j i s l r, u, hk, h => by
    unfold T.ad at hk
    simp only [List.mem_cons, List.mem_append, not_or] at hk
    exact ⟨(ud_ne _ _ (Ne.symm hk.1)).trans h.1, Rep.ud hk.2.1 h.2.1, Rep.ud hk.2.2 h.2.2⟩
theorem RepC.ud {R : Mp} {root : Option Nat} {k : Nat} {q : Rc} : ∀ {C : Cx} {p : Option Nat}, k ∉ adC C → RepC R root C p → RepC (ud R k q) root C p
  | [], _, _, h => h
  | f :: C, p, hk, h => by
    unfold adC at hk
    simp only [List.mem_cons, List.mem_append, not_or] at hk
    exact ⟨(ud_ne _ _ (Ne.symm hk.1)).trans h.1, Rep.ud hk.2.1 h.2.1, RepC.ud hk.2.2 h.2.2⟩
/-- What hang does to the records: x is hung on a's side. -/
def hkU (R : Mp) (a x : Option Nat) : Mp := match x with
  | none => R
  | some k => match R k with
    | some r => ud R k ⟨a, r.l, r.r, r.s, r.i⟩
    | none => R
def hkR (R : Mp) (a : Option Nat) (d : Bool) (x : Option Nat) : Mp := match a with
  | none => hkU R a x
  | some p => match hkU R a x p with
    | some q => ud (hkU R a x) p ⟨q.u, if d then q.l else x, if d then x else q.r, q.s, q.i⟩
    | none => hkU R a x
def hkO (root a x : Option Nat) : Option Nat := match a with
  | none => x
  | some _ => root
theorem hkU_none (R : Mp) (a : Option Nat) : hkU R a none = R := rfl
theorem hkU_some {R : Mp} {a : Option Nat} {k : Nat} {r : Rc} (h : R k = some r) : hkU R a (some k) = ud R k ⟨a, r.l, r.r, r.s, r.i⟩ := by
  unfold hkU; simp only [h]
theorem hkU_gone {R : Mp} {a : Option Nat} {k : Nat} (h : R k = none) : hkU R a (some k) = R := by
  unfold hkU; simp only [h]
theorem hkU_ne {R : Mp} {a x : Option Nat} {j : Nat} (h : x ≠ some j) : hkU R a x j = R j := by
  cases x with
  | none => rfl
  | some k =>
    cases hr : R k with
    | none => rw [hkU_gone hr]
    | some r => rw [hkU_some hr]; exact ud_ne _ _ (fun e => h (by rw [e]))
theorem hkR_top (R : Mp) (d : Bool) (x : Option Nat) : hkR R none d x = hkU R none x := rfl
theorem hkR_some {R : Mp} {p : Nat} {d : Bool} {x : Option Nat} {q : Rc} (h : hkU R (some p) x p = some q) : hkR R (some p) d x = ud (hkU R (some p) x) p ⟨q.u, if d then q.l else x, if d then x else q.r, q.s, q.i⟩ := by
  unfold hkR; simp only [h]
theorem hkR_gone {R : Mp} {p : Nat} {d : Bool} {x : Option Nat} (h : hkU R (some p) x p = none) : hkR R (some p) d x = hkU R (some p) x := by
  unfold hkR; simp only [h]
theorem hkR_off {R : Mp} {a x : Option Nat} {d : Bool} {j : Nat} (ha : a ≠ some j) : hkR R a d x j = hkU R a x j := by
  cases a with
  | none => rfl
  | some p =>
    cases hq : hkU R (some p) x p with
    | none => rw [hkR_gone hq]
    | some q => rw [hkR_some hq]; exact ud_ne _ _ (fun e => ha (by rw [e]))
theorem hkR_ne {R : Mp} {a x : Option Nat} {d : Bool} {j : Nat} (h : x ≠ some j) (ha : a ≠ some j) : hkR R a d x j = R j := (hkR_off ha).trans (hkU_ne h)
/-- The one that is hung. -/
theorem hkR_self {R : Mp} {a : Option Nat} {d : Bool} {k : Nat} {r : Rc} (h : R k = some r) (ha : a ≠ some k) : hkR R a d (some k) k = some ⟨a, r.l, r.r, r.s, r.i⟩ := by
  rw [hkR_off ha, hkU_some h]; exact ud_same _ _ _
/-- The one that it is hung on. -/
theorem hkR_par {R : Mp} {p : Nat} {d : Bool} {x : Option Nat} {q : Rc} (h : R p = some q) (hx : x ≠ some p) : hkR R (some p) d x p = some ⟨q.u, if d then q.l else x, if d then x else q.r, q.s, q.i⟩ := by
  rw [hkR_some ((hkU_ne hx).trans h)]; exact ud_same _ _ _
theorem Rep.same {R R' : Mp} : ∀ {t : T} {u : Option Nat}, (∀ j ∈ t.ad, R' j = R j) → Rep R u t → Rep R' u t
  | .e, _, _, _ => trivial
  | .n k i s l r, u, hj, h => by
    unfold T.ad at hj
    exact ⟨(hj k (by simp)).trans h.1, Rep.same (fun j m => hj j (by simp [m])) h.2.1, Rep.same (fun j m => hj j (by simp [m])) h.2.2⟩
theorem RepC.same {R R' : Mp} {root : Option Nat} : ∀ {C : Cx} {p : Option Nat}, (∀ j ∈ adC C, R' j = R j) → RepC R root C p → RepC R' root C p
  | [], _, _, h => h
  | f :: C, p, hj, h => by
    unfold adC at hj
    exact ⟨(hj f.k (by simp)).trans h.1, Rep.same (fun j m => hj j (by simp [m])) h.2.1, RepC.same (fun j m => hj j (by simp [m])) h.2.2⟩
/-- The place is given another tree. -/
theorem RepC.hang {R R' : Mp} {root : Option Nat} {C : Cx} {p x : Option Nat} (h : RepC R root C p) (hn : (adC C).Nodup) (hx : ∀ j ∈ adC C, top C ≠ some j → R' j = R j)
    (ht : ∀ a q, top C = some a → R a = some q → R' a = some ⟨q.u, if sideC C then q.l else x, if sideC C then x else q.r, q.s, q.i⟩) : RepC R' (hkO root (top C) x) C x := by
  cases C with
  | nil => rfl
  | cons f C =>
    unfold adC at hx hn
    have hnd := List.nodup_cons.1 hn
    refine ⟨?_, Rep.same (fun j m => hx j (by simp [m]) (fun e => hnd.1 (by cases e; simp [m]))) h.2.1, RepC.same (fun j m => hx j (by simp [m]) (fun e => hnd.1 (by cases e; simp [m]))) h.2.2⟩
    rw [ht f.k _ rfl h.1]
    show some (Rc.mk _ (if f.d = true then _ else _) (if f.d = true then _ else _) _ _) = _
    unfold Fr.rc
    cases f.d <;> rfl
theorem Rep.up {R R' : Mp} {u v : Option Nat} {t : T} (h : Rep R u t) (hn : t.ad.Nodup) (h1 : ∀ k r, t.p = some k → R k = some r → R' k = some ⟨v, r.l, r.r, r.s, r.i⟩) (h2 : ∀ j ∈ t.ad, t.p ≠ some j → R' j = R j) : Rep R' v t := by
  cases t with
  | e => trivial
  | n k i s l r =>
    unfold T.ad at h2 hn
    have hnd := List.nodup_cons.1 hn
    exact ⟨h1 k _ rfl h.1, Rep.same (fun j m => h2 j (by simp [m]) (fun e => hnd.1 (by cases e; simp [m]))) h.2.1, Rep.same (fun j m => h2 j (by simp [m]) (fun e => hnd.1 (by cases e; simp [m]))) h.2.2⟩
end Go.Proofs.Ytbmbldloeblbbaa

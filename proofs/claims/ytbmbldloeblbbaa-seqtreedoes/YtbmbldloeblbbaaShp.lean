/-
  What is put in and taken out, as functions of the place: the shape is known.
-/
import Derived.Test.YtbmbldloeblbbaaNw
namespace Go.Proofs.Ytbmbldloeblbbaa
open Go.RowKit
/-- An id put in, as a function of the place. -/
def insT (id : Int) (kn : Nat) : T → Int → T
  | .e, _ => .n kn id 1 .e .e
  | .n k i _ l r, a => if a ≤ l.sz then bal k i (insT id kn l a) r else bal k i l (insT id kn r (a - l.sz - 1))
theorem insT_up {id : Int} {kn : Nat} : ∀ (C : Cx) {t : T} {a : Int}, 0 ≤ a → a ≤ t.sz → rebuild C (insT id kn t a) = insT id kn (plug C t) (a + ix C)
  | [], t, a, _, _ => by show insT id kn t a = insT id kn t (a + 0); rw [Int.add_zero]
  | f :: C, t, a, h0, h1 => by
    have ho := T.sz_nn f.o
    have e : balF f (insT id kn t a) = insT id kn (f.jn t) (a + (if f.d then f.o.sz + 1 else 0)) := by
      unfold balF Fr.jn
      cases hd : f.d with
      | true =>
        show bal f.k f.i f.o (insT id kn t a) = insT id kn (.n f.k f.i f.s f.o t) (a + (f.o.sz + 1))
        unfold insT
        rw [if_neg (by omega), show a + (f.o.sz + 1) - f.o.sz - 1 = a by omega]
        cases t <;> rfl
      | false =>
        show bal f.k f.i (insT id kn t a) f.o = insT id kn (.n f.k f.i f.s t f.o) (a + 0)
        unfold insT
        rw [if_pos (by omega), Int.add_zero]
        cases t <;> rfl
    show rebuild C (balF f (insT id kn t a)) = insT id kn (plug C (f.jn t)) (a + ((if f.d then f.o.sz + 1 else 0) + ix C))
    rw [e, insT_up C (by split <;> omega) (by rw [jn_sz]; split <;> omega), Int.add_assoc]
theorem Ins.fn {tr tr' : T} {at0 id : Int} {kn : Nat} (h : Ins tr at0 id kn tr') : tr' = insT id kn tr at0 := by
  obtain ⟨C, rfl, rfl, rfl⟩ := h
  have := insT_up (id := id) (kn := kn) C (t := .e) (a := 0) (Int.le_refl _) (Int.le_refl _)
  rw [Int.zero_add] at this
  exact this
/-- Without its first one. -/
def delM : T → T
  | .e => .e
  | .n _ _ _ .e r => r
  | .n k i _ l r => bal k i (delM l) r
/-- The first id. -/
def minI : T → Int
  | .e => 0
  | .n _ i _ .e _ => i
  | .n _ _ _ l _ => minI l
/-- Without its root. -/
def delR (k : Nat) (l r : T) : T := match l, r with
  | .e, r => r
  | l, .e => l
  | l, r => bal k (minI r) l (delM r)
/-- Without the one at a place. -/
def delT : T → Int → T
  | .e, _ => .e
  | .n k i _ l r, p => if p < l.sz then bal k i (delT l p) r else if l.sz < p then bal k i l (delT r (p - l.sz - 1)) else delR k l r
theorem delT_up : ∀ (C : Cx) {t : T} {a : Int}, 0 ≤ a → a < t.sz → rebuild C (delT t a) = delT (plug C t) (a + ix C)
  | [], t, a, _, _ => by show delT t a = delT t (a + 0); rw [Int.add_zero]
  | f :: C, t, a, h0, h1 => by
    have ho := T.sz_nn f.o
    have e : balF f (delT t a) = delT (f.jn t) (a + (if f.d then f.o.sz + 1 else 0)) := by
      unfold balF Fr.jn
      cases hd : f.d with
      | true =>
        show bal f.k f.i f.o (delT t a) = delT (.n f.k f.i f.s f.o t) (a + (f.o.sz + 1))
        rw [delT, if_neg (by omega), if_pos (by omega), show a + (f.o.sz + 1) - f.o.sz - 1 = a by omega]
      | false =>
        show bal f.k f.i (delT t a) f.o = delT (.n f.k f.i f.s t f.o) (a + 0)
        rw [delT, Int.add_zero, if_pos (by omega)]
    show rebuild C (balF f (delT t a)) = delT (plug C (f.jn t)) (a + ((if f.d then f.o.sz + 1 else 0) + ix C))
    rw [e, delT_up C (by split <;> omega) (by rw [jn_sz]; split <;> omega), Int.add_assoc]
theorem delM_up {kn : Nat} {i2 s2 : Int} {b : T} : ∀ (Ls : Cx), (∀ g ∈ Ls, g.d = false) → ∀ {t : T} {u : T}, t ≠ .e → u = delM t → rebuild Ls u = delM (plug Ls t) ∧ minI (plug Ls t) = minI t ∧ plug Ls t ≠ .e
  | [], _, t, u, ht, hu => ⟨hu, rfl, ht⟩
  | f :: Ls, h, t, u, ht, hu => by
    have hd := h f (by simp)
    have e1 : balF f u = delM (f.jn t) := by
      unfold balF Fr.jn
      rw [hd, hu]
      cases t with
      | e => exact absurd rfl ht
      | n k i s l r => rfl
    have e2 : minI (f.jn t) = minI t := by
      unfold Fr.jn
      rw [hd]
      cases t with
      | e => exact absurd rfl ht
      | n k i s l r => rfl
    obtain ⟨q1, q2, q3⟩ := delM_up (kn := kn) (i2 := i2) (s2 := s2) (b := b) Ls (fun g hg => h g (by simp [hg])) (t := f.jn t) (u := balF f u) (by unfold Fr.jn; rw [hd]; simp) e1
    exact ⟨q1, q2.trans e2, q3⟩
theorem rebuild_app : ∀ (A B : Cx) (t : T), rebuild (A ++ B) t = rebuild B (rebuild A t)
  | [], _, _ => rfl
  | f :: A, B, t => rebuild_app A B (balF f t)
theorem Del.fn {tr tr' : T} {i p : Int} (h : Del tr i p tr') : tr' = delT tr p := by
  obtain ⟨C, k, s, l, r, rfl, rfl, h⟩ := h
  have hl := T.sz_nn l
  have hr := T.sz_nn r
  have key : ∀ u, u = delR k l r → rebuild C u = delT (plug C (.n k i s l r)) (l.sz + ix C) := fun u hu => by
    have h2 := delT_up C (t := .n k i s l r) (a := l.sz) hl (by simp only [T.sz]; omega)
    rw [← h2, delT, if_neg (by omega), if_neg (by omega), hu]
  rcases h with ⟨rfl, rfl⟩ | ⟨rfl, rfl⟩ | ⟨hle, Ls, kn, i2, s2, b, hpl, hLd, rfl⟩
  · exact key r rfl
  · refine key l ?_
    cases l <;> rfl
  · obtain ⟨q1, q2, q3⟩ := delM_up (kn := kn) (i2 := i2) (s2 := s2) (b := b) Ls hLd (t := .n kn i2 s2 .e b) (u := b) (by simp) rfl
    rw [hpl] at q1 q2 q3
    cases l with
    | e => exact absurd rfl hle
    | n lk li ls la lb =>
      rw [rebuild_app]
      show rebuild C (balF ⟨k, i2, s, true, _⟩ (rebuild Ls b)) = _
      refine key _ ?_
      rw [q1]
      cases r with
      | e => exact absurd rfl q3
      | n rk ri rs ra rb =>
        show bal k i2 _ (delM _) = bal k (minI _) _ (delM _)
        rw [q2]
        rfl
end Go.Proofs.Ytbmbldloeblbbaa

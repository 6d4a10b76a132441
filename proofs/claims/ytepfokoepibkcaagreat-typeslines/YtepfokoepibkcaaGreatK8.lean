/-
  Kinds go by what sections tell, not by where they lie.
-/
import Derived.Test.YtepfokoepibkcaaGreatPSd
namespace Go.Proofs.YtepfokoepibkcaaGreat
open Go.RowKit D
/-! Kinds go by what sections tell, not by where they lie. -/
theorem key_get {R L : List S5} (h : R.map key5 = L.map key5) (n : Nat) : (R[n]?).map key5 = (L[n]?).map key5 := by
  have := congrArg (fun q => q[n]?) h
  simpa using this
theorem key_len {R L : List S5} (h : R.map key5 = L.map key5) : R.length = L.length := by simpa using congrArg List.length h
theorem find_key {α β : Type} {f : α → β} {p : β → Bool} {A B : List α} (h : A.map f = B.map f) : A.findIdx? (fun x => p (f x)) = B.findIdx? (fun x => p (f x)) := by
  have h1 : (A.map f).findIdx? p = A.findIdx? (p ∘ f) := List.findIdx?_map
  have h2 : (B.map f).findIdx? p = B.findIdx? (p ∘ f) := List.findIdx?_map
  rw [h] at h1
  exact h1.symm.trans h2
theorem pIt_key {x y : S5} (h : key5 x = key5 y) (nm : ByteArray) : x.items.findIdx? (pIt nm) = y.items.findIdx? (pIt nm) := by
  simp only [key5, Prod.mk.injEq] at h
  exact find_key (f := fun y : It => (y.nm, y.k, y.tk, y.ts)) (p := fun q => decide (q.1 = nm) && cbr q.2.1) h.2.2.2.2
theorem fnF_key {R L : List S5} (h : R.map key5 = L.map key5) (nm : ByteArray) : ∀ n : Nat, fnF R nm n = fnF L nm n := by
  intro n
  induction n using Nat.strongRecOn with
  | ind n ih =>
    cases n with
    | zero => rw [fnF, fnF]
    | succ n =>
      rw [fnF, fnF]
      have hg := key_get h n
      cases hr : R[n]? with
      | none =>
        rw [hr] at hg
        have hl : L[n]? = none := by cases hl : L[n]? with
          | none => rfl
          | some y => rw [hl] at hg; cases hg
        simp only [hl]
      | some x =>
        rw [hr] at hg
        cases hl : L[n]? with
        | none => rw [hl] at hg; cases hg
        | some y =>
          rw [hl] at hg
          have hk : key5 x = key5 y := by simpa using hg
          have hp : x.pr = y.pr := by simp only [key5, Prod.mk.injEq] at hk; exact hk.1
          simp only [pIt_key hk nm, hp]
          rw [ih _ (by omega)]
theorem itA_key {R L : List S5} (h : R.map key5 = L.map key5) (k i : Nat) : (itA R k i).map (fun y => (y.tk, y.ts)) = (itA L k i).map (fun y => (y.tk, y.ts)) := by
  unfold itA
  have hg := key_get h k
  cases hr : R[k]? with
  | none =>
    rw [hr] at hg
    cases hl : L[k]? with
    | none => rfl
    | some y => rw [hl] at hg; cases hg
  | some x =>
    rw [hr] at hg
    cases hl : L[k]? with
    | none => rw [hl] at hg; cases hg
    | some y =>
      rw [hl] at hg
      have hk : key5 x = key5 y := by simpa using hg
      simp only [key5, Prod.mk.injEq] at hk
      have h2 := congrArg (fun q => (q[i]?).map (fun z => (z.2.2.1, z.2.2.2))) hk.2.2.2.2
      simp only [List.getElem?_map, Option.map_map] at h2
      exact h2
theorem nmK_key {R L : List S5} (h : R.map key5 = L.map key5) (s : Nat) (nm : ByteArray) : nmK R s nm = nmK L s nm := by
  unfold nmK
  rw [fnF_key h]
  cases fnF L nm (s + 1) with
  | none => rfl
  | some q =>
    have hi := itA_key h q.1 q.2
    show (match itA R q.1 q.2 with | none => _ | some y => _) = (match itA L q.1 q.2 with | none => _ | some y => _)
    cases hr : itA R q.1 q.2 with
    | none => cases hl : itA L q.1 q.2 with
      | none => rfl
      | some y => rw [hr, hl] at hi; cases hi
    | some x => cases hl : itA L q.1 q.2 with
      | none => rw [hr, hl] at hi; cases hi
      | some y =>
        rw [hr, hl] at hi
        simp at hi
        simp only [hi.1, hi.2]
theorem kid_key {R L : List S5} (h : R.map key5 = L.map key5) (s : Int) (nm : ByteArray) : R.findIdx? (pKd s nm) = L.findIdx? (pKd s nm) :=
  find_key (f := key5) (p := fun q => decide (q.1 = s) && decide (q.2.2.1 = nm)) h
theorem agK_key {R L : List S5} (h : R.map key5 = L.map key5) (s : Nat) (x : Ex) : agK R s x = agK L s x := by
  unfold agK
  rw [kid_key h]
  cases L.findIdx? (pKd s x.se) with
  | none => rfl
  | some k =>
    show (if x.op = 16 then _ else _) = (if x.op = 16 then _ else _)
    rw [fnF_key h]
    cases fnF L x.nm (k + 1) with
    | none => rfl
    | some q =>
      have hi := itA_key h q.1 q.2
      show (if x.op = 16 then _ else (if q.1 = k then (match itA R q.1 q.2 with | none => _ | some y => _) else _)) = (if x.op = 16 then _ else (if q.1 = k then (match itA L q.1 q.2 with | none => _ | some y => _) else _))
      cases hr : itA R q.1 q.2 with
      | none => cases hl : itA L q.1 q.2 with
        | none => rfl
        | some y => rw [hr, hl] at hi; cases hi
      | some x2 => cases hl : itA L q.1 q.2 with
        | none => rw [hr, hl] at hi; cases hi
        | some y =>
          rw [hr, hl] at hi
          simp at hi
          simp only [hi.1]
theorem ndK_key {R L : List S5} (h : R.map key5 = L.map key5) (d : Df) (s : Nat) (x : Ex) (A : List Int) : ndK d R s x A = ndK d L s x A := by
  unfold ndK
  rw [nmK_key h, agK_key h]
theorem whK_key {R L : List S5} (h : R.map key5 = L.map key5) (d : Df) (s : Nat) : ∀ x : Ex, whK d R s x = whK d L s x := by
  refine Ex.ind2 ?_
  intro x ih
  rw [whK_eq d R s x, whK_eq d L s x]
  have e : ∀ (l : List Ex), (∀ a ∈ l, a ∈ x.args) → ∀ acc, l.foldl (fun acc a => acK acc (whK d R s a)) acc = l.foldl (fun acc a => acK acc (whK d L s a)) acc := by
    intro l
    induction l with
    | nil => intro _ acc; rfl
    | cons a l il => intro hm acc; simp only [List.foldl_cons]; rw [ih a (hm a (List.mem_cons_self ..))]; exact il (fun y hy => hm y (List.mem_cons_of_mem _ hy)) _
  rw [e x.args (fun _ q => q)]
  unfold endK
  split
  · rfl
  · exact ndK_key h d s x _
theorem kdK_key {R L : List S5} (h : R.map key5 = L.map key5) (d : Df) (s : Nat) (x : Ex) : kdK d R s x = kdK d L s x := by
  unfold kdK; rw [whK_key h]
theorem Wf.key {R L : List S5} (h : R.map key5 = L.map key5) (hW : Wf L) : Wf R := fun i x hx => by
  have hg := key_get h i
  rw [hx] at hg
  cases hl : L[i]? with
  | none => rw [hl] at hg; cases hg
  | some y =>
    rw [hl] at hg
    have hk : key5 x = key5 y := by simpa using hg
    have hp : x.pr = y.pr := by simp only [key5, Prod.mk.injEq] at hk; exact hk.1
    rw [hp]; exact hW i y hl
/-- Kind. -/
def knd (d : Df) (s : Int) (x : Ex) : Int × Int := if s < 0 ∨ ((fla d).length : Int) ≤ s then (0, 4) else kdK d (fla d) s.toNat x
end Go.Proofs.YtepfokoepibkcaaGreat

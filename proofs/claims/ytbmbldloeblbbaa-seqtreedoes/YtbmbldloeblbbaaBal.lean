/-
  Mending a node; mending all above a place: the ids stay in their order, the sizes are right.
-/
import Derived.Test.YtbmbldloeblbbaaSd
namespace Go.Proofs.Ytbmbldloeblbbaa
open Go.RowKit
/-- The left side is lifted. -/
def lightL (k : Nat) (i : Int) (l r : T) : T := match l with
  | .e => .n k i (1 + r.sz) .e r
  | .n kk ii _ a b => match decide (2 * (a.sz + 1) ≤ b.sz + 1), b with
    | true, .n j jj _ c z => .n j jj (1 + (1 + a.sz + c.sz) + (1 + z.sz + r.sz)) (.n kk ii (1 + a.sz + c.sz) a c) (.n k i (1 + z.sz + r.sz) z r)
    | _, b => .n kk ii (1 + a.sz + (1 + b.sz + r.sz)) a (.n k i (1 + b.sz + r.sz) b r)
/-- The right side is lifted. -/
def lightR (k : Nat) (i : Int) (l r : T) : T := match r with
  | .e => .n k i (1 + l.sz) l .e
  | .n kk ii _ b a => match decide (2 * (a.sz + 1) ≤ b.sz + 1), b with
    | true, .n j jj _ c z => .n j jj (1 + (1 + l.sz + c.sz) + (1 + z.sz + a.sz)) (.n k i (1 + l.sz + c.sz) l c) (.n kk ii (1 + z.sz + a.sz) z a)
    | _, b => .n kk ii (1 + (1 + l.sz + b.sz) + a.sz) (.n k i (1 + l.sz + b.sz) l b) a
/-- A node, mended. -/
def bal (k : Nat) (i : Int) (l r : T) : T :=
  if 3 * (r.sz + 1) < l.sz + 1 then lightL k i l r else if 3 * (l.sz + 1) < r.sz + 1 then lightR k i l r else .n k i (1 + l.sz + r.sz) l r
def balF (f : Fr) (tr : T) : T := if f.d then bal f.k f.i f.o tr else bal f.k f.i tr f.o
/-- All above, mended from below. -/
def rebuild : Cx → T → T
  | [], tr => tr
  | f :: C, tr => rebuild C (balF f tr)
section
variable {k : Nat} {i : Int} {l r : T}
theorem lightL_ids (k : Nat) (i : Int) (l r : T) : (lightL k i l r).ids = l.ids ++ i :: r.ids := by
  unfold lightL
  cases l with
  | e => rfl
  | n kk ii ss a b =>
    cases hd : decide (2 * (a.sz + 1) ≤ b.sz + 1) <;> cases b <;> simp [hd, T.ids]
theorem lightR_ids (k : Nat) (i : Int) (l r : T) : (lightR k i l r).ids = l.ids ++ i :: r.ids := by
  unfold lightR
  cases r with
  | e => rfl
  | n kk ii ss b a =>
    cases hd : decide (2 * (a.sz + 1) ≤ b.sz + 1) <;> cases b <;> simp [hd, T.ids]
theorem bal_ids (k : Nat) (i : Int) (l r : T) : (bal k i l r).ids = l.ids ++ i :: r.ids := by
  unfold bal
  split
  · exact lightL_ids k i l r
  · split
    · exact lightR_ids k i l r
    · rfl
theorem lightL_ok (ol : l.ok) (or : r.ok) : (lightL k i l r).ok := by
  unfold lightL
  cases l with
  | e => exact ⟨by simp [T.sz], trivial, or⟩
  | n kk ii ss a b =>
    have ob := ol.2.2
    cases hd : decide (2 * (a.sz + 1) ≤ b.sz + 1) <;> cases b <;> simp_all [T.ok, T.sz]
theorem lightR_ok (ol : l.ok) (or : r.ok) : (lightR k i l r).ok := by
  unfold lightR
  cases r with
  | e => exact ⟨by simp [T.sz], ol, trivial⟩
  | n kk ii ss b a =>
    have ob := or.2.1
    cases hd : decide (2 * (a.sz + 1) ≤ b.sz + 1) <;> cases b <;> simp_all [T.ok, T.sz]
theorem bal_ok (ol : l.ok) (or : r.ok) : (bal k i l r).ok := by
  unfold bal
  split
  · exact lightL_ok ol or
  · split
    · exact lightR_ok ol or
    · exact ⟨rfl, ol, or⟩
theorem bal_sz (k : Nat) (i : Int) (l r : T) : (bal k i l r).sz = 1 + l.sz + r.sz := by
  rw [T.sz_ids, bal_ids, T.sz_ids l, T.sz_ids r]; simp; omega
theorem lightL_p (k : Nat) (i : Int) (l r : T) : ∃ j, (lightL k i l r).p = some j := by
  unfold lightL
  cases l with
  | e => exact ⟨_, rfl⟩
  | n kk ii ss a b => cases hd : decide (2 * (a.sz + 1) ≤ b.sz + 1) <;> cases b <;> (simp only [hd]; exact ⟨_, rfl⟩)
theorem lightR_p (k : Nat) (i : Int) (l r : T) : ∃ j, (lightR k i l r).p = some j := by
  unfold lightR
  cases r with
  | e => exact ⟨_, rfl⟩
  | n kk ii ss b a => cases hd : decide (2 * (a.sz + 1) ≤ b.sz + 1) <;> cases b <;> (simp only [hd]; exact ⟨_, rfl⟩)
end
def okC (C : Cx) : Prop := ∀ f ∈ C, f.o.ok
def csz : Cx → Int
  | [] => 0
  | f :: C => 1 + f.o.sz + csz C
theorem csz_nn : ∀ C : Cx, 0 ≤ csz C
  | [] => Int.le_refl 0
  | f :: C => by have := csz_nn C; have := T.sz_nn f.o; unfold csz; omega
theorem balF_ok {f : Fr} {tr : T} (h : f.o.ok) (ht : tr.ok) : (balF f tr).ok := by
  unfold balF; split
  · exact bal_ok h ht
  · exact bal_ok ht h
theorem balF_sz (f : Fr) (tr : T) : (balF f tr).sz = 1 + f.o.sz + tr.sz := by
  unfold balF; split
  · exact bal_sz _ _ _ _
  · rw [bal_sz]; omega
theorem balF_ids (f : Fr) (tr : T) : (balF f tr).ids = (f.jn tr).ids := by
  unfold balF Fr.jn; split
  · exact bal_ids _ _ _ _
  · exact bal_ids _ _ _ _
theorem plug_ids : ∀ (C : Cx) {t u : T}, t.ids = u.ids → (plug C t).ids = (plug C u).ids
  | [], _, _, h => h
  | f :: C, t, u, h => by
    unfold plug
    refine plug_ids C ?_
    unfold Fr.jn
    split <;> simp [T.ids, h]
theorem rebuild_ids : ∀ (C : Cx) (tr : T), (rebuild C tr).ids = (plug C tr).ids
  | [], _ => rfl
  | f :: C, tr => by
    unfold rebuild plug
    rw [rebuild_ids C]
    exact plug_ids C (balF_ids f tr)
theorem rebuild_ok : ∀ (C : Cx) (tr : T), okC C → tr.ok → (rebuild C tr).ok
  | [], _, _, h => h
  | f :: C, tr, hC, h => by
    unfold rebuild
    exact rebuild_ok C _ (fun g hg => hC g (by simp [hg])) (balF_ok (hC f (by simp)) h)
theorem jn_cases (f : Fr) (tr : T) (hf : f.o.ok) (ht : tr.ok) : ∃ l r, f.jn tr = .n f.k f.i f.s l r ∧ balF f tr = bal f.k f.i l r ∧ l.ok ∧ r.ok ∧ l.sz + r.sz = f.o.sz + tr.sz := by
  unfold Fr.jn balF
  cases f.d with
  | true => exact ⟨f.o, tr, rfl, rfl, hf, ht, rfl⟩
  | false => exact ⟨tr, f.o, rfl, rfl, ht, hf, by omega⟩
section
variable {D : Nat → Prop} {w : World} {t mb : Nat} {R : Mp} {root : Option Nat} {lk : Int}
theorem lightL_n {C : Cx} {k : Nat} {i s : Int} {l r : T} (h : TS D w t mb C (.n k i s l r) lk) (ol : l.ok) (or : r.ok) (hb : 3 * (r.sz + 1) < l.sz + 1) (bl : l.sz ≤ 9000) (br : r.sz ≤ 9000) (hlk : 0 ≤ lk ∧ lk ≤ 4000000000000000000) {q : Nat} (hq : (lightL k i l r).p = some q) :
    Calls Try.prog 50 #[pt t 0, pt k 0, .int .i64 0] w fun e w' => e = .returned (pt q 0) ∧ ∃ lk', lk ≤ lk' ∧ lk' ≤ lk + 5 ∧ TS D w' t mb C (lightL k i l r) lk' ∧ Mk D w w' := by
  have hr0 := T.sz_nn r
  cases l with
  | e => simp only [T.sz] at hb; omega
  | n kk ii ss a b =>
    have ha0 := T.sz_nn a
    have hb0 := T.sz_nn b
    simp only [T.sz] at bl
    unfold lightL at hq ⊢
    cases hd : decide (2 * (a.sz + 1) ≤ b.sz + 1) with
    | false =>
      simp only [hd] at hq ⊢
      cases hq
      exact lightS0 h ol.2.1 ol.2.2 or (by omega) (by omega) (by omega) hd hlk
    | true =>
      cases b with
      | e => simp [T.sz] at hd; omega
      | n j jj js c z =>
        simp only [hd] at hq ⊢
        cases hq
        have hc0 := T.sz_nn c
        have hz0 := T.sz_nn z
        simp only [T.sz] at bl hd
        exact lightD0 h ol.2.1 ol.2.2 or (by omega) ⟨by omega, by omega⟩ (by omega) hd hlk
theorem lightR_n {C : Cx} {k : Nat} {i s : Int} {l r : T} (h : TS D w t mb C (.n k i s l r) lk) (ol : l.ok) (or : r.ok) (hb : 3 * (l.sz + 1) < r.sz + 1) (bl : l.sz ≤ 9000) (br : r.sz ≤ 9000) (hlk : 0 ≤ lk ∧ lk ≤ 4000000000000000000) {q : Nat} (hq : (lightR k i l r).p = some q) :
    Calls Try.prog 50 #[pt t 0, pt k 0, .int .i64 1] w fun e w' => e = .returned (pt q 0) ∧ ∃ lk', lk ≤ lk' ∧ lk' ≤ lk + 5 ∧ TS D w' t mb C (lightR k i l r) lk' ∧ Mk D w w' := by
  have hr0 := T.sz_nn l
  cases r with
  | e => simp only [T.sz] at hb; omega
  | n kk ii ss b a =>
    have ha0 := T.sz_nn a
    have hb0 := T.sz_nn b
    simp only [T.sz] at br
    unfold lightR at hq ⊢
    cases hd : decide (2 * (a.sz + 1) ≤ b.sz + 1) with
    | false =>
      simp only [hd] at hq ⊢
      cases hq
      exact lightS1 h or.2.2 or.2.1 ol (by omega) (by omega) (by omega) hd hlk
    | true =>
      cases b with
      | e => simp [T.sz] at hd; omega
      | n j jj js c z =>
        simp only [hd] at hq ⊢
        cases hq
        have hc0 := T.sz_nn c
        have hz0 := T.sz_nn z
        simp only [T.sz] at br hd
        exact lightD1 h or.2.2 or.2.1 ol (by omega) ⟨by omega, by omega⟩ (by omega) hd hlk
theorem heavy_L (hS : HS D w t mb R root lk) {k : Nat} {r : Rc} (hk : R k = some r) {a b : Int} (hl : szo R r.l a) (h0 : 0 ≤ a) (h1 : a ≤ 1000000) (hr : szo R r.r b) (h2 : 0 ≤ b) (h3 : b ≤ 1000000) (hx : decide (3 * (b + 1) < a + 1) = true) :
    Calls Try.prog 49 #[pt k 0] w fun e w' => e = .returned (.tuple #[.int .i64 0, .bool true]) ∧ Mo w w' := by
  have h := heavy_n hS hk hl h0 h1 hr h2 h3
  unfold hvy at h
  rw [hx, if_pos (of_decide_eq_true hx)] at h
  exact h
theorem heavy_R (hS : HS D w t mb R root lk) {k : Nat} {r : Rc} (hk : R k = some r) {a b : Int} (hl : szo R r.l a) (h0 : 0 ≤ a) (h1 : a ≤ 1000000) (hr : szo R r.r b) (h2 : 0 ≤ b) (h3 : b ≤ 1000000) (hx : decide (3 * (b + 1) < a + 1) = false) {v : Bool} (hy : decide (3 * (a + 1) < b + 1) = v) :
    Calls Try.prog 49 #[pt k 0] w fun e w' => e = .returned (.tuple #[.int .i64 1, .bool v]) ∧ Mo w w' := by
  have h := heavy_n hS hk hl h0 h1 hr h2 h3
  unfold hvy at h
  rw [hx, hy, if_neg (of_decide_eq_false hx)] at h
  exact h
theorem Rep.rt2 {R : Mp} {u : Option Nat} {tr : T} (h : Rep R u tr) {j : Nat} (e : tr.p = some j) : ∃ l r s i, R j = some ⟨u, l, r, s, i⟩ := by
  cases tr with
  | e => cases e
  | n k i s l r => cases e; exact ⟨_, _, _, _, h.1⟩
end
end Go.Proofs.Ytbmbldloeblbbaa

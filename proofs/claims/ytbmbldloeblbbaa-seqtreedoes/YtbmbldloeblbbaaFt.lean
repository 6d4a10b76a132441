/-
  The tree with its map; an id put in.
-/
import Derived.Test.YtbmbldloeblbbaaKv
import Derived.WalkArith
namespace Go.Proofs.Ytbmbldloeblbbaa
open Go.RowKit
theorem T.ht_le : ∀ tr : T, (tr.ht : Int) ≤ tr.sz
  | .e => Int.le_refl 0
  | .n _ _ _ l r => by
    have := T.ht_le l; have := T.ht_le r
    have := T.sz_nn l; have := T.sz_nn r
    unfold T.ht T.sz
    omega
/-- The tree with its map: all that is kept. -/
structure FT (D : Nat → Prop) (w : World) (t mb : Nat) (tr : T) (lk : Int) : Prop where
  ts : TS D w t mb [] tr lk
  om : OM w mb (adr tr.kv) tr.kv.length
  ok : tr.ok
  nd : tr.ids.Nodup
  rg : ∀ i ∈ tr.ids, 1 ≤ i ∧ i ≤ 9007199254740992
  le : tr.sz ≤ 1024
  l0 : 0 ≤ lk
theorem FT.mo {D : Nat → Prop} {w w' : World} {t mb : Nat} {tr : T} {lk : Int} (h : FT D w t mb tr lk) (m : Mo w w') : FT D w' t mb tr lk := ⟨h.ts.mo m, h.om.mo m, h.ok, h.nd, h.rg, h.le, h.l0⟩
/-- An id is put in at a place. -/
def Ins (tr : T) (at0 id : Int) (kn : Nat) (tr' : T) : Prop := ∃ C, plug C .e = tr ∧ ix C = at0 ∧ tr' = rebuild C (.n kn id 1 .e .e)
/-- An id is taken out. -/
def Del (tr : T) (i : Int) (at0 : Int) (tr' : T) : Prop := ∃ C k s l r, plug C (.n k i s l r) = tr ∧ at0 = l.sz + ix C ∧
  ((l = .e ∧ tr' = rebuild C r) ∨ (r = .e ∧ tr' = rebuild C l) ∨ l ≠ .e ∧ ∃ Ls kn i2 s2 b, plug Ls (.n kn i2 s2 .e b) = r ∧ (∀ g ∈ Ls, g.d = false) ∧ tr' = rebuild (Ls ++ (⟨k, i2, s, true, l⟩ : Fr) :: C) b)
theorem kv_nd {l : List (Int × Nat)} {A B : List (Int × Nat)} {id : Int} {k : Nat} (h : l = A ++ (id, k) :: B) (hn : (l.map (·.1)).Nodup) : id ∉ A.map (·.1) ∧ id ∉ (A ++ B).map (·.1) ∧ ((A ++ B).map (·.1)).Nodup := by
  subst h
  simp only [List.map_append, List.map_cons] at hn ⊢
  have h2 := List.perm_middle.nodup_iff.1 hn
  have h3 := List.nodup_cons.1 h2
  exact ⟨fun m => h3.1 (by simp [m]), by simpa using h3.1, h3.2⟩
theorem nd_ins {A B : List Int} {id : Int} (h : (A ++ B).Nodup) (hi : id ∉ A ++ B) : (A ++ id :: B).Nodup := List.perm_middle.nodup_iff.2 (List.nodup_cons.2 ⟨hi, h⟩)
section
variable {D : Nat → Prop} {w : World} {t mb : Nat} {lk : Int}
theorem put_f {tr : T} {at0 id : Int} (h : FT D w t mb tr lk) (hid : id ∉ tr.ids) (hr1 : 1 ≤ id) (hr2 : id ≤ 9007199254740992) (hsz : tr.sz < 1024) (h0 : 0 ≤ at0) (h1 : at0 ≤ tr.sz) (hlk : lk ≤ 3000000000000000000) :
    Calls Try.prog 33 #[pt t 0, .int .i64 at0, .int .i64 id] w fun e w' => e = .returned (.tuple #[]) ∧ ∃ kn tr' lk', Ins tr at0 id kn tr' ∧ FT (fun j => D j ∨ j = kn) w' t mb tr' lk' ∧ w.heap.size ≤ kn ∧ lk < lk' ∧ lk' ≤ lk + 10 * tr.ht + 1 ∧ Mk (fun j => D j ∨ j = mb) w w' := by
  have hh := tr.ht_le
  have hl := tr.kv_len
  have hl0 := h.l0
  have hno : adr tr.kv id = none := adr_none (by rw [T.kv_ids]; exact hid)
  refine (put_n h.ts h.om (by rw [hno]; rfl) (by omega) (WalkArith.wf_i64 ⟨by omega, by omega⟩) h.ok h0 h1 (by omega) ⟨hl0, by omega⟩ (by omega)).mono fun e w' hq => ?_
  obtain ⟨he, C, kn, lk', hp, hix, hoc, hkn, hk1, hk2, hk3, hT, hM, hK⟩ := hq
  refine ⟨he, kn, rebuild C (.n kn id 1 .e .e), lk', ⟨C, hp, hix, rfl⟩, ?_, hkn, by omega, by omega, hK⟩
  have e1 : tr.kv = preC C ++ posC C := by rw [← hp, plug_kv]; simp [T.kv]
  have e2 : (rebuild C (.n kn id 1 .e .e)).kv = preC C ++ (id, kn) :: posC C := by rw [rebuild_kv]; simp [T.kv]
  have ei : tr.ids = (preC C).map (·.1) ++ (posC C).map (·.1) := by rw [← T.kv_ids, e1, List.map_append]
  have ei2 : (rebuild C (.n kn id 1 .e .e)).ids = (preC C).map (·.1) ++ id :: (posC C).map (·.1) := by rw [← T.kv_ids, e2, List.map_append]; rfl
  refine ⟨hT, ?_, rebuild_ok C _ hoc ⟨by simp [T.sz], trivial, trivial⟩, ?_, ?_, ?_, by omega⟩
  · rw [e2, ← fu_ins (by intro m; exact hid (by rw [ei]; simp only [List.mem_append]; exact Or.inl m)), ← e1]
    have : (preC C ++ (id, kn) :: posC C).length = tr.kv.length + 1 := by rw [e1]; simp; omega
    rw [this]
    exact hM
  · rw [ei2]; rw [ei] at hid; exact nd_ins (by rw [← ei]; exact h.nd) hid
  · intro j hj
    rw [ei2] at hj
    have hg := h.rg j
    rw [ei] at hg
    simp only [List.mem_append, List.mem_cons] at hj hg
    rcases hj with hj | rfl | hj
    · exact hg (Or.inl hj)
    · exact ⟨hr1, hr2⟩
    · exact hg (Or.inr hj)
  · have h3 := (rebuild C (.n kn id 1 .e .e)).kv_len
    rw [e2] at h3
    rw [e1] at hl
    simp at h3 hl
    omega
end
end Go.Proofs.Ytbmbldloeblbbaa

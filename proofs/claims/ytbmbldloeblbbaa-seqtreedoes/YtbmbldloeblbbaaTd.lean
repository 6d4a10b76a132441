/-
  Where the tree lies: with what is above a place and what is at it.
-/
import Derived.Test.YtbmbldloeblbbaaSc
namespace Go.Proofs.Ytbmbldloeblbbaa
open Go.RowKit
theorem T.pm {t : T} {j : Nat} (h : t.p = some j) : j ∈ t.ad := by
  cases t with
  | e => cases h
  | n k i s l r => cases h; unfold T.ad; simp
theorem top_mem {C : Cx} {j : Nat} (h : top C = some j) : j ∈ adC C := by
  cases C with
  | nil => cases h
  | cons f C => cases h; unfold adC; simp
theorem Rep.rt {R : Mp} {u : Option Nat} {t : T} (h : Rep R u t) {j : Nat} (e : t.p = some j) : ∃ r, R j = some r := by
  cases t with
  | e => cases e
  | n k i s l r => cases e; exact ⟨_, h.1⟩
theorem szo_of {R : Mp} {u : Option Nat} {t : T} (h : Rep R u t) (hk : t.ok) : szo R t.p t.sz := by
  cases t with
  | e => rfl
  | n k i s l r => exact ⟨_, h.1, hk.1⟩
/-- The tree lies in the world; C: what is above the place, tr: what is at it. -/
def TS (D : Nat → Prop) (w : World) (t mb : Nat) (C : Cx) (tr : T) (lk : Int) : Prop :=
  ∃ R root, HS D w t mb R root lk ∧ RepC R root C tr.p ∧ Rep R (top C) tr ∧ (adC C ++ tr.ad).Nodup
theorem TS.mo {D : Nat → Prop} {w w' : World} {t mb : Nat} {C : Cx} {tr : T} {lk : Int} (h : TS D w t mb C tr lk) (m : Mo w w') : TS D w' t mb C tr lk := by
  obtain ⟨R, root, h1, h2⟩ := h; exact ⟨R, root, h1.mo m, h2⟩
section
variable {D : Nat → Prop} {w : World} {t mb : Nat} {R : Mp} {root : Option Nat} {lk : Int}
theorem side_c (hS : HS D w t mb R root lk) {C : Cx} {k : Nat} {rl rr : Option Nat} {rs ri : Int} (hC : RepC R root C (some k)) (hk : R k = some ⟨top C, rl, rr, rs, ri⟩) (hn : k ∉ adC C) :
    Calls Try.prog 41 #[pt k 0] w fun e w' => e = .returned (.int .i64 (if sideC C then 1 else 0)) ∧ Mo w w' := by
  cases C with
  | nil => exact side_0 hS hk
  | cons f C =>
    have h := side_k hS hk hC.1 (fun j e => by
      unfold Fr.rc at e
      cases hd : f.d with
      | true => rw [hd] at e; cases e; exact ⟨_, hk⟩
      | false => rw [hd] at e; exact hC.2.1.rt e)
    have e : (if (f.rc (top C) (some k)).r = some k then (1 : Int) else 0) = if sideC (f :: C) then 1 else 0 := by
      unfold Fr.rc sideC
      cases hd : f.d with
      | true => simp [hd]
      | false =>
        have : f.o.p ≠ some k := fun e => hn (by unfold adC; simp [T.pm e])
        simp [this, hd]
    rw [e] at h
    exact h
theorem nd_pos {C : Cx} {tr : T} (h : (adC C ++ tr.ad).Nodup) : (adC C).Nodup ∧ tr.ad.Nodup ∧ ∀ j ∈ adC C, j ∉ tr.ad := by
  rw [List.nodup_append] at h
  exact ⟨h.1, h.2.1, fun j a b => h.2.2 j a j b rfl⟩
theorem turnL {C : Cx} {k kk : Nat} {i s ii ss : Int} {a b r : T} (h : TS D w t mb C (.n k i s (.n kk ii ss a b) r) lk) (oa : a.ok) (ob : b.ok) (or : r.ok) (ba : a.sz ≤ 100000) (bb : b.sz ≤ 100000) (br : r.sz ≤ 100000) :
    Calls Try.prog 52 #[pt t 0, pt k 0, .int .i64 0] w fun e w' => e = .returned (pt kk 0) ∧ TS D w' t mb C (.n kk ii (1 + a.sz + (1 + b.sz + r.sz)) a (.n k i (1 + b.sz + r.sz) b r)) lk ∧ Mk D w w' := by
  obtain ⟨R, root, hS, hC, hR, hn⟩ := h
  obtain ⟨n1, n2, n3⟩ := nd_pos hn
  simp only [T.ad, List.nodup_cons, List.nodup_append, List.mem_cons, List.mem_append, List.cons_append, not_or] at n2 n3
  have hn0 := hn
  obtain ⟨⟨ne', ⟨nka, nkb⟩, nkr⟩, ⟨⟨nqa, nqb⟩, nqr⟩, ⟨na, nb, nab⟩, nr, nar⟩ := n2
  have ne : k ≠ kk := ne'
  obtain ⟨hk, ⟨hkk, ha, hb⟩, hr⟩ := hR
  have h0a := T.sz_nn a; have h0b := T.sz_nn b; have h0r := T.sz_nn r
  have hsd : ∀ {w : World}, HS D w t mb R root lk → Calls Try.prog 41 #[pt k 0] w fun e w' => e = .returned (.int .i64 (if sideC C then 1 else 0)) ∧ Mo w w' := fun hS => side_c hS hC hk (fun m => (n3 k m).1 rfl)
  refine (turn_0 hS (sideC C) hk hkk ne (fun e => (n3 k (top_mem e)).1 rfl) (fun e => (n3 kk (top_mem e)).2.1 rfl) (fun e => nkb (T.pm e)) (fun e => nqb (T.pm e)) (fun e => nka (T.pm e)) (fun {j} e q => (n3 j (top_mem e)).2.2.1.2 (T.pm q)) hsd
    (fun p e => by
      cases C with
      | nil => cases e
      | cons f C => cases e; exact ⟨_, hC.1⟩) (fun j e => hb.rt e) (szo_of hb ob) (szo_of ha oa) (szo_of hr or) ⟨h0b, bb⟩ ⟨h0a, ba⟩ ⟨h0r, br⟩).mono fun e w' hq => ?_
  obtain ⟨he, R', root', hS', er, hT, hM⟩ := hq
  refine ⟨he, ⟨R', root', hS', ?_, ⟨hT.hkk, Rep.same (fun j m => hT.ho j (fun e => nka (e ▸ m)) (fun e => nqa (e ▸ m)) (fun e => nab j m j (T.pm e) rfl) (fun e => (n3 j (top_mem e)).2.2.1.1 m)) ha, hT.hk, Rep.up hb nb (fun j q e hq => hT.hx j q e hq) (fun j m e => hT.ho j (fun q => nkb (q ▸ m)) (fun q => nqb (q ▸ m)) e (fun q => (n3 j (top_mem q)).2.2.1.2 m)), Rep.same (fun j m => hT.ho j (fun e => nkr (e ▸ m)) (fun e => nqr (e ▸ m)) (fun e => nar j (Or.inr (T.pm e)) j m rfl) (fun e => (n3 j (top_mem e)).2.2.2 m)) hr⟩, ?_⟩, hM⟩
  · rw [er]
    exact hC.hang n1 (fun j m e => hT.ho j (fun q => (n3 j m).1 q) (fun q => (n3 j m).2.1 q) (fun q => (n3 j m).2.2.1.2 (T.pm q)) e) (fun p q e hq => hT.hu p q e hq)
  · have hp0 := hn0
    have hp : List.Perm (T.ad (.n kk ii (1 + a.sz + (1 + b.sz + r.sz)) a (.n k i (1 + b.sz + r.sz) b r))) (T.ad (.n k i s (.n kk ii ss a b) r)) := by
      simp only [T.ad, List.cons_append]
      refine (List.Perm.cons kk List.perm_middle).trans ((List.Perm.swap k kk _).trans ?_)
      rw [List.append_assoc]
    exact (List.Perm.append_left _ hp).nodup_iff.2 hp0
theorem turnR {C : Cx} {k kk : Nat} {i s ii ss : Int} {a b r : T} (h : TS D w t mb C (.n k i s r (.n kk ii ss b a)) lk) (oa : a.ok) (ob : b.ok) (or : r.ok) (ba : a.sz ≤ 100000) (bb : b.sz ≤ 100000) (br : r.sz ≤ 100000) :
    Calls Try.prog 52 #[pt t 0, pt k 0, .int .i64 1] w fun e w' => e = .returned (pt kk 0) ∧ TS D w' t mb C (.n kk ii (1 + (1 + r.sz + b.sz) + a.sz) (.n k i (1 + r.sz + b.sz) r b) a) lk ∧ Mk D w w' := by
  obtain ⟨R, root, hS, hC, hR, hn⟩ := h
  obtain ⟨n1, n2, n3⟩ := nd_pos hn
  simp only [T.ad, List.nodup_cons, List.nodup_append, List.mem_cons, List.mem_append, not_or] at n2 n3
  have hn0 := hn
  obtain ⟨⟨nkr, ne, nkb, nka⟩, nr, ⟨⟨nqb, nqa⟩, nb, na, nba⟩, nrr⟩ := n2
  obtain ⟨hk, hr, hkk, hb, ha⟩ := hR
  have h0a := T.sz_nn a; have h0b := T.sz_nn b; have h0r := T.sz_nn r
  have hsd : ∀ {w : World}, HS D w t mb R root lk → Calls Try.prog 41 #[pt k 0] w fun e w' => e = .returned (.int .i64 (if sideC C then 1 else 0)) ∧ Mo w w' := fun hS => side_c hS hC hk (fun m => (n3 k m).1 rfl)
  refine (turn_1 hS (sideC C) hk hkk ne (fun e => (n3 k (top_mem e)).1 rfl) (fun e => (n3 kk (top_mem e)).2.2.1 rfl) (fun e => nkb (T.pm e)) (fun e => nqb (T.pm e)) (fun e => nka (T.pm e)) (fun {j} e q => (n3 j (top_mem e)).2.2.2.1 (T.pm q)) hsd
    (fun p e => by
      cases C with
      | nil => cases e
      | cons f C => cases e; exact ⟨_, hC.1⟩) (fun j e => hb.rt e) (szo_of hb ob) (szo_of ha oa) (szo_of hr or) ⟨h0b, bb⟩ ⟨h0a, ba⟩ ⟨h0r, br⟩).mono fun e w' hq => ?_
  obtain ⟨he, R', root', hS', er, hT, hM⟩ := hq
  refine ⟨he, ⟨R', root', hS', ?_, ⟨hT.hkk, ⟨hT.hk, Rep.same (fun j m => hT.ho j (fun e => nkr (e ▸ m)) (fun e => nrr j m kk (Or.inl rfl) e) (fun e => nrr j m j (Or.inr (Or.inl (T.pm e))) rfl) (fun e => (n3 j (top_mem e)).2.1 m)) hr, Rep.up hb nb (fun j q e hq => hT.hx j q e hq) (fun j m e => hT.ho j (fun q => nkb (q ▸ m)) (fun q => nqb (q ▸ m)) e (fun q => (n3 j (top_mem q)).2.2.2.1 m))⟩, Rep.same (fun j m => hT.ho j (fun e => nka (e ▸ m)) (fun e => nqa (e ▸ m)) (fun e => nba j (T.pm e) j m rfl) (fun e => (n3 j (top_mem e)).2.2.2.2 m)) ha⟩, ?_⟩, hM⟩
  · rw [er]
    exact hC.hang n1 (fun j m e => hT.ho j (fun q => (n3 j m).1 q) (fun q => (n3 j m).2.2.1 q) (fun q => (n3 j m).2.2.2.1 (T.pm q)) e) (fun p q e hq => hT.hu p q e hq)
  · have hp0 := hn0
    have hp : List.Perm (T.ad (.n kk ii (1 + (1 + r.sz + b.sz) + a.sz) (.n k i (1 + r.sz + b.sz) r b) a)) (T.ad (.n k i s r (.n kk ii ss b a))) := by
      simp only [T.ad, List.cons_append, List.append_assoc]
      exact (List.Perm.swap k kk _).trans (List.Perm.cons k List.perm_middle.symm)
    exact (List.Perm.append_left _ hp).nodup_iff.2 hp0
end
end Go.Proofs.Ytbmbldloeblbbaa

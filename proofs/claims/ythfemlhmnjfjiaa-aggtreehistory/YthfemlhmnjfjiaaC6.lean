/-
  A part of the proof.
-/
import Derived.Test.YthfemlhmnjfjiaaC5
import Derived.Test.YthfemlhmnjfjiaaC4
import Derived.Maps.OwnSet
import Derived.WalkArith
import Derived.Laws.MakeOwn
/-
 The tree as it lies, by its place; a turn at a place.
-/
namespace Go.Proofs.Ythfemlhmnjfjiaa
open Go.RowKit
namespace G
theorem T.pm {t : T} {j : Nat} (h : t.p = some j) : j ∈ t.ad := by
 cases t with
 | e => cases h
 | n k i s l r => cases h; unfold T.ad; simp
theorem top_mem {C : Cx} {j : Nat} (h : top C = some j) : j ∈ adC C := by
 cases C with
 | nil => cases h
 | cons f C => cases h; unfold adC; simp
theorem Rep.rt {sc : List Int} {R : Mp} {u : Option Nat} {t : T} (h : Rep sc R u t) {j : Nat} (e : t.p = some j) : ∃ r, R j = some r := by
 cases t with
 | e => cases e
 | n k i s l r => cases e; obtain ⟨h9, e9⟩ := h.1; exact ⟨_, e9⟩
theorem szo_of {sc : List Int} {R : Mp} {u : Option Nat} {t : T} (h : Rep sc R u t) (hk : t.ok) : szo R t.p t.sz := by
 cases t with
 | e => rfl
 | n k i s l r => obtain ⟨h9, e9⟩ := h.1; exact ⟨_, e9, hk.1⟩
structure RS (D : Nat → Prop) (w : World) (t : Nat) (mb : Hd) (C : Cx) (tr : T) (lk : Int) (R : Mp) (root : Option Nat) : Prop where
 hs : HS D w t mb R root lk
 ap : Ap R
 rc : RepC mb.sc R root C tr.p
 rp : Rep mb.sc R (top C) tr
 nd : (adC C ++ tr.ad).Nodup
def TS (D : Nat → Prop) (w : World) (t : Nat) (mb : Hd) (C : Cx) (tr : T) (lk : Int) : Prop := ∃ R root, RS D w t mb C tr lk R root
theorem TS.mo {D : Nat → Prop} {w w' : World} {t : Nat} {mb : Hd} {C : Cx} {tr : T} {lk : Int} (h : TS D w t mb C tr lk) (m : Mo w w') : TS D w' t mb C tr lk := by
 obtain ⟨R, root, h⟩ := h; exact ⟨R, root, h.hs.mo m, h.ap, h.rc, h.rp, h.nd⟩
theorem HS.hd {D : Nat → Prop} {w : World} {t : Nat} {mb : Hd} {M : Mp} {root : Option Nat} {lk : Int} (h : HS D w t mb M root lk) {k : Nat} {r : Rc} (e : M k = some r) : ∃ p n c, r.h = .slice p n c := by
 obtain ⟨p, c, h1, _⟩ := (h.ss k r e).1; exact ⟨p, _, c, h1⟩
def Py.ok (y : Py) : Prop := ∀ x ∈ y.vs, x.n.ok
theorem Py.ok.at {y : Py} (h : y.ok) (c : Nat) : (y.vs.getD c v0).n.ok := by
 rw [List.getD_eq_getElem?_getD]
 cases e : y.vs[c]? with
 | none => exact d0_ok
 | some x => exact h x (List.mem_of_getElem? e)
theorem Rep.oks {sc : List Int} {D : Nat → Prop} {w : World} {t : Nat} {mb : Hd} {R : Mp} {root : Option Nat} {lk : Int} (hS : HS D w t mb R root lk) : ∀ {tr : T} {u : Option Nat}, Rep sc R u tr → ∀ y ∈ tr.ids, y.ok
 | .e, _, _, y, hy => by cases hy
 | .n k i s l r, u, h, y, hy => by
  obtain ⟨h9, e9⟩ := h.1
  unfold T.ids at hy
  rcases List.mem_append.1 hy with hy | hy
  ·exact Rep.oks hS h.2.1 y hy
  ·rcases List.mem_cons.1 hy with rfl | hy
   ·exact (hS.sv k _ e9).2.2
   ·exact Rep.oks hS h.2.2 y hy
theorem col_gd {c : Nat} {s : Int} {L : List Py} (h : ∀ y ∈ L, y.ok) : Gd s (col c s L) := fold_gd _ (sm0_gd s) (fun T hT => by
 obtain ⟨y, hy, rfl⟩ := List.mem_map.1 hT
 exact (ofs_n _ ((h y hy).at c) s).2.1)
theorem col_mid {c : Nat} {s : Int} {A B : List Py} {y : Py} (hA : ∀ z ∈ A, z.ok) (hy : y.ok) (hB : ∀ z ∈ B, z.ok) : [col c s A, ofs (y.vs.getD c v0) s, col c s B].foldl jn sm0 = col c s (A ++ y :: B) := by
 have gm : ∀ {L : List Py}, (∀ z ∈ L, z.ok) → ∀ T ∈ L.map (fun y => ofs (y.vs.getD c v0) s), Gd s T := fun h T hT => by
  obtain ⟨z, hz, rfl⟩ := List.mem_map.1 hT
  exact (ofs_n _ ((h z hz).at c) s).2.1
 have gy := (ofs_n _ (hy.at c) s).2.1
 have ga := col_gd (c := c) (s := s) hA
 have gb := col_gd (c := c) (s := s) hB
 show jn (jn (jn sm0 (col c s A)) (ofs (y.vs.getD c v0) s)) (col c s B) = _
 rw [jn_0l ga, jn_assoc ga gy gb]
 unfold col
 rw [List.map_append, fold_cut _ _ (gm hA) (gm (L := y :: B) (fun z hz => by rcases List.mem_cons.1 hz with rfl | hz; exact hy; exact hB z hz))]
 congr 1
 have e := fold_cut (s := s) [ofs (y.vs.getD c v0) s] (B.map (fun y => ofs (y.vs.getD c v0) s)) (fun T hT => by rw [List.mem_singleton.1 hT]; exact gy) (gm hB)
 rw [List.map_cons, ← List.singleton_append, e]
 show _ = jn (jn sm0 _) _
 rw [jn_0l gy]
theorem agg_mid {sc : List Int} {A B : List Py} {y : Py} (hA : ∀ z ∈ A, z.ok) (hy : y.ok) (hB : ∀ z ∈ B, z.ok) : mds sc y (fun c => col c (sc.getD c 0) A) (fun c => col c (sc.getD c 0) B) = agg sc (A ++ y :: B) := by
 unfold mds agg
 exact List.map_congr_left (fun c _ => col_mid hA hy hB)
theorem agg_at {sc : List Int} {L : List Py} {c : Nat} (h : c < sc.length) : (agg sc L)[c]? = some (col c (sc.getD c 0) L) := by
 unfold agg; rw [List.getElem?_map, List.getElem?_range h]; rfl
theorem smo_of {sc : List Int} {R : Mp} {u : Option Nat} {tr : T} (h : Rep sc R u tr) {c : Nat} (hc : c < sc.length) : smo R tr.p c (col c (sc.getD c 0) tr.ids) := by
 cases tr with
 | e => rfl
 | n k i s l r => obtain ⟨h9, e9⟩ := h.1; exact ⟨_, e9, agg_at hc⟩
section
variable {D : Nat → Prop} {w : World} {t : Nat} {mb : Hd} {R : Mp} {root : Option Nat} {lk : Int}
theorem side_c (hS : HS D w t mb R root lk) {C : Cx} {k : Nat} {rl rr : Option Nat} {rs : Int} {ri : Py} {rh : Value} {rcc : List Sm} (hC : RepC mb.sc R root C (some k)) (hk : R k = some ⟨top C, rl, rr, rs, ri, rh, rcc⟩) (hn : k ∉ adC C) :
  Calls Try.prog 53 #[pt k 0] w fun e w' => e = .returned (.int .i64 (if sideC C then 1 else 0)) ∧ Mo w w' := by
 cases C with
 | nil => exact side_0 hS hk
 | cons f C =>
  obtain ⟨h9, c9, e9⟩ := hC.1
  have h := side_k hS hk e9 (fun j e => by
   unfold Fr.rc at e
   cases hd : f.d with
   | true => rw [hd] at e; cases e; exact ⟨_, hk⟩
   | false => rw [hd] at e; exact hC.2.1.rt e)
  have e : (if (f.rc (top C) (some k) h9 c9).r = some k then (1 : Int) else 0) = if sideC (f :: C) then 1 else 0 := by
   unfold Fr.rc sideC
   cases hd : f.d with
   | true => simp [hd]
   | false =>
    have : f.o.p ≠ some k := fun e => hn (by unfold adC; simp [T.pm e])
    simp [this, hd]
  rw [e] at h
  exact h
theorem nd_pos {C : Cx} {tr : T} (h : (adC C ++ tr.ad).Nodup) : (adC C).Nodup ∧ tr.ad.Nodup ∧ ∀ j ∈ adC C, j ∉ tr.ad := by
 rw [List.nodup_append] at h
 exact ⟨h.1, h.2.1, fun j a b => h.2.2 j a j b rfl⟩
theorem turnL {C : Cx} {k kk : Nat} {i ii : Py} {s ss : Int} {a b r : T} (h : RS D w t mb C (.n k i s (.n kk ii ss a b) r) lk R root) (_oa : a.ok) (ob : b.ok) (or : r.ok) (_ba : a.sz ≤ 100000) (bb : b.sz ≤ 100000) (br : r.sz ≤ 100000) (hss : s = 1 + (1 + a.sz + b.sz) + r.sz) :
  Calls Try.prog 73 #[pt t 0, pt k 0, .int .i64 0] w fun e w' => e = .returned (pt kk 0) ∧ (∃ R' root', RS D w' t mb C (.n kk ii (1 + a.sz + (1 + b.sz + r.sz)) a (.n k i (1 + b.sz + r.sz) b r)) lk R' root' ∧ ∀ p q, top C = some p → R p = some q → R' p = some ⟨q.u, if sideC C then q.l else some kk, if sideC C then some kk else q.r, q.s, q.i, q.h, q.c⟩) ∧ Mk D w w' := by
 obtain ⟨hS, hAp, hC, hR, hn⟩ := h
 have hoks := Rep.oks hS hR
 obtain ⟨n1, n2, n3⟩ := nd_pos hn
 simp only [T.ad, List.nodup_cons, List.nodup_append, List.mem_cons, List.mem_append, List.cons_append, not_or] at n2 n3
 have hn0 := hn
 obtain ⟨⟨ne', ⟨nka, nkb⟩, nkr⟩, ⟨⟨nqa, nqb⟩, nqr⟩, ⟨na, nb, nab⟩, nr, nar⟩ := n2
 have ne : k ≠ kk := ne'
 obtain ⟨⟨hd1, hk⟩, ⟨⟨hd2, hkk⟩, ha, hb⟩, hr⟩ := hR
 have h0a := T.sz_nn a; have h0b := T.sz_nn b; have h0r := T.sz_nn r
 have e1 : ∃ p n c, hd1 = .slice p n c := hS.hd hk
 obtain ⟨pk, nk, ck, rfl⟩ := e1
 have e2 : ∃ p n c, hd2 = .slice p n c := hS.hd hkk
 obtain ⟨pq, nq, cq, rfl⟩ := e2
 have hsd : ∀ {w : World}, HS D w t mb R root lk → Calls Try.prog 53 #[pt k 0] w fun e w' => e = .returned (.int .i64 (if sideC C then 1 else 0)) ∧ Mo w w' := fun hS => side_c hS hC hk (fun m => (n3 k m).1 rfl)
 refine (turn_0 hS hAp (sideC C) hk hkk ne (fun e => (n3 k (top_mem e)).1 rfl) (fun e => (n3 kk (top_mem e)).2.1 rfl) (fun e => nkb (T.pm e)) (fun e => nqb (T.pm e)) (fun e => nkr (T.pm e)) (fun e => nqr (T.pm e)) (fun {j} e q => (n3 j (top_mem e)).2.2.1.2 (T.pm q)) hsd
  (fun p e => by
   cases C with
   | nil => cases e
   | cons f C => cases e; obtain ⟨h9, c9, e9⟩ := hC.1; exact ⟨_, e9⟩) (fun j e => hb.rt e) (szo_of hb ob) (szo_of hr or) ⟨h0b, bb⟩ ⟨h0r, br⟩ (fun c hc => smo_of hb hc) (fun c hc => smo_of hr hc)).mono fun e w' hq => ?_
 obtain ⟨he, R', root', hS', er, hT, hM⟩ := hq
 refine ⟨he, ⟨R', root', ⟨hS', hT.ap, ?_, ⟨⟨.slice pk nk ck, hT.hkk.trans (congrArg some ?_)⟩, Rep.same (fun j m => hT.ho j (fun e => nka (e ▸ m)) (fun e => nqa (e ▸ m)) (fun e => nab j m j (T.pm e) rfl) (fun e => (n3 j (top_mem e)).2.2.1.1 m)) ha, ⟨.slice pq nq cq, hT.hk.trans (congrArg some ?_)⟩, Rep.up hb nb (fun j q e hq => hT.hx j q e hq) (fun j m e => hT.ho j (fun q => nkb (q ▸ m)) (fun q => nqb (q ▸ m)) e (fun q => (n3 j (top_mem q)).2.2.1.2 m)), Rep.same (fun j m => hT.ho j (fun e => nkr (e ▸ m)) (fun e => nqr (e ▸ m)) (fun e => nar j (Or.inr (T.pm e)) j m rfl) (fun e => (n3 j (top_mem e)).2.2.2 m)) hr⟩, ?_⟩, hT.hu⟩, hM⟩
 ·rw [er]
  exact hC.hang n1 (fun j m e => hT.ho j (fun q => (n3 j m).1 q) (fun q => (n3 j m).2.1 q) (fun q => (n3 j m).2.2.1.2 (T.pm q)) e) (fun p q e hq => hT.hu p q e hq)
 ·show Rc.mk _ _ _ _ _ _ _ = Rc.mk _ _ _ _ _ _ _
  congr 1
  ·omega
  ·show agg mb.sc ((a.ids ++ ii :: b.ids) ++ i :: r.ids) = agg mb.sc (a.ids ++ ii :: (b.ids ++ i :: r.ids))
   rw [List.append_assoc, List.cons_append]
 ·show Rc.mk _ _ _ _ _ _ _ = Rc.mk _ _ _ _ _ _ _
  congr 1
  exact agg_mid (fun y hy => hoks y (by simp [T.ids, hy])) (hoks i (by simp [T.ids])) (fun y hy => hoks y (by simp [T.ids, hy]))
 ·have hp0 := hn0
  have hp : List.Perm (T.ad (.n kk ii (1 + a.sz + (1 + b.sz + r.sz)) a (.n k i (1 + b.sz + r.sz) b r))) (T.ad (.n k i s (.n kk ii ss a b) r)) := by
   simp only [T.ad, List.cons_append]
   refine (List.Perm.cons kk List.perm_middle).trans ((List.Perm.swap k kk _).trans ?_)
   rw [List.append_assoc]
  exact (List.Perm.append_left _ hp).nodup_iff.2 hp0
theorem turnR {C : Cx} {k kk : Nat} {i ii : Py} {s ss : Int} {a b r : T} (h : RS D w t mb C (.n k i s r (.n kk ii ss b a)) lk R root) (_oa : a.ok) (ob : b.ok) (or : r.ok) (_ba : a.sz ≤ 100000) (bb : b.sz ≤ 100000) (br : r.sz ≤ 100000) (hss : s = 1 + (1 + a.sz + b.sz) + r.sz) :
  Calls Try.prog 73 #[pt t 0, pt k 0, .int .i64 1] w fun e w' => e = .returned (pt kk 0) ∧ (∃ R' root', RS D w' t mb C (.n kk ii (1 + (1 + r.sz + b.sz) + a.sz) (.n k i (1 + r.sz + b.sz) r b) a) lk R' root' ∧ ∀ p q, top C = some p → R p = some q → R' p = some ⟨q.u, if sideC C then q.l else some kk, if sideC C then some kk else q.r, q.s, q.i, q.h, q.c⟩) ∧ Mk D w w' := by
 obtain ⟨hS, hAp, hC, hR, hn⟩ := h
 have hoks := Rep.oks hS hR
 obtain ⟨n1, n2, n3⟩ := nd_pos hn
 simp only [T.ad, List.nodup_cons, List.nodup_append, List.mem_cons, List.mem_append, not_or] at n2 n3
 have hn0 := hn
 obtain ⟨⟨nkr, ne, nkb, nka⟩, nr, ⟨⟨nqb, nqa⟩, nb, na, nba⟩, nrr⟩ := n2
 obtain ⟨⟨hd1, hk⟩, hr, ⟨hd2, hkk⟩, hb, ha⟩ := hR
 have h0a := T.sz_nn a; have h0b := T.sz_nn b; have h0r := T.sz_nn r
 have e1 : ∃ p n c, hd1 = .slice p n c := hS.hd hk
 obtain ⟨pk, nk, ck, rfl⟩ := e1
 have e2 : ∃ p n c, hd2 = .slice p n c := hS.hd hkk
 obtain ⟨pq, nq, cq, rfl⟩ := e2
 have hsd : ∀ {w : World}, HS D w t mb R root lk → Calls Try.prog 53 #[pt k 0] w fun e w' => e = .returned (.int .i64 (if sideC C then 1 else 0)) ∧ Mo w w' := fun hS => side_c hS hC hk (fun m => (n3 k m).1 rfl)
 refine (turn_1 hS hAp (sideC C) hk hkk ne (fun e => (n3 k (top_mem e)).1 rfl) (fun e => (n3 kk (top_mem e)).2.2.1 rfl) (fun e => nkb (T.pm e)) (fun e => nqb (T.pm e)) (fun e => nkr (T.pm e)) (fun e => nrr kk (T.pm e) kk (Or.inl rfl) rfl) (fun {j} e q => (n3 j (top_mem e)).2.2.2.1 (T.pm q)) hsd
  (fun p e => by
   cases C with
   | nil => cases e
   | cons f C => cases e; obtain ⟨h9, c9, e9⟩ := hC.1; exact ⟨_, e9⟩) (fun j e => hb.rt e) (szo_of hb ob) (szo_of hr or) ⟨h0b, bb⟩ ⟨h0r, br⟩ (fun c hc => smo_of hb hc) (fun c hc => smo_of hr hc)).mono fun e w' hq => ?_
 obtain ⟨he, R', root', hS', er, hT, hM⟩ := hq
 refine ⟨he, ⟨R', root', ⟨hS', hT.ap, ?_, ⟨⟨.slice pk nk ck, hT.hkk.trans (congrArg some ?_)⟩, ⟨⟨.slice pq nq cq, hT.hk.trans (congrArg some ?_)⟩, Rep.same (fun j m => hT.ho j (fun e => nkr (e ▸ m)) (fun e => nrr j m kk (Or.inl rfl) e) (fun e => nrr j m j (Or.inr (Or.inl (T.pm e))) rfl) (fun e => (n3 j (top_mem e)).2.1 m)) hr, Rep.up hb nb (fun j q e hq => hT.hx j q e hq) (fun j m e => hT.ho j (fun q => nkb (q ▸ m)) (fun q => nqb (q ▸ m)) e (fun q => (n3 j (top_mem q)).2.2.2.1 m))⟩, Rep.same (fun j m => hT.ho j (fun e => nka (e ▸ m)) (fun e => nqa (e ▸ m)) (fun e => nba j (T.pm e) j m rfl) (fun e => (n3 j (top_mem e)).2.2.2.2 m)) ha⟩, ?_⟩, hT.hu⟩, hM⟩
 ·rw [er]
  exact hC.hang n1 (fun j m e => hT.ho j (fun q => (n3 j m).1 q) (fun q => (n3 j m).2.2.1 q) (fun q => (n3 j m).2.2.2.1 (T.pm q)) e) (fun p q e hq => hT.hu p q e hq)
 ·show Rc.mk _ _ _ _ _ _ _ = Rc.mk _ _ _ _ _ _ _
  congr 1
  ·omega
  ·show agg mb.sc (r.ids ++ i :: (b.ids ++ ii :: a.ids)) = agg mb.sc ((r.ids ++ i :: b.ids) ++ ii :: a.ids)
   rw [List.append_assoc, List.cons_append]
 ·show Rc.mk _ _ _ _ _ _ _ = Rc.mk _ _ _ _ _ _ _
  congr 1
  exact agg_mid (fun y hy => hoks y (by simp [T.ids, hy])) (hoks i (by simp [T.ids])) (fun y hy => hoks y (by simp [T.ids, hy]))
 ·have hp0 := hn0
  have hp : List.Perm (T.ad (.n kk ii (1 + (1 + r.sz + b.sz) + a.sz) (.n k i (1 + r.sz + b.sz) r b) a)) (T.ad (.n k i s r (.n kk ii ss b a))) := by
   simp only [T.ad, List.cons_append, List.append_assoc]
   exact (List.Perm.swap k kk _).trans (List.Perm.cons k List.perm_middle.symm)
  exact (List.Perm.append_left _ hp).nodup_iff.2 hp0
end
section
variable {D : Nat → Prop} {w : World} {t : Nat} {mb : Hd} {R : Mp} {root : Option Nat} {lk : Int}
theorem Fr.jn_ad (f : Fr) (tr : T) : List.Perm (f.jn tr).ad (f.k :: (f.o.ad ++ tr.ad)) := by
 unfold Fr.jn
 cases f.d with
 | true => exact List.Perm.refl _
 | false => exact List.Perm.cons _ List.perm_append_comm
theorem ad_up (f : Fr) (C : Cx) (tr : T) : List.Perm (adC (f :: C) ++ tr.ad) (adC C ++ (f.jn tr).ad) := by
 have e : adC (f :: C) = f.k :: (f.o.ad ++ adC C) := rfl
 rw [e]
 refine List.Perm.trans ?_ (List.Perm.append_left _ (f.jn_ad tr).symm)
 refine List.Perm.trans ?_ List.perm_middle.symm
 rw [List.cons_append]
 refine List.Perm.cons _ ?_
 rw [← List.append_assoc]
 exact List.Perm.append_right _ List.perm_append_comm
theorem Fr.jn_p (f : Fr) (tr : T) : (f.jn tr).p = some f.k := by unfold Fr.jn; cases f.d <;> rfl
theorem RS.up {f : Fr} {C : Cx} {tr : T} (h : RS D w t mb (f :: C) tr lk R root) (hc : ∃ h, R f.k = some (f.rc (top C) tr.p h (agg mb.sc (f.jn tr).ids))) : RS D w t mb C (f.jn tr) lk R root := by
 obtain ⟨hS, hA, hC, hR, hn⟩ := h
 refine ⟨hS, hA, by rw [f.jn_p]; exact hC.2.2, ?_, (ad_up f C tr).nodup_iff.1 hn⟩
 unfold Fr.rc at hc
 unfold Fr.jn at hc ⊢
 cases hd : f.d with
 | true => rw [hd] at hc; exact ⟨hc, hC.2.1, hR⟩
 | false => rw [hd] at hc; exact ⟨hc, hR, hC.2.1⟩
theorem RS.dn {f : Fr} {C : Cx} {tr : T} (h : RS D w t mb C (f.jn tr) lk R root) : RS D w t mb (f :: C) tr lk R root ∧ ∃ h, R f.k = some (f.rc (top C) tr.p h (agg mb.sc (f.jn tr).ids)) := by
 obtain ⟨hS, hA, hC, hR, hn⟩ := h
 rw [f.jn_p] at hC
 have hc : ∃ h, R f.k = some (f.rc (top C) tr.p h (agg mb.sc (f.jn tr).ids)) := by
  unfold Fr.rc
  unfold Fr.jn at hR ⊢
  cases hd : f.d with
  | true => rw [hd] at hR; exact hR.1
  | false => rw [hd] at hR; exact hR.1
 refine ⟨⟨hS, hA, ⟨hc.imp fun _ e => ⟨_, e⟩, ?_, hC⟩, ?_, (ad_up f C tr).nodup_iff.2 hn⟩, hc⟩
 ·unfold Fr.jn at hR
  cases hd : f.d with
  | true => rw [hd] at hR; exact hR.2.1
  | false => rw [hd] at hR; exact hR.2.2
 ·unfold Fr.jn at hR
  cases hd : f.d with
  | true => rw [hd] at hR; exact hR.2.2
  | false => rw [hd] at hR; exact hR.2.1
end
end G
end Go.Proofs.Ythfemlhmnjfjiaa
/-
 The tree's lighten: a single or a double turn.
-/
namespace Go.Proofs.Ythfemlhmnjfjiaa
open Go.RowKit
namespace G
section
variable {D : Nat → Prop} {w : World} {t : Nat} {mb : Hd} {lk : Int}
theorem lightS0 {C : Cx} {k kk : Nat} {i ii : Py} {s ss : Int} {a b r : T} (h : TS D w t mb C (.n k i s (.n kk ii ss a b) r) lk) (oa : a.ok) (ob : b.ok) (or : r.ok) (ba : a.sz ≤ 10000) (bb : b.sz ≤ 10000) (br : r.sz ≤ 10000) (hge : decide (2 * (a.sz + 1) ≤ b.sz + 1) = false) (hss : s = 1 + (1 + a.sz + b.sz) + r.sz) (hlk : 0 ≤ lk ∧ lk ≤ 4000000000000000000) :
  Calls Try.prog 61 #[pt t 0, pt k 0, .int .i64 0] w fun e w' => e = .returned (pt kk 0) ∧ ∃ lk', lk ≤ lk' ∧ lk' ≤ lk + 5 ∧ TS D w' t mb C (.n kk ii (1 + a.sz + (1 + b.sz + r.sz)) a (.n k i (1 + b.sz + r.sz) b r)) lk' ∧ Mk D w w' := by
 obtain ⟨R, root, hS, hAp, hC, hR, hn⟩ := h
 have hR0 := hR
 obtain ⟨⟨hd1, hk⟩, ⟨⟨hd2, hkk⟩, ha, hb⟩, hr⟩ := hR
 have hR := hR0
 have h0a := T.sz_nn a; have h0r := T.sz_nn r; have h0b := T.sz_nn b
 refine w_enter 66 Try.func61 Try.ntmps61 rfl rfl ?_
 have M : Mk D w w := Mk.refl _ _
 refine w_seq (w_reg ?_)
 refine wl_m (.const (.pointer none)) (pp none) ?_
 refine w_nil (xn_then (w_seq (w_reg ?_)))
 refine wl_m (.tmp 1) (pt k 0) ?_
 refine wl_m (.tmp 2) (.int .i64 (0)) ?_
 refine wl_nc (.tmp 10) k 0 rfl rfl rfl ?_
 refine wl_f 93 2 (.tmp 12) (pt k 0) (pt k 3) ?_
 refine wl_bin (fun x y => Instr.indexAt 91 x y) (.tmp 13) (.tmp 11) (pt k 3) (.int .i64 (0)) (pt k 3) (fun _ => rfl) rfl rfl (by kernel_rfl) rfl ?_
 refine wl_l 65 (.tmp 14) (pt k 3) (pt kk 0) (run_one (hS.rc k _ hk) 65 3 rfl Try.underlying65 rfl) ?_
 refine wl_m (.tmp 15) (pt kk 0) ?_
 refine w_nil (xn_then (w_seq ?_))
 refine w_any 14 [.inl (pt kk 0), .inl (.int .i64 (0)), .inl (.int .i64 (1)), .inl (pt kk 0), .inl (pt kk 3), .inl (pt kk 4), .inl (pp b.p), .inl (pt kk 0), .inl (.int .i64 (0)), .inl (pt kk 0), .inl (pt kk 3), .inl (pt kk 3), .inl (pp a.p), .inl (pp b.p)] [] (by kernel_rfl) (by kernel_rfl) (by kernel_rfl) (by kernel_rfl) rfl (by kernel_rfl) (by kernel_rfl) late_nil ?_ ?_ ?_
 ·exact Ds.none rfl
 ·refine ea_cons ?_ (ea_cons ?_ (ea_cons ?_ (ea_cons ?_ (ea_cons ?_ (ea_cons ?_ (ea_cons ?_ (ea_cons ?_ (ea_cons ?_ (ea_cons ?_ (ea_cons ?_ (ea_cons ?_ (ea_cons ?_ (ea_cons ?_ (ea_nil))))))))))))))
  ·exact og_eq _ rfl (fun f wf hq hd K hK => go_run rfl (wo_mv (.tmp 7) (pt kk 0) (fun _ => rfl) rfl (hK _ (Mo.refl _))))
  ·exact og_eq _ rfl (fun f wf hq hd K hK => go_run rfl (wo_mv (.tmp 2) (.int .i64 (0)) (fun _ => rfl) rfl (hK _ (Mo.refl _))))
  ·exact og_eq _ rfl (fun f wf hq hd K hK => go_run rfl (wo_bin (fun x y => do eqGuard .sub 3 (.const (.int .i64 (1))) (.tmp 17) x y; binOp .sub 3 x y) (.const (.int .i64 (1))) (.tmp 17) (.int .i64 (1)) (.int .i64 (0)) (.int .i64 (1)) (fun _ => rfl) rfl (hd 1 rfl) (subI (a := 1) (b := 0) (by decide) (by decide) _ _ _) (hK _ (Mo.refl _))))
  ·exact og_eq _ rfl (fun f wf hq hd K hK => go_run rfl (wo_nc (.tmp 16) kk 0 rfl (hd 0 rfl) (hK _ (Mo.refl _))))
  ·exact og_eq _ rfl (fun f wf hq hd K hK => go_run rfl (wo_un (fun v => Instr.fieldAt 93 v 2) (.tmp 19) (pt kk 0) (pt kk 3) (fun _ => rfl) (hd 3 rfl) (by kernel_rfl) (hK _ (Mo.refl _))))
  ·exact og_eq _ rfl (fun f wf hq hd K hK => go_run rfl (wo_bin (fun x y => Instr.indexAt 91 x y) (.tmp 20) (.tmp 18) (pt kk 3) (.int .i64 (1)) (pt kk 4) (fun _ => rfl) (hd 4 rfl) (hd 2 rfl) (by kernel_rfl) (hK _ (Mo.refl _))))
  ·exact og_eq _ rfl (fun f wf hq hd K hK => have hS := hS.mo hq; go_run rfl (wo_load 65 (.tmp 21) (pt kk 4) (pp b.p) rfl (hd 5 rfl) (run_one (hS.rc kk _ hkk) 65 4 rfl Try.underlying65 rfl) (hK _ (Mo.refl _))))
  ·exact og_eq _ rfl (fun f wf hq hd K hK => go_run rfl (wo_mv (.tmp 7) (pt kk 0) (fun _ => rfl) rfl (hK _ (Mo.refl _))))
  ·exact og_eq _ rfl (fun f wf hq hd K hK => go_run rfl (wo_mv (.tmp 2) (.int .i64 (0)) (fun _ => rfl) rfl (hK _ (Mo.refl _))))
  ·exact og_eq _ rfl (fun f wf hq hd K hK => go_run rfl (wo_nc (.tmp 23) kk 0 rfl (hd 7 rfl) (hK _ (Mo.refl _))))
  ·exact og_eq _ rfl (fun f wf hq hd K hK => go_run rfl (wo_un (fun v => Instr.fieldAt 93 v 2) (.tmp 25) (pt kk 0) (pt kk 3) (fun _ => rfl) (hd 9 rfl) (by kernel_rfl) (hK _ (Mo.refl _))))
  ·exact og_eq _ rfl (fun f wf hq hd K hK => go_run rfl (wo_bin (fun x y => Instr.indexAt 91 x y) (.tmp 26) (.tmp 24) (pt kk 3) (.int .i64 (0)) (pt kk 3) (fun _ => rfl) (hd 10 rfl) (hd 8 rfl) (by kernel_rfl) (hK _ (Mo.refl _))))
  ·exact og_eq _ rfl (fun f wf hq hd K hK => have hS := hS.mo hq; go_run rfl (wo_load 65 (.tmp 27) (pt kk 3) (pp a.p) rfl (hd 11 rfl) (run_one (hS.rc kk _ hkk) 65 3 rfl Try.underlying65 rfl) (hK _ (Mo.refl _))))
  ·exact og_eq _ rfl (fun f wf hq hd K hK => go_run rfl (wo_mv (.tmp 22) (pp b.p) (fun _ => rfl) (hd 6 rfl) (hK _ (Mo.refl _))))
 intro kf1 w1 hq _ _
 replace hS := hS.mo hq
 replace M := M.trans hq
 clear hq
 refine wl_m (.tmp 28) (pp a.p) ?_
 refine w_nil (xn_then (w_seq (w_reg ?_)))
 refine wl_m (.tmp 0) (pt t 0) ?_
 refine wl_m (.tmp 1) (pt k 0) ?_
 refine wl_nc (.tmp 30) k 0 rfl rfl rfl ?_
 refine wl_f 93 1 (.tmp 31) (pt k 0) (pt k 2) ?_
 refine wl_l 65 (.tmp 32) (pt k 2) (pp (top C)) (run_one (hS.rc k _ hk) 65 2 rfl Try.underlying65 rfl) ?_
 refine wl_m (.tmp 8) (pp b.p) ?_
 refine wl_m (.tmp 9) (pp a.p) ?_
 refine wl_bsl [(0, (.tmp 33)), (1, (.tmp 34)), (2, (.tmp 35))] [pp (top C), pp b.p, pp a.p] 3 rfl rfl (bs3 (top C) b.p a.p) rfl ?_
 intro g1 w2 hk hz hq Q1
 have nd_g1 : ¬ D g1 := fun e => by have := hS.lt e; omega
 replace hS := hS.mo hq
 replace M := M.trans hq
 clear hk hz hq
 refine wl_callg 34 [(.tmp 29), (.tmp 36)] _ [pt t 0, .slice (some ⟨g1, 0, none⟩) 3 3] (.tuple #[]) rfl rfl (fun _ _ => by kernel_rfl) (look_n [(top C), b.p, a.p] g1 hS Q1 nd_g1 (by simp only [List.length_cons, List.length_nil]; omega)) rfl ?_
 intro w3 hF
 have hc1 := cnt_le [(top C), b.p, a.p]
 simp only [List.length_cons, List.length_nil] at hc1
 obtain ⟨hS2, hM2⟩ := hF
 replace hS := hS2
 replace M := M.same hM2
 clear hS2 hM2 Q1 nd_g1
 refine w_nil (xn_then (w_seq (w_seq (w_reg ?_))))
 refine wl_m (.tmp 8) (pp b.p) ?_
 refine wl_call 72 [(.tmp 38)] _ [pp b.p] (.int .i64 (b.sz + 1)) rfl rfl (fun _ _ => by kernel_rfl) (weight_o hS (szo_of hb ob) h0b (by omega)) rfl ?_
 intro w4 hq
 replace hS := hS.mo hq
 replace M := M.trans hq
 clear hq
 refine wl_m (.tmp 9) (pp a.p) ?_
 refine wl_call 72 [(.tmp 40)] _ [pp a.p] (.int .i64 (a.sz + 1)) rfl rfl (fun _ _ => by kernel_rfl) (weight_o hS (szo_of ha oa) h0a (by omega)) rfl ?_
 intro w5 hq
 replace hS := hS.mo hq
 replace M := M.trans hq
 clear hq
 refine wl_b .mul 3 (.const (.int .i64 (2))) (.tmp 41) (.int .i64 (2)) (.int .i64 (a.sz + 1)) (.int .i64 (2 * (a.sz + 1))) (mulI (by omega) (by omega) _ _ _) ?_
 refine wl_b .geq 3 (.tmp 39) (.tmp 42) (.int .i64 (b.sz + 1)) (.int .i64 (2 * (a.sz + 1))) (.bool false) (geI hge _ _ _) ?_
 refine w_nil (xn_then (w_condF rfl (w_skip (xn_then (w_seq (w_reg ?_))))))
 refine wl_m (.tmp 0) (pt t 0) ?_
 refine wl_m (.tmp 1) (pt k 0) ?_
 refine wl_m (.tmp 2) (.int .i64 (0)) ?_
 refine wl_callg 73 [(.tmp 62), (.tmp 63), (.tmp 64)] _ [pt t 0, pt k 0, .int .i64 (0)] (pt kk 0) rfl rfl (fun _ _ => by kernel_rfl) (turnL (R := R) (root := root) ⟨hS, hAp, hC, hR, hn⟩ oa ob or (by omega) (by omega) (by omega) (by omega)) rfl ?_
 intro w6 hF
 obtain ⟨⟨R9, root9, hT, _⟩, hM2⟩ := hF
 replace M := M.same hM2
 clear hM2
 refine wl_m (.tmp 65) (pt kk 0) ?_
 refine w_nil (xn_then (w_ret ?_))
 exact w_ret1 _ (pt kk 0) rfl rfl ⟨rfl, ((lk) + cnt [(top C), b.p, a.p]), by omega, by omega, ⟨_, _, hT⟩, M⟩
theorem lightD0 {C : Cx} {k kk j : Nat} {i ii jj : Py} {s ss js : Int} {a c z r : T} (h : TS D w t mb C (.n k i s (.n kk ii ss a (.n j jj js c z)) r) lk) (oa : a.ok) (ob : (T.n j jj js c z).ok) (or : r.ok) (ba : a.sz ≤ 10000) (bb : c.sz ≤ 10000 ∧ z.sz ≤ 10000) (br : r.sz ≤ 10000) (hge : decide (2 * (a.sz + 1) ≤ (1 + c.sz + z.sz) + 1) = true) (hss : s = 1 + (1 + a.sz + (1 + c.sz + z.sz)) + r.sz) (hkss : ss = 1 + a.sz + (1 + c.sz + z.sz)) (hlk : 0 ≤ lk ∧ lk ≤ 4000000000000000000) :
  Calls Try.prog 61 #[pt t 0, pt k 0, .int .i64 0] w fun e w' => e = .returned (pt j 0) ∧ ∃ lk', lk ≤ lk' ∧ lk' ≤ lk + 5 ∧ TS D w' t mb C (.n j jj (1 + (1 + a.sz + c.sz) + (1 + z.sz + r.sz)) (.n kk ii (1 + a.sz + c.sz) a c) (.n k i (1 + z.sz + r.sz) z r)) lk' ∧ Mk D w w' := by
 obtain ⟨R, root, hS, hAp, hC, hR, hn⟩ := h
 have hR0 := hR
 obtain ⟨⟨hd1, hk⟩, ⟨⟨hd2, hkk⟩, ha, ⟨hd3, hj⟩, hcc, hz⟩, hr⟩ := hR
 have hR := hR0
 have h0a := T.sz_nn a; have h0r := T.sz_nn r; have h0c := T.sz_nn c; have h0z := T.sz_nn z
 refine w_enter 66 Try.func61 Try.ntmps61 rfl rfl ?_
 have M : Mk D w w := Mk.refl _ _
 refine w_seq (w_reg ?_)
 refine wl_m (.const (.pointer none)) (pp none) ?_
 refine w_nil (xn_then (w_seq (w_reg ?_)))
 refine wl_m (.tmp 1) (pt k 0) ?_
 refine wl_m (.tmp 2) (.int .i64 (0)) ?_
 refine wl_nc (.tmp 10) k 0 rfl rfl rfl ?_
 refine wl_f 93 2 (.tmp 12) (pt k 0) (pt k 3) ?_
 refine wl_bin (fun x y => Instr.indexAt 91 x y) (.tmp 13) (.tmp 11) (pt k 3) (.int .i64 (0)) (pt k 3) (fun _ => rfl) rfl rfl (by kernel_rfl) rfl ?_
 refine wl_l 65 (.tmp 14) (pt k 3) (pt kk 0) (run_one (hS.rc k _ hk) 65 3 rfl Try.underlying65 rfl) ?_
 refine wl_m (.tmp 15) (pt kk 0) ?_
 refine w_nil (xn_then (w_seq ?_))
 refine w_any 14 [.inl (pt kk 0), .inl (.int .i64 (0)), .inl (.int .i64 (1)), .inl (pt kk 0), .inl (pt kk 3), .inl (pt kk 4), .inl (pt j 0), .inl (pt kk 0), .inl (.int .i64 (0)), .inl (pt kk 0), .inl (pt kk 3), .inl (pt kk 3), .inl (pp a.p), .inl (pt j 0)] [] (by kernel_rfl) (by kernel_rfl) (by kernel_rfl) (by kernel_rfl) rfl (by kernel_rfl) (by kernel_rfl) late_nil ?_ ?_ ?_
 ·exact Ds.none rfl
 ·refine ea_cons ?_ (ea_cons ?_ (ea_cons ?_ (ea_cons ?_ (ea_cons ?_ (ea_cons ?_ (ea_cons ?_ (ea_cons ?_ (ea_cons ?_ (ea_cons ?_ (ea_cons ?_ (ea_cons ?_ (ea_cons ?_ (ea_cons ?_ (ea_nil))))))))))))))
  ·exact og_eq _ rfl (fun f wf hq hd K hK => go_run rfl (wo_mv (.tmp 7) (pt kk 0) (fun _ => rfl) rfl (hK _ (Mo.refl _))))
  ·exact og_eq _ rfl (fun f wf hq hd K hK => go_run rfl (wo_mv (.tmp 2) (.int .i64 (0)) (fun _ => rfl) rfl (hK _ (Mo.refl _))))
  ·exact og_eq _ rfl (fun f wf hq hd K hK => go_run rfl (wo_bin (fun x y => do eqGuard .sub 3 (.const (.int .i64 (1))) (.tmp 17) x y; binOp .sub 3 x y) (.const (.int .i64 (1))) (.tmp 17) (.int .i64 (1)) (.int .i64 (0)) (.int .i64 (1)) (fun _ => rfl) rfl (hd 1 rfl) (subI (a := 1) (b := 0) (by decide) (by decide) _ _ _) (hK _ (Mo.refl _))))
  ·exact og_eq _ rfl (fun f wf hq hd K hK => go_run rfl (wo_nc (.tmp 16) kk 0 rfl (hd 0 rfl) (hK _ (Mo.refl _))))
  ·exact og_eq _ rfl (fun f wf hq hd K hK => go_run rfl (wo_un (fun v => Instr.fieldAt 93 v 2) (.tmp 19) (pt kk 0) (pt kk 3) (fun _ => rfl) (hd 3 rfl) (by kernel_rfl) (hK _ (Mo.refl _))))
  ·exact og_eq _ rfl (fun f wf hq hd K hK => go_run rfl (wo_bin (fun x y => Instr.indexAt 91 x y) (.tmp 20) (.tmp 18) (pt kk 3) (.int .i64 (1)) (pt kk 4) (fun _ => rfl) (hd 4 rfl) (hd 2 rfl) (by kernel_rfl) (hK _ (Mo.refl _))))
  ·exact og_eq _ rfl (fun f wf hq hd K hK => have hS := hS.mo hq; go_run rfl (wo_load 65 (.tmp 21) (pt kk 4) (pt j 0) rfl (hd 5 rfl) (run_one (hS.rc kk _ hkk) 65 4 rfl Try.underlying65 rfl) (hK _ (Mo.refl _))))
  ·exact og_eq _ rfl (fun f wf hq hd K hK => go_run rfl (wo_mv (.tmp 7) (pt kk 0) (fun _ => rfl) rfl (hK _ (Mo.refl _))))
  ·exact og_eq _ rfl (fun f wf hq hd K hK => go_run rfl (wo_mv (.tmp 2) (.int .i64 (0)) (fun _ => rfl) rfl (hK _ (Mo.refl _))))
  ·exact og_eq _ rfl (fun f wf hq hd K hK => go_run rfl (wo_nc (.tmp 23) kk 0 rfl (hd 7 rfl) (hK _ (Mo.refl _))))
  ·exact og_eq _ rfl (fun f wf hq hd K hK => go_run rfl (wo_un (fun v => Instr.fieldAt 93 v 2) (.tmp 25) (pt kk 0) (pt kk 3) (fun _ => rfl) (hd 9 rfl) (by kernel_rfl) (hK _ (Mo.refl _))))
  ·exact og_eq _ rfl (fun f wf hq hd K hK => go_run rfl (wo_bin (fun x y => Instr.indexAt 91 x y) (.tmp 26) (.tmp 24) (pt kk 3) (.int .i64 (0)) (pt kk 3) (fun _ => rfl) (hd 10 rfl) (hd 8 rfl) (by kernel_rfl) (hK _ (Mo.refl _))))
  ·exact og_eq _ rfl (fun f wf hq hd K hK => have hS := hS.mo hq; go_run rfl (wo_load 65 (.tmp 27) (pt kk 3) (pp a.p) rfl (hd 11 rfl) (run_one (hS.rc kk _ hkk) 65 3 rfl Try.underlying65 rfl) (hK _ (Mo.refl _))))
  ·exact og_eq _ rfl (fun f wf hq hd K hK => go_run rfl (wo_mv (.tmp 22) (pt j 0) (fun _ => rfl) (hd 6 rfl) (hK _ (Mo.refl _))))
 intro kf1 w1 hq _ _
 replace hS := hS.mo hq
 replace M := M.trans hq
 clear hq
 refine wl_m (.tmp 28) (pp a.p) ?_
 refine w_nil (xn_then (w_seq (w_reg ?_)))
 refine wl_m (.tmp 0) (pt t 0) ?_
 refine wl_m (.tmp 1) (pt k 0) ?_
 refine wl_nc (.tmp 30) k 0 rfl rfl rfl ?_
 refine wl_f 93 1 (.tmp 31) (pt k 0) (pt k 2) ?_
 refine wl_l 65 (.tmp 32) (pt k 2) (pp (top C)) (run_one (hS.rc k _ hk) 65 2 rfl Try.underlying65 rfl) ?_
 refine wl_m (.tmp 8) (pt j 0) ?_
 refine wl_m (.tmp 9) (pp a.p) ?_
 refine wl_bsl [(0, (.tmp 33)), (1, (.tmp 34)), (2, (.tmp 35))] [pp (top C), pp (some j), pp a.p] 3 rfl rfl (bs3 (top C) (some j) a.p) rfl ?_
 intro g1 w2 hk hz hq Q1
 have nd_g1 : ¬ D g1 := fun e => by have := hS.lt e; omega
 replace hS := hS.mo hq
 replace M := M.trans hq
 clear hk hz hq
 refine wl_callg 34 [(.tmp 29), (.tmp 36)] _ [pt t 0, .slice (some ⟨g1, 0, none⟩) 3 3] (.tuple #[]) rfl rfl (fun _ _ => by kernel_rfl) (look_n [(top C), (some j), a.p] g1 hS Q1 nd_g1 (by simp only [List.length_cons, List.length_nil]; omega)) rfl ?_
 intro w3 hF
 have hc1 := cnt_le [(top C), (some j), a.p]
 simp only [List.length_cons, List.length_nil] at hc1
 obtain ⟨hS2, hM2⟩ := hF
 replace hS := hS2
 replace M := M.same hM2
 clear hS2 hM2 Q1 nd_g1
 refine w_nil (xn_then (w_seq (w_seq (w_reg ?_))))
 refine wl_m (.tmp 8) (pt j 0) ?_
 refine wl_call 72 [(.tmp 38)] _ [pt j 0] (.int .i64 ((1 + c.sz + z.sz) + 1)) rfl rfl (fun _ _ => by kernel_rfl) (weight_o (x := some j) hS ⟨_, hj, ob.1⟩ (by omega) (by omega)) rfl ?_
 intro w4 hq
 replace hS := hS.mo hq
 replace M := M.trans hq
 clear hq
 refine wl_m (.tmp 9) (pp a.p) ?_
 refine wl_call 72 [(.tmp 40)] _ [pp a.p] (.int .i64 (a.sz + 1)) rfl rfl (fun _ _ => by kernel_rfl) (weight_o hS (szo_of ha oa) h0a (by omega)) rfl ?_
 intro w5 hq
 replace hS := hS.mo hq
 replace M := M.trans hq
 clear hq
 refine wl_b .mul 3 (.const (.int .i64 (2))) (.tmp 41) (.int .i64 (2)) (.int .i64 (a.sz + 1)) (.int .i64 (2 * (a.sz + 1))) (mulI (by omega) (by omega) _ _ _) ?_
 refine wl_b .geq 3 (.tmp 39) (.tmp 42) (.int .i64 ((1 + c.sz + z.sz) + 1)) (.int .i64 (2 * (a.sz + 1))) (.bool true) (geI hge _ _ _) ?_
 refine w_nil (xn_then (w_condT rfl (w_seq ?_)))
 refine w_any 11 [.inl (pt t 0), .inl (pt j 0), .inl (pt j 0), .inl (pt j 3), .inl (pt j 3), .inl (pp c.p), .inl (pt j 0), .inl (pt j 0), .inl (pt j 3), .inl (pt j 4), .inl (pp z.p)] [0] (by kernel_rfl) (by kernel_rfl) (by kernel_rfl) (by kernel_rfl) rfl (by kernel_rfl) (by kernel_rfl) (late_cons ⟨_, _, rfl, rfl, fun _ _ _ _ h => h, fun f hd => ⟨rfl, la_mv (.tmp 0) (pt t 0) (fun _ => rfl) rfl⟩⟩ late_nil) ?_ ?_ ?_
 ·exact Ds.none rfl
 ·refine ea_cons ?_ (ea_cons ?_ (ea_cons ?_ (ea_cons ?_ (ea_cons ?_ (ea_cons ?_ (ea_cons ?_ (ea_cons ?_ (ea_cons ?_ (ea_cons ?_ (ea_cons ?_ (ea_nil)))))))))))
  ·exact og_eq _ rfl (fun f wf hq hd K hK => go_run rfl (wo_mv (.tmp 0) (pt t 0) (fun _ => rfl) rfl (hK _ (Mo.refl _))))
  ·exact og_eq _ rfl (fun f wf hq hd K hK => go_run rfl (wo_mv (.tmp 8) (pt j 0) (fun _ => rfl) rfl (hK _ (Mo.refl _))))
  ·exact og_eq _ rfl (fun f wf hq hd K hK => go_run rfl (wo_nc (.tmp 45) j 0 rfl (hd 1 rfl) (hK _ (Mo.refl _))))
  ·exact og_eq _ rfl (fun f wf hq hd K hK => go_run rfl (wo_un (fun v => Instr.fieldAt 93 v 2) (.tmp 46) (pt j 0) (pt j 3) (fun _ => rfl) (hd 2 rfl) (by kernel_rfl) (hK _ (Mo.refl _))))
  ·exact og_eq _ rfl (fun f wf hq hd K hK => go_run rfl (wo_bin (fun x y => Instr.indexAt 91 x y) (.tmp 47) (.const (.int .i64 (0))) (pt j 3) (.int .i64 (0)) (pt j 3) (fun _ => rfl) (hd 3 rfl) rfl (by kernel_rfl) (hK _ (Mo.refl _))))
  ·exact og_eq _ rfl (fun f wf hq hd K hK => have hS := hS.mo hq; go_run rfl (wo_load 65 (.tmp 48) (pt j 3) (pp c.p) rfl (hd 4 rfl) (run_one (hS.rc j _ hj) 65 3 rfl Try.underlying65 rfl) (hK _ (Mo.refl _))))
  ·exact og_eq _ rfl (fun f wf hq hd K hK => go_run rfl (wo_mv (.tmp 8) (pt j 0) (fun _ => rfl) rfl (hK _ (Mo.refl _))))
  ·exact og_eq _ rfl (fun f wf hq hd K hK => go_run rfl (wo_nc (.tmp 50) j 0 rfl (hd 6 rfl) (hK _ (Mo.refl _))))
  ·exact og_eq _ rfl (fun f wf hq hd K hK => go_run rfl (wo_un (fun v => Instr.fieldAt 93 v 2) (.tmp 51) (pt j 0) (pt j 3) (fun _ => rfl) (hd 7 rfl) (by kernel_rfl) (hK _ (Mo.refl _))))
  ·exact og_eq _ rfl (fun f wf hq hd K hK => go_run rfl (wo_bin (fun x y => Instr.indexAt 91 x y) (.tmp 52) (.const (.int .i64 (1))) (pt j 3) (.int .i64 (1)) (pt j 4) (fun _ => rfl) (hd 8 rfl) rfl (by kernel_rfl) (hK _ (Mo.refl _))))
  ·exact og_eq _ rfl (fun f wf hq hd K hK => have hS := hS.mo hq; go_run rfl (wo_load 65 (.tmp 53) (pt j 4) (pp z.p) rfl (hd 9 rfl) (run_one (hS.rc j _ hj) 65 4 rfl Try.underlying65 rfl) (hK _ (Mo.refl _))))
 intro kf6 w6 hq _ _
 replace hS := hS.mo hq
 replace M := M.trans hq
 clear hq
 refine wl_bsl [(0, (.tmp 49)), (1, (.tmp 54))] [pp c.p, pp z.p] 2 rfl rfl (bs2 c.p z.p) rfl ?_
 intro g2 w7 hk hz hq Q2
 have nd_g2 : ¬ D g2 := fun e => by have := hS.lt e; omega
 replace hS := hS.mo hq
 replace M := M.trans hq
 clear hk hz hq
 refine wl_callg 34 [(.tmp 44), (.tmp 55)] _ [pt t 0, .slice (some ⟨g2, 0, none⟩) 2 2] (.tuple #[]) rfl rfl (fun _ _ => by kernel_rfl) (look_n [c.p, z.p] g2 hS Q2 nd_g2 (by simp only [List.length_cons, List.length_nil]; omega)) rfl ?_
 intro w8 hF
 have hc2 := cnt_le [c.p, z.p]
 simp only [List.length_cons, List.length_nil] at hc2
 obtain ⟨hS2, hM2⟩ := hF
 replace hS := hS2
 replace M := M.same hM2
 clear hS2 hM2 Q2 nd_g2
 refine w_nil (xn_then (w_reg ?_))
 refine wl_m (.tmp 0) (pt t 0) ?_
 refine wl_m (.tmp 7) (pt kk 0) ?_
 refine wl_m (.tmp 2) (.int .i64 (0)) ?_
 refine wl_b .sub 3 (.const (.int .i64 (1))) (.tmp 59) (.int .i64 (1)) (.int .i64 (0)) (.int .i64 (1)) (subI (a := 1) (b := 0) (by decide) (by decide) _ _ _) ?_
 refine wl_callg 73 [(.tmp 57), (.tmp 58), (.tmp 60)] _ [pt t 0, pt kk 0, .int .i64 (1)] (pt j 0) rfl rfl (fun _ _ => by kernel_rfl) (turnR (C := (⟨k, i, s, false, r⟩ : Fr) :: C) (RS.dn (f := (⟨k, i, s, false, r⟩ : Fr)) (R := R) (root := root) (C := C) (tr := (.n kk ii ss a (.n j jj js c z))) ⟨hS, hAp, hC, hR, hn⟩).1 ob.2.2 ob.2.1 oa (by omega) (by omega) (by omega) (by omega)) rfl ?_
 intro w9 hF
 obtain ⟨⟨R8, root8, hT8, hu8⟩, hM2⟩ := hF
 replace M := M.same hM2
 have hT := hT8.up ⟨hd1, by rw [hu8 k _ rfl hk]; simp [Fr.rc, Fr.jn, T.ids, T.p, sideC]⟩
 change RS D _ t mb C (.n k i s _ r) _ _ _ at hT
 clear hM2
 refine w_nil (xn_then (w_seq (w_reg ?_)))
 refine wl_m (.tmp 0) (pt t 0) ?_
 refine wl_m (.tmp 1) (pt k 0) ?_
 refine wl_m (.tmp 2) (.int .i64 (0)) ?_
 refine wl_callg 73 [(.tmp 62), (.tmp 63), (.tmp 64)] _ [pt t 0, pt k 0, .int .i64 (0)] (pt j 0) rfl rfl (fun _ _ => by kernel_rfl) (turnL hT ⟨rfl, oa, ob.2.1⟩ ob.2.2 or (by simp only [T.sz]; omega) (by omega) (by omega) (by simp only [T.sz]; omega)) rfl ?_
 intro w10 hF
 obtain ⟨⟨R9, root9, hT, _⟩, hM2⟩ := hF
 replace M := M.same hM2
 clear hM2
 refine wl_m (.tmp 65) (pt j 0) ?_
 refine w_nil (xn_then (w_ret ?_))
 exact w_ret1 _ (pt j 0) rfl rfl ⟨rfl, (((lk) + cnt [(top C), (some j), a.p]) + cnt [c.p, z.p]), by omega, by omega, ⟨_, _, hT⟩, M⟩
theorem lightS1 {C : Cx} {k kk : Nat} {i ii : Py} {s ss : Int} {a b r : T} (h : TS D w t mb C (.n k i s r (.n kk ii ss b a)) lk) (oa : a.ok) (ob : b.ok) (or : r.ok) (ba : a.sz ≤ 10000) (bb : b.sz ≤ 10000) (br : r.sz ≤ 10000) (hge : decide (2 * (a.sz + 1) ≤ b.sz + 1) = false) (hss : s = 1 + (1 + a.sz + b.sz) + r.sz) (hlk : 0 ≤ lk ∧ lk ≤ 4000000000000000000) :
  Calls Try.prog 61 #[pt t 0, pt k 0, .int .i64 1] w fun e w' => e = .returned (pt kk 0) ∧ ∃ lk', lk ≤ lk' ∧ lk' ≤ lk + 5 ∧ TS D w' t mb C (.n kk ii (1 + (1 + r.sz + b.sz) + a.sz) (.n k i (1 + r.sz + b.sz) r b) a) lk' ∧ Mk D w w' := by
 obtain ⟨R, root, hS, hAp, hC, hR, hn⟩ := h
 have hR0 := hR
 obtain ⟨⟨hd1, hk⟩, hr, ⟨hd2, hkk⟩, hb, ha⟩ := hR
 have hR := hR0
 have h0a := T.sz_nn a; have h0r := T.sz_nn r; have h0b := T.sz_nn b
 refine w_enter 66 Try.func61 Try.ntmps61 rfl rfl ?_
 have M : Mk D w w := Mk.refl _ _
 refine w_seq (w_reg ?_)
 refine wl_m (.const (.pointer none)) (pp none) ?_
 refine w_nil (xn_then (w_seq (w_reg ?_)))
 refine wl_m (.tmp 1) (pt k 0) ?_
 refine wl_m (.tmp 2) (.int .i64 (1)) ?_
 refine wl_nc (.tmp 10) k 0 rfl rfl rfl ?_
 refine wl_f 93 2 (.tmp 12) (pt k 0) (pt k 3) ?_
 refine wl_bin (fun x y => Instr.indexAt 91 x y) (.tmp 13) (.tmp 11) (pt k 3) (.int .i64 (1)) (pt k 4) (fun _ => rfl) rfl rfl (by kernel_rfl) rfl ?_
 refine wl_l 65 (.tmp 14) (pt k 4) (pt kk 0) (run_one (hS.rc k _ hk) 65 4 rfl Try.underlying65 rfl) ?_
 refine wl_m (.tmp 15) (pt kk 0) ?_
 refine w_nil (xn_then (w_seq ?_))
 refine w_any 14 [.inl (pt kk 0), .inl (.int .i64 (1)), .inl (.int .i64 (0)), .inl (pt kk 0), .inl (pt kk 3), .inl (pt kk 3), .inl (pp b.p), .inl (pt kk 0), .inl (.int .i64 (1)), .inl (pt kk 0), .inl (pt kk 3), .inl (pt kk 4), .inl (pp a.p), .inl (pp b.p)] [] (by kernel_rfl) (by kernel_rfl) (by kernel_rfl) (by kernel_rfl) rfl (by kernel_rfl) (by kernel_rfl) late_nil ?_ ?_ ?_
 ·exact Ds.none rfl
 ·refine ea_cons ?_ (ea_cons ?_ (ea_cons ?_ (ea_cons ?_ (ea_cons ?_ (ea_cons ?_ (ea_cons ?_ (ea_cons ?_ (ea_cons ?_ (ea_cons ?_ (ea_cons ?_ (ea_cons ?_ (ea_cons ?_ (ea_cons ?_ (ea_nil))))))))))))))
  ·exact og_eq _ rfl (fun f wf hq hd K hK => go_run rfl (wo_mv (.tmp 7) (pt kk 0) (fun _ => rfl) rfl (hK _ (Mo.refl _))))
  ·exact og_eq _ rfl (fun f wf hq hd K hK => go_run rfl (wo_mv (.tmp 2) (.int .i64 (1)) (fun _ => rfl) rfl (hK _ (Mo.refl _))))
  ·exact og_eq _ rfl (fun f wf hq hd K hK => go_run rfl (wo_bin (fun x y => do eqGuard .sub 3 (.const (.int .i64 (1))) (.tmp 17) x y; binOp .sub 3 x y) (.const (.int .i64 (1))) (.tmp 17) (.int .i64 (1)) (.int .i64 (1)) (.int .i64 (0)) (fun _ => rfl) rfl (hd 1 rfl) (subI (a := 1) (b := 1) (by decide) (by decide) _ _ _) (hK _ (Mo.refl _))))
  ·exact og_eq _ rfl (fun f wf hq hd K hK => go_run rfl (wo_nc (.tmp 16) kk 0 rfl (hd 0 rfl) (hK _ (Mo.refl _))))
  ·exact og_eq _ rfl (fun f wf hq hd K hK => go_run rfl (wo_un (fun v => Instr.fieldAt 93 v 2) (.tmp 19) (pt kk 0) (pt kk 3) (fun _ => rfl) (hd 3 rfl) (by kernel_rfl) (hK _ (Mo.refl _))))
  ·exact og_eq _ rfl (fun f wf hq hd K hK => go_run rfl (wo_bin (fun x y => Instr.indexAt 91 x y) (.tmp 20) (.tmp 18) (pt kk 3) (.int .i64 (0)) (pt kk 3) (fun _ => rfl) (hd 4 rfl) (hd 2 rfl) (by kernel_rfl) (hK _ (Mo.refl _))))
  ·exact og_eq _ rfl (fun f wf hq hd K hK => have hS := hS.mo hq; go_run rfl (wo_load 65 (.tmp 21) (pt kk 3) (pp b.p) rfl (hd 5 rfl) (run_one (hS.rc kk _ hkk) 65 3 rfl Try.underlying65 rfl) (hK _ (Mo.refl _))))
  ·exact og_eq _ rfl (fun f wf hq hd K hK => go_run rfl (wo_mv (.tmp 7) (pt kk 0) (fun _ => rfl) rfl (hK _ (Mo.refl _))))
  ·exact og_eq _ rfl (fun f wf hq hd K hK => go_run rfl (wo_mv (.tmp 2) (.int .i64 (1)) (fun _ => rfl) rfl (hK _ (Mo.refl _))))
  ·exact og_eq _ rfl (fun f wf hq hd K hK => go_run rfl (wo_nc (.tmp 23) kk 0 rfl (hd 7 rfl) (hK _ (Mo.refl _))))
  ·exact og_eq _ rfl (fun f wf hq hd K hK => go_run rfl (wo_un (fun v => Instr.fieldAt 93 v 2) (.tmp 25) (pt kk 0) (pt kk 3) (fun _ => rfl) (hd 9 rfl) (by kernel_rfl) (hK _ (Mo.refl _))))
  ·exact og_eq _ rfl (fun f wf hq hd K hK => go_run rfl (wo_bin (fun x y => Instr.indexAt 91 x y) (.tmp 26) (.tmp 24) (pt kk 3) (.int .i64 (1)) (pt kk 4) (fun _ => rfl) (hd 10 rfl) (hd 8 rfl) (by kernel_rfl) (hK _ (Mo.refl _))))
  ·exact og_eq _ rfl (fun f wf hq hd K hK => have hS := hS.mo hq; go_run rfl (wo_load 65 (.tmp 27) (pt kk 4) (pp a.p) rfl (hd 11 rfl) (run_one (hS.rc kk _ hkk) 65 4 rfl Try.underlying65 rfl) (hK _ (Mo.refl _))))
  ·exact og_eq _ rfl (fun f wf hq hd K hK => go_run rfl (wo_mv (.tmp 22) (pp b.p) (fun _ => rfl) (hd 6 rfl) (hK _ (Mo.refl _))))
 intro kf1 w1 hq _ _
 replace hS := hS.mo hq
 replace M := M.trans hq
 clear hq
 refine wl_m (.tmp 28) (pp a.p) ?_
 refine w_nil (xn_then (w_seq (w_reg ?_)))
 refine wl_m (.tmp 0) (pt t 0) ?_
 refine wl_m (.tmp 1) (pt k 0) ?_
 refine wl_nc (.tmp 30) k 0 rfl rfl rfl ?_
 refine wl_f 93 1 (.tmp 31) (pt k 0) (pt k 2) ?_
 refine wl_l 65 (.tmp 32) (pt k 2) (pp (top C)) (run_one (hS.rc k _ hk) 65 2 rfl Try.underlying65 rfl) ?_
 refine wl_m (.tmp 8) (pp b.p) ?_
 refine wl_m (.tmp 9) (pp a.p) ?_
 refine wl_bsl [(0, (.tmp 33)), (1, (.tmp 34)), (2, (.tmp 35))] [pp (top C), pp b.p, pp a.p] 3 rfl rfl (bs3 (top C) b.p a.p) rfl ?_
 intro g1 w2 hk hz hq Q1
 have nd_g1 : ¬ D g1 := fun e => by have := hS.lt e; omega
 replace hS := hS.mo hq
 replace M := M.trans hq
 clear hk hz hq
 refine wl_callg 34 [(.tmp 29), (.tmp 36)] _ [pt t 0, .slice (some ⟨g1, 0, none⟩) 3 3] (.tuple #[]) rfl rfl (fun _ _ => by kernel_rfl) (look_n [(top C), b.p, a.p] g1 hS Q1 nd_g1 (by simp only [List.length_cons, List.length_nil]; omega)) rfl ?_
 intro w3 hF
 have hc1 := cnt_le [(top C), b.p, a.p]
 simp only [List.length_cons, List.length_nil] at hc1
 obtain ⟨hS2, hM2⟩ := hF
 replace hS := hS2
 replace M := M.same hM2
 clear hS2 hM2 Q1 nd_g1
 refine w_nil (xn_then (w_seq (w_seq (w_reg ?_))))
 refine wl_m (.tmp 8) (pp b.p) ?_
 refine wl_call 72 [(.tmp 38)] _ [pp b.p] (.int .i64 (b.sz + 1)) rfl rfl (fun _ _ => by kernel_rfl) (weight_o hS (szo_of hb ob) h0b (by omega)) rfl ?_
 intro w4 hq
 replace hS := hS.mo hq
 replace M := M.trans hq
 clear hq
 refine wl_m (.tmp 9) (pp a.p) ?_
 refine wl_call 72 [(.tmp 40)] _ [pp a.p] (.int .i64 (a.sz + 1)) rfl rfl (fun _ _ => by kernel_rfl) (weight_o hS (szo_of ha oa) h0a (by omega)) rfl ?_
 intro w5 hq
 replace hS := hS.mo hq
 replace M := M.trans hq
 clear hq
 refine wl_b .mul 3 (.const (.int .i64 (2))) (.tmp 41) (.int .i64 (2)) (.int .i64 (a.sz + 1)) (.int .i64 (2 * (a.sz + 1))) (mulI (by omega) (by omega) _ _ _) ?_
 refine wl_b .geq 3 (.tmp 39) (.tmp 42) (.int .i64 (b.sz + 1)) (.int .i64 (2 * (a.sz + 1))) (.bool false) (geI hge _ _ _) ?_
 refine w_nil (xn_then (w_condF rfl (w_skip (xn_then (w_seq (w_reg ?_))))))
 refine wl_m (.tmp 0) (pt t 0) ?_
 refine wl_m (.tmp 1) (pt k 0) ?_
 refine wl_m (.tmp 2) (.int .i64 (1)) ?_
 refine wl_callg 73 [(.tmp 62), (.tmp 63), (.tmp 64)] _ [pt t 0, pt k 0, .int .i64 (1)] (pt kk 0) rfl rfl (fun _ _ => by kernel_rfl) (turnR (R := R) (root := root) ⟨hS, hAp, hC, hR, hn⟩ oa ob or (by omega) (by omega) (by omega) (by omega)) rfl ?_
 intro w6 hF
 obtain ⟨⟨R9, root9, hT, _⟩, hM2⟩ := hF
 replace M := M.same hM2
 clear hM2
 refine wl_m (.tmp 65) (pt kk 0) ?_
 refine w_nil (xn_then (w_ret ?_))
 exact w_ret1 _ (pt kk 0) rfl rfl ⟨rfl, ((lk) + cnt [(top C), b.p, a.p]), by omega, by omega, ⟨_, _, hT⟩, M⟩
theorem lightD1 {C : Cx} {k kk j : Nat} {i ii jj : Py} {s ss js : Int} {a c z r : T} (h : TS D w t mb C (.n k i s r (.n kk ii ss (.n j jj js c z) a)) lk) (oa : a.ok) (ob : (T.n j jj js c z).ok) (or : r.ok) (ba : a.sz ≤ 10000) (bb : c.sz ≤ 10000 ∧ z.sz ≤ 10000) (br : r.sz ≤ 10000) (hge : decide (2 * (a.sz + 1) ≤ (1 + c.sz + z.sz) + 1) = true) (hss : s = 1 + (1 + a.sz + (1 + c.sz + z.sz)) + r.sz) (hkss : ss = 1 + a.sz + (1 + c.sz + z.sz)) (hlk : 0 ≤ lk ∧ lk ≤ 4000000000000000000) :
  Calls Try.prog 61 #[pt t 0, pt k 0, .int .i64 1] w fun e w' => e = .returned (pt j 0) ∧ ∃ lk', lk ≤ lk' ∧ lk' ≤ lk + 5 ∧ TS D w' t mb C (.n j jj (1 + (1 + r.sz + c.sz) + (1 + z.sz + a.sz)) (.n k i (1 + r.sz + c.sz) r c) (.n kk ii (1 + z.sz + a.sz) z a)) lk' ∧ Mk D w w' := by
 obtain ⟨R, root, hS, hAp, hC, hR, hn⟩ := h
 have hR0 := hR
 obtain ⟨⟨hd1, hk⟩, hr, ⟨hd2, hkk⟩, ⟨⟨hd3, hj⟩, hcc, hz⟩, ha⟩ := hR
 have hR := hR0
 have h0a := T.sz_nn a; have h0r := T.sz_nn r; have h0c := T.sz_nn c; have h0z := T.sz_nn z
 refine w_enter 66 Try.func61 Try.ntmps61 rfl rfl ?_
 have M : Mk D w w := Mk.refl _ _
 refine w_seq (w_reg ?_)
 refine wl_m (.const (.pointer none)) (pp none) ?_
 refine w_nil (xn_then (w_seq (w_reg ?_)))
 refine wl_m (.tmp 1) (pt k 0) ?_
 refine wl_m (.tmp 2) (.int .i64 (1)) ?_
 refine wl_nc (.tmp 10) k 0 rfl rfl rfl ?_
 refine wl_f 93 2 (.tmp 12) (pt k 0) (pt k 3) ?_
 refine wl_bin (fun x y => Instr.indexAt 91 x y) (.tmp 13) (.tmp 11) (pt k 3) (.int .i64 (1)) (pt k 4) (fun _ => rfl) rfl rfl (by kernel_rfl) rfl ?_
 refine wl_l 65 (.tmp 14) (pt k 4) (pt kk 0) (run_one (hS.rc k _ hk) 65 4 rfl Try.underlying65 rfl) ?_
 refine wl_m (.tmp 15) (pt kk 0) ?_
 refine w_nil (xn_then (w_seq ?_))
 refine w_any 14 [.inl (pt kk 0), .inl (.int .i64 (1)), .inl (.int .i64 (0)), .inl (pt kk 0), .inl (pt kk 3), .inl (pt kk 3), .inl (pt j 0), .inl (pt kk 0), .inl (.int .i64 (1)), .inl (pt kk 0), .inl (pt kk 3), .inl (pt kk 4), .inl (pp a.p), .inl (pt j 0)] [] (by kernel_rfl) (by kernel_rfl) (by kernel_rfl) (by kernel_rfl) rfl (by kernel_rfl) (by kernel_rfl) late_nil ?_ ?_ ?_
 ·exact Ds.none rfl
 ·refine ea_cons ?_ (ea_cons ?_ (ea_cons ?_ (ea_cons ?_ (ea_cons ?_ (ea_cons ?_ (ea_cons ?_ (ea_cons ?_ (ea_cons ?_ (ea_cons ?_ (ea_cons ?_ (ea_cons ?_ (ea_cons ?_ (ea_cons ?_ (ea_nil))))))))))))))
  ·exact og_eq _ rfl (fun f wf hq hd K hK => go_run rfl (wo_mv (.tmp 7) (pt kk 0) (fun _ => rfl) rfl (hK _ (Mo.refl _))))
  ·exact og_eq _ rfl (fun f wf hq hd K hK => go_run rfl (wo_mv (.tmp 2) (.int .i64 (1)) (fun _ => rfl) rfl (hK _ (Mo.refl _))))
  ·exact og_eq _ rfl (fun f wf hq hd K hK => go_run rfl (wo_bin (fun x y => do eqGuard .sub 3 (.const (.int .i64 (1))) (.tmp 17) x y; binOp .sub 3 x y) (.const (.int .i64 (1))) (.tmp 17) (.int .i64 (1)) (.int .i64 (1)) (.int .i64 (0)) (fun _ => rfl) rfl (hd 1 rfl) (subI (a := 1) (b := 1) (by decide) (by decide) _ _ _) (hK _ (Mo.refl _))))
  ·exact og_eq _ rfl (fun f wf hq hd K hK => go_run rfl (wo_nc (.tmp 16) kk 0 rfl (hd 0 rfl) (hK _ (Mo.refl _))))
  ·exact og_eq _ rfl (fun f wf hq hd K hK => go_run rfl (wo_un (fun v => Instr.fieldAt 93 v 2) (.tmp 19) (pt kk 0) (pt kk 3) (fun _ => rfl) (hd 3 rfl) (by kernel_rfl) (hK _ (Mo.refl _))))
  ·exact og_eq _ rfl (fun f wf hq hd K hK => go_run rfl (wo_bin (fun x y => Instr.indexAt 91 x y) (.tmp 20) (.tmp 18) (pt kk 3) (.int .i64 (0)) (pt kk 3) (fun _ => rfl) (hd 4 rfl) (hd 2 rfl) (by kernel_rfl) (hK _ (Mo.refl _))))
  ·exact og_eq _ rfl (fun f wf hq hd K hK => have hS := hS.mo hq; go_run rfl (wo_load 65 (.tmp 21) (pt kk 3) (pt j 0) rfl (hd 5 rfl) (run_one (hS.rc kk _ hkk) 65 3 rfl Try.underlying65 rfl) (hK _ (Mo.refl _))))
  ·exact og_eq _ rfl (fun f wf hq hd K hK => go_run rfl (wo_mv (.tmp 7) (pt kk 0) (fun _ => rfl) rfl (hK _ (Mo.refl _))))
  ·exact og_eq _ rfl (fun f wf hq hd K hK => go_run rfl (wo_mv (.tmp 2) (.int .i64 (1)) (fun _ => rfl) rfl (hK _ (Mo.refl _))))
  ·exact og_eq _ rfl (fun f wf hq hd K hK => go_run rfl (wo_nc (.tmp 23) kk 0 rfl (hd 7 rfl) (hK _ (Mo.refl _))))
  ·exact og_eq _ rfl (fun f wf hq hd K hK => go_run rfl (wo_un (fun v => Instr.fieldAt 93 v 2) (.tmp 25) (pt kk 0) (pt kk 3) (fun _ => rfl) (hd 9 rfl) (by kernel_rfl) (hK _ (Mo.refl _))))
  ·exact og_eq _ rfl (fun f wf hq hd K hK => go_run rfl (wo_bin (fun x y => Instr.indexAt 91 x y) (.tmp 26) (.tmp 24) (pt kk 3) (.int .i64 (1)) (pt kk 4) (fun _ => rfl) (hd 10 rfl) (hd 8 rfl) (by kernel_rfl) (hK _ (Mo.refl _))))
  ·exact og_eq _ rfl (fun f wf hq hd K hK => have hS := hS.mo hq; go_run rfl (wo_load 65 (.tmp 27) (pt kk 4) (pp a.p) rfl (hd 11 rfl) (run_one (hS.rc kk _ hkk) 65 4 rfl Try.underlying65 rfl) (hK _ (Mo.refl _))))
  ·exact og_eq _ rfl (fun f wf hq hd K hK => go_run rfl (wo_mv (.tmp 22) (pt j 0) (fun _ => rfl) (hd 6 rfl) (hK _ (Mo.refl _))))
 intro kf1 w1 hq _ _
 replace hS := hS.mo hq
 replace M := M.trans hq
 clear hq
 refine wl_m (.tmp 28) (pp a.p) ?_
 refine w_nil (xn_then (w_seq (w_reg ?_)))
 refine wl_m (.tmp 0) (pt t 0) ?_
 refine wl_m (.tmp 1) (pt k 0) ?_
 refine wl_nc (.tmp 30) k 0 rfl rfl rfl ?_
 refine wl_f 93 1 (.tmp 31) (pt k 0) (pt k 2) ?_
 refine wl_l 65 (.tmp 32) (pt k 2) (pp (top C)) (run_one (hS.rc k _ hk) 65 2 rfl Try.underlying65 rfl) ?_
 refine wl_m (.tmp 8) (pt j 0) ?_
 refine wl_m (.tmp 9) (pp a.p) ?_
 refine wl_bsl [(0, (.tmp 33)), (1, (.tmp 34)), (2, (.tmp 35))] [pp (top C), pp (some j), pp a.p] 3 rfl rfl (bs3 (top C) (some j) a.p) rfl ?_
 intro g1 w2 hk hz hq Q1
 have nd_g1 : ¬ D g1 := fun e => by have := hS.lt e; omega
 replace hS := hS.mo hq
 replace M := M.trans hq
 clear hk hz hq
 refine wl_callg 34 [(.tmp 29), (.tmp 36)] _ [pt t 0, .slice (some ⟨g1, 0, none⟩) 3 3] (.tuple #[]) rfl rfl (fun _ _ => by kernel_rfl) (look_n [(top C), (some j), a.p] g1 hS Q1 nd_g1 (by simp only [List.length_cons, List.length_nil]; omega)) rfl ?_
 intro w3 hF
 have hc1 := cnt_le [(top C), (some j), a.p]
 simp only [List.length_cons, List.length_nil] at hc1
 obtain ⟨hS2, hM2⟩ := hF
 replace hS := hS2
 replace M := M.same hM2
 clear hS2 hM2 Q1 nd_g1
 refine w_nil (xn_then (w_seq (w_seq (w_reg ?_))))
 refine wl_m (.tmp 8) (pt j 0) ?_
 refine wl_call 72 [(.tmp 38)] _ [pt j 0] (.int .i64 ((1 + c.sz + z.sz) + 1)) rfl rfl (fun _ _ => by kernel_rfl) (weight_o (x := some j) hS ⟨_, hj, ob.1⟩ (by omega) (by omega)) rfl ?_
 intro w4 hq
 replace hS := hS.mo hq
 replace M := M.trans hq
 clear hq
 refine wl_m (.tmp 9) (pp a.p) ?_
 refine wl_call 72 [(.tmp 40)] _ [pp a.p] (.int .i64 (a.sz + 1)) rfl rfl (fun _ _ => by kernel_rfl) (weight_o hS (szo_of ha oa) h0a (by omega)) rfl ?_
 intro w5 hq
 replace hS := hS.mo hq
 replace M := M.trans hq
 clear hq
 refine wl_b .mul 3 (.const (.int .i64 (2))) (.tmp 41) (.int .i64 (2)) (.int .i64 (a.sz + 1)) (.int .i64 (2 * (a.sz + 1))) (mulI (by omega) (by omega) _ _ _) ?_
 refine wl_b .geq 3 (.tmp 39) (.tmp 42) (.int .i64 ((1 + c.sz + z.sz) + 1)) (.int .i64 (2 * (a.sz + 1))) (.bool true) (geI hge _ _ _) ?_
 refine w_nil (xn_then (w_condT rfl (w_seq ?_)))
 refine w_any 11 [.inl (pt t 0), .inl (pt j 0), .inl (pt j 0), .inl (pt j 3), .inl (pt j 3), .inl (pp c.p), .inl (pt j 0), .inl (pt j 0), .inl (pt j 3), .inl (pt j 4), .inl (pp z.p)] [0] (by kernel_rfl) (by kernel_rfl) (by kernel_rfl) (by kernel_rfl) rfl (by kernel_rfl) (by kernel_rfl) (late_cons ⟨_, _, rfl, rfl, fun _ _ _ _ h => h, fun f hd => ⟨rfl, la_mv (.tmp 0) (pt t 0) (fun _ => rfl) rfl⟩⟩ late_nil) ?_ ?_ ?_
 ·exact Ds.none rfl
 ·refine ea_cons ?_ (ea_cons ?_ (ea_cons ?_ (ea_cons ?_ (ea_cons ?_ (ea_cons ?_ (ea_cons ?_ (ea_cons ?_ (ea_cons ?_ (ea_cons ?_ (ea_cons ?_ (ea_nil)))))))))))
  ·exact og_eq _ rfl (fun f wf hq hd K hK => go_run rfl (wo_mv (.tmp 0) (pt t 0) (fun _ => rfl) rfl (hK _ (Mo.refl _))))
  ·exact og_eq _ rfl (fun f wf hq hd K hK => go_run rfl (wo_mv (.tmp 8) (pt j 0) (fun _ => rfl) rfl (hK _ (Mo.refl _))))
  ·exact og_eq _ rfl (fun f wf hq hd K hK => go_run rfl (wo_nc (.tmp 45) j 0 rfl (hd 1 rfl) (hK _ (Mo.refl _))))
  ·exact og_eq _ rfl (fun f wf hq hd K hK => go_run rfl (wo_un (fun v => Instr.fieldAt 93 v 2) (.tmp 46) (pt j 0) (pt j 3) (fun _ => rfl) (hd 2 rfl) (by kernel_rfl) (hK _ (Mo.refl _))))
  ·exact og_eq _ rfl (fun f wf hq hd K hK => go_run rfl (wo_bin (fun x y => Instr.indexAt 91 x y) (.tmp 47) (.const (.int .i64 (0))) (pt j 3) (.int .i64 (0)) (pt j 3) (fun _ => rfl) (hd 3 rfl) rfl (by kernel_rfl) (hK _ (Mo.refl _))))
  ·exact og_eq _ rfl (fun f wf hq hd K hK => have hS := hS.mo hq; go_run rfl (wo_load 65 (.tmp 48) (pt j 3) (pp c.p) rfl (hd 4 rfl) (run_one (hS.rc j _ hj) 65 3 rfl Try.underlying65 rfl) (hK _ (Mo.refl _))))
  ·exact og_eq _ rfl (fun f wf hq hd K hK => go_run rfl (wo_mv (.tmp 8) (pt j 0) (fun _ => rfl) rfl (hK _ (Mo.refl _))))
  ·exact og_eq _ rfl (fun f wf hq hd K hK => go_run rfl (wo_nc (.tmp 50) j 0 rfl (hd 6 rfl) (hK _ (Mo.refl _))))
  ·exact og_eq _ rfl (fun f wf hq hd K hK => go_run rfl (wo_un (fun v => Instr.fieldAt 93 v 2) (.tmp 51) (pt j 0) (pt j 3) (fun _ => rfl) (hd 7 rfl) (by kernel_rfl) (hK _ (Mo.refl _))))
  ·exact og_eq _ rfl (fun f wf hq hd K hK => go_run rfl (wo_bin (fun x y => Instr.indexAt 91 x y) (.tmp 52) (.const (.int .i64 (1))) (pt j 3) (.int .i64 (1)) (pt j 4) (fun _ => rfl) (hd 8 rfl) rfl (by kernel_rfl) (hK _ (Mo.refl _))))
  ·exact og_eq _ rfl (fun f wf hq hd K hK => have hS := hS.mo hq; go_run rfl (wo_load 65 (.tmp 53) (pt j 4) (pp z.p) rfl (hd 9 rfl) (run_one (hS.rc j _ hj) 65 4 rfl Try.underlying65 rfl) (hK _ (Mo.refl _))))
 intro kf6 w6 hq _ _
 replace hS := hS.mo hq
 replace M := M.trans hq
 clear hq
 refine wl_bsl [(0, (.tmp 49)), (1, (.tmp 54))] [pp c.p, pp z.p] 2 rfl rfl (bs2 c.p z.p) rfl ?_
 intro g2 w7 hk hz hq Q2
 have nd_g2 : ¬ D g2 := fun e => by have := hS.lt e; omega
 replace hS := hS.mo hq
 replace M := M.trans hq
 clear hk hz hq
 refine wl_callg 34 [(.tmp 44), (.tmp 55)] _ [pt t 0, .slice (some ⟨g2, 0, none⟩) 2 2] (.tuple #[]) rfl rfl (fun _ _ => by kernel_rfl) (look_n [c.p, z.p] g2 hS Q2 nd_g2 (by simp only [List.length_cons, List.length_nil]; omega)) rfl ?_
 intro w8 hF
 have hc2 := cnt_le [c.p, z.p]
 simp only [List.length_cons, List.length_nil] at hc2
 obtain ⟨hS2, hM2⟩ := hF
 replace hS := hS2
 replace M := M.same hM2
 clear hS2 hM2 Q2 nd_g2
 refine w_nil (xn_then (w_reg ?_))
 refine wl_m (.tmp 0) (pt t 0) ?_
 refine wl_m (.tmp 7) (pt kk 0) ?_
 refine wl_m (.tmp 2) (.int .i64 (1)) ?_
 refine wl_b .sub 3 (.const (.int .i64 (1))) (.tmp 59) (.int .i64 (1)) (.int .i64 (1)) (.int .i64 (0)) (subI (a := 1) (b := 1) (by decide) (by decide) _ _ _) ?_
 refine wl_callg 73 [(.tmp 57), (.tmp 58), (.tmp 60)] _ [pt t 0, pt kk 0, .int .i64 (0)] (pt j 0) rfl rfl (fun _ _ => by kernel_rfl) (turnL (C := (⟨k, i, s, true, r⟩ : Fr) :: C) (RS.dn (f := (⟨k, i, s, true, r⟩ : Fr)) (R := R) (root := root) (C := C) (tr := (.n kk ii ss (.n j jj js c z) a)) ⟨hS, hAp, hC, hR, hn⟩).1 ob.2.1 ob.2.2 oa (by omega) (by omega) (by omega) (by omega)) rfl ?_
 intro w9 hF
 obtain ⟨⟨R8, root8, hT8, hu8⟩, hM2⟩ := hF
 replace M := M.same hM2
 have hT := hT8.up ⟨hd1, by rw [hu8 k _ rfl hk]; simp [Fr.rc, Fr.jn, T.ids, T.p, sideC]⟩
 change RS D _ t mb C (.n k i s r _) _ _ _ at hT
 clear hM2
 refine w_nil (xn_then (w_seq (w_reg ?_)))
 refine wl_m (.tmp 0) (pt t 0) ?_
 refine wl_m (.tmp 1) (pt k 0) ?_
 refine wl_m (.tmp 2) (.int .i64 (1)) ?_
 refine wl_callg 73 [(.tmp 62), (.tmp 63), (.tmp 64)] _ [pt t 0, pt k 0, .int .i64 (1)] (pt j 0) rfl rfl (fun _ _ => by kernel_rfl) (turnR hT ⟨rfl, ob.2.2, oa⟩ ob.2.1 or (by simp only [T.sz]; omega) (by omega) (by omega) (by simp only [T.sz]; omega)) rfl ?_
 intro w10 hF
 obtain ⟨⟨R9, root9, hT, _⟩, hM2⟩ := hF
 replace M := M.same hM2
 clear hM2
 refine wl_m (.tmp 65) (pt j 0) ?_
 refine w_nil (xn_then (w_ret ?_))
 exact w_ret1 _ (pt j 0) rfl rfl ⟨rfl, (((lk) + cnt [(top C), (some j), a.p]) + cnt [c.p, z.p]), by omega, by omega, ⟨_, _, hT⟩, M⟩
end
end G
end Go.Proofs.Ythfemlhmnjfjiaa
/-
 A node mended, all above mended from below.
-/
namespace Go.Proofs.Ythfemlhmnjfjiaa
open Go.RowKit
namespace G
def lightL (k : Nat) (i : Py) (l r : T) : T := match l with
 | .e => .n k i (1 + r.sz) .e r
 | .n kk ii _ a b => match decide (2 * (a.sz + 1) ≤ b.sz + 1), b with
  | true, .n j jj _ c z => .n j jj (1 + (1 + a.sz + c.sz) + (1 + z.sz + r.sz)) (.n kk ii (1 + a.sz + c.sz) a c) (.n k i (1 + z.sz + r.sz) z r)
  | _, b => .n kk ii (1 + a.sz + (1 + b.sz + r.sz)) a (.n k i (1 + b.sz + r.sz) b r)
def lightR (k : Nat) (i : Py) (l r : T) : T := match r with
 | .e => .n k i (1 + l.sz) l .e
 | .n kk ii _ b a => match decide (2 * (a.sz + 1) ≤ b.sz + 1), b with
  | true, .n j jj _ c z => .n j jj (1 + (1 + l.sz + c.sz) + (1 + z.sz + a.sz)) (.n k i (1 + l.sz + c.sz) l c) (.n kk ii (1 + z.sz + a.sz) z a)
  | _, b => .n kk ii (1 + (1 + l.sz + b.sz) + a.sz) (.n k i (1 + l.sz + b.sz) l b) a
def bal (k : Nat) (i : Py) (l r : T) : T :=
 if 3 * (r.sz + 1) < l.sz + 1 then lightL k i l r else if 3 * (l.sz + 1) < r.sz + 1 then lightR k i l r else .n k i (1 + l.sz + r.sz) l r
def balF (f : Fr) (tr : T) : T := if f.d then bal f.k f.i f.o tr else bal f.k f.i tr f.o
def rebuild : Cx → T → T
 | [], tr => tr
 | f :: C, tr => rebuild C (balF f tr)
section
variable {k : Nat} {i : Py} {l r : T}
theorem lightL_ids (k : Nat) (i : Py) (l r : T) : (lightL k i l r).ids = l.ids ++ i :: r.ids := by
 unfold lightL
 cases l with
 | e => rfl
 | n kk ii ss a b =>
  cases hd : decide (2 * (a.sz + 1) ≤ b.sz + 1) <;> cases b <;> simp [hd, T.ids]
theorem lightR_ids (k : Nat) (i : Py) (l r : T) : (lightR k i l r).ids = l.ids ++ i :: r.ids := by
 unfold lightR
 cases r with
 | e => rfl
 | n kk ii ss b a =>
  cases hd : decide (2 * (a.sz + 1) ≤ b.sz + 1) <;> cases b <;> simp [hd, T.ids]
theorem bal_ids (k : Nat) (i : Py) (l r : T) : (bal k i l r).ids = l.ids ++ i :: r.ids := by
 unfold bal
 split
 ·exact lightL_ids k i l r
 ·split
  ·exact lightR_ids k i l r
  ·rfl
theorem lightL_ok (ol : l.ok) (or : r.ok) : (lightL k i l r).ok := by
 unfold lightL
 cases l with
 | e => exact ⟨by simp [T.sz], trivial, or⟩
 | n kk ii ss a b =>
  have ob := ol.2.2
  cases hd : decide (2 * (a.sz + 1) ≤ b.sz + 1) <;> cases b <;> simp_all [T.ok, T.sz]
theorem lightR_ok (ol : l.ok) (or : r.ok) : (lightR k i l r).ok := by
 unfold lightR
 cases r with
 | e => exact ⟨by simp [T.sz], ol, trivial⟩
 | n kk ii ss b a =>
  have ob := or.2.1
  cases hd : decide (2 * (a.sz + 1) ≤ b.sz + 1) <;> cases b <;> simp_all [T.ok, T.sz]
theorem bal_ok (ol : l.ok) (or : r.ok) : (bal k i l r).ok := by
 unfold bal
 split
 ·exact lightL_ok ol or
 ·split
  ·exact lightR_ok ol or
  ·exact ⟨rfl, ol, or⟩
theorem bal_sz (k : Nat) (i : Py) (l r : T) : (bal k i l r).sz = 1 + l.sz + r.sz := by
 rw [T.sz_ids, bal_ids, T.sz_ids l, T.sz_ids r]; simp; omega
theorem lightL_p (k : Nat) (i : Py) (l r : T) : ∃ j, (lightL k i l r).p = some j := by
 unfold lightL
 cases l with
 | e => exact ⟨_, rfl⟩
 | n kk ii ss a b => cases hd : decide (2 * (a.sz + 1) ≤ b.sz + 1) <;> cases b <;> (simp only [hd]; exact ⟨_, rfl⟩)
theorem lightR_p (k : Nat) (i : Py) (l r : T) : ∃ j, (lightR k i l r).p = some j := by
 unfold lightR
 cases r with
 | e => exact ⟨_, rfl⟩
 | n kk ii ss b a => cases hd : decide (2 * (a.sz + 1) ≤ b.sz + 1) <;> cases b <;> (simp only [hd]; exact ⟨_, rfl⟩)
end
def okC (C : Cx) : Prop := ∀ f ∈ C, f.o.ok
def csz : Cx → Int
 | [] => 0
 | f :: C => 1 + f.o.sz + csz C
theorem csz_nn : ∀ C : Cx, 0 ≤ csz C
 | [] => Int.le_refl 0
 | f :: C => by have := csz_nn C; have := T.sz_nn f.o; unfold csz; omega
theorem balF_ok {f : Fr} {tr : T} (h : f.o.ok) (ht : tr.ok) : (balF f tr).ok := by
 unfold balF; split
 ·exact bal_ok h ht
 ·exact bal_ok ht h
theorem balF_sz (f : Fr) (tr : T) : (balF f tr).sz = 1 + f.o.sz + tr.sz := by
 unfold balF; split
 ·exact bal_sz _ _ _ _
 ·rw [bal_sz]; omega
theorem balF_ids (f : Fr) (tr : T) : (balF f tr).ids = (f.jn tr).ids := by
 unfold balF Fr.jn; split
 ·exact bal_ids _ _ _ _
 ·exact bal_ids _ _ _ _
theorem plug_ids : ∀ (C : Cx) {t u : T}, t.ids = u.ids → (plug C t).ids = (plug C u).ids
 | [], _, _, h => h
 | f :: C, t, u, h => by
  unfold plug
  refine plug_ids C ?_
  unfold Fr.jn
  split <;> simp [T.ids, h]
theorem rebuild_ids : ∀ (C : Cx) (tr : T), (rebuild C tr).ids = (plug C tr).ids
 | [], _ => rfl
 | f :: C, tr => by
  unfold rebuild plug
  rw [rebuild_ids C]
  exact plug_ids C (balF_ids f tr)
theorem rebuild_ok : ∀ (C : Cx) (tr : T), okC C → tr.ok → (rebuild C tr).ok
 | [], _, _, h => h
 | f :: C, tr, hC, h => by
  unfold rebuild
  exact rebuild_ok C _ (fun g hg => hC g (by simp [hg])) (balF_ok (hC f (by simp)) h)
theorem jn_cases (f : Fr) (tr : T) (hf : f.o.ok) (ht : tr.ok) : ∃ l r, f.jn tr = .n f.k f.i f.s l r ∧ balF f tr = bal f.k f.i l r ∧ l.ok ∧ r.ok ∧ l.sz + r.sz = f.o.sz + tr.sz := by
 unfold Fr.jn balF
 cases f.d with
 | true => exact ⟨f.o, tr, rfl, rfl, hf, ht, rfl⟩
 | false => exact ⟨tr, f.o, rfl, rfl, ht, hf, by omega⟩
section
variable {D : Nat → Prop} {w : World} {t : Nat} {mb : Hd} {R : Mp} {root : Option Nat} {lk : Int}
theorem lightL_n {C : Cx} {k : Nat} {i : Py} {s : Int} {l r : T} (h : TS D w t mb C (.n k i s l r) lk) (ol : l.ok) (or : r.ok) (hb : 3 * (r.sz + 1) < l.sz + 1) (bl : l.sz ≤ 9000) (br : r.sz ≤ 9000) (hss : s = 1 + l.sz + r.sz) (hlk : 0 ≤ lk ∧ lk ≤ 4000000000000000000) {q : Nat} (hq : (lightL k i l r).p = some q) :
  Calls Try.prog 61 #[pt t 0, pt k 0, .int .i64 0] w fun e w' => e = .returned (pt q 0) ∧ ∃ lk', lk ≤ lk' ∧ lk' ≤ lk + 5 ∧ TS D w' t mb C (lightL k i l r) lk' ∧ Mk D w w' := by
 have hr0 := T.sz_nn r
 cases l with
 | e => simp only [T.sz] at hb; omega
 | n kk ii ss a b =>
  have ha0 := T.sz_nn a
  have hb0 := T.sz_nn b
  simp only [T.sz] at bl hss
  unfold lightL at hq ⊢
  cases hd : decide (2 * (a.sz + 1) ≤ b.sz + 1) with
  | false =>
   simp only [hd] at hq ⊢
   cases hq
   exact lightS0 h ol.2.1 ol.2.2 or (by omega) (by omega) (by omega) hd (by omega) hlk
  | true =>
   cases b with
   | e => simp [T.sz] at hd; omega
   | n j jj js c z =>
    simp only [hd] at hq ⊢
    cases hq
    have hc0 := T.sz_nn c
    have hz0 := T.sz_nn z
    have hq1 := ol.1
    simp only [T.sz] at bl hd hss hq1
    exact lightD0 h ol.2.1 ol.2.2 or (by omega) ⟨by omega, by omega⟩ (by omega) hd (by omega) (by omega) hlk
theorem lightR_n {C : Cx} {k : Nat} {i : Py} {s : Int} {l r : T} (h : TS D w t mb C (.n k i s l r) lk) (ol : l.ok) (or : r.ok) (hb : 3 * (l.sz + 1) < r.sz + 1) (bl : l.sz ≤ 9000) (br : r.sz ≤ 9000) (hss : s = 1 + l.sz + r.sz) (hlk : 0 ≤ lk ∧ lk ≤ 4000000000000000000) {q : Nat} (hq : (lightR k i l r).p = some q) :
  Calls Try.prog 61 #[pt t 0, pt k 0, .int .i64 1] w fun e w' => e = .returned (pt q 0) ∧ ∃ lk', lk ≤ lk' ∧ lk' ≤ lk + 5 ∧ TS D w' t mb C (lightR k i l r) lk' ∧ Mk D w w' := by
 have hr0 := T.sz_nn l
 cases r with
 | e => simp only [T.sz] at hb; omega
 | n kk ii ss b a =>
  have ha0 := T.sz_nn a
  have hb0 := T.sz_nn b
  simp only [T.sz] at br hss
  unfold lightR at hq ⊢
  cases hd : decide (2 * (a.sz + 1) ≤ b.sz + 1) with
  | false =>
   simp only [hd] at hq ⊢
   cases hq
   exact lightS1 h or.2.2 or.2.1 ol (by omega) (by omega) (by omega) hd (by omega) hlk
  | true =>
   cases b with
   | e => simp [T.sz] at hd; omega
   | n j jj js c z =>
    simp only [hd] at hq ⊢
    cases hq
    have hc0 := T.sz_nn c
    have hz0 := T.sz_nn z
    have hq1 := or.1
    simp only [T.sz] at br hd hss hq1
    exact lightD1 h or.2.2 or.2.1 ol (by omega) ⟨by omega, by omega⟩ (by omega) hd (by omega) (by omega) hlk
theorem heavy_L (hS : HS D w t mb R root lk) {k : Nat} {r : Rc} (hk : R k = some r) {a b : Int} (hl : szo R r.l a) (h0 : 0 ≤ a) (h1 : a ≤ 1000000) (hr : szo R r.r b) (h2 : 0 ≤ b) (h3 : b ≤ 1000000) (hx : decide (3 * (b + 1) < a + 1) = true) :
  Calls Try.prog 60 #[pt k 0] w fun e w' => e = .returned (.tuple #[.int .i64 0, .bool true]) ∧ Mo w w' := by
 have h := heavy_n hS hk hl h0 h1 hr h2 h3
 unfold hvy at h
 rw [hx, if_pos (of_decide_eq_true hx)] at h
 exact h
theorem heavy_R (hS : HS D w t mb R root lk) {k : Nat} {r : Rc} (hk : R k = some r) {a b : Int} (hl : szo R r.l a) (h0 : 0 ≤ a) (h1 : a ≤ 1000000) (hr : szo R r.r b) (h2 : 0 ≤ b) (h3 : b ≤ 1000000) (hx : decide (3 * (b + 1) < a + 1) = false) {v : Bool} (hy : decide (3 * (a + 1) < b + 1) = v) :
  Calls Try.prog 60 #[pt k 0] w fun e w' => e = .returned (.tuple #[.int .i64 1, .bool v]) ∧ Mo w w' := by
 have h := heavy_n hS hk hl h0 h1 hr h2 h3
 unfold hvy at h
 rw [hx, hy, if_neg (of_decide_eq_false hx)] at h
 exact h
theorem Rep.rt2 {sc : List Int} {R : Mp} {u : Option Nat} {tr : T} (h : Rep sc R u tr) {j : Nat} (e : tr.p = some j) : ∃ l r s i hd c, R j = some ⟨u, l, r, s, i, hd, c⟩ := by
 cases tr with
 | e => cases e
 | n k i s l r => cases e; obtain ⟨h9, e9⟩ := h.1; exact ⟨_, _, _, _, _, _, e9⟩
end
end G
end Go.Proofs.Ythfemlhmnjfjiaa
/-
 The tree's settle: all above a place is mended.
-/
namespace Go.Proofs.Ythfemlhmnjfjiaa
open Go.RowKit
namespace G
section
variable {D : Nat → Prop} {w : World} {t : Nat} {mb : Hd} {lk : Int}
theorem cnt_pos (k : Nat) (ps : List (Option Nat)) : 1 ≤ cnt (some k :: ps) := by have := cnt_bd ps (0 + 1); unfold cnt; simp only [List.foldl_cons, Option.isSome_some, if_true]; omega
theorem RS.op {R : Mp} {root : Option Nat} {f : Fr} {C : Cx} {tr : T} (h : RS D w t mb (f :: C) tr lk R root) {l r : T} (hj : f.jn tr = .n f.k f.i f.s l r) : (∃ hd c, R f.k = some ⟨top C, l.p, r.p, f.s, f.i, hd, c⟩) ∧ Rep mb.sc R (some f.k) l ∧ Rep mb.sc R (some f.k) r ∧ RepC mb.sc R root C (some f.k) ∧ (adC C ++ (T.n f.k f.i f.s l r).ad).Nodup := by
 obtain ⟨hS, hA, hC, hR, hn⟩ := h
 have hn2 := (ad_up f C tr).nodup_iff.1 hn
 rw [hj] at hn2
 obtain ⟨h9, c9, e9⟩ := hC.1
 unfold Fr.rc at e9
 unfold Fr.jn at hj
 cases hd : f.d with
 | true => rw [hd] at hj e9; cases hj; exact ⟨⟨h9, c9, e9⟩, hC.2.1, hR, hC.2.2, hn2⟩
 | false => rw [hd] at hj e9; cases hj; exact ⟨⟨h9, c9, e9⟩, hR, hC.2.1, hC.2.2, hn2⟩
theorem settle_n {C : Cx} {tr : T} (hT : TS D w t mb C tr lk) (ot : tr.ok) (oc : okC C) (hb : csz C + tr.sz ≤ 9000) (hlk : 0 ≤ lk ∧ lk + 8 * C.length ≤ 4000000000000000000) :
  Calls Try.prog 48 #[pt t 0, pp (top C)] w fun e w' => e = .returned (.tuple #[]) ∧ ∃ lk', lk + C.length ≤ lk' ∧ lk' ≤ lk + 8 * C.length ∧ TS D w' t mb [] (rebuild C tr) lk' ∧ Mk D w w' := by
 refine w_enter 39 Try.func48 Try.ntmps48 rfl rfl ?_
 have M : Mk D w w := Mk.refl _ _
 refine w_block ?_
 refine w_loop (fun m l w1 => ∃ (C1 : Cx) (tr1 : T) (lk1 : Int), m = C1.length ∧ look l 0 = pt t 0 ∧ look l 1 = pp (top C1) ∧ TS D w1 t mb C1 tr1 lk1 ∧ tr1.ok ∧ okC C1 ∧ rebuild C1 tr1 = rebuild C tr ∧ csz C1 + tr1.sz ≤ 9000 ∧ lk + C.length ≤ lk1 + C1.length ∧ lk1 + 8 * C1.length ≤ lk + 8 * C.length ∧ Mk D w w1) _ ⟨C, tr, lk, rfl, rfl, rfl, hT, ot, oc, rfl, hb, Int.le_refl _, Int.le_refl _, M⟩ ?_
 clear M hT ot oc hb
 rintro m l0 wl ⟨C1, tr1, lk1, rfl, e0, e1, hT, ot, oc, hrb, hb, hl1, hl2, M⟩
 cases C1 with
 | nil =>
  refine w_seq (w_seq (w_reg ?_))
  refine wl_mv (.tmp 1) (pp none) (fun _ => rfl) e1 rfl ?_
  refine wl_b .neq 65 (.tmp 6) (.const (.pointer none)) (pp none) (pp none) (.bool false) (neP none _ _ _) ?_
  refine w_nil (xn_then (w_condF rfl (w_exit (xx_then (xx_then (xx_blk ?_))))))
  exact w_end0 rfl ⟨rfl, lk1, by simp only [List.length_nil] at hl1; omega, by simp only [List.length_nil] at hl2; omega, by rw [← hrb]; exact hT, M⟩
 | cons y C1 =>
  obtain ⟨l, r, hj, hbf, ol, or, hsz⟩ := jn_cases y tr1 (oc y (by simp)) ot
  obtain ⟨R, root, hT⟩ := hT
  have hS := hT.hs
  have hAp := hT.ap
  obtain ⟨⟨h9, c9, hk⟩, hl, hr, hC, hn⟩ := hT.op hj
  clear hT
  have n1 := nd_pos hn
  have hcz : csz (y :: C1) = 1 + y.o.sz + csz C1 := rfl
  have h0l := T.sz_nn l; have h0r := T.sz_nn r; have h0c := csz_nn C1
  simp only [List.length_cons] at hl2 hl1
  have hlk0 : 0 ≤ lk1 := by omega
  refine w_seq (w_seq (w_reg ?_))
  refine wl_mv (.tmp 1) (pt y.k 0) (fun _ => rfl) e1 rfl ?_
  refine wl_b .neq 65 (.tmp 6) (.const (.pointer none)) (pt y.k 0) (pp none) (.bool true) (neP (some y.k) _ _ _) ?_
  refine w_nil (xn_then (w_condT rfl (w_skip (xn_then (w_block (w_seq ?_))))))
  refine w_any 12 [.inl (pt t 0), .inl (pt y.k 0), .inl (pt y.k 0), .inl (pt y.k 0), .inl (pt y.k 3), .inl (pt y.k 3), .inl (pp l.p), .inl (pt y.k 0), .inl (pt y.k 0), .inl (pt y.k 3), .inl (pt y.k 4), .inl (pp r.p)] [0] (by kernel_rfl) (by kernel_rfl) (by kernel_rfl) (by kernel_rfl) rfl (by kernel_rfl) (by kernel_rfl) (late_cons ⟨_, _, rfl, rfl, fun _ _ _ _ h => h, fun f hd => ⟨rfl, la_mv (.tmp 0) (pt t 0) (fun _ => rfl) e0⟩⟩ late_nil) ?_ ?_ ?_
  ·exact Ds.none rfl
  ·refine ea_cons ?_ (ea_cons ?_ (ea_cons ?_ (ea_cons ?_ (ea_cons ?_ (ea_cons ?_ (ea_cons ?_ (ea_cons ?_ (ea_cons ?_ (ea_cons ?_ (ea_cons ?_ (ea_cons ?_ (ea_nil))))))))))))
   ·exact og_eq _ rfl (fun f wf hq hd K hK => go_run rfl (wo_mv (.tmp 0) (pt t 0) (fun _ => rfl) e0 (hK _ (Mo.refl _))))
   ·exact og_eq _ rfl (fun f wf hq hd K hK => go_run rfl (wo_mv (.tmp 1) (pt y.k 0) (fun _ => rfl) e1 (hK _ (Mo.refl _))))
   ·exact og_eq _ rfl (fun f wf hq hd K hK => go_run rfl (wo_mv (.tmp 1) (pt y.k 0) (fun _ => rfl) e1 (hK _ (Mo.refl _))))
   ·exact og_eq _ rfl (fun f wf hq hd K hK => go_run rfl (wo_nc (.tmp 10) y.k 0 rfl (hd 2 rfl) (hK _ (Mo.refl _))))
   ·exact og_eq _ rfl (fun f wf hq hd K hK => go_run rfl (wo_un (fun v => Instr.fieldAt 93 v 2) (.tmp 11) (pt y.k 0) (pt y.k 3) (fun _ => rfl) (hd 3 rfl) (by kernel_rfl) (hK _ (Mo.refl _))))
   ·exact og_eq _ rfl (fun f wf hq hd K hK => go_run rfl (wo_bin (fun x y => Instr.indexAt 91 x y) (.tmp 12) (.const (.int .i64 (0))) (pt y.k 3) (.int .i64 (0)) (pt y.k 3) (fun _ => rfl) (hd 4 rfl) rfl (by kernel_rfl) (hK _ (Mo.refl _))))
   ·exact og_eq _ rfl (fun f wf hq hd K hK => have hS := hS.mo hq; go_run rfl (wo_load 65 (.tmp 13) (pt y.k 3) (pp l.p) rfl (hd 5 rfl) (run_one (hS.rc y.k _ hk) 65 3 rfl Try.underlying65 rfl) (hK _ (Mo.refl _))))
   ·exact og_eq _ rfl (fun f wf hq hd K hK => go_run rfl (wo_mv (.tmp 1) (pt y.k 0) (fun _ => rfl) e1 (hK _ (Mo.refl _))))
   ·exact og_eq _ rfl (fun f wf hq hd K hK => go_run rfl (wo_nc (.tmp 15) y.k 0 rfl (hd 7 rfl) (hK _ (Mo.refl _))))
   ·exact og_eq _ rfl (fun f wf hq hd K hK => go_run rfl (wo_un (fun v => Instr.fieldAt 93 v 2) (.tmp 16) (pt y.k 0) (pt y.k 3) (fun _ => rfl) (hd 8 rfl) (by kernel_rfl) (hK _ (Mo.refl _))))
   ·exact og_eq _ rfl (fun f wf hq hd K hK => go_run rfl (wo_bin (fun x y => Instr.indexAt 91 x y) (.tmp 17) (.const (.int .i64 (1))) (pt y.k 3) (.int .i64 (1)) (pt y.k 4) (fun _ => rfl) (hd 9 rfl) rfl (by kernel_rfl) (hK _ (Mo.refl _))))
   ·exact og_eq _ rfl (fun f wf hq hd K hK => have hS := hS.mo hq; go_run rfl (wo_load 65 (.tmp 18) (pt y.k 4) (pp r.p) rfl (hd 10 rfl) (run_one (hS.rc y.k _ hk) 65 4 rfl Try.underlying65 rfl) (hK _ (Mo.refl _))))
  intro kf11 w11 hq _ _
  replace hS := hS.mo hq
  replace M := M.trans hq
  clear hq
  refine wl_bsl [(0, (.tmp 9)), (1, (.tmp 14)), (2, (.tmp 19))] [pp (some y.k), pp l.p, pp r.p] 3 rfl rfl (bs3 (some y.k) l.p r.p) rfl ?_
  intro g11 w12 hk hz hq Q11
  have nd_g11 : ¬ D g11 := fun e => by have := hS.lt e; omega
  replace hS := hS.mo hq
  replace M := M.trans hq
  clear hk hz hq
  refine wl_callg 34 [(.tmp 8), (.tmp 20)] _ [pt t 0, .slice (some ⟨g11, 0, none⟩) 3 3] (.tuple #[]) rfl rfl (fun _ _ => by kernel_rfl) (look_n [(some y.k), l.p, r.p] g11 hS Q11 nd_g11 (by simp only [List.length_cons, List.length_nil]; omega)) rfl ?_
  intro w13 hF
  have hc0 := cnt_pos y.k [l.p, r.p]
  have hc1 := cnt_le [(some y.k), l.p, r.p]
  simp only [List.length_cons, List.length_nil] at hc1
  obtain ⟨hS2, hM2⟩ := hF
  replace hS := hS2
  replace M := M.same hM2
  clear hS2 hM2 Q11 nd_g11
  refine w_nil (xn_then (w_seq (w_reg ?_)))
  refine wl_mv (.tmp 0) (pt t 0) (fun _ => rfl) e0 rfl ?_
  refine wl_mv (.tmp 1) (pt y.k 0) (fun _ => rfl) e1 rfl ?_
  have hn2 := n1.2.1
  unfold T.ad at hn2
  have hn3 := List.nodup_cons.1 hn2
  refine wl_callg 59 [(.tmp 22), (.tmp 23)] _ [pt t 0, pt y.k 0] (.tuple #[]) rfl rfl (fun _ _ => by kernel_rfl) (mend_n hS hAp hk (szo_of hl ol) (T.sz_nn l) (by omega) (szo_of hr or) (T.sz_nn r) (by omega) (fun e => hn3.1 (by simp [T.pm e])) (fun e => hn3.1 (by simp [T.pm e])) (fun c hc => smo_of hl hc) (fun c hc => smo_of hr hc)) rfl ?_
  intro w14 hF
  have hoy : y.i.ok := (hS.sv _ _ hk).2.2
  have hol := Rep.oks hS hl
  have hor := Rep.oks hS hr
  obtain ⟨hS2, hM2⟩ := hF
  rw [agg_mid hol hoy hor] at hS2
  have hk0 := hk
  replace hS := hS2
  replace M := M.same hM2
  clear hS2 hM2
  obtain ⟨R1, eR1⟩ : ∃ X, X = ud R y.k ⟨(top C1), l.p, r.p, (1 + l.sz + r.sz), y.i, h9, (agg mb.sc (l.ids ++ y.i :: r.ids))⟩ := ⟨_, rfl⟩
  rw [← eR1] at hS
  have hk : R1 y.k = some ⟨(top C1), l.p, r.p, (1 + l.sz + r.sz), y.i, h9, (agg mb.sc (l.ids ++ y.i :: r.ids))⟩ := by rw [eR1]; exact ud_same _ _ _
  replace hAp : Ap R1 := by rw [eR1]; exact hAp.wr hk0 rfl rfl
  have hnk : y.k ∉ adC C1 := fun m => n1.2.2 _ m (by unfold T.ad; simp)
  replace hC : RepC mb.sc R1 root C1 (some y.k) := by rw [eR1]; exact hC.ud hnk
  replace hl : Rep mb.sc R1 (some y.k) l := by rw [eR1]; exact hl.ud (fun m => hn3.1 (by simp [m]))
  replace hr : Rep mb.sc R1 (some y.k) r := by rw [eR1]; exact hr.ud (fun m => hn3.1 (by simp [m]))
  refine w_nil (xn_then (w_seq (w_seq ?_)))
  cases hf0 : decide (3 * (r.sz + 1) < l.sz + 1) with
  | true =>
   have hf0p := of_decide_eq_true hf0
   refine w_reg ?_
   refine wl_mv (.tmp 1) (pt y.k 0) (fun _ => rfl) e1 rfl ?_
   refine wl_call 60 [(.tmp 26)] _ [pt y.k 0] (.tuple #[.int .i64 (0), .bool true]) rfl rfl (fun _ _ => by kernel_rfl) (heavy_L hS hk (szo_of hl ol) (T.sz_nn l) (by omega) (szo_of hr or) (T.sz_nn r) (by omega) hf0) rfl ?_
   intro w15 hq
   replace hS := hS.mo hq
   replace M := M.trans hq
   clear hq
   refine wl_m (.tmp 27) (.tuple #[.int .i64 (0), .bool true]) ?_
   refine wl_un (fun v => Instr.extract v 0) (.tmp 25) (.tuple #[.int .i64 (0), .bool true]) (.int .i64 (0)) (fun _ => rfl) rfl (by kernel_rfl) rfl ?_
   refine wl_un (fun v => Instr.extract v 1) (.tmp 25) (.tuple #[.int .i64 (0), .bool true]) (.bool true) (fun _ => rfl) rfl (by kernel_rfl) rfl ?_
   refine wl_m (.tmp 28) (.int .i64 (0)) ?_
   refine wl_m (.tmp 29) (.bool true) ?_
   refine w_nil (xn_then (w_seq (w_reg ?_)))
   refine wl_m (.tmp 5) (.bool true) ?_
   refine w_nil (xn_then (w_condT rfl (w_reg ?_)))
   refine wl_mv (.tmp 0) (pt t 0) (fun _ => rfl) e0 rfl ?_
   refine wl_mv (.tmp 1) (pt y.k 0) (fun _ => rfl) e1 rfl ?_
   refine wl_m (.tmp 4) (.int .i64 (0)) ?_
   obtain ⟨j, hjp⟩ := lightL_p y.k y.i l r
   refine wl_callg 61 [(.tmp 31), (.tmp 32), (.tmp 33)] _ [pt t 0, pt y.k 0, .int .i64 (0)] (pt j 0) rfl rfl (fun _ _ => by kernel_rfl) (lightL_n (⟨R1, root, hS, hAp, hC, ⟨⟨_, hk⟩, hl, hr⟩, hn⟩ : TS D _ t mb C1 (.n y.k y.i (1 + l.sz + r.sz) l r) _) ol or (of_decide_eq_true hf0) (by omega) (by omega) rfl (by omega) hjp) rfl ?_
   intro w16 hF
   obtain ⟨lk2, hk1, hk2, hT2, hM2⟩ := hF
   replace M := M.same hM2
   clear hM2
   obtain ⟨R9, root9, hS9, hAp9, hC9, hR9, hn9⟩ := hT2
   obtain ⟨jl, jr, js, ji, jh, jc, hjr⟩ := hR9.rt2 hjp
   replace hS := hS9
   clear hS9
   refine wl_m (.tmp 34) (pt j 0) ?_
   refine w_nil (xn_then (w_reg ?_))
   refine wl_m (.tmp 1) (pt j 0) ?_
   refine wl_nc (.tmp 35) j 0 rfl rfl rfl ?_
   refine wl_f 93 1 (.tmp 36) (pt j 0) (pt j 2) ?_
   refine wl_l 65 (.tmp 37) (pt j 2) (pp (top C1)) (run_one (hS.rc j _ hjr) 65 2 rfl Try.underlying65 rfl) ?_
   refine wl_m (.tmp 38) (pp (top C1)) ?_
   refine w_nil (xn_blk ?_)
   have hbe : balF y tr1 = (lightL y.k y.i l r) := by rw [hbf]; unfold bal; rw [if_pos (of_decide_eq_true hf0)]
   exact xn_loop C1.length (by simp) ⟨C1, (lightL y.k y.i l r), lk2, rfl, e0, rfl, ⟨R9, root9, hS, hAp9, hC9, hR9, hn9⟩, by rw [← hbe]; exact balF_ok (oc y (by simp)) ot, fun g hg => oc g (by simp [hg]), by rw [← hrb, ← hbe]; rfl, by rw [← hbe, balF_sz]; omega, by omega, by omega, M⟩
  | false =>
   have hf0p := of_decide_eq_false hf0
   cases hf1 : decide (3 * (l.sz + 1) < r.sz + 1) with
   | true =>
    have hf1p := of_decide_eq_true hf1
    refine w_reg ?_
    refine wl_mv (.tmp 1) (pt y.k 0) (fun _ => rfl) e1 rfl ?_
    refine wl_call 60 [(.tmp 26)] _ [pt y.k 0] (.tuple #[.int .i64 (1), .bool true]) rfl rfl (fun _ _ => by kernel_rfl) (heavy_R hS hk (szo_of hl ol) (T.sz_nn l) (by omega) (szo_of hr or) (T.sz_nn r) (by omega) hf0 hf1) rfl ?_
    intro w15 hq
    replace hS := hS.mo hq
    replace M := M.trans hq
    clear hq
    refine wl_m (.tmp 27) (.tuple #[.int .i64 (1), .bool true]) ?_
    refine wl_un (fun v => Instr.extract v 0) (.tmp 25) (.tuple #[.int .i64 (1), .bool true]) (.int .i64 (1)) (fun _ => rfl) rfl (by kernel_rfl) rfl ?_
    refine wl_un (fun v => Instr.extract v 1) (.tmp 25) (.tuple #[.int .i64 (1), .bool true]) (.bool true) (fun _ => rfl) rfl (by kernel_rfl) rfl ?_
    refine wl_m (.tmp 28) (.int .i64 (1)) ?_
    refine wl_m (.tmp 29) (.bool true) ?_
    refine w_nil (xn_then (w_seq (w_reg ?_)))
    refine wl_m (.tmp 5) (.bool true) ?_
    refine w_nil (xn_then (w_condT rfl (w_reg ?_)))
    refine wl_mv (.tmp 0) (pt t 0) (fun _ => rfl) e0 rfl ?_
    refine wl_mv (.tmp 1) (pt y.k 0) (fun _ => rfl) e1 rfl ?_
    refine wl_m (.tmp 4) (.int .i64 (1)) ?_
    obtain ⟨j, hjp⟩ := lightR_p y.k y.i l r
    refine wl_callg 61 [(.tmp 31), (.tmp 32), (.tmp 33)] _ [pt t 0, pt y.k 0, .int .i64 (1)] (pt j 0) rfl rfl (fun _ _ => by kernel_rfl) (lightR_n (⟨R1, root, hS, hAp, hC, ⟨⟨_, hk⟩, hl, hr⟩, hn⟩ : TS D _ t mb C1 (.n y.k y.i (1 + l.sz + r.sz) l r) _) ol or (of_decide_eq_true hf1) (by omega) (by omega) rfl (by omega) hjp) rfl ?_
    intro w16 hF
    obtain ⟨lk2, hk1, hk2, hT2, hM2⟩ := hF
    replace M := M.same hM2
    clear hM2
    obtain ⟨R9, root9, hS9, hAp9, hC9, hR9, hn9⟩ := hT2
    obtain ⟨jl, jr, js, ji, jh, jc, hjr⟩ := hR9.rt2 hjp
    replace hS := hS9
    clear hS9
    refine wl_m (.tmp 34) (pt j 0) ?_
    refine w_nil (xn_then (w_reg ?_))
    refine wl_m (.tmp 1) (pt j 0) ?_
    refine wl_nc (.tmp 35) j 0 rfl rfl rfl ?_
    refine wl_f 93 1 (.tmp 36) (pt j 0) (pt j 2) ?_
    refine wl_l 65 (.tmp 37) (pt j 2) (pp (top C1)) (run_one (hS.rc j _ hjr) 65 2 rfl Try.underlying65 rfl) ?_
    refine wl_m (.tmp 38) (pp (top C1)) ?_
    refine w_nil (xn_blk ?_)
    have hbe : balF y tr1 = (lightR y.k y.i l r) := by rw [hbf]; unfold bal; rw [if_neg (of_decide_eq_false hf0), if_pos (of_decide_eq_true hf1)]
    exact xn_loop C1.length (by simp) ⟨C1, (lightR y.k y.i l r), lk2, rfl, e0, rfl, ⟨R9, root9, hS, hAp9, hC9, hR9, hn9⟩, by rw [← hbe]; exact balF_ok (oc y (by simp)) ot, fun g hg => oc g (by simp [hg]), by rw [← hrb, ← hbe]; rfl, by rw [← hbe, balF_sz]; omega, by omega, by omega, M⟩
   | false =>
    have hf1p := of_decide_eq_false hf1
    refine w_reg ?_
    refine wl_mv (.tmp 1) (pt y.k 0) (fun _ => rfl) e1 rfl ?_
    refine wl_call 60 [(.tmp 26)] _ [pt y.k 0] (.tuple #[.int .i64 (1), .bool false]) rfl rfl (fun _ _ => by kernel_rfl) (heavy_R hS hk (szo_of hl ol) (T.sz_nn l) (by omega) (szo_of hr or) (T.sz_nn r) (by omega) hf0 hf1) rfl ?_
    intro w15 hq
    replace hS := hS.mo hq
    replace M := M.trans hq
    clear hq
    refine wl_m (.tmp 27) (.tuple #[.int .i64 (1), .bool false]) ?_
    refine wl_un (fun v => Instr.extract v 0) (.tmp 25) (.tuple #[.int .i64 (1), .bool false]) (.int .i64 (1)) (fun _ => rfl) rfl (by kernel_rfl) rfl ?_
    refine wl_un (fun v => Instr.extract v 1) (.tmp 25) (.tuple #[.int .i64 (1), .bool false]) (.bool false) (fun _ => rfl) rfl (by kernel_rfl) rfl ?_
    refine wl_m (.tmp 28) (.int .i64 (1)) ?_
    refine wl_m (.tmp 29) (.bool false) ?_
    refine w_nil (xn_then (w_seq (w_reg ?_)))
    refine wl_m (.tmp 5) (.bool false) ?_
    refine w_nil (xn_then (w_condF rfl (w_skip (xn_then (w_reg ?_)))))
    refine wl_mv (.tmp 1) (pt y.k 0) (fun _ => rfl) e1 rfl ?_
    refine wl_nc (.tmp 35) y.k 0 rfl rfl rfl ?_
    refine wl_f 93 1 (.tmp 36) (pt y.k 0) (pt y.k 2) ?_
    refine wl_l 65 (.tmp 37) (pt y.k 2) (pp (top C1)) (run_one (hS.rc y.k _ hk) 65 2 rfl Try.underlying65 rfl) ?_
    refine wl_m (.tmp 38) (pp (top C1)) ?_
    refine w_nil (xn_blk ?_)
    have hbe : balF y tr1 = (.n y.k y.i (1 + l.sz + r.sz) l r) := by rw [hbf]; unfold bal; rw [if_neg (of_decide_eq_false hf0), if_neg (of_decide_eq_false hf1)]
    exact xn_loop C1.length (by simp) ⟨C1, (.n y.k y.i (1 + l.sz + r.sz) l r), ((lk1) + cnt [(some y.k), l.p, r.p]), rfl, e0, rfl, ⟨R1, root, hS, hAp, hC, ⟨⟨_, hk⟩, hl, hr⟩, hn⟩, by rw [← hbe]; exact balF_ok (oc y (by simp)) ot, fun g hg => oc g (by simp [hg]), by rw [← hrb, ← hbe]; rfl, by rw [← hbe, balF_sz]; omega, by omega, by omega, M⟩
end
end G
end Go.Proofs.Ythfemlhmnjfjiaa
/-
 The tree's find, place and depth; a tree hung to a place.
-/
namespace Go.Proofs.Ythfemlhmnjfjiaa
open Go.RowKit
namespace G
section
variable {D : Nat → Prop} {w : World} {t : Nat} {mb : Hd} {R : Mp} {root : Option Nat} {lk : Int}
theorem RS.at : ∀ (C : Cx) {tr1 : T}, RS D w t mb [] (plug C tr1) lk R root → RS D w t mb C tr1 lk R root
 | [], _, h => h
 | f :: C, tr1, h => (RS.at C (tr1 := f.jn tr1) h).dn.1
def T.ht : T → Nat
 | .e => 0
 | .n _ _ _ l r => 1 + max l.ht r.ht
def ix : Cx → Int
 | [] => 0
 | f :: C => (if f.d then f.o.sz + 1 else 0) + ix C
theorem eqI {a b : Int} {r : Bool} (h : decide (a = b) = r) (x y : Operand) (w : World) : (do eqGuard .eql 3 x y (.int .i64 a) (.int .i64 b); binOp .eql 3 (.int .i64 a) (.int .i64 b)).run Try.prog w = .ok (.bool r) w := by
 have e : (do eqGuard .eql 3 x y (.int .i64 a) (.int .i64 b); binOp .eql 3 (.int .i64 a) (.int .i64 b)).run Try.prog w = .ok (.bool (a == b)) w := by kernel_rfl
 rw [e, ← h]; rfl
theorem place_n {C : Cx} {k : Nat} {i : Py} {s : Int} {l0 r0 : T} (hT : RS D w t mb [] (plug C (.n k i s l0 r0)) lk R root) (ot : (T.n k i s l0 r0).ok) (oc : okC C) (hb : csz C + l0.sz ≤ 9000) (hlk : 0 ≤ lk ∧ lk + 2 + 2 * C.length ≤ 4000000000000000000) :
  Calls Try.prog 37 #[pt t 0, pt k 0] w fun e w' => e = .returned (.int .i64 (l0.sz + ix C)) ∧ ∃ lk', lk ≤ lk' ∧ lk' ≤ lk + 2 + 2 * C.length ∧ HS D w' t mb R root lk' ∧ Mk D w w' := by
 obtain ⟨⟨hd0, hk⟩, hl0, _⟩ := (RS.at C hT).rp
 obtain ⟨hS, hAp0, hC0, hR, hn0⟩ := hT
 have h0l := T.sz_nn l0
 have h0c := csz_nn C
 refine w_enter 61 Try.func37 Try.ntmps37 rfl rfl ?_
 have M : Mk D w w := Mk.refl _ _
 refine w_seq (w_reg ?_)
 refine wl_m (.const (.int .i64 (0))) (.int .i64 (0)) ?_
 refine w_nil (xn_then (w_seq (w_reg ?_)))
 refine wl_m (.tmp 0) (pt t 0) ?_
 refine wl_m (.tmp 1) (pt k 0) ?_
 refine wl_m (.tmp 1) (pt k 0) ?_
 refine wl_nc (.tmp 8) k 0 rfl rfl rfl ?_
 refine wl_f 93 2 (.tmp 9) (pt k 0) (pt k 3) ?_
 refine wl_bin (fun x y => Instr.indexAt 91 x y) (.tmp 10) (.const (.int .i64 (0))) (pt k 3) (.int .i64 (0)) (pt k 3) (fun _ => rfl) rfl rfl (by kernel_rfl) rfl ?_
 refine wl_l 65 (.tmp 11) (pt k 3) (pp l0.p) (run_one (hS.rc k _ hk) 65 3 rfl Try.underlying65 rfl) ?_
 refine wl_bsl [(0, (.tmp 7)), (1, (.tmp 12))] [pp (some k), pp l0.p] 2 rfl rfl (bs2 (some k) l0.p) rfl ?_
 intro g1 w1 hk hz hq Q1
 have nd_g1 : ¬ D g1 := fun e => by have := hS.lt e; omega
 replace hS := hS.mo hq
 replace M := M.trans hq
 clear hk hz hq
 refine wl_callg 34 [(.tmp 6), (.tmp 13)] _ [pt t 0, .slice (some ⟨g1, 0, none⟩) 2 2] (.tuple #[]) rfl rfl (fun _ _ => by kernel_rfl) (look_n [(some k), l0.p] g1 hS Q1 nd_g1 (by simp only [List.length_cons, List.length_nil]; omega)) rfl ?_
 intro w2 hF
 have hc1 := cnt_le [(some k), l0.p]
 simp only [List.length_cons, List.length_nil] at hc1
 obtain ⟨hS2, hM2⟩ := hF
 replace hS := hS2
 replace M := M.same hM2
 clear hS2 hM2 Q1 nd_g1
 refine w_nil (xn_then (w_seq (w_reg ?_)))
 refine wl_m (.tmp 1) (pt k 0) ?_
 refine wl_nc (.tmp 15) k 0 rfl rfl rfl ?_
 refine wl_f 93 2 (.tmp 16) (pt k 0) (pt k 3) ?_
 refine wl_bin (fun x y => Instr.indexAt 91 x y) (.tmp 17) (.const (.int .i64 (0))) (pt k 3) (.int .i64 (0)) (pt k 3) (fun _ => rfl) rfl rfl (by kernel_rfl) rfl ?_
 refine wl_l 65 (.tmp 18) (pt k 3) (pp l0.p) (run_one (hS.rc k _ hk) 65 3 rfl Try.underlying65 rfl) ?_
 refine wl_call 46 [(.tmp 19)] _ [pp l0.p] (.int .i64 (l0.sz)) rfl rfl (fun _ _ => by kernel_rfl) (size_o hS (szo_of hl0 ot.2.1)) rfl ?_
 intro w3 hq
 replace hS := hS.mo hq
 replace M := M.trans hq
 clear hq
 refine wl_m (.tmp 20) (.int .i64 (l0.sz)) ?_
 refine w_nil (xn_then (w_seq (w_block ?_)))
 refine w_loop (fun m l w1 => ∃ (C1 : Cx) (tr1 : T) (lk1 at1 : Int) (k1 : Nat), m = C1.length ∧ look l 0 = pt t 0 ∧ look l 1 = pt k1 0 ∧ look l 5 = .int .i64 at1 ∧ tr1.p = some k1 ∧ HS D w1 t mb R root lk1 ∧ okC C1 ∧ plug C1 tr1 = plug C (.n k i s l0 r0) ∧ csz C1 ≤ 9000 ∧ 0 ≤ at1 ∧ at1 + csz C1 ≤ 9000 ∧ at1 + ix C1 = l0.sz + ix C ∧ lk ≤ lk1 ∧ lk1 + 2 * C1.length ≤ lk + 2 + 2 * C.length ∧ Mk D w w1) _ ⟨C, .n k i s l0 r0, ((lk) + cnt [(some k), l0.p]), l0.sz, k, rfl, rfl, rfl, rfl, rfl, hS, oc, rfl, by omega, T.sz_nn l0, by omega, rfl, by omega, by omega, M⟩ ?_
 clear M hS hk
 rintro m l1 wl ⟨C1, tr1, lk1, at1, k1, rfl, e0, e1, e5, hp1, hS, oc, hpl, hcz, h0, hab, hix, hl1, hl2, M⟩
 obtain ⟨_, hAp, hC, hR1, hn⟩ := RS.at C1 (tr1 := tr1) (R := R) (root := root) (by rw [hpl]; exact ⟨hS, hAp0, hC0, hR, hn0⟩)
 obtain ⟨vl, vr, vs, vi, vh, vc, hk⟩ := hR1.rt2 hp1
 have hlk0 : 0 ≤ lk1 := by omega
 have n1 := nd_pos hn
 cases C1 with
 | nil =>
  refine w_seq (w_seq (w_reg ?_))
  refine wl_mv (.tmp 1) (pt k1 0) (fun _ => rfl) e1 rfl ?_
  refine wl_nc (.tmp 21) k1 0 rfl rfl rfl ?_
  refine wl_f 93 1 (.tmp 22) (pt k1 0) (pt k1 2) ?_
  refine wl_l 65 (.tmp 23) (pt k1 2) (pp none) (run_one (hS.rc k1 _ hk) 65 2 rfl Try.underlying65 rfl) ?_
  refine wl_b .neq 65 (.tmp 24) (.const (.pointer none)) (pp none) (pp none) (.bool false) (neP none _ _ _) ?_
  refine w_nil (xn_then (w_condF rfl (w_exit (xx_then (xx_then (xx_blk (xn_then (w_seq (w_reg ?_)))))))))
  refine wl_mv (.tmp 5) (.int .i64 (at1)) (fun _ => rfl) e5 rfl ?_
  refine wl_m (.tmp 60) (.int .i64 (at1)) ?_
  refine w_nil (xn_then (w_ret ?_))
  have hat : at1 = l0.sz + ix C := by rw [← hix]; simp only [ix]; omega
  exact w_ret1 _ (.int .i64 (at1)) rfl rfl ⟨by rw [hat], lk1, hl1, by simp only [List.length_nil] at hl2; omega, hS, M⟩
 | cons y C1 =>
  obtain ⟨yh, yc, hy⟩ := hC.1
  have hcy : csz (y :: C1) = 1 + y.o.sz + csz C1 := rfl
  have hiy : ix (y :: C1) = (if y.d then y.o.sz + 1 else 0) + ix C1 := rfl
  have h0o := T.sz_nn y.o; have h0c := csz_nn C1
  simp only [List.length_cons] at hl2
  rw [hp1] at hC
  unfold Fr.rc at hy
  rw [hp1] at hy
  cases hd : y.d with
  | true =>
   rw [hd] at hy hiy
   replace hy : R y.k = some ⟨top C1, y.o.p, some k1, y.s, y.i, yh, yc⟩ := hy
   replace hiy : ix (y :: C1) = y.o.sz + 1 + ix C1 := hiy
   have hsd : ∀ {w : World}, HS D w t mb R root lk1 → Calls Try.prog 53 #[pt k1 0] w fun e w' => e = .returned (.int .i64 1) ∧ Mo w w' := fun hS => by have := side_c hS hC hk (fun m => n1.2.2 _ m (T.pm hp1)); rw [show sideC (y :: C1) = true from hd] at this; exact this
   refine w_seq (w_seq (w_reg ?_))
   refine wl_mv (.tmp 1) (pt k1 0) (fun _ => rfl) e1 rfl ?_
   refine wl_nc (.tmp 21) k1 0 rfl rfl rfl ?_
   refine wl_f 93 1 (.tmp 22) (pt k1 0) (pt k1 2) ?_
   refine wl_l 65 (.tmp 23) (pt k1 2) (pt y.k 0) (run_one (hS.rc k1 _ hk) 65 2 rfl Try.underlying65 rfl) ?_
   refine wl_b .neq 65 (.tmp 24) (.const (.pointer none)) (pt y.k 0) (pp none) (.bool true) (neP (some y.k) _ _ _) ?_
   refine w_nil (xn_then (w_condT rfl (w_skip (xn_then (w_block (w_seq (w_seq (w_reg ?_))))))))
   refine wl_mv (.tmp 1) (pt k1 0) (fun _ => rfl) e1 rfl ?_
   refine wl_call 53 [(.tmp 26)] _ [pt k1 0] (.int .i64 (1)) rfl rfl (fun _ _ => by kernel_rfl) (hsd hS) rfl ?_
   intro w11 hq
   replace hS := hS.mo hq
   replace M := M.trans hq
   clear hq
   refine wl_b .eql 3 (.tmp 27) (.const (.int .i64 (1))) (.int .i64 (1)) (.int .i64 (1)) (.bool true) (eqI (r := true) (by decide) _ _ _) ?_
   refine w_nil (xn_then (w_condT rfl (w_seq (w_reg ?_))))
   refine wl_mv (.tmp 0) (pt t 0) (fun _ => rfl) e0 rfl ?_
   refine wl_mv (.tmp 1) (pt k1 0) (fun _ => rfl) e1 rfl ?_
   refine wl_nc (.tmp 30) k1 0 rfl rfl rfl ?_
   refine wl_f 93 1 (.tmp 31) (pt k1 0) (pt k1 2) ?_
   refine wl_l 65 (.tmp 32) (pt k1 2) (pt y.k 0) (run_one (hS.rc k1 _ hk) 65 2 rfl Try.underlying65 rfl) ?_
   refine wl_nc (.tmp 33) y.k 0 rfl rfl rfl ?_
   refine wl_f 93 2 (.tmp 34) (pt y.k 0) (pt y.k 3) ?_
   refine wl_bin (fun x y => Instr.indexAt 91 x y) (.tmp 35) (.const (.int .i64 (0))) (pt y.k 3) (.int .i64 (0)) (pt y.k 3) (fun _ => rfl) rfl rfl (by kernel_rfl) rfl ?_
   refine wl_l 65 (.tmp 36) (pt y.k 3) (pp y.o.p) (run_one (hS.rc y.k _ hy) 65 3 rfl Try.underlying65 rfl) ?_
   refine wl_bsl [(0, (.tmp 37))] [pp y.o.p] 1 rfl rfl (bs1 y.o.p) rfl ?_
   intro g11 w12 hk hz hq Q11
   have nd_g11 : ¬ D g11 := fun e => by have := hS.lt e; omega
   replace hS := hS.mo hq
   replace M := M.trans hq
   clear hk hz hq
   refine wl_callg 34 [(.tmp 29), (.tmp 38)] _ [pt t 0, .slice (some ⟨g11, 0, none⟩) 1 1] (.tuple #[]) rfl rfl (fun _ _ => by kernel_rfl) (look_n [y.o.p] g11 hS Q11 nd_g11 (by simp only [List.length_cons, List.length_nil]; omega)) rfl ?_
   intro w13 hF
   have hc1 := cnt_le [y.o.p]
   simp only [List.length_cons, List.length_nil] at hc1
   obtain ⟨hS2, hM2⟩ := hF
   replace hS := hS2
   replace M := M.same hM2
   clear hS2 hM2 Q11 nd_g11
   refine w_nil (xn_then (w_reg ?_))
   refine wl_mv (.tmp 5) (.int .i64 (at1)) (fun _ => rfl) e5 rfl ?_
   refine wl_mv (.tmp 1) (pt k1 0) (fun _ => rfl) e1 rfl ?_
   refine wl_nc (.tmp 41) k1 0 rfl rfl rfl ?_
   refine wl_f 93 1 (.tmp 42) (pt k1 0) (pt k1 2) ?_
   refine wl_l 65 (.tmp 43) (pt k1 2) (pt y.k 0) (run_one (hS.rc k1 _ hk) 65 2 rfl Try.underlying65 rfl) ?_
   refine wl_nc (.tmp 44) y.k 0 rfl rfl rfl ?_
   refine wl_f 93 2 (.tmp 45) (pt y.k 0) (pt y.k 3) ?_
   refine wl_bin (fun x y => Instr.indexAt 91 x y) (.tmp 46) (.const (.int .i64 (0))) (pt y.k 3) (.int .i64 (0)) (pt y.k 3) (fun _ => rfl) rfl rfl (by kernel_rfl) rfl ?_
   refine wl_l 65 (.tmp 47) (pt y.k 3) (pp y.o.p) (run_one (hS.rc y.k _ hy) 65 3 rfl Try.underlying65 rfl) ?_
   refine wl_call 46 [(.tmp 48)] _ [pp y.o.p] (.int .i64 (y.o.sz)) rfl rfl (fun _ _ => by kernel_rfl) (size_o hS (szo_of hC.2.1 (oc y (by simp)))) rfl ?_
   intro w14 hq
   replace hS := hS.mo hq
   replace M := M.trans hq
   clear hq
   refine wl_b .add 3 (.tmp 49) (.const (.int .i64 (1))) (.int .i64 (y.o.sz)) (.int .i64 (1)) (.int .i64 (y.o.sz + 1)) (addI (by omega) (by omega) _ _ _) ?_
   refine wl_b .add 3 (.tmp 40) (.tmp 50) (.int .i64 (at1)) (.int .i64 (y.o.sz + 1)) (.int .i64 (at1 + (y.o.sz + 1))) (addI (by omega) (by omega) _ _ _) ?_
   refine wl_m (.tmp 51) (.int .i64 (at1 + (y.o.sz + 1))) ?_
   refine w_nil (xn_then (w_seq (w_reg ?_)))
   refine wl_mv (.tmp 1) (pt k1 0) (fun _ => rfl) e1 rfl ?_
   refine wl_nc (.tmp 52) k1 0 rfl rfl rfl ?_
   refine wl_f 93 1 (.tmp 53) (pt k1 0) (pt k1 2) ?_
   refine wl_l 65 (.tmp 54) (pt k1 2) (pt y.k 0) (run_one (hS.rc k1 _ hk) 65 2 rfl Try.underlying65 rfl) ?_
   refine wl_m (.tmp 55) (pt y.k 0) ?_
   refine w_nil (xn_then (w_reg ?_))
   refine wl_mv (.tmp 0) (pt t 0) (fun _ => rfl) e0 rfl ?_
   refine wl_m (.tmp 1) (pt y.k 0) ?_
   refine wl_bsl [(0, (.tmp 57))] [pp (some y.k)] 1 rfl rfl (bs1 (some y.k)) rfl ?_
   intro g12 w15 hk hz hq Q12
   have nd_g12 : ¬ D g12 := fun e => by have := hS.lt e; omega
   replace hS := hS.mo hq
   replace M := M.trans hq
   clear hk hz hq
   refine wl_callg 34 [(.tmp 56), (.tmp 58)] _ [pt t 0, .slice (some ⟨g12, 0, none⟩) 1 1] (.tuple #[]) rfl rfl (fun _ _ => by kernel_rfl) (look_n [(some y.k)] g12 hS Q12 nd_g12 (by simp only [List.length_cons, List.length_nil]; omega)) rfl ?_
   intro w16 hF
   have hc2 := cnt_le [(some y.k)]
   simp only [List.length_cons, List.length_nil] at hc2
   obtain ⟨hS2, hM2⟩ := hF
   replace hS := hS2
   replace M := M.same hM2
   clear hS2 hM2 Q12 nd_g12
   refine w_nil (xn_blk ?_)
   exact xn_loop C1.length (by simp) ⟨C1, y.jn tr1, (((lk1) + cnt [y.o.p]) + cnt [(some y.k)]), at1 + (y.o.sz + 1), y.k, rfl, e0, rfl, rfl, y.jn_p tr1, hS, fun g hg => oc g (by simp [hg]), hpl, by omega, by omega, by omega, by omega, by omega, by omega, M⟩
  | false =>
   rw [hd] at hy hiy
   replace hy : R y.k = some ⟨top C1, some k1, y.o.p, y.s, y.i, yh, yc⟩ := hy
   replace hiy : ix (y :: C1) = 0 + ix C1 := hiy
   have hsd : ∀ {w : World}, HS D w t mb R root lk1 → Calls Try.prog 53 #[pt k1 0] w fun e w' => e = .returned (.int .i64 0) ∧ Mo w w' := fun hS => by have := side_c hS hC hk (fun m => n1.2.2 _ m (T.pm hp1)); rw [show sideC (y :: C1) = false from hd] at this; exact this
   refine w_seq (w_seq (w_reg ?_))
   refine wl_mv (.tmp 1) (pt k1 0) (fun _ => rfl) e1 rfl ?_
   refine wl_nc (.tmp 21) k1 0 rfl rfl rfl ?_
   refine wl_f 93 1 (.tmp 22) (pt k1 0) (pt k1 2) ?_
   refine wl_l 65 (.tmp 23) (pt k1 2) (pt y.k 0) (run_one (hS.rc k1 _ hk) 65 2 rfl Try.underlying65 rfl) ?_
   refine wl_b .neq 65 (.tmp 24) (.const (.pointer none)) (pt y.k 0) (pp none) (.bool true) (neP (some y.k) _ _ _) ?_
   refine w_nil (xn_then (w_condT rfl (w_skip (xn_then (w_block (w_seq (w_seq (w_reg ?_))))))))
   refine wl_mv (.tmp 1) (pt k1 0) (fun _ => rfl) e1 rfl ?_
   refine wl_call 53 [(.tmp 26)] _ [pt k1 0] (.int .i64 (0)) rfl rfl (fun _ _ => by kernel_rfl) (hsd hS) rfl ?_
   intro w11 hq
   replace hS := hS.mo hq
   replace M := M.trans hq
   clear hq
   refine wl_b .eql 3 (.tmp 27) (.const (.int .i64 (1))) (.int .i64 (0)) (.int .i64 (1)) (.bool false) (eqI (r := false) (by decide) _ _ _) ?_
   refine w_nil (xn_then (w_condF rfl (w_skip (xn_then (w_seq (w_reg ?_))))))
   refine wl_mv (.tmp 1) (pt k1 0) (fun _ => rfl) e1 rfl ?_
   refine wl_nc (.tmp 52) k1 0 rfl rfl rfl ?_
   refine wl_f 93 1 (.tmp 53) (pt k1 0) (pt k1 2) ?_
   refine wl_l 65 (.tmp 54) (pt k1 2) (pt y.k 0) (run_one (hS.rc k1 _ hk) 65 2 rfl Try.underlying65 rfl) ?_
   refine wl_m (.tmp 55) (pt y.k 0) ?_
   refine w_nil (xn_then (w_reg ?_))
   refine wl_mv (.tmp 0) (pt t 0) (fun _ => rfl) e0 rfl ?_
   refine wl_m (.tmp 1) (pt y.k 0) ?_
   refine wl_bsl [(0, (.tmp 57))] [pp (some y.k)] 1 rfl rfl (bs1 (some y.k)) rfl ?_
   intro g11 w12 hk hz hq Q11
   have nd_g11 : ¬ D g11 := fun e => by have := hS.lt e; omega
   replace hS := hS.mo hq
   replace M := M.trans hq
   clear hk hz hq
   refine wl_callg 34 [(.tmp 56), (.tmp 58)] _ [pt t 0, .slice (some ⟨g11, 0, none⟩) 1 1] (.tuple #[]) rfl rfl (fun _ _ => by kernel_rfl) (look_n [(some y.k)] g11 hS Q11 nd_g11 (by simp only [List.length_cons, List.length_nil]; omega)) rfl ?_
   intro w13 hF
   have hc1 := cnt_le [(some y.k)]
   simp only [List.length_cons, List.length_nil] at hc1
   obtain ⟨hS2, hM2⟩ := hF
   replace hS := hS2
   replace M := M.same hM2
   clear hS2 hM2 Q11 nd_g11
   refine w_nil (xn_blk ?_)
   exact xn_loop C1.length (by simp) ⟨C1, y.jn tr1, ((lk1) + cnt [(some y.k)]), at1, y.k, rfl, e0, rfl, e5, y.jn_p tr1, hS, fun g hg => oc g (by simp [hg]), hpl, by omega, by omega, by omega, by omega, by omega, by omega, M⟩
end
end G
end Go.Proofs.Ythfemlhmnjfjiaa
/-
 The map of ids: what it says, and what its operations leave.
-/
namespace Go.Proofs.Ythfemlhmnjfjiaa
open Go.RowKit Go.ChangeMaps
namespace G
def dat : Option Nat → DataW Unit
 | none => .lit (.bool false)
 | some k => .lit (.int .i64 k)
def RR (v : Value) : Option (DataW Unit × List MemPlace) := match v with
 | .pointer none => some (dat none, [])
 | .pointer (some ⟨k, 0, none⟩) => some (dat (some k), [])
 | _ => none
theorem RR_pp (x : Option Nat) : RR (pp x) = some (dat x, []) := by cases x <;> rfl
theorem dat_inj {x y : Option Nat} (h : dat x = dat y) : x = y := by
 cases x <;> cases y <;> simp [dat] at h ⊢
 omega
theorem RR_inv {v : Value} {x : Option Nat} {ps : List MemPlace} (h : RR v = some (dat x, ps)) : v = pp x := by
 unfold RR at h
 split at h
 ·rename_i e; simp at h; rw [← dat_inj h.1]; rfl
 ·rename_i e k; simp at h; rw [← dat_inj h.1]; rfl
 ·cases h
theorem keyd : Maps.Keyed Try.prog 2 := Maps.int_keyed Try.underlying2
theorem key_mk {id : Int} (h : (Lit.int .i64 id).wf = true) : keyOf Try.prog 2 (.int .i64 id) = some (.int .i64 id) := Maps.keyOf_int_mk Try.underlying2 h
def fu (f : Int → Option Nat) (id : Int) (x : Option Nat) (j : Int) : Option Nat := if j = id then x else f j
theorem fu_same (f : Int → Option Nat) (id : Int) (x : Option Nat) : fu f id x id = x := if_pos rfl
theorem fu_ne (f : Int → Option Nat) {id j : Int} (x : Option Nat) (h : j ≠ id) : fu f id x j = f j := if_neg h
def OM (w : World) (b : Nat) (f : Int → Option Nat) (n : Nat) : Prop :=
 ∃ D0 : DataW Unit, w.ownsMap Try.prog 2 RR b n D0 ∧ Maps.size D0 = n ∧ (∀ id, Maps.has D0 (.int .i64 id) = (f id).isSome) ∧ ∀ id k, f id = some k → ∀ z, D0.atKey (.int .i64 id) z = dat (some k)
variable {w w' : World} {b : Nat} {f : Int → Option Nat} {n : Nat}
theorem owns_tight {D0 : DataW Unit} {m : Nat} (h : w.ownsMap Try.prog 2 RR b m D0) : w.ownsMap Try.prog 2 RR b (Maps.size D0) D0 := by
 obtain ⟨es, clock, hb, F, _, rfl⟩ := h
 exact ⟨es, clock, hb, F, by simp [Maps.size, length_sorted], rfl⟩
theorem OM.mk {D : Nat → Prop} (h : OM w b f n) (m : Mk D w w') (hb : ¬ D b) : OM w' b f n := by
 obtain ⟨D0, h1, h2⟩ := h
 refine ⟨D0, ?_, h2⟩
 have hlt := h1.lt
 obtain ⟨es, clock, hb', F, hs, hD⟩ := h1
 exact ⟨es, clock, (m.block b hlt hb).trans hb', F, hs, hD⟩
theorem OM.mo (h : OM w b f n) (m : Mo w w') : OM w' b f n := h.mk (Mk.of (fun _ => False) m) (fun e => e)
theorem OM.lt (h : OM w b f n) : b < w.heap.size := by obtain ⟨D0, h1, _⟩ := h; exact h1.lt
theorem OM.look (h : OM w b f n) {id : Int} (hw : (Lit.int .i64 id).wf = true) : (Instr.lookup 66 (.map (some b)) (.int .i64 id) false).run Try.prog w = .ok (pp (f id)) w := by
 obtain ⟨D0, h1, _, h3, h4⟩ := h
 have hz : (zeroValue 65).run Try.prog w = .ok (pp none) w := by kernel_rfl
 obtain ⟨v, ps, hr, hv⟩ := h1.lookup keyd Try.underlying66 hz (RR_pp none) (key_mk hw)
 have e : D0.atKey (.int .i64 id) (dat none) = dat (f id) := by
  cases hf : f id with
  | none => exact Maps.atKey_of_not_has (by rw [h3, hf]; rfl) _
  | some k => exact h4 id k hf _
 rw [e] at hv
 rw [hr, RR_inv hv]
theorem OM.len (h : OM w b f n) (ty : TypeId) : (Builtin.len_ #[66] ty #[.map (some b)]).run Try.prog w = .ok (.int .i64 (n : Int)) w := by
 obtain ⟨D0, h1, h2, _⟩ := h
 have := h1.len Try.underlying66 ty
 rw [h2] at this
 exact this
theorem turned_mk (h : w.mapTurned w' b) : Mk (fun k => k = b) w w' := by
 have g := h.grown
 exact ⟨g.os, g.tape, g.output, g.size, fun k hk hd => g.block k hk (fun e => hd (Option.some.inj e)), h.frozen⟩
theorem ne_lit {a c : Int} (h : a ≠ c) : (Lit.int .i64 a) ≠ .int .i64 c := fun e => h (by cases e; rfl)
theorem OM.put (h : OM w b f n) (hn : n < 1000000) {id : Int} (hw : (Lit.int .i64 id).wf = true) (k : Nat) :
  ∃ w', (Instr.mapUpdate 66 (.map (some b)) (.int .i64 id) (pt k 0)).run Try.prog w = .ok () w' ∧ OM w' b (fu f id (some k)) (if (f id).isSome then n else n + 1) ∧ Mk (fun j => j = b) w w' := by
 obtain ⟨D0, h1, h2, h3, h4⟩ := h
 obtain ⟨w', hr, ho, ht⟩ := h1.store keyd Try.underlying66 (by unfold maxLen; omega) (key_mk hw) (RR_pp (some k))
 have hkl : WideAt.IsKeyLit (Lit.int .i64 id) := trivial
 have hsz := Maps.size_put (h1.tidy keyd) (k := .int .i64 id) (dat (some k))
 rw [h3, h2] at hsz
 refine ⟨w', hr, ⟨_, ?_, hsz, fun j => ?_, fun j q hq z => ?_⟩, turned_mk ht⟩
 ·have := owns_tight ho
  rw [hsz] at this
  exact this
 ·by_cases e : j = id
  ·subst e; rw [fu_same, Maps.has_put_same h1.isMap hkl]; rfl
  ·rw [fu_ne _ _ e, Maps.has_put_other (ne_lit e), h3]
 ·by_cases e : j = id
  ·subst e; rw [fu_same] at hq; cases hq; exact Maps.atKey_put_same h1.isMap hkl _ _
  ·rw [fu_ne _ _ e] at hq; rw [Maps.atKey_put_other (ne_lit e)]; exact h4 j q hq z
theorem OM.del (h : OM w b f n) {id : Int} (hw : (Lit.int .i64 id).wf = true) (hf : (f id).isSome = true) (ty : TypeId) :
  ∃ w', (Builtin.delete_ #[66, 2] ty #[.map (some b), .int .i64 id]).run Try.prog w = .ok (.tuple #[]) w' ∧ OM w' b (fu f id none) (n - 1) ∧ Mk (fun j => j = b) w w' := by
 obtain ⟨D0, h1, h2, h3, h4⟩ := h
 obtain ⟨w', hr, ho, ht⟩ := h1.drop keyd Try.underlying66 (key_mk hw) ty
 have hsz := Maps.size_del (h1.tidy keyd) (k := .int .i64 id)
 rw [h3, hf, h2] at hsz
 have hsz2 : Maps.size (D0.del (.int .i64 id)) = n - 1 := by simp at hsz; omega
 refine ⟨w', hr, ⟨_, ?_, hsz2, fun j => ?_, fun j q hq z => ?_⟩, turned_mk ht⟩
 ·have := owns_tight ho
  rw [hsz2] at this
  exact this
 ·by_cases e : j = id
  ·subst e; rw [fu_same, Maps.has_del_same]; rfl
  ·rw [fu_ne _ _ e, Maps.has_del_other (ne_lit e), h3]
 ·by_cases e : j = id
  ·subst e; rw [fu_same] at hq; cases hq
  ·rw [fu_ne _ _ e] at hq; rw [Maps.atKey_del_other (ne_lit e)]; exact h4 j q hq z
theorem OM.new (w : World) : OM (w.alloc (.map #[] 0)) w.heap.size (fun _ => none) 0 :=
 ⟨_, World.ownsMap_made w Try.prog 2 RR, rfl, fun _ => rfl, fun _ _ h => by cases h⟩
section
variable {o : Oper} {n : Nat} {l : List (Nat × Value)} {w : World} {ops : Array Oper} {rest : List Oper} {Q : Exit → Act → World → Prop}
theorem wl_mup (m x v : Operand) (b : Nat) (id : Int) (k : Nat) {c : Nat} {f : Int → Option Nat} (hM : OM w b f c) (hc : c < 1000000) (hw : (Lit.int .i64 id).wf = true) (ho : o.op = .mapUpdate 66 m x v) (hd : o.dst = none) (hm : evl n l m = .map (some b)) (hx : evl n l x = .int .i64 id) (hv : evl n l v = pt k 0) (hg : wnt n l ops o = true)
  (hk : ∀ w', OM w' b (fu f id (some k)) (if (f id).isSome then c else c + 1) → Mk (fun j => j = b) w w' → WL Try.prog ops Q rest n l w') : WL Try.prog ops Q (o :: rest) n l w := by
 obtain ⟨w', hr, h1, h2⟩ := hM.put hc hw k
 refine ⟨l_step hg ?_⟩
 have e : (execOp (evl n l) o).run Try.prog w = .ok .skip w' := by simp [execOp, ho, hm, hx, hv, hr]
 unfold Oper.wp; rw [fr_eval, e, Oper.upon_skip, hd]; exact (hk w' h1 h2).out
theorem wl_del (m x : Operand) (b : Nat) (id : Int) {c : Nat} {f : Int → Option Nat} (hM : OM w b f c) (hf : (f id).isSome = true) (hw : (Lit.int .i64 id).wf = true) (ho : o.op = .call { callee := .builtin .delete, args := #[m, x], argTypes := #[66, 2] }) (hd : o.dst = none) (hm : evl n l m = .map (some b)) (hx : evl n l x = .int .i64 id) (hg : wnt n l ops o = true)
  (hk : ∀ w', OM w' b (fu f id none) (c - 1) → Mk (fun j => j = b) w w' → WL Try.prog ops Q rest n l w') : WL Try.prog ops Q (o :: rest) n l w := by
 obtain ⟨w', hr, h1, h2⟩ := hM.del hw hf o.type
 have hk2 := hk w' h1 h2
 refine ⟨l_step hg (o_val (.tuple #[]) (w' := w') ?_ (by rw [hd]; exact hk2.out))⟩
 unfold execOp
 simp only [ho, resolve, invoke, builtin, Sem.run_bind, Sem.run_pure, Result.andThen_ok, List.map_toArray, List.map_cons, List.map_nil, hm, hx, hr]
end
end G
end Go.Proofs.Ythfemlhmnjfjiaa
/-
 A node more: its blocks made.
-/
namespace Go.Proofs.Ythfemlhmnjfjiaa
open Go.RowKit
namespace G
theorem inf42 : ∃ i, Try.prog.info? 42 = some i ∧ i.zero = some (smv sm0) ∧ i.size = 23 ∧ i.bytes = 184 := by
  cases h : Try.prog.info? 42 with
  | none => have h2 : (Try.prog.info? 42).isSome = true := by kernel_rfl
            rw [h] at h2; cases h2
  | some i =>
    have h1 : (Try.prog.info? 42).map (·.zero) = some (some (smv sm0)) := by kernel_rfl
    have h2 : (Try.prog.info? 42).map (·.size) = some 23 := by kernel_rfl
    have h3 : (Try.prog.info? 42).map (·.bytes) = some 184 := by kernel_rfl
    rw [h] at h1 h2 h3
    simp only [Option.map_some, Option.some.injEq] at h1 h2 h3
    exact ⟨i, rfl, h1, h2, h3⟩
theorem made_at {n i j : Nat} {v : Value} (hi : i < n) (hv : (sml sm0)[j]? = some v) : (madeCells (smv sm0).cells (n * 23)).toList[i * 23 + j]? = some v := by
 have hj : j < 23 := (List.getElem?_eq_some_iff.1 hv).1
 have hlt : i * 23 + j < n * 23 := by omega
 have hz : (smv sm0).cells = (sml sm0).toArray := rfl
 unfold madeCells
 rw [Array.getElem?_toList, Array.getElem?_map, Array.getElem?_range, if_pos hlt, hz]
 simp only [Option.map_some, Option.some.injEq]
 have hs : (sml sm0).toArray.size = 23 := rfl
 rw [hs, show (i * 23 + j) % 23 = j by omega]
 rw [getElem!_def, List.getElem?_toArray, hv]
theorem make47 (n : Nat) (hn : n ≤ 4096) (w : World) : (Instr.makeSlice 47 (.int .i64 (n : Int)) (.int .i64 (n : Int))).run Try.prog w = .ok (.slice (some ⟨w.heap.size, 0, none⟩) n n) (w.alloc (.cells (madeCells (smv sm0).cells (n * 23)) 42)) ∧
  Rw (w.alloc (.cells (madeCells (smv sm0).cells (n * 23)) 42)) 23 (.slice (some ⟨w.heap.size, 0, none⟩) n n) ((List.replicate n sm0).map sml) := by
 obtain ⟨i, hi, hz, hs, hby⟩ := inf42
 have hr := run_make (P := Try.prog) w 47 42 i _ Try.underlying47 hi hz .i64 .i64 n n (by omega) (Int.le_refl _) (by rw [hby]; omega) (by omega)
 simp only [Int.toNat_natCast, hs] at hr
 refine ⟨hr, some ⟨w.heap.size, 0, none⟩, n, by simp, fun _ => ⟨w.heap.size, 0, rfl, ?_, ?_, fun k cs hk j v hv => ?_⟩⟩
 ·exact (At.new w (madeCells (smv sm0).cells (n * 23)) 42).2.2
 ·exact (At.new w (madeCells (smv sm0).cells (n * 23)) 42).2.1
 ·rw [List.getElem?_map] at hk
  obtain ⟨S, hS, rfl⟩ := Option.map_eq_some_iff.1 hk
  have hkn : k < n := by have := (List.getElem?_eq_some_iff.1 hS).1; simpa using this
  have hSe : S = sm0 := List.eq_of_mem_replicate (List.mem_of_getElem? hS)
  subst hSe
  have := (At.new w (madeCells (smv sm0).cells (n * 23)) 42).1 (k * 23 + j) v (made_at hkn hv)
  rw [show 0 + k * 23 + j = 0 + (k * 23 + j) by omega]
  exact this
section
variable {D : Nat → Prop} {w w' : World} {t : Nat} {mb : Hd} {R : Mp} {root : Option Nat} {lk : Int}
def Fre (R : Mp) (t : Nat) (mb : Hd) (v : Value) : Prop := ∀ b, ob v = some b → b ≠ t ∧ R b = none ∧ b ≠ mb.m ∧ ob mb.h ≠ some b ∧ ∀ j q, R j = some q → ob q.i.v ≠ some b ∧ ob q.h ≠ some b
def Dn (D : Nat → Prop) (kn : Nat) (r : Rc) (j : Nat) : Prop := D j ∨ j = kn ∨ ob r.i.v = some j ∨ ob r.h = some j
theorem HS.add (h : HS D w t mb R root lk) {kn : Nat} (hk : w.heap.size ≤ kn) (m : Mo w w') (r : Rc) (hA : At w' kn r.cells) (hc : Cb w' kn) (hmb : mb.m < w.heap.size)
  (hv : Rw w' 10 r.i.v (r.i.vs.map V10.cells) ∧ r.i.vs.length = mb.sc.length ∧ r.i.ok) (hf : Fre R t mb r.i.v) (hvk : ob r.i.v ≠ some kn)
  (hs : Rw w' 23 r.h (r.c.map sml) ∧ r.c.length = mb.sc.length ∧ ∀ S ∈ r.c, S.ok) (hb : ∀ b, ob r.h = some b → w.heap.size ≤ b ∧ b ≠ kn) : HS (Dn D kn r) w' t mb (ud R kn r) root lk := by
 have h' := h.mo m
 have hRn : ∀ {b}, w.heap.size ≤ b → R b = none := fun {b} hb => by
  cases e : R b with
  | none => rfl
  | some q => have := (h.rc b q e).lt; omega
 have hund : ∀ {b}, R b = none → b ≠ kn → ud R kn r b = none := fun e q => by rw [ud_ne _ _ q]; exact e
 have htn : t ≠ kn := by have := h.tr.lt; omega
 have hsc : ∀ b, ob mb.h = some b → b < w.heap.size := fun b e => h.sc.lt e
 refine ⟨h'.tr, h'.sc, fun b hb2 hd => ?_, fun j q hj => ?_, fun j q hj => ?_, fun j q hj => ?_, fun j q hj => ?_, hund h.mt htn, Or.inl h.dt, fun {j q} hj => ?_, fun {j q b} hj hb2 => ?_, fun {j} hd => ?_, ?_, h.nc⟩
 ·rcases hd with hd | hd | hd | hd
  ·exact h.sd b hb2 hd
  ·have := hsc b hb2; omega
  ·exact (hf b hd).2.2.2.1 hb2
  ·have := hsc b hb2; have := (hb b hd).1; omega
 ·rcases ud_or hj with ⟨rfl, rfl⟩ | ⟨_, hj⟩
  ·exact hA
  ·exact h'.rc j q hj
 ·rcases ud_or hj with ⟨rfl, rfl⟩ | ⟨_, hj⟩
  ·exact hc
  ·exact h'.cb j q hj
 ·rcases ud_or hj with ⟨rfl, rfl⟩ | ⟨_, hj⟩
  ·exact hv
  ·exact h'.sv j q hj
 ·rcases ud_or hj with ⟨rfl, rfl⟩ | ⟨_, hj⟩
  ·exact hs
  ·exact h'.ss j q hj
 ·rcases ud_or hj with ⟨rfl, rfl⟩ | ⟨_, hj⟩
  ·exact Or.inr (Or.inl rfl)
  ·exact Or.inl (h.dk hj)
 ·rcases ud_or hj with ⟨rfl, rfl⟩ | ⟨_, hj⟩
  ·rcases hb2 with hb2 | hb2
   ·exact ⟨Or.inr (Or.inr (Or.inl hb2)), (hf b hb2).1, hund (hf b hb2).2.1 (fun e => hvk (e ▸ hb2))⟩
   ·obtain ⟨a1, a2⟩ := hb b hb2
    exact ⟨Or.inr (Or.inr (Or.inr hb2)), (by have := h.tr.lt; omega), hund (hRn a1) a2⟩
  ·obtain ⟨a1, a2, a3⟩ := h.ds hj hb2
   exact ⟨Or.inl a1, a2, hund a3 (by have := h.lt a1; omega)⟩
 ·rcases hd with hd | rfl | hd | hd
  ·exact h'.lt hd
  ·exact hA.lt
  ·exact hv.1.lt hd
  ·exact hs.1.lt hd
 ·rintro (hd | hd | hd | hd)
  ·exact h.nb hd
  ·omega
  ·exact (hf _ hd).2.2.1 rfl
  ·have := (hb _ hd).1; omega
theorem Ap.add (h : HS D w t mb R root lk) (A : Ap R) {kn : Nat} (hk : w.heap.size ≤ kn) (r : Rc) (hf : Fre R t mb r.i.v) (hb : ∀ b, ob r.h = some b → w.heap.size ≤ b ∧ ob r.i.v ≠ some b) : Ap (ud R kn r) := by
 have hlt : ∀ {j q b}, R j = some q → ob q.i.v = some b ∨ ob q.h = some b → b < w.heap.size := fun hj e => h.lt (h.ds hj e).1
 refine ⟨fun {j k x q b} a c e e2 => ?_, fun {j k x q b} a c n e e2 => ?_, fun {j k x q b} a c n e e2 => ?_⟩
 ·rcases ud_or a with ⟨_, rfl⟩ | ⟨_, a9⟩ <;> rcases ud_or c with ⟨_, rfl⟩ | ⟨_, c9⟩
  ·exact (hb b e).2 e2
  ·have := (hb b e).1; have := hlt c9 (Or.inl e2); omega
  ·exact ((hf b e2).2.2.2.2 j x a9).2 e
  ·exact A.hv a9 c9 e e2
 ·rcases ud_or a with ⟨rfl, rfl⟩ | ⟨_, a9⟩ <;> rcases ud_or c with ⟨rfl, rfl⟩ | ⟨_, c9⟩
  ·exact n rfl
  ·have := (hb b e).1; have := hlt c9 (Or.inr e2); omega
  ·have := (hb b e2).1; have := hlt a9 (Or.inr e); omega
  ·exact A.hh a9 c9 n e e2
 ·rcases ud_or a with ⟨rfl, rfl⟩ | ⟨_, a9⟩ <;> rcases ud_or c with ⟨rfl, rfl⟩ | ⟨_, c9⟩
  ·exact n rfl
  ·exact ((hf b e).2.2.2.2 k q c9).1 e2
  ·exact ((hf b e2).2.2.2.2 j x a9).1 e
  ·exact A.vv a9 c9 n e e2
theorem HS.kept {E : Nat → Prop} (h : HS D w t mb R root lk) (m : Mk E w w') (hE : ∀ j, D j → ¬ E j) (hsE : ∀ b, ob mb.h = some b → ¬ E b) : HS D w' t mb R root lk :=
 ⟨m.at h.tr (hE t h.dt), h.sc.kept m hsE, h.sd, fun k r e => m.at (h.rc k r e) (hE k (h.dk e)), fun k r e => (h.cb k r e).mk m (hE k (h.dk e)), fun k r e => ⟨(h.sv k r e).1.kept m (fun b hb => hE b (h.ds e (Or.inl hb)).1), (h.sv k r e).2⟩, fun k r e => ⟨(h.ss k r e).1.kept m (fun b hb => hE b (h.ds e (Or.inr hb)).1), (h.ss k r e).2⟩, h.mt, h.dt, h.dk, h.ds, fun e => Nat.lt_of_lt_of_le (h.lt e) m.size, h.nb, h.nc⟩
theorem Rep.mem {sc : List Int} {R : Mp} : ∀ {tr : T} {u : Option Nat}, Rep sc R u tr → ∀ j ∈ tr.ad, ∃ r, R j = some r
 | .e, _, _, j, m => by cases m
 | .n k i s l r, u, h, j, m => by
  obtain ⟨h9, e9⟩ := h.1
  unfold T.ad at m
  simp only [List.mem_cons, List.mem_append] at m
  rcases m with rfl | m | m
  ·exact ⟨_, e9⟩
  ·exact Rep.mem h.2.1 j m
  ·exact Rep.mem h.2.2 j m
theorem RepC.mem {sc : List Int} {R : Mp} {root : Option Nat} : ∀ {C : Cx} {p : Option Nat}, RepC sc R root C p → ∀ j ∈ adC C, ∃ r, R j = some r
 | [], _, _, j, m => by cases m
 | f :: C, p, h, j, m => by
  obtain ⟨h9, c9, e9⟩ := h.1
  unfold adC at m
  simp only [List.mem_cons, List.mem_append] at m
  rcases m with rfl | m | m
  ·exact ⟨_, e9⟩
  ·exact h.2.1.mem j m
  ·exact RepC.mem h.2.2 j m
end
end G
end Go.Proofs.Ythfemlhmnjfjiaa
/-
 The tree's put.
-/
namespace Go.Proofs.Ythfemlhmnjfjiaa
open Go.RowKit
namespace G
section
variable {o : Oper} {n : Nat} {l : List (Nat × Value)} {w : World} {ops : Array Oper} {rest : List Oper} {Q : Exit → Act → World → Prop} {K : Act → World → Prop}
theorem wo_boxc (ty : TypeId) (x : Operand) (v : Value) (cs : Array Value) (ho : o.op = .box ty x) (hx : evl n l x = v) (h : ∀ w, (Instr.box ty v).run Try.prog w = .ok (pt w.heap.size 0) (w.alloc (.cells cs ty)))
  (hk : ∀ k w', w.heap.size = k → Mo w w' → At w' k cs.toList → Cb w' k → K (fr n (ext l o.dst (pt k 0))) w') : WO Try.prog o n l w K Q :=
 ⟨o_val (pt w.heap.size 0) (w' := w.alloc (.cells cs ty)) (by subst hx; simp [execOp, ho, h]) (hk _ _ rfl ((Mo.refl _).alloc _ _) (At.new w cs ty) (Cb.new w cs ty))⟩
theorem wo_mk47 (x y : Operand) (c : Nat) (ho : o.op = .makeSlice 47 x y) (hx : evl n l x = .int .i64 (c : Int)) (hy : evl n l y = .int .i64 (c : Int)) (hc : c ≤ 4096)
  (hk : ∀ k w', w.heap.size = k → w'.heap.size = k + 1 → Mo w w' → Rw w' 23 (.slice (some ⟨k, 0, none⟩) c c) ((List.replicate c sm0).map sml) → K (fr n (ext l o.dst (.slice (some ⟨k, 0, none⟩) c c))) w') : WO Try.prog o n l w K Q :=
 ⟨o_val (.slice (some ⟨w.heap.size, 0, none⟩) c c) (w' := w.alloc (.cells (madeCells (smv sm0).cells (c * 23)) 42)) (by simp only [execOp, ho, hx, hy]; simp [(make47 c hc w).1]) (hk _ _ rfl (by simp) ((Mo.refl _).alloc _ _) (make47 c hc w).2)⟩
end
section
variable {D : Nat → Prop} {w : World} {t : Nat} {mb : Hd} {R : Mp} {root : Option Nat} {lk : Int}
theorem hangF {C : Cx} {p : Option Nat} (hS : HS D w t mb R root lk) (hAp : Ap R) (hC : RepC mb.sc R root C p) {kn : Nat} {y : Py} {h : Value} {c : List Sm} (hk : R kn = some ⟨none, none, none, 0, y, h, c⟩) (n1 : (adC C).Nodup) (n2 : kn ∉ adC C) :
  Calls Try.prog 47 #[pt t 0, pp (top C), .int .i64 (if sideC C then 1 else 0), pt kn 0] w fun e w' => e = .returned (.tuple #[]) ∧ TS D w' t mb (⟨kn, y, 0, false, .e⟩ :: C) .e lk ∧ Mk D w w' := by
 have hx : top C ≠ some kn := fun q => n2 (top_mem q)
 refine (hang_n hS (top C) (some kn) (sideC C) (fun k e => by cases e; exact ⟨_, hk⟩) (fun p e => by
   cases C with
   | nil => cases e
   | cons f C => cases e; obtain ⟨h9, c9, e9⟩ := hC.1; exact ⟨_, e9⟩) (fun k e => by cases e; exact hx)).mono fun e w' hq => ?_
 obtain ⟨he, hS', hM⟩ := hq
 refine ⟨he, ⟨_, _, hS', hAp.hk _ _ _, ⟨⟨h, c, hkR_self hk hx⟩, trivial, hC.hang n1 (fun j m q => hkR_ne (fun e => n2 (by cases e; exact m)) q) (fun a q e hq => ?_)⟩, trivial, ?_⟩, hM⟩
 ·rw [e]; exact hkR_par hq (fun q => hx (by rw [e, q]))
 ·show ((kn :: ([] ++ adC C)) ++ []).Nodup
  simp only [List.nil_append, List.append_nil]
  exact List.nodup_cons.2 ⟨n2, n1⟩
theorem bal_new (kn : Nat) (y : Py) (C : Cx) : rebuild (⟨kn, y, 0, false, .e⟩ :: C) .e = rebuild C (.n kn y 1 .e .e) := by
 show rebuild C (bal kn y .e .e) = _
 rfl
theorem put_n {tr : T} {at0 yi : Int} {yp : Option Addr} {yn yc : Nat} {yvs : List V10} {f : Int → Option Nat} {n : Nat} (hT : RS D w t mb [] tr lk R root) (hM : OM w mb.m f n) (hfi : (if (f yi).isSome then n else n + 1) = n + 1) (hn1 : n ≤ 2000) (hw : (Lit.int .i64 yi).wf = true) (ot : tr.ok) (h0 : 0 ≤ at0) (h1 : at0 ≤ tr.sz) (hb : tr.sz ≤ 8000) (hlk : 0 ≤ lk ∧ lk + 11 * tr.ht + 20 ≤ 4000000000000000000) (hbt : tr.ht ≤ 8000)
  (hyw : Rw w 10 (.slice yp yn yc) (yvs.map V10.cells) ∧ yvs.length = mb.sc.length ∧ ∀ x ∈ yvs, x.n.ok) (hf : Fre R t mb (.slice yp yn yc)) (hyD : ∀ b, ob (.slice yp yn yc) = some b → ¬ D b) (hmh : ob mb.h ≠ some mb.m) :
  Calls Try.prog 31 #[pt t 0, .int .i64 at0, .agg #[.int .i64 yi, .slice yp yn yc]] w fun e w' => e = .returned (.tuple #[]) ∧ ∃ C kn lk' D', plug C .e = tr ∧ ix C = at0 ∧ okC C ∧ w.heap.size ≤ kn ∧ lk < lk' ∧ lk' ≤ lk + 10 * C.length + 8 ∧ C.length ≤ tr.ht ∧
   TS D' w' t mb [] (rebuild C (.n kn ⟨yi, .slice yp yn yc, yvs⟩ 1 .e .e)) lk' ∧ OM w' mb.m (fu f yi (some kn)) (n + 1) ∧ Mk (fun j => D j ∨ j = mb.m ∨ ob (.slice yp yn yc) = some j) w w' ∧ ∀ j, D' j → D j ∨ w.heap.size ≤ j ∨ ob (.slice yp yn yc) = some j := by
 obtain ⟨hS, hAp, hC0, hR0, hn0⟩ := hT
 replace hC0 : root = tr.p := hC0
 subst hC0
 have hDlt : ∀ j, D j → j < w.heap.size := fun j e => hS.lt e
 have hnc := hS.nc
 obtain ⟨p9, cap9, hsl, _⟩ := hS.sc
 rw [List.length_map] at hsl
 refine w_enter 70 Try.func31 Try.ntmps31 rfl rfl ?_
 have M : Mk (fun j => D j ∨ j = mb.m) w w := Mk.refl _ _
 refine w_seq (w_reg ?_)
 refine wl_box 83 (.tmp 2) _ (#[.int .i64 yi, .slice yp yn yc]) rfl rfl (fun _ => by kernel_rfl) rfl ?_
 intro k5 w1 hk hz hq Q5
 have hk5 : w.heap.size ≤ k5 := by omega
 have nd5 : ¬ D k5 := fun e => by have := hDlt _ e; omega
 replace hS := hS.mo hq
 replace hM := hM.mo hq
 replace M := M.trans hq
 clear hk hz hq
 refine w_nil (xn_then (w_seq (w_reg ?_)))
 refine wl_m (.const (.pointer none)) (pp none) ?_
 refine w_nil (xn_then (w_seq (w_reg ?_)))
 refine wl_m (.const (.int .i64 (0))) (.int .i64 (0)) ?_
 refine w_nil (xn_then (w_seq (w_seq (w_reg ?_))))
 refine wl_m (.tmp 0) (pt t 0) ?_
 refine wl_nc (.tmp 11) t 0 rfl rfl rfl ?_
 refine wl_f 68 1 (.tmp 12) (pt t 0) (pt t 1) ?_
 refine wl_l 65 (.tmp 13) (pt t 1) (pp tr.p) (run_one hS.tr 65 1 rfl Try.underlying65 rfl) ?_
 refine wl_m (.tmp 14) (pp tr.p) ?_
 refine w_nil (xn_then (w_block ?_))
 refine w_loop (fun m l w1 => ∃ (C1 : Cx) (tr1 : T) (lk1 at1 : Int), m = tr1.ht ∧ look l 0 = pt t 0 ∧ look l 1 = .int .i64 at1 ∧ look l 5 = pt k5 0 ∧ look l 6 = pp (top C1) ∧ look l 7 = .int .i64 (if sideC C1 then 1 else 0) ∧ look l 8 = pp tr1.p ∧ HS D w1 t mb R tr.p lk1 ∧ OM w1 mb.m f n ∧ At w1 k5 [.int .i64 yi, .slice yp yn yc] ∧ tr1.ok ∧ okC C1 ∧ plug C1 tr1 = tr ∧ csz C1 + tr1.sz = tr.sz ∧ 0 ≤ at1 ∧ at1 ≤ tr1.sz ∧ at1 + ix C1 = at0 ∧ lk ≤ lk1 ∧ lk1 ≤ lk + 2 * C1.length ∧ C1.length + tr1.ht ≤ tr.ht ∧ Mk (fun j => D j ∨ j = mb.m) w w1) _ ⟨[], tr, lk, at0, rfl, rfl, rfl, rfl, rfl, rfl, rfl, hS, hM, Q5, ot, fun _ h => (by cases h), rfl, by simp only [csz]; omega, h0, h1, by simp only [ix]; omega, Int.le_refl _, by simp, by simp, M⟩ ?_
 clear M hS hM ot h0 h1 Q5
 rintro m l0 wl ⟨C1, tr1, lk1, at1, rfl, e0, e1, e5, e6, e7, e8, hS, hM, Q5, ot, oc, hp, hcs, h0, h1, hix, hl1, hl2, hht, M⟩
 obtain ⟨_, _, hC, hR, hn⟩ := RS.at C1 (tr1 := tr1) (R := R) (root := tr.p) (by rw [hp]; exact ⟨hS, hAp, rfl, hR0, hn0⟩)
 have hlk0 : 0 ≤ lk1 := by omega
 have h0c := csz_nn C1
 cases tr1 with
 | n k i s l r =>
  obtain ⟨⟨hd1, hk⟩, hl, hr⟩ := hR
  have h0l := T.sz_nn l; have h0r := T.sz_nn r
  simp only [T.sz] at h1 hcs
  simp only [T.ht] at hht
  have hml := Nat.le_max_left l.ht r.ht; have hmr := Nat.le_max_right l.ht r.ht
  refine w_seq (w_seq (w_reg ?_))
  refine wl_mv (.tmp 8) (pt k 0) (fun _ => rfl) e8 rfl ?_
  refine wl_b .neq 65 (.tmp 15) (.const (.pointer none)) (pt k 0) (pp none) (.bool true) (neP (some k) _ _ _) ?_
  refine w_nil (xn_then (w_condT rfl (w_skip (xn_then (w_seq (w_block (w_seq (w_reg ?_))))))))
  refine wl_mv (.tmp 0) (pt t 0) (fun _ => rfl) e0 rfl ?_
  refine wl_mv (.tmp 8) (pt k 0) (fun _ => rfl) e8 rfl ?_
  refine wl_mv (.tmp 8) (pt k 0) (fun _ => rfl) e8 rfl ?_
  refine wl_nc (.tmp 25) k 0 rfl rfl rfl ?_
  refine wl_f 93 2 (.tmp 26) (pt k 0) (pt k 3) ?_
  refine wl_bin (fun x y => Instr.indexAt 91 x y) (.tmp 27) (.const (.int .i64 (0))) (pt k 3) (.int .i64 (0)) (pt k 3) (fun _ => rfl) rfl rfl (by kernel_rfl) rfl ?_
  refine wl_l 65 (.tmp 28) (pt k 3) (pp l.p) (run_one (hS.rc k _ hk) 65 3 rfl Try.underlying65 rfl) ?_
  refine wl_bsl [(0, (.tmp 24)), (1, (.tmp 29))] [pp (some k), pp l.p] 2 rfl rfl (bs2 (some k) l.p) rfl ?_
  intro g11 w11 hk hz hq Q11
  have nd_g11 : ¬ D g11 := fun e => by have := hS.lt e; omega
  replace Q5 := Q5.mo hq
  replace hS := hS.mo hq
  replace hM := hM.mo hq
  replace M := M.trans hq
  clear hk hz hq
  refine wl_callg 34 [(.tmp 23), (.tmp 30)] _ [pt t 0, .slice (some ⟨g11, 0, none⟩) 2 2] (.tuple #[]) rfl rfl (fun _ _ => by kernel_rfl) (look_n [(some k), l.p] g11 hS Q11 nd_g11 (by simp only [List.length_cons, List.length_nil]; omega)) rfl ?_
  intro w12 hF
  replace Q5 := hF.2.at Q5 nd5
  have hc1 := cnt_le [(some k), l.p]
  simp only [List.length_cons, List.length_nil] at hc1
  obtain ⟨hS2, hM2⟩ := hF
  replace hS := hS2
  replace M := M.tr hM2 (fun _ _ e => Or.inl e)
  replace hM := hM.mk hM2 hS.nb
  clear hS2 hM2 Q11 nd_g11
  refine w_nil (xn_then (w_seq (w_reg ?_)))
  refine wl_mv (.tmp 8) (pt k 0) (fun _ => rfl) e8 rfl ?_
  refine wl_m (.tmp 32) (pt k 0) ?_
  refine wl_m (.const (.int .i64 (0))) (.int .i64 (0)) ?_
  refine w_nil (xn_then (w_seq (w_reg ?_)))
  refine wl_mv (.tmp 8) (pt k 0) (fun _ => rfl) e8 rfl ?_
  refine wl_nc (.tmp 33) k 0 rfl rfl rfl ?_
  refine wl_f 93 2 (.tmp 34) (pt k 0) (pt k 3) ?_
  refine wl_bin (fun x y => Instr.indexAt 91 x y) (.tmp 35) (.const (.int .i64 (0))) (pt k 3) (.int .i64 (0)) (pt k 3) (fun _ => rfl) rfl rfl (by kernel_rfl) rfl ?_
  refine wl_l 65 (.tmp 36) (pt k 3) (pp l.p) (run_one (hS.rc k _ hk) 65 3 rfl Try.underlying65 rfl) ?_
  refine wl_call 46 [(.tmp 37)] _ [pp l.p] (.int .i64 (l.sz)) rfl rfl (fun _ _ => by kernel_rfl) (size_o hS (szo_of hl ot.2.1)) rfl ?_
  intro w13 hq
  replace Q5 := Q5.mo hq
  replace hS := hS.mo hq
  replace hM := hM.mo hq
  replace M := M.trans hq
  clear hq
  refine wl_m (.tmp 38) (.int .i64 (l.sz)) ?_
  refine w_nil (xn_then (w_seq ?_))
  cases hf0 : decide (l.sz < at1) with
  | true =>
   have hf0p := of_decide_eq_true hf0
   refine w_reg ?_
   refine wl_mv (.tmp 1) (.int .i64 (at1)) (fun _ => rfl) e1 rfl ?_
   refine wl_m (.tmp 9) (.int .i64 (l.sz)) ?_
   refine wl_b .gtr 3 (.tmp 39) (.tmp 40) (.int .i64 (at1)) (.int .i64 (l.sz)) (.bool true) (gtI hf0 _ _ _) ?_
   refine w_nil (xn_then (w_condT rfl (w_seq (w_reg ?_))))
   refine wl_mv (.tmp 1) (.int .i64 (at1)) (fun _ => rfl) e1 rfl ?_
   refine wl_m (.tmp 9) (.int .i64 (l.sz)) ?_
   refine wl_b .add 3 (.tmp 43) (.const (.int .i64 (1))) (.int .i64 (l.sz)) (.int .i64 (1)) (.int .i64 (l.sz + 1)) (addI (by omega) (by omega) _ _ _) ?_
   refine wl_b .sub 3 (.tmp 42) (.tmp 44) (.int .i64 (at1)) (.int .i64 (l.sz + 1)) (.int .i64 (at1 - (l.sz + 1))) (subI (by omega) (by omega) _ _ _) ?_
   refine wl_m (.tmp 45) (.int .i64 (at1 - (l.sz + 1))) ?_
   refine w_nil (xn_then (w_reg ?_))
   refine wl_m (.const (.int .i64 (1))) (.int .i64 (1)) ?_
   refine w_nil (xn_blk (xn_then (w_reg ?_)))
   refine wl_mv (.tmp 8) (pt k 0) (fun _ => rfl) e8 rfl ?_
   refine wl_m (.tmp 7) (.int .i64 (1)) ?_
   refine wl_nc (.tmp 17) k 0 rfl rfl rfl ?_
   refine wl_f 93 2 (.tmp 19) (pt k 0) (pt k 3) ?_
   refine wl_bin (fun x y => Instr.indexAt 91 x y) (.tmp 20) (.tmp 18) (pt k 3) (.int .i64 (1)) (pt k 4) (fun _ => rfl) rfl rfl (by kernel_rfl) rfl ?_
   refine wl_l 65 (.tmp 21) (pt k 4) (pp r.p) (run_one (hS.rc k _ hk) 65 4 rfl Try.underlying65 rfl) ?_
   refine wl_m (.tmp 22) (pp r.p) ?_
   refine w_nil ?_
   exact xn_loop r.ht (by simp only [T.ht]; omega) ⟨(⟨k, i, s, true, l⟩ : Fr) :: C1, r, ((lk1) + cnt [(some k), l.p]), at1 - (l.sz + 1), rfl, e0, rfl, e5, rfl, rfl, rfl, hS, hM, Q5, ot.2.2, fun g hg => by rcases List.mem_cons.1 hg with rfl | hg; exact ot.2.1; exact oc g hg, hp, by simp only [csz]; omega, by omega, by omega, by simp only [ix, if_true]; omega, by omega, by simp only [List.length_cons]; omega, by simp only [List.length_cons]; omega, M⟩
  | false =>
   have hf0p := of_decide_eq_false hf0
   refine w_reg ?_
   refine wl_mv (.tmp 1) (.int .i64 (at1)) (fun _ => rfl) e1 rfl ?_
   refine wl_m (.tmp 9) (.int .i64 (l.sz)) ?_
   refine wl_b .gtr 3 (.tmp 39) (.tmp 40) (.int .i64 (at1)) (.int .i64 (l.sz)) (.bool false) (gtI hf0 _ _ _) ?_
   refine w_nil (xn_then (w_condF rfl (w_skip (xn_blk (xn_then (w_reg ?_))))))
   refine wl_mv (.tmp 8) (pt k 0) (fun _ => rfl) e8 rfl ?_
   refine wl_m (.tmp 7) (.int .i64 (0)) ?_
   refine wl_nc (.tmp 17) k 0 rfl rfl rfl ?_
   refine wl_f 93 2 (.tmp 19) (pt k 0) (pt k 3) ?_
   refine wl_bin (fun x y => Instr.indexAt 91 x y) (.tmp 20) (.tmp 18) (pt k 3) (.int .i64 (0)) (pt k 3) (fun _ => rfl) rfl rfl (by kernel_rfl) rfl ?_
   refine wl_l 65 (.tmp 21) (pt k 3) (pp l.p) (run_one (hS.rc k _ hk) 65 3 rfl Try.underlying65 rfl) ?_
   refine wl_m (.tmp 22) (pp l.p) ?_
   refine w_nil ?_
   exact xn_loop l.ht (by simp only [T.ht]; omega) ⟨(⟨k, i, s, false, r⟩ : Fr) :: C1, l, ((lk1) + cnt [(some k), l.p]), at1, rfl, e0, e1, e5, rfl, rfl, rfl, hS, hM, Q5, ot.2.1, fun g hg => by rcases List.mem_cons.1 hg with rfl | hg; exact ot.2.2; exact oc g hg, hp, by simp only [csz]; omega, by omega, by omega, by simp only [ix]; simp only [Bool.false_eq_true, if_false]; omega, by omega, by simp only [List.length_cons]; omega, by simp only [List.length_cons]; omega, M⟩
 | e =>
  refine w_seq (w_seq (w_reg ?_))
  refine wl_mv (.tmp 8) (pp none) (fun _ => rfl) e8 rfl ?_
  refine wl_b .neq 65 (.tmp 15) (.const (.pointer none)) (pp none) (pp none) (.bool false) (neP none _ _ _) ?_
  refine w_nil (xn_then (w_condF rfl (w_exit (xx_then (xx_then (xx_blk (xn_then (w_seq ?_))))))))
  have hsm : Smos [vq (.agg #[.int .i64 yi, .slice yp yn yc]), vq (pt t 0), vq (pt t 0), vq (pt t 0), vq (mb.h), vq (.int .i64 ((mb.sc.length : Nat) : Int)), fun u w9 => ∃ b9, u = .slice (some ⟨b9, 0, none⟩) mb.sc.length mb.sc.length ∧ wl.heap.size ≤ b9 ∧ b9 < w9.heap.size ∧ Rw w9 23 (.slice (some ⟨b9, 0, none⟩) mb.sc.length mb.sc.length) ((List.replicate mb.sc.length sm0).map sml), fun u w9 => ∃ b9, u = .agg #[.int .i64 yi, .slice yp yn yc, .pointer none, .pointer none, .pointer none, .int .i64 0, .slice (some ⟨b9, 0, none⟩) mb.sc.length mb.sc.length] ∧ wl.heap.size ≤ b9 ∧ b9 < w9.heap.size ∧ Rw w9 23 (.slice (some ⟨b9, 0, none⟩) mb.sc.length mb.sc.length) ((List.replicate mb.sc.length sm0).map sml), fun u w9 => ∃ b9 kn, u = pt kn 0 ∧ At w9 kn [.int .i64 yi, .slice yp yn yc, .pointer none, .pointer none, .pointer none, .int .i64 0, .slice (some ⟨b9, 0, none⟩) mb.sc.length mb.sc.length] ∧ Cb w9 kn ∧ wl.heap.size ≤ kn ∧ b9 ≠ kn ∧ wl.heap.size ≤ b9 ∧ Rw w9 23 (.slice (some ⟨b9, 0, none⟩) mb.sc.length mb.sc.length) ((List.replicate mb.sc.length sm0).map sml), fun u w9 => ∃ b9 kn, u = pt kn 0 ∧ At w9 kn [.int .i64 yi, .slice yp yn yc, .pointer none, .pointer none, .pointer none, .int .i64 0, .slice (some ⟨b9, 0, none⟩) mb.sc.length mb.sc.length] ∧ Cb w9 kn ∧ wl.heap.size ≤ kn ∧ b9 ≠ kn ∧ wl.heap.size ≤ b9 ∧ Rw w9 23 (.slice (some ⟨b9, 0, none⟩) mb.sc.length mb.sc.length) ((List.replicate mb.sc.length sm0).map sml)] := smos_cons (smo_vq _) (smos_cons (smo_vq _) (smos_cons (smo_vq _) (smos_cons (smo_vq _) (smos_cons (smo_vq _) (smos_cons (smo_vq _) (smos_cons (fun u a b ⟨b9, h1, h2, h3, h4⟩ m => ⟨b9, h1, h2, Nat.lt_of_lt_of_le h3 m.size, h4.mo m⟩) (smos_cons (fun u a b ⟨b9, h1, h2, h3, h4⟩ m => ⟨b9, h1, h2, Nat.lt_of_lt_of_le h3 m.size, h4.mo m⟩) (smos_cons (fun u a b ⟨b9, kn, h1, h2, h3, h4, h5, h6, h7⟩ m => ⟨b9, kn, h1, h2.mo m, h3.mo m, h4, h5, h6, h7.mo m⟩) (smos_cons (fun u a b ⟨b9, kn, h1, h2, h3, h4, h5, h6, h7⟩ m => ⟨b9, kn, h1, h2.mo m, h3.mo m, h4, h5, h6, h7.mo m⟩) (smos_nil))))))))))
  have hgr : ∀ a b : World, Mo wl a → Mo a b → Mo wl b := fun _ _ h m => h.trans m
  refine w_ogc 10 (fun w9 => Mo wl w9) [vq (.agg #[.int .i64 yi, .slice yp yn yc]), vq (pt t 0), vq (pt t 0), vq (pt t 0), vq (mb.h), vq (.int .i64 ((mb.sc.length : Nat) : Int)), fun u w9 => ∃ b9, u = .slice (some ⟨b9, 0, none⟩) mb.sc.length mb.sc.length ∧ wl.heap.size ≤ b9 ∧ b9 < w9.heap.size ∧ Rw w9 23 (.slice (some ⟨b9, 0, none⟩) mb.sc.length mb.sc.length) ((List.replicate mb.sc.length sm0).map sml), fun u w9 => ∃ b9, u = .agg #[.int .i64 yi, .slice yp yn yc, .pointer none, .pointer none, .pointer none, .int .i64 0, .slice (some ⟨b9, 0, none⟩) mb.sc.length mb.sc.length] ∧ wl.heap.size ≤ b9 ∧ b9 < w9.heap.size ∧ Rw w9 23 (.slice (some ⟨b9, 0, none⟩) mb.sc.length mb.sc.length) ((List.replicate mb.sc.length sm0).map sml), fun u w9 => ∃ b9 kn, u = pt kn 0 ∧ At w9 kn [.int .i64 yi, .slice yp yn yc, .pointer none, .pointer none, .pointer none, .int .i64 0, .slice (some ⟨b9, 0, none⟩) mb.sc.length mb.sc.length] ∧ Cb w9 kn ∧ wl.heap.size ≤ kn ∧ b9 ≠ kn ∧ wl.heap.size ≤ b9 ∧ Rw w9 23 (.slice (some ⟨b9, 0, none⟩) mb.sc.length mb.sc.length) ((List.replicate mb.sc.length sm0).map sml), fun u w9 => ∃ b9 kn, u = pt kn 0 ∧ At w9 kn [.int .i64 yi, .slice yp yn yc, .pointer none, .pointer none, .pointer none, .int .i64 0, .slice (some ⟨b9, 0, none⟩) mb.sc.length mb.sc.length] ∧ Cb w9 kn ∧ wl.heap.size ≤ kn ∧ b9 ≠ kn ∧ wl.heap.size ≤ b9 ∧ Rw w9 23 (.slice (some ⟨b9, 0, none⟩) mb.sc.length mb.sc.length) ((List.replicate mb.sc.length sm0).map sml)] [] (by kernel_rfl) (by kernel_rfl) (by kernel_rfl) (by kernel_rfl) rfl (by kernel_rfl) (by kernel_rfl) latec_nil ((Mo.refl _).drew) ?_ ?_
  ·refine ea_cons ?_ (ea_cons ?_ (ea_cons ?_ (ea_cons ?_ (ea_cons ?_ (ea_cons ?_ (ea_cons ?_ (ea_cons ?_ (ea_cons ?_ (ea_cons ?_ (ea_nil))))))))))
   ·exact oc_eq _ rfl hgr hsm (fun f wf hG9 hd K hK => have Q5 := Q5.mo hG9; go_run rfl (wo_load 83 (.tmp 5) (pt k5 0) (.agg #[.int .i64 yi, .slice yp yn yc]) rfl e5 (run_row Q5 83 0 2 _ rfl Try.underlying83 rfl zs83) (hK _ (Mo.refl _))))
   ·exact oc_eq _ rfl hgr hsm (fun f wf hG9 hd K hK => go_run rfl (wo_mv (.tmp 0) (pt t 0) (fun _ => rfl) e0 (hK _ (Mo.refl _))))
   ·exact oc_eq _ rfl hgr hsm (fun f wf hG9 hd K hK => go_run rfl (wo_nc (.tmp 47) t 0 rfl (hd 1 rfl) (hK _ (Mo.refl _))))
   ·exact oc_eq _ rfl hgr hsm (fun f wf hG9 hd K hK => go_run rfl (wo_un (fun v => Instr.fieldAt 68 v 0) (.tmp 48) (pt t 0) (pt t 0) (fun _ => rfl) (hd 2 rfl) (by kernel_rfl) (hK _ (Mo.refl _))))
   ·exact oc_eq _ rfl hgr hsm (fun f wf hG9 hd K hK => have hS := hS.mo hG9; go_run rfl (wo_load 22 (.tmp 49) (pt t 0) (mb.h) rfl (hd 3 rfl) (run_one hS.tr 22 0 rfl Try.underlying22 rfl) (hK _ (Mo.refl _))))
   ·exact oc_eq _ rfl hgr hsm (fun f wf hG9 hd K hK => go_run rfl (wo_val (.int .i64 ((mb.sc.length : Nat) : Int)) (len22 _ _ _ _ _ (Eq.trans (b := mb.h) (by exact (hd 4 rfl)) hsl) _ _ _ _ _ _) (hK _ (Mo.refl _))))
   ·refine ⟨fun f wf hG9 hd K hK => ?_⟩
    exact go_run rfl (wo_mk47 (.tmp 51) (.tmp 51) mb.sc.length rfl (hd 5 rfl) (hd 5 rfl) hnc (fun k9 w9 e9 z9 q1 q2 => hK _ w9 (hG9.trans q1) ⟨k9, rfl, by have := hG9.size; omega, by omega, q2⟩ (fun j u _ hr9 => hsm j u _ _ hr9 q1)))
   ·refine ⟨fun f wf hG9 hd K hK => ?_⟩
    obtain ⟨b9, e9, g1, g2, g3⟩ := hd 6 rfl
    exact go_run rfl (wo_build 93 [(0, (.tmp 46)), (4, (.tmp 52))] [(0, .agg #[.int .i64 yi, .slice yp yn yc]), (4, .slice (some ⟨b9, 0, none⟩) mb.sc.length mb.sc.length)] (.agg #[.int .i64 yi, .slice yp yn yc, .pointer none, .pointer none, .pointer none, .int .i64 0, .slice (some ⟨b9, 0, none⟩) mb.sc.length mb.sc.length]) rfl (lp2 (hd 0 rfl) e9) (by kernel_rfl) (hK _ _ hG9 ⟨b9, rfl, g1, g2, g3⟩ (fun j u _ hr9 => hr9)))
   ·refine ⟨fun f wf hG9 hd K hK => ?_⟩
    obtain ⟨b9, e9, g1, g2, g3⟩ := hd 7 rfl
    exact go_run rfl (wo_boxc 93 (.tmp 53) (.agg #[.int .i64 yi, .slice yp yn yc, .pointer none, .pointer none, .pointer none, .int .i64 0, .slice (some ⟨b9, 0, none⟩) mb.sc.length mb.sc.length]) #[.int .i64 yi, .slice yp yn yc, .pointer none, .pointer none, .pointer none, .int .i64 0, .slice (some ⟨b9, 0, none⟩) mb.sc.length mb.sc.length] rfl e9 (fun _ => by kernel_rfl) (fun k9 w9 q0 q1 q2 q3 => hK _ w9 (hG9.trans q1) ⟨b9, k9, rfl, q2, q3, by have := hG9.size; omega, by omega, g1, g3.mo q1⟩ (fun j u _ hr9 => hsm j u _ _ hr9 q1)))
   ·refine ⟨fun f wf hG9 hd K hK => ?_⟩
    obtain ⟨b9, k9, e9, g⟩ := hd 8 rfl
    exact go_run rfl (wo_mv (.tmp 54) (pt k9 0) (fun _ => rfl) e9 (hK _ _ hG9 ⟨b9, k9, rfl, g⟩ (fun j u _ hr9 => hr9)))
  intro f9 w11 hq hR9
  obtain ⟨b9, kn, e9, hA9, hcb, hkn0, hbk, hb0, hRw⟩ := hR9 9 rfl
  have hMs := M.size
  have hkn : w.heap.size ≤ kn := by omega
  have hlt : ∀ j, j ∈ adC C1 → j ≠ kn := fun j m e => by obtain ⟨r, hr⟩ := hC.mem j m; have := (hS.rc j r hr).lt; omega
  obtain ⟨r0, er0⟩ : ∃ r0 : Rc, r0 = ⟨none, none, none, 0, ⟨yi, .slice yp yn yc, yvs⟩, .slice (some ⟨b9, 0, none⟩) mb.sc.length mb.sc.length, List.replicate mb.sc.length sm0⟩ := ⟨_, rfl⟩
  have hob9 : ∀ b, ob (.slice (some ⟨b9, 0, none⟩) mb.sc.length mb.sc.length) = some b → b = b9 := fun b hb => by obtain ⟨a, q, c, e1, e2⟩ := ob_some hb; rw [Value.slice.injEq] at e1; have := e1.1; cases this; exact e2.symm
  have hyl : ∀ b, ob (.slice yp yn yc) = some b → b < w.heap.size := fun b hb => hyw.1.lt hb
  have hyw2 := hyw.1.kept M (fun b hb e => by rcases e with e | e; exact hyD b hb e; exact (hf b hb).2.2.1 e)
  have hAp1 : Ap (ud R kn r0) := by subst er0; exact Ap.add hS hAp (by omega) _ hf (fun b hb => by have := hob9 b hb; subst this; exact ⟨by omega, fun e => by have := hyl _ e; omega⟩)
  replace hS := hS.add (by omega) hq r0 (by rw [er0]; exact hA9) hcb hM.lt (by rw [er0]; exact ⟨hyw2.mo hq, hyw.2⟩) (by rw [er0]; exact hf) (by rw [er0]; exact fun e => by have := hyl _ e; omega) (by rw [er0]; exact ⟨hRw, by simp, fun S hS => by rw [List.eq_of_mem_replicate hS]; exact sm0_ok⟩) (by rw [er0]; exact fun b hb => by have := hob9 b hb; subst this; exact ⟨by omega, hbk⟩)
  obtain ⟨D1, eD1⟩ : ∃ X : Nat → Prop, X = Dn D kn r0 := ⟨_, rfl⟩
  rw [← eD1] at hS
  obtain ⟨R1, eR1⟩ : ∃ X, X = ud R kn r0 := ⟨_, rfl⟩
  rw [← eR1] at hS hAp1
  have hDb : ∀ j, ob r0.h = some j → j = b9 := by rw [er0]; exact hob9
  have hDv : ∀ j, ob r0.i.v = some j → ob (.slice yp yn yc) = some j := by rw [er0]; exact fun _ h => h
  have hD9 : ∀ j, D1 j → D j ∨ w.heap.size ≤ j ∨ ob (.slice yp yn yc) = some j := fun j e => by rw [eD1] at e; rcases e with e | e | e | e; exact Or.inl e; exact Or.inr (Or.inl (by omega)); exact Or.inr (Or.inr (hDv j e)); exact Or.inr (Or.inl (by have := hDb j e; omega))
  have hDD : ∀ j, j < w.heap.size → D1 j → D j ∨ j = mb.m ∨ ob (.slice yp yn yc) = some j := fun j hj e => by rcases hD9 j e with e | e | e; exact Or.inl e; omega; exact Or.inr (Or.inr e)
  have hnw : R1 kn = some ⟨none, none, none, 0, ⟨yi, .slice yp yn yc, yvs⟩, .slice (some ⟨b9, 0, none⟩) mb.sc.length mb.sc.length, List.replicate mb.sc.length sm0⟩ := by rw [eR1, ← er0]; exact ud_same _ _ _
  replace hC : RepC mb.sc R1 tr.p C1 none := by rw [eR1]; exact hC.ud (fun m => hlt kn m rfl)
  replace M : Mk (fun j => D j ∨ j = mb.m ∨ ob (.slice yp yn yc) = some j) w _ := (Mk.refl _ w).tr (M.trans hq) (fun j _ e => e.imp_right Or.inl)
  replace hM := hM.mo hq
  replace Q5 := Q5.mo hq
  have e10 := e9
  clear hq hR9 hsm hgr
  refine w_nil (xn_then (w_seq ?_))
  have hsm : Smos [vq (pt t 0), vq (pt t 0), vq (pt t 2), vq (.map (some mb.m)), vq (pt k5 0), vq (.int .i64 yi), vq (pt kn 0)] := smos_cons (smo_vq _) (smos_cons (smo_vq _) (smos_cons (smo_vq _) (smos_cons (smo_vq _) (smos_cons (smo_vq _) (smos_cons (smo_vq _) (smos_cons (smo_vq _) (smos_nil)))))))
  have hgr : ∀ a b : World, Mo w11 a → Mo a b → Mo w11 b := fun _ _ h m => h.trans m
  refine w_ogc 7 (fun w9 => Mo w11 w9) [vq (pt t 0), vq (pt t 0), vq (pt t 2), vq (.map (some mb.m)), vq (pt k5 0), vq (.int .i64 yi), vq (pt kn 0)] [] (by kernel_rfl) (by kernel_rfl) (by kernel_rfl) (by kernel_rfl) rfl (by kernel_rfl) (by kernel_rfl) latec_nil ((Mo.refl _).drew) ?_ ?_
  ·refine ea_cons ?_ (ea_cons ?_ (ea_cons ?_ (ea_cons ?_ (ea_cons ?_ (ea_cons ?_ (ea_cons ?_ (ea_nil)))))))
   ·exact oc_eq _ rfl hgr hsm (fun f wf hG9 hd K hK => go_run rfl (wo_mv (.tmp 0) (pt t 0) (fun _ => rfl) e0 (hK _ (Mo.refl _))))
   ·exact oc_eq _ rfl hgr hsm (fun f wf hG9 hd K hK => go_run rfl (wo_nc (.tmp 55) t 0 rfl (hd 0 rfl) (hK _ (Mo.refl _))))
   ·exact oc_eq _ rfl hgr hsm (fun f wf hG9 hd K hK => go_run rfl (wo_un (fun v => Instr.fieldAt 68 v 2) (.tmp 56) (pt t 0) (pt t 2) (fun _ => rfl) (hd 1 rfl) (by kernel_rfl) (hK _ (Mo.refl _))))
   ·exact oc_eq _ rfl hgr hsm (fun f wf hG9 hd K hK => have hS := hS.mo hG9; go_run rfl (wo_load 66 (.tmp 57) (pt t 2) (.map (some mb.m)) rfl (hd 2 rfl) (run_one hS.tr 66 2 rfl Try.underlying66 rfl) (hK _ (Mo.refl _))))
   ·exact oc_eq _ rfl hgr hsm (fun f wf hG9 hd K hK => go_run rfl (wo_un (fun v => Instr.fieldAt 83 v 0) (.tmp 5) (pt k5 0) (pt k5 0) (fun _ => rfl) e5 (by kernel_rfl) (hK _ (Mo.refl _))))
   ·exact oc_eq _ rfl hgr hsm (fun f wf hG9 hd K hK => have Q5 := Q5.mo hG9; go_run rfl (wo_load 2 (.tmp 59) (pt k5 0) (.int .i64 yi) rfl (hd 4 rfl) (run_one Q5 2 0 rfl Try.underlying2 rfl) (hK _ (Mo.refl _))))
   ·exact oc_eq _ rfl hgr hsm (fun f wf hG9 hd K hK => go_run rfl (wo_mv (.tmp 10) (pt kn 0) (fun _ => rfl) e10 (hK _ (Mo.refl _))))
  intro f9 w12 hq hR9
  have em3 := hR9 3 rfl
  have em5 := hR9 5 rfl
  have em6 := hR9 6 rfl
  replace Q5 := Q5.mo hq
  replace hS := hS.mo hq
  replace hM := hM.mo hq
  replace M := M.trans hq
  clear hq hR9 hsm hgr
  refine wl_mup (.tmp 58) (.tmp 60) (.tmp 61) mb.m yi kn hM (by omega) hw rfl rfl em3 em5 em6 rfl ?_
  intro w13 hM9 hK
  replace hM := hM9
  rw [hfi] at hM
  replace hS := hS.kept hK (fun j e q => hS.nb (by rw [← q]; exact e)) (fun b hb q => hmh (by rw [← q]; exact hb))
  replace M := M.tr hK (fun _ _ e => Or.inr (Or.inl e))
  have hnb := hS.nb
  clear hM9 hK
  refine w_nil (xn_then (w_seq (w_reg ?_)))
  refine wl_mv (.tmp 0) (pt t 0) (fun _ => rfl) e0 rfl ?_
  refine wl_mv (.tmp 6) (pp ((top C1))) (fun _ => rfl) e6 rfl ?_
  refine wl_mv (.tmp 7) (.int .i64 (if sideC C1 then 1 else 0)) (fun _ => rfl) e7 rfl ?_
  refine wl_mv (.tmp 10) (pt kn 0) (fun _ => rfl) e10 rfl ?_
  refine wl_callg 47 [(.tmp 62), (.tmp 63), (.tmp 64), (.tmp 65)] _ [pt t 0, pp ((top C1)), .int .i64 (if sideC C1 then 1 else 0), pt kn 0] (.tuple #[]) rfl rfl (fun _ _ => by kernel_rfl) (hangF hS hAp1 hC hnw (nd_pos hn).1 (fun m => hlt kn m rfl)) rfl ?_
  intro w14 hF
  obtain ⟨hT, hM2⟩ := hF
  replace M := M.tr hM2 hDD
  replace hM := hM.mk hM2 hS.nb
  clear hM2
  refine w_nil (xn_then (w_reg ?_))
  refine wl_mv (.tmp 0) (pt t 0) (fun _ => rfl) e0 rfl ?_
  refine wl_mv (.tmp 10) (pt kn 0) (fun _ => rfl) e10 rfl ?_
  refine wl_callg 48 [(.tmp 67), (.tmp 68)] _ [pt t 0, pt kn 0] (.tuple #[]) rfl rfl (fun _ _ => by kernel_rfl) (settle_n (C := ⟨kn, ⟨yi, .slice yp yn yc, yvs⟩, 0, false, .e⟩ :: C1) (tr := .e) hT trivial (fun g hg => by rcases List.mem_cons.1 hg with rfl | hg; exact trivial; exact oc g hg) (by simp only [T.sz, csz] at hcs ⊢; omega) (by simp only [List.length_cons]; omega)) rfl ?_
  intro w15 hF
  obtain ⟨lk2, hk1, hk2, hT2, hM2⟩ := hF
  simp only [List.length_cons] at hk1 hk2
  rw [bal_new] at hT2
  replace hM := hM.mk hM2 hnb
  replace M := M.tr hM2 hDD
  clear hM2
  refine w_nil ?_
  exact w_end0 rfl ⟨rfl, C1, kn, lk2, D1, hp, by simp only [T.sz] at h1; omega, oc, hkn, by omega, by omega, by simp only [T.ht] at hht; omega, hT2, hM, M, hD9⟩
end
end G
end Go.Proofs.Ythfemlhmnjfjiaa
/-
 A record less; a row given to another record.
-/
namespace Go.Proofs.Ythfemlhmnjfjiaa
open Go.RowKit
namespace G
def rm (M : Mp) (k : Nat) : Mp := fun j => if j = k then none else M j
theorem rm_or {M : Mp} {k j : Nat} {q : Rc} (h : rm M k j = some q) : j ≠ k ∧ M j = some q := by
 unfold rm at h
 split at h
 ·cases h
 ·rename_i e; exact ⟨e, h⟩
theorem rm_ne {M : Mp} {k j : Nat} (h : j ≠ k) : rm M k j = M j := if_neg h
theorem rm_none {M : Mp} {k j : Nat} (h : M j = none) : rm M k j = none := by unfold rm; split; rfl; exact h
section
variable {D : Nat → Prop} {w w' : World} {t : Nat} {mb : Hd} {M : Mp} {root : Option Nat} {lk : Int}
theorem HS.less (h : HS D w t mb M root lk) (k : Nat) {E : Nat → Prop} (hE : ∀ j, E j → D j) (ht : E t) (hk : ∀ {j q}, M j = some q → j ≠ k → E j) (hs : ∀ {j q b}, M j = some q → j ≠ k → ob q.i.v = some b ∨ ob q.h = some b → E b) : HS E w t mb (rm M k) root lk :=
 ⟨h.tr, h.sc, fun b hb e => h.sd b hb (hE b e), fun j q hj => h.rc j q (rm_or hj).2, fun j q hj => h.cb j q (rm_or hj).2, fun j q hj => h.sv j q (rm_or hj).2, fun j q hj => h.ss j q (rm_or hj).2, rm_none h.mt, ht, fun hj => hk (rm_or hj).2 (rm_or hj).1,
  fun hj hb => ⟨hs (rm_or hj).2 (rm_or hj).1 hb, (h.ds (rm_or hj).2 hb).2.1, rm_none (h.ds (rm_or hj).2 hb).2.2⟩, fun e => h.lt (hE _ e), fun e => h.nb (hE _ e), h.nc⟩
theorem Ap.perm2 {M' : Mp} (h : Ap M) (τ σ : Nat → Nat) (hτ : ∀ {a b x y}, M' a = some x → M' b = some y → τ a = τ b → a = b) (hσ : ∀ {a b x y}, M' a = some x → M' b = some y → σ a = σ b → a = b)
  (key : ∀ {j q'}, M' j = some q' → ∃ a b, M (τ j) = some a ∧ M (σ j) = some b ∧ q'.i.v = a.i.v ∧ q'.h = b.h) : Ap M' := by
 refine ⟨fun a b c => ?_, fun a b n c => ?_, fun a b n c => ?_⟩
 ·obtain ⟨_, x, _, hx, _, x2⟩ := key a; obtain ⟨y, _, hy, _, y1, _⟩ := key b
  rw [y1]; rw [x2] at c; exact h.hv hx hy c
 ·obtain ⟨_, x, _, hx, _, x2⟩ := key a; obtain ⟨_, y, _, hy, _, y2⟩ := key b
  rw [y2]; rw [x2] at c; exact h.hh hx hy (fun e => n (hσ a b e)) c
 ·obtain ⟨x, _, hx, _, x1, _⟩ := key a; obtain ⟨y, _, hy, _, y1, _⟩ := key b
  rw [y1]; rw [x1] at c; exact h.vv hx hy (fun e => n (hτ a b e)) c
theorem Ap.rm (h : Ap M) (k : Nat) : Ap (rm M k) := ⟨fun a b => h.hv (rm_or a).2 (rm_or b).2, fun a b => h.hh (rm_or a).2 (rm_or b).2, fun a b => h.vv (rm_or a).2 (rm_or b).2⟩
theorem HS.row (h : HS D w t mb M root lk) {k kn : Nat} {r q : Rc} (e : M k = some r) (e2 : M kn = some q) (s : St2 k w w') (hA : At w' k (⟨r.u, r.l, r.r, r.s, q.i, r.h, r.c⟩ : Rc).cells) : HS D w' t mb (ud M k ⟨r.u, r.l, r.r, r.s, q.i, r.h, r.c⟩) root lk := by
 have hK := Mk.st1 s
 have hno : ∀ {j q b}, M j = some q → ob q.i.v = some b ∨ ob q.h = some b → ¬ (b = k) := fun hj hb e2 => by
  have := (h.ds hj hb).2.2
  rw [e2, e] at this; cases this
 have hMb : ∀ {b}, M b = none → ud M k ⟨r.u, r.l, r.r, r.s, q.i, r.h, r.c⟩ b = none := fun {b} hb => by
  rw [ud_ne _ _ (fun q => by rw [q, e] at hb; cases hb)]; exact hb
 refine ⟨s.other t _ (Ne.symm (h.ne e)) h.tr, h.sc.kept hK (fun b hb q => h.sd b hb (by rw [q]; exact h.dk e)), h.sd, fun j x hj => ?_, fun j x hj => ?_, fun j x hj => ?_, fun j x hj => ?_, hMb h.mt, h.dt, fun {j x} hj => ?_, fun {j x b} hj hb => ?_, fun e => by rw [s.size]; exact h.lt e, h.nb, h.nc⟩
 ·rcases ud_or hj with ⟨rfl, rfl⟩ | ⟨hne, hj⟩
  ·exact hA
  ·exact s.other j _ hne (h.rc j x hj)
 ·rcases ud_or hj with ⟨rfl, rfl⟩ | ⟨hne, hj⟩
  ·exact s.cb _ (h.cb _ r e)
  ·exact s.cb _ (h.cb j x hj)
 ·rcases ud_or hj with ⟨rfl, rfl⟩ | ⟨hne, hj⟩
  ·exact ⟨(h.sv _ q e2).1.kept hK (fun b hb => hno e2 (Or.inl hb)), (h.sv _ q e2).2⟩
  ·exact ⟨(h.sv j x hj).1.kept hK (fun b hb => hno hj (Or.inl hb)), (h.sv j x hj).2⟩
 ·rcases ud_or hj with ⟨rfl, rfl⟩ | ⟨hne, hj⟩
  ·exact ⟨(h.ss _ r e).1.kept hK (fun b hb => hno e (Or.inr hb)), (h.ss _ r e).2⟩
  ·exact ⟨(h.ss j x hj).1.kept hK (fun b hb => hno hj (Or.inr hb)), (h.ss j x hj).2⟩
 ·rcases ud_or hj with ⟨rfl, rfl⟩ | ⟨hne, hj⟩
  ·exact h.dk e
  ·exact h.dk hj
 ·rcases ud_or hj with ⟨rfl, rfl⟩ | ⟨hne, hj⟩
  ·rcases hb with hb | hb
   ·obtain ⟨a1, a2, a3⟩ := h.ds e2 (Or.inl hb); exact ⟨a1, a2, hMb a3⟩
   ·obtain ⟨a1, a2, a3⟩ := h.ds e (Or.inr hb); exact ⟨a1, a2, hMb a3⟩
  ·obtain ⟨a1, a2, a3⟩ := h.ds hj hb; exact ⟨a1, a2, hMb a3⟩
def Dm (D : Nat → Prop) (k : Nat) (r : Rc) (j : Nat) : Prop := D j ∧ j ≠ k ∧ ob r.i.v ≠ some j ∧ ob r.h ≠ some j
theorem HS.drop (h : HS D w t mb M root lk) (A : Ap M) {k : Nat} {r : Rc} (e : M k = some r) : HS (Dm D k r) w t mb (rm M k) root lk :=
 h.less k (fun j hj => hj.1) ⟨h.dt, Ne.symm (h.ne e), fun q => (h.ds e (Or.inl q)).2.1 rfl, fun q => (h.ds e (Or.inr q)).2.1 rfl⟩
  (fun {j q} hj hn => ⟨h.dk hj, hn, fun x => (by rw [(h.ds e (Or.inl x)).2.2] at hj; cases hj), fun x => (by rw [(h.ds e (Or.inr x)).2.2] at hj; cases hj)⟩)
  (fun {j q b} hj hn hb => ⟨(h.ds hj hb).1, fun x => (by have := (h.ds hj hb).2.2; rw [x, e] at this; cases this),
   fun x => (by rcases hb with hb | hb; exact A.vv e hj (Ne.symm hn) x hb; exact A.hv hj e hb x),
   fun x => (by rcases hb with hb | hb; exact A.hv e hj x hb; exact A.hh e hj (Ne.symm hn) x hb)⟩)
theorem RS.drop {C : Cx} {tr : T} (h : RS D w t mb C tr lk M root) {k : Nat} {r : Rc} (e : M k = some r) (hC : k ∉ adC C) (hT : k ∉ tr.ad) : RS (Dm D k r) w t mb C tr lk (rm M k) root :=
 ⟨h.hs.drop h.ap e, h.ap.rm k, RepC.same (fun _ m => rm_ne (fun q => hC (q ▸ m))) h.rc, Rep.same (fun _ m => rm_ne (fun q => hT (q ▸ m))) h.rp, h.nd⟩
end
end G
end Go.Proofs.Ythfemlhmnjfjiaa

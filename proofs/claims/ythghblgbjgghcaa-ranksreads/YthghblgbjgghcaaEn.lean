/-
  Entering and leaving: what is written, and what a reader knows then.
-/
import Derived.Test.YthghblgbjgghcaaG5
namespace Go.Proofs.Ythghblgbjgghcaa
open Go.RowKit D
section
variable {l : List S5} {A : Ra} {w u u' : World} {F : Fn} {hid : List (ByteArray × Int)}
theorem DE.ty (h : Rdr l A w F hid) {b : Nat} {t : TypeId} (hb : Ty w b t) (h1 : t ≠ 95) (h2 : t ≠ 105) : ¬ DE A w b := by
  obtain ⟨hv, r1, _⟩ := h.rc
  obtain ⟨am, m1, _⟩ := h.mt
  rintro (e | e | e)
  · exact h1 (hb.two (e ▸ r1.ty))
  · exact m1.nty hb e
  · exact h2 (hb.two e.2)
theorem DE.keeps (h : Rdr l A w F hid) {B : Nat} (hB : A.mb < B) (m : Mk (DE A w) w u) : KeepsFrom B w u := R.keeps_mk m (fun k o hk ho hc e => by
  obtain ⟨hv, r1, _⟩ := h.rc
  rcases e with e | e | e
  · subst e; have := r1.ty.nrow ho; rw [hc] at this; cases this
  · omega
  · have := e.2.nrow ho; rw [hc] at this; cases this)
theorem DE.kb (h : Rdr l A w F hid) (m : Mk (DE A w) w u) {kc : Nat} {v : Value} {pa : Option Addr} {L : List Nat} : Kb kc 32 v 3 1 ic pa L w u :=
  ⟨fun q => q.mk m (DE.ty h q.ty (by decide) (by decide)), fun q => q.kk m (fun a e => DE.ty h (q.ty a e) (by decide) (by decide))⟩
theorem Rdr.push {y : ByteArray × Int} {pv pv2 : Option Addr} {cv cv2 : Nat} (h : Rdr l A w F hid) (hO : Ob w A.r 95 (A.cells l (.slice pv hid.length cv))) (hown : Ow A.N 105 2 hc w pv cv hid) (m1 : Mk (fun j => obk pv hid.length cv = some j) w u) (h1 : Ow A.N 105 2 hc u pv2 cv2 (hid ++ [y])) (m2 : Mk (fun j => j = A.r) u u') (hO2 : Ob u' A.r 95 (A.cells l (.slice pv2 (hid ++ [y]).length cv2))) : Rdr l A u' F (hid ++ [y]) ∧ Mk (DE A w) w u' := by
  have d1 : ∀ j, obk pv hid.length cv = some j → DE A w j := fun j e => Or.inr (Or.inr ⟨(own_lt hown e).2, own_ty hown e⟩)
  have m12 : Mk (DE A w) w u' := (m1.mono d1).tr m2 (fun j _ e => Or.inl e)
  obtain ⟨am, q1, q2⟩ := h.mt
  have hr1 : Ob u A.r 95 (A.cells l (.slice pv hid.length cv)) := hO.mk m1 (fun e => by have := (own_ty hown e).two hO.ty; cases this)
  refine ⟨⟨Rst.de h m12 h.st rfl, ⟨_, hO2, own_mk h1 m2 (fun k e e2 => by subst e2; have := (own_ty h1 e).two hr1.ty; cases this)⟩, ⟨am, ?_, q2⟩, h.nn, h.no, h.nr, h.nb⟩, m12⟩
  exact (q1.mk m1 (fun e => q1.nty (own_ty hown e) rfl)).mk m2 (fun e => q1.nec hO e.symm)
theorem Rdr.mput {am : List (ByteArray × Int)} {nm : ByteArray} {k : Int} (h : Rdr l A w F hid) (h2 : ∀ nm, (lkq am nm).getD (-1) = F nm) (hM : Mp Value.string u A.mb (putq am nm k)) (m : Mk (fun j => j = A.mb) w u) : Rdr l A u (upF F nm k) hid ∧ Mk (DE A w) w u := by
  obtain ⟨hv, r1, r2⟩ := h.rc
  obtain ⟨am', m1, _⟩ := h.mt
  have mm : Mk (DE A w) w u := m.mono (fun j e => Or.inr (Or.inl e))
  refine ⟨⟨Rst.de h mm h.st rfl, ⟨hv, r1.mk m (m1.nec r1), own_mk r2 m (fun k e e2 => m1.nty (own_ty r2 e) e2)⟩, ⟨_, hM, fun c => ?_⟩, h.nn, h.no, h.nr, h.nb⟩, mm⟩
  rw [lkq_put]; unfold upF
  by_cases e : nm = c
  · rw [if_pos e, if_pos e]; rfl
  · rw [if_neg e, if_neg e]; exact h2 c
end
theorem bk_next {α : Type} {S : List α} {pre : List (Nat × α)} {x : Nat × α} (h : pre ++ [x] <+: bk S) : S[x.1]? = some x.2 ∧ x.1 + 1 + pre.length = S.length := by
  obtain ⟨t, ht⟩ := h
  have h1 : (bk S)[pre.length]? = some x := by rw [← ht]; simp
  have hl : pre.length < S.length := by have := lt_of_get h1; rw [bk_len] at this; exact this
  have h2 := bk_get (List.getElem?_eq_getElem (l := S) (i := S.length - 1 - pre.length) (by omega))
  rw [show S.length - (S.length - 1 - pre.length + 1) = pre.length by omega, h1] at h2
  cases h2
  exact ⟨List.getElem?_eq_getElem _, by show S.length - 1 - pre.length + 1 + pre.length = S.length; omega⟩
theorem drop_s {α : Type} {S : List α} {i : Nat} {x : α} (h : S[i]? = some x) : S.drop i = x :: S.drop (i + 1) := by
  have hi := lt_of_get h
  rw [List.drop_eq_getElem_cons hi]
  congr 1
  rw [List.getElem?_eq_getElem hi] at h; exact Option.some.inj h
/-- What the rounds of enter say. -/
structure EI (l : List S5) (A : Ra) (w : World) (k1 : Nat) (S : List Nat) (F : Fn) (hid : List (ByteArray × Int)) (pre : List (Nat × Nat)) (W : World) : Prop where
  rd : Rdr l A W (entW l (S.drop (S.length - pre.length)) (F, hid)).1 (entW l (S.drop (S.length - pre.length)) (F, hid)).2
  bx : Ob W k1 72 [pt A.r 0]
  mw : Mk (DE A w) w W
theorem EI.own {l : List S5} {A : Ra} {w : World} {k1 : Nat} {S : List Nat} {F : Fn} {hid : List (ByteArray × Int)} {B : Nat} (h1 : A.mb < B) (h2 : A.nb < B) (h3 : A.ob < B) (hw : w.heap.size ≤ B) : R.OwnF B (EI l A w k1 S F hid) := fun s W W' row hs hg hf hr =>
  ⟨hs.rd.grown hg hf hr h1 h2 h3, hs.bx.mk (grown_mk hg hf) (fun e => by obtain ⟨_, o, ho, hc⟩ := hr _ e; have := hs.bx.ty.nrow ho; rw [hc] at this; cases this), hs.mw.tr (grown_mk hg hf) (fun j hj e => by have := (hr j e).1; omega)⟩
theorem entL_s {b : Nat} {ys : List It} {j : Nat} {z : It} {st : Fn × List (ByteArray × Int)} (h : ys[j]? = some z) (hr : rdb z.k = true) : entL (b + j) (ys.drop j) st = (upF (entL (b + (j + 1)) (ys.drop (j + 1)) st).1 z.nm ((b + j : Nat) : Int), (entL (b + (j + 1)) (ys.drop (j + 1)) st).2 ++ [(z.nm, (entL (b + (j + 1)) (ys.drop (j + 1)) st).1 z.nm)]) := by
  rw [drop_s h, entL]; simp only [hr, if_true]; rfl
theorem entL_n {b : Nat} {ys : List It} {j : Nat} {z : It} {st : Fn × List (ByteArray × Int)} (h : ys[j]? = some z) (hr : rdb z.k = false) : entL (b + j) (ys.drop j) st = entL (b + (j + 1)) (ys.drop (j + 1)) st := by
  rw [drop_s h, entL]; simp only [hr]; rfl
/-- What is handed to enter stays small. -/
theorem ent_bd {l : List S5} {s j : Nat} {W : List Nat} {F : Fn} {hid : List (ByteArray × Int)} {B : Nat} {y : S5} (hy : l[s]? = some y) (h : hid.length + sumI l (s :: W) ≤ B) : (entL (fsn l s + j) (y.items.drop j) (entW l W (F, hid))).2.length ≤ B := by
  obtain ⟨P, h1, h2, _⟩ := entW_hid l W (F, hid)
  obtain ⟨R, h3, h4, _⟩ := entL_hid (y.items.drop j) (fsn l s + j) (entW l W (F, hid))
  rw [h3, h1]
  unfold sumI at h h2
  simp only [List.map_cons, List.sum_cons, itn_eq hy] at h
  simp only [List.length_append, List.length_drop] at h4 ⊢
  omega
end Go.Proofs.Ythghblgbjgghcaa

/-
  Which sections have been entered, and which rows are told. All sections gone through: where the state lies.
-/
import Derived.Test.YthghblgbjgghcaaG8
namespace Go.Proofs.Ythghblgbjgghcaa
open Go.RowKit D
/-- A row of an item is right. -/
def Rok (l : List S5) (R : List (List Nat)) (t : Nat) : Prop := ∀ i z, (itn l t)[i]? = some z → R[fsn l t + i]? = some (rdI l t (FM l t) z)
/-- From one state to a later one. -/
structure Gx (l : List S5) (E : List Bool) (R : List (List Nat)) (E' : List Bool) (R' : List (List Nat)) : Prop where
  le : E'.length = E.length
  lr : R'.length = R.length
  up : ∀ t : Nat, E[t]? = some true → E'[t]? = some true
  ok : ∀ t : Nat, E'[t]? = some true → E[t]? = some false → Rok l R' t
  sm : ∀ t : Nat, E[t]? = some true → ∀ i, i < (itn l t).length → R'[fsn l t + i]? = R[fsn l t + i]?
  kd : ∀ t : Nat, E'[t]? = some true → E[t]? = some false → ∀ u, u < l.length → par l u = (t : Int) → E'[u]? = some true
theorem Gx.refl (l : List S5) (E : List Bool) (R : List (List Nat)) : Gx l E R E R := ⟨rfl, rfl, fun _ h => h, fun t h h2 => (by rw [h] at h2; cases h2), fun _ _ _ _ => rfl, fun t h h2 => (by rw [h] at h2; cases h2)⟩
theorem bool_at {E E' : List Bool} (h : E'.length = E.length) {t : Nat} {b : Bool} (hb : E'[t]? = some b) : E[t]? = some true ∨ E[t]? = some false := by
  have := lt_of_get hb
  rw [List.getElem?_eq_getElem (show t < E.length by omega)]
  cases E[t] <;> simp
theorem Gx.trans {l : List S5} {E E1 E2 : List Bool} {R R1 R2 : List (List Nat)} (h : Gx l E R E1 R1) (k : Gx l E1 R1 E2 R2) : Gx l E R E2 R2 := by
  refine ⟨k.le.trans h.le, k.lr.trans h.lr, fun t q => k.up t (h.up t q), fun t q2 q0 => ?_, fun t q i hi => (k.sm t (h.up t q) i hi).trans (h.sm t q i hi), fun t q2 q0 u hu hp => ?_⟩
  · rcases bool_at k.le q2 with q1 | q1
    · intro i z hz
      rw [k.sm t q1 i (lt_of_get hz)]; exact h.ok t q1 q0 i z hz
    · exact k.ok t q2 q1
  · rcases bool_at k.le q2 with q1 | q1
    · exact k.up u (h.kd t q1 q0 u hu hp)
    · exact k.kd t q2 q1 u hu hp
theorem fsn_apart {l : List S5} {s t i j : Nat} (hst : s ≠ t) (hi : i < (itn l s).length) (hj : j < (itn l t).length) : fsn l s + i ≠ fsn l t + j := by
  have key : ∀ {s t i j : Nat}, s < t → i < (itn l s).length → fsn l s + i < fsn l t + j := by
    intro s t i j h hi
    cases e : l[s]? with
    | none => unfold itn at hi; rw [e] at hi; simp at hi
    | some x => have h1 := fsn_s e; have h2 : fsn l (s + 1) ≤ fsn l t := fsn_mono h; rw [itn_eq e] at hi; omega
  rcases Nat.lt_or_gt_of_ne hst with h | h
  · have := key (j := j) h hi; omega
  · have := key (s := t) (t := s) (i := j) (j := i) h hj; omega
/-- One section entered, its rows told, then its kids. -/
theorem Gx.one {l : List S5} {E E2 : List Bool} {R R1 R2 : List (List Nat)} {s : Nat} (hs : E[s]? = some false) (hsl : s < l.length) (hr : R1.length = R.length) (h1 : Rok l R1 s) (h2 : ∀ t : Nat, t ≠ s → ∀ i, i < (itn l t).length → R1[fsn l t + i]? = R[fsn l t + i]?) (k : Gx l (E.set s true) R1 E2 R2) (hk : ∀ u, u < l.length → par l u = (s : Int) → E2[u]? = some true) : Gx l E R E2 R2 := by
  have hse : s < E.length := lt_of_get hs
  have set_ne : ∀ t : Nat, t ≠ s → (E.set s true)[t]? = E[t]? := fun t ht => List.getElem?_set_ne (Ne.symm ht)
  have set_s : (E.set s true)[s]? = some true := List.getElem?_set_self hse
  refine ⟨by rw [k.le]; simp, k.lr.trans hr, fun t q => ?_, fun t q2 q0 => ?_, fun t q i hi => ?_, fun t q2 q0 u hu hp => ?_⟩
  · by_cases e : t = s
    · subst e; exact k.up t set_s
    · exact k.up t (by rw [set_ne t e]; exact q)
  · by_cases e : t = s
    · subst e
      intro i z hz
      rw [k.sm t set_s i (lt_of_get hz)]; exact h1 i z hz
    · exact k.ok t q2 (by rw [set_ne t e]; exact q0)
  · have e : t ≠ s := fun e => by subst e; rw [hs] at q; cases q
    rw [k.sm t (by rw [set_ne t e]; exact q) i hi]; exact h2 t e i hi
  · by_cases e : t = s
    · subst e; exact hk u hu hp
    · exact k.kd t q2 (by rw [set_ne t e]; exact q0) u hu hp
/-- How many items the sections have that have not been entered. -/
def rem (l : List S5) (E : List Bool) : Nat := ((List.range l.length).map (fun t => if E[t]? = some true then 0 else (itn l t).length)).sum
theorem sum_le {f g : Nat → Nat} : ∀ L : List Nat, (∀ t ∈ L, f t ≤ g t) → (L.map f).sum ≤ (L.map g).sum
  | [], _ => Nat.le_refl _
  | t :: L, h => by have h1 := h t (List.mem_cons_self ..); have h2 := sum_le L (fun x hx => h x (List.mem_cons_of_mem _ hx)); simp only [List.map_cons, List.sum_cons]; omega
theorem rem_le {l : List S5} {E E' : List Bool} (h : ∀ t : Nat, E[t]? = some true → E'[t]? = some true) : rem l E' ≤ rem l E := sum_le _ (fun t _ => by
  by_cases q : E[t]? = some true
  · rw [if_pos (h t q), if_pos q]; exact Nat.le_refl _
  · rw [if_neg q]; split <;> omega)
theorem sum_one {f g : Nat → Nat} {s : Nat} : ∀ L : List Nat, L.Nodup → s ∈ L → (∀ t : Nat, t ≠ s → f t = g t) → f s + (L.map g).sum = g s + (L.map f).sum
  | [], _, h, _ => by simp at h
  | t :: L, hn, h, hf => by
    have hn2 := List.nodup_cons.1 hn
    simp only [List.map_cons, List.sum_cons]
    rcases List.mem_cons.1 h with rfl | q
    · have : L.map f = L.map g := List.map_congr_left (fun x hx => hf x (fun e => hn2.1 (e ▸ hx)))
      rw [this]; omega
    · have := sum_one L hn2.2 q hf
      have h2 : t ≠ s := fun e => hn2.1 (e ▸ q)
      have := hf t h2
      omega
theorem rem_set {l : List S5} {E : List Bool} {s : Nat} (hs : E[s]? = some false) (hsl : s < l.length) : (itn l s).length + rem l (E.set s true) = rem l E := by
  have hse := lt_of_get hs
  have h := sum_one (f := fun t => if E[t]? = some true then 0 else (itn l t).length) (g := fun t => if (E.set s true)[t]? = some true then 0 else (itn l t).length) (s := s) (List.range l.length) List.nodup_range (List.mem_range.2 hsl) (fun t ht => by simp only [List.getElem?_set_ne (Ne.symm ht)])
  simp only [List.getElem?_set_self hse, hs] at h
  unfold rem
  simp at h ⊢
  omega
def cfl (E : List Bool) : Nat := E.count false
theorem cfl_set {E : List Bool} {s : Nat} (hs : E[s]? = some false) : cfl (E.set s true) + 1 = cfl E := by
  unfold cfl
  induction E generalizing s with
  | nil => simp at hs
  | cons b E ih =>
    cases s with
    | zero => simp at hs; subst hs; simp
    | succ s => simp at hs; have := ih hs; simp only [List.set_cons_succ, List.count_cons]; omega
theorem cfl_le {E E' : List Bool} (hl : E'.length = E.length) (h : ∀ t : Nat, E[t]? = some true → E'[t]? = some true) : cfl E' ≤ cfl E := by
  unfold cfl
  induction E generalizing E' with
  | nil => simp at hl; subst hl; exact Nat.le_refl _
  | cons b E ih =>
    cases E' with
    | nil => simp at hl
    | cons b' E' =>
      have h1 := ih (E' := E') (by simpa using hl) (fun t q => by have := h (t + 1) (by simpa using q); simpa using this)
      have h2 := h 0
      simp only [List.count_cons]
      cases b <;> cases b' <;> simp at h2 ⊢ <;> omega
/-- All rows. -/
def RA (l : List S5) : List (List Nat) := (List.range l.length).flatMap (fun s => (itn l s).map (rdI l s (FM l s)))
theorem RA_pre (l : List S5) : ∀ n, n ≤ l.length → ((List.range n).flatMap (fun s => (itn l s).map (rdI l s (FM l s)))).length = fsn l n
  | 0, _ => by simp [fsn]
  | n + 1, h => by
    obtain ⟨x, hx⟩ := get_of_lt (show n < l.length by omega)
    rw [List.range_succ, List.flatMap_append, List.length_append, RA_pre l n (by omega), fsn_s hx]
    simp [itn_eq hx]
theorem RA_len (l : List S5) : (RA l).length = nI l := RA_pre l l.length (Nat.le_refl _)
theorem RA_get {l : List S5} {s i : Nat} {z : It} (hs : s < l.length) (hz : (itn l s)[i]? = some z) : (RA l)[fsn l s + i]? = some (rdI l s (FM l s) z) := by
  unfold RA
  obtain ⟨d, hd⟩ : ∃ d, l.length = s + (d + 1) := ⟨l.length - s - 1, by omega⟩
  have e : List.range l.length = List.range s ++ (s :: (List.range d).map (fun k => s + (k + 1))) := by
    rw [hd, List.range_add, List.range_succ_eq_map]; simp [List.map_map, Function.comp_def]
  rw [e, List.flatMap_append, List.getElem?_append_right (by rw [RA_pre l s (by omega)]; omega), RA_pre l s (by omega), Nat.add_sub_cancel_left, List.flatMap_cons, List.getElem?_append_left (by rw [List.length_map]; exact lt_of_get hz), List.getElem?_map, hz]
  rfl
theorem of_num {l : List S5} {n : Nat} (h : n < nI l) : ∃ s i z, s < l.length ∧ (itn l s)[i]? = some z ∧ n = fsn l s + i := by
  have key : ∀ m, m ≤ l.length → n < fsn l m → ∃ s i z, s < l.length ∧ (itn l s)[i]? = some z ∧ n = fsn l s + i := by
    intro m
    induction m with
    | zero => intro _ h; simp [fsn] at h
    | succ m ih =>
      intro hm h
      obtain ⟨x, hx⟩ := get_of_lt (show m < l.length by omega)
      rw [fsn_s hx] at h
      rcases Nat.lt_or_ge n (fsn l m) with q | q
      · exact ih (by omega) q
      · obtain ⟨z, hz⟩ := get_of_lt (show n - fsn l m < x.items.length by omega)
        exact ⟨m, n - fsn l m, z, by omega, by rw [itn_eq hx]; exact hz, by omega⟩
  exact key l.length (Nat.le_refl _) h
theorem RA_all {l : List S5} {R : List (List Nat)} (hl : R.length = nI l) (h : ∀ t, t < l.length → Rok l R t) : R = RA l := by
  apply List.ext_getElem?
  intro n
  rcases Nat.lt_or_ge n (nI l) with q | q
  · obtain ⟨s, i, z, hs, hz, rfl⟩ := of_num q
    rw [RA_get hs hz]; exact h s hs i z hz
  · rw [List.getElem?_eq_none (by omega), List.getElem?_eq_none (by rw [RA_len]; exact q)]
/-- The way up of a section that has not been entered: its end has not been, and once it has, so has the section. -/
theorem way_in {l : List S5} {s : Int} {W : List Nat} {c : Nat} (h : Way l s W c) {E : List Bool} (hcl : ∀ t : Nat, E[t]? = some true → ∀ u, u < l.length → par l u = (t : Int) → E[u]? = some true) : ∀ i t u : Nat, W[i]? = some t → W[W.length - 1]? = some u → E[u]? = some true → E[t]? = some true := by
  intro i t u hi hu hE
  have key : ∀ d i t : Nat, W.length - 1 - i = d → W[i]? = some t → E[t]? = some true := by
    intro d
    induction d with
    | zero =>
      intro i t hd hi
      have := lt_of_get hi
      rw [show i = W.length - 1 by omega, hu] at hi; cases hi; exact hE
    | succ d ih =>
      intro i t hd hi
      have hil := lt_of_get hi
      obtain ⟨v, hv⟩ := get_of_lt (show i + 1 < W.length by omega)
      exact hcl v (ih (i + 1) v (by omega) hv) t (h.rg t (List.mem_of_getElem? hi)) (h.nx i t v hi hv)
  exact key _ i t rfl hi
end Go.Proofs.Ythghblgbjgghcaa
namespace Go.Proofs.Ythghblgbjgghcaa
open Go.RowKit D
/-- Where the variables lie. -/
structure Gd where
  kE : Nat
  kQ : Nat
  kL : Nat
  kA : Nat
  kG : Nat
  ke : Nat
  ka : Nat
abbrev Gd.fn (G : Gd) : Value := .func (.func 65) #[] #[pt G.kE 0, pt G.kQ 0, pt G.kL 0, pt G.kA 0, pt G.kG 0]
structure Gs (w0 : World) (l : List S5) (A : Ra) (G : Gd) (w : World) (E : List Bool) (V : List Iz) (F : Fn) (hid : List (ByteArray × Int)) : Prop where
  bE : Ob w G.kE 81 [.slice (some ⟨G.ke, 0, none⟩) l.length l.length]
  bQ : Ob w G.kQ 72 [pt A.r 0]
  bL : Ob w G.kL 22 [.slice A.pl l.length A.cl]
  bA : Ob w G.kA 79 [.slice (some ⟨G.ka, 0, none⟩) (nI l) (nI l)]
  bG : Ob w G.kG 82 [G.fn]
  en : Ob w G.ke 4 (E.map Value.bool)
  al : Ob w G.ka 32 (V.map Iz.v)
  le : E.length = l.length
  lv : V.length = nI l
  li : ∀ x ∈ V, Li w x.pa x.L
  rd : Rdr l A w F hid
  nk : ∀ a, A.pk = some a → a.block ≠ G.ka
  ne : A.N ≤ G.ke
  na : A.N ≤ G.ka
  kp : Kp w0 w
/-- What may be written. -/
def DG (A : Ra) (G : Gd) (w : World) (k : Nat) : Prop := DE A w k ∨ k = G.ke ∨ k = G.ka
theorem DG.tr {A : Ra} {G : Gd} {a b c : World} (h : Mk (DG A G a) a b) (k : Mk (DG A G b) b c) : Mk (DG A G a) a c := h.tr k (fun j hj e => by
  rcases e with (e | e | e) | e | e
  · exact Or.inl (Or.inl e)
  · exact Or.inl (Or.inr (Or.inl e))
  · refine Classical.byContradiction fun hn => hn ?_
    obtain ⟨h1, vs, h2⟩ := e
    exact Or.inl (Or.inr (Or.inr ⟨h1, vs, (h.block j hj hn).symm.trans h2⟩))
  · exact Or.inr (Or.inl e)
  · exact Or.inr (Or.inr e))
theorem Kp.kk {w0 w w' : World} {D : Nat → Prop} (k : Kp w0 w) (m : Mk D w w') (h : ∀ j, D j → w0.heap.size ≤ j) : Kp w0 w' :=
  ⟨Nat.le_trans k.size m.size, fun x o v e => by
    have h1 := k.cell x o v e
    have hx := cell_lt e
    exact (World.cell?_of_block (a := ⟨x, o, none⟩) (m.block x (cell_lt h1) (fun s => by have := h x s; omega))).trans h1⟩
section
variable {w0 w w' : World} {l : List S5} {A : Ra} {G : Gd} {E : List Bool} {V : List Iz} {F F' : Fn} {hid hid' : List (ByteArray × Int)}
theorem Gs.mo (h : Gs w0 l A G w E V F hid) (m : Mo w w') : Gs w0 l A G w' E V F hid := ⟨h.bE.mo m, h.bQ.mo m, h.bL.mo m, h.bA.mo m, h.bG.mo m, h.en.mo m, h.al.mo m, h.le, h.lv, fun x hx => (h.li x hx).mo m, h.rd.mo m, h.nk, h.ne, h.na, h.kp.trans m.kp⟩
theorem Gs.de (h : Gs w0 l A G w E V F hid) (hN : w0.heap.size ≤ A.N) (m : Mk (DE A w) w w') (hr : Rdr l A w' F' hid') : Gs w0 l A G w' E V F' hid' := by
  have q : ∀ {b : Nat} {t : TypeId}, Ty w b t → t ≠ 95 → t ≠ 105 → ¬ DE A w b := fun hb h1 h2 => DE.ty h.rd hb h1 h2
  exact ⟨h.bE.mk m (q h.bE.ty (by decide) (by decide)), h.bQ.mk m (q h.bQ.ty (by decide) (by decide)), h.bL.mk m (q h.bL.ty (by decide) (by decide)), h.bA.mk m (q h.bA.ty (by decide) (by decide)), h.bG.mk m (q h.bG.ty (by decide) (by decide)), h.en.mk m (q h.en.ty (by decide) (by decide)), h.al.mk m (q h.al.ty (by decide) (by decide)), h.le, h.lv, fun x hx => (h.li x hx).kk m (fun a e => q ((h.li x hx).ty a e) (by decide) (by decide)), hr, h.nk, h.ne, h.na, h.kp.kk m (fun j e => Nat.le_trans hN (DE.N h.rd e))⟩
theorem Gs.sete (h : Gs w0 l A G w E V F hid) (hN : w0.heap.size ≤ A.N) {s : Nat} (m : Mk (fun k => k = G.ke) w w') (ho : Ob w' G.ke 4 ((E.map Value.bool).set s (.bool true))) : Gs w0 l A G w' (E.set s true) V F hid := by
  obtain ⟨hv, r1, r2⟩ := h.rd.rc
  obtain ⟨am, m1, _⟩ := h.rd.mt
  obtain ⟨an, n1, _⟩ := h.rd.st.nm
  obtain ⟨ao, o1, _⟩ := h.rd.st.ow
  have q : ∀ {b : Nat} {t : TypeId}, Ty w b t → t ≠ 4 → ¬ b = G.ke := fun hb h1 e => h1 (hb.two (e ▸ h.en.ty))
  exact ⟨h.bE.mk m (q h.bE.ty (by decide)), h.bQ.mk m (q h.bQ.ty (by decide)), h.bL.mk m (q h.bL.ty (by decide)), h.bA.mk m (q h.bA.ty (by decide)), h.bG.mk m (q h.bG.ty (by decide)), by rw [List.map_set]; exact ho, h.al.mk m (q h.al.ty (by decide)), by simp [h.le], h.lv, fun x hx => (h.li x hx).kk m (fun a e => q ((h.li x hx).ty a e) (by decide)),
    h.rd.kk m (q r1.ty (by decide)) (fun e => m1.nec h.en e.symm) (fun e => n1.nec h.en e.symm) (fun e => o1.nec h.en e.symm) (fun b hb => q hb (by decide)) (fun a e => q (h.rd.st.kt a e) (by decide)) (fun b _ hb => q hb (by decide)), h.nk, h.ne, h.na, h.kp.kk m (fun j e => e ▸ Nat.le_trans hN h.ne)⟩
theorem Gs.seta (h : Gs w0 l A G w E V F hid) (hN : w0.heap.size ≤ A.N) {n : Nat} {x : Iz} (hx : Li w x.pa x.L) (m : Mk (fun k => k = G.ka) w w') (ho : Ob w' G.ka 32 ((V.map Iz.v).set n x.v)) : Gs w0 l A G w' E (V.set n x) F hid := by
  obtain ⟨hv, r1, r2⟩ := h.rd.rc
  obtain ⟨am, m1, _⟩ := h.rd.mt
  obtain ⟨an, n1, _⟩ := h.rd.st.nm
  obtain ⟨ao, o1, _⟩ := h.rd.st.ow
  have q : ∀ {b : Nat} {t : TypeId}, Ty w b t → t ≠ 32 → ¬ b = G.ka := fun hb h1 e => h1 (hb.two (e ▸ h.al.ty))
  refine ⟨h.bE.mk m (q h.bE.ty (by decide)), h.bQ.mk m (q h.bQ.ty (by decide)), h.bL.mk m (q h.bL.ty (by decide)), h.bA.mk m (q h.bA.ty (by decide)), h.bG.mk m (q h.bG.ty (by decide)), h.en.mk m (q h.en.ty (by decide)), by rw [List.map_set]; exact ho, h.le, by simp [h.lv], fun y hy => ?_,
    h.rd.kk m (q r1.ty (by decide)) (fun e => m1.nec h.al e.symm) (fun e => n1.nec h.al e.symm) (fun e => o1.nec h.al e.symm) (fun b hb => q hb (by decide)) (fun a e => h.nk a e) (fun b _ hb => q hb (by decide)), h.nk, h.ne, h.na, h.kp.kk m (fun j e => e ▸ Nat.le_trans hN h.na)⟩
  rcases List.mem_or_eq_of_mem_set hy with z | z
  · exact (h.li y z).kk m (fun a e => q ((h.li y z).ty a e) (by decide))
  · subst z; exact hx.kk m (fun a e => q (hx.ty a e) (by decide))
end
section
variable {P : Program} {o : Oper} {n : Nat} {l : List (Nat × Value)} {w : World} {ops : Array Oper} {rest : List Oper} {Q : Exit → Act → World → Prop} {K : Act → World → Prop}
theorem wl_bsO (ty : TypeId) (m : Nat) (xs : List (Nat × Operand)) (ps : List (Nat × Value)) (cs : List Value) (e : TypeId) (ho : o.op = .buildSlice ty m xs.toArray) (hx : xs.map (fun p => (p.1, evl n l p.2)) = ps)
    (h : ∀ w, (Instr.buildSlice ty m ps.toArray).run P w = .ok (.slice (some ⟨w.heap.size, 0, none⟩) m m) (w.alloc (.cells cs.toArray e))) (hg : wnt n l ops o = true)
    (hk : ∀ k w', w.heap.size = k → w'.heap.size = k + 1 → Mo w w' → Ob w' k e cs → WL P ops Q rest n (ext l o.dst (.slice (some ⟨k, 0, none⟩) m m)) w') : WL P ops Q (o :: rest) n l w := by
  subst hx
  refine ⟨l_step hg (o_val (.slice (some ⟨w.heap.size, 0, none⟩) m m) (w' := w.alloc (.cells cs.toArray e)) ?_ (hk _ _ rfl (by simp) ((Mo.refl _).alloc _ _) (Ob.new w cs e)).out)⟩
  simp [execOp, ho, h]
theorem wl_allocO (ty : TypeId) (zs : List Value) (ho : o.op = .alloc ty) (h : ∀ w, (Instr.alloc ty true (.tuple #[])).run P w = .ok (pt w.heap.size 0) (w.alloc (.cells zs.toArray ty))) (hg : wnt n l ops o = true) (hk : ∀ k w', w.heap.size = k → w'.heap.size = k + 1 → Mo w w' → Ob w' k ty zs → WL P ops Q rest n (ext l o.dst (pt k 0)) w') : WL P ops Q (o :: rest) n l w := by
  refine ⟨l_step hg (o_val (pt w.heap.size 0) (w' := w.alloc (.cells zs.toArray ty)) ?_ (hk _ _ rfl (by simp) ((Mo.refl _).alloc _ _) (Ob.new w zs ty)).out)⟩
  simp [execOp, ho, h]
theorem wo_callx (g : FuncId) (xs : List Operand) (ats : Array TypeId) (args : List Value) {F : Ending → World → Prop} (ho : o.op = .call { callee := .value (.func g), args := xs.toArray, argTypes := ats }) (hx : xs.map (evl n l) = args)
    (h : ∀ args w, (callFunc g args).run P w = .ok (.enter g args) w)
    (hc : Calls P g args.toArray w F) (hk : ∀ v w', F v w' → ∃ u, v = .returned u ∧ K (fr n (ext l o.dst u)) w') : WO P o n l w K Q := by
  have e : (execOp (evl n l) o).run P w = .ok (.enter g args.toArray) w := by
    obtain ⟨dst, op, ty, pos, after, guard⟩ := o
    simp only at ho
    subst ho hx
    have e2 := execOp_call_go (fr n l) dst g xs.toArray ats ty pos after guard
    rw [fr_eval] at e2
    rw [e2, h]
    simp
  refine ⟨?_⟩
  unfold Oper.wp; rw [fr_eval, e, Oper.upon_enter]
  refine hc.mono ?_
  intro e w' hF
  obtain ⟨u, rfl, hW⟩ := hk e w' hF
  show K _ _
  rw [fr_put]
  exact hW
/-- A call in a region that draws, of which something is told. -/
theorem oc_call {ol : List Oper} {m i : Nat} {W : World} {sp : List (Value → World → Prop)} (hm : Smos sp)
    (h : ∀ f w, Mo W w → (∀ j, depb o j = true → spQ sp j (f j) w) → ∀ K : Act → World → Prop, (∀ v w', Mo w w' → spQ sp i v w' → K (fr n (ext (asg f 0 (ol.take m) l) o.dst v)) w') → Go1 P ol Q n (asg f 0 (ol.take m) l) w K o) : OgC P ol Q n l m (fun w9 => Mo W w9) sp i o :=
  ⟨fun f w hG hd K hK => h f w hG hd K (fun v w' hmo hv => hK v w' (hG.trans hmo) hv (fun j u _ hr => hm j u w w' hr hmo))⟩
end
/-- A slice that a call has made. -/
def slq (N : Nat) (L : List Nat) : Value → World → Prop := fun v w => ∃ pa cap, v = .slice pa L.length cap ∧ Ow N 3 1 ic w pa cap L
theorem smo_slq (N : Nat) (L : List Nat) : Smo (slq N L) := fun _ _ _ ⟨p, c, h1, h2⟩ m => ⟨p, c, h1, own_mo h2 m⟩
/-- The rows of a section told so far. -/
structure Rw1 (l : List S5) (s i : Nat) (R R1 : List (List Nat)) : Prop where
  ln : R1.length = R.length
  ok : ∀ j z, j < i → (itn l s)[j]? = some z → R1[fsn l s + j]? = some (rdI l s (FM l s) z)
  sm : ∀ t, t ≠ s → ∀ j, j < (itn l t).length → R1[fsn l t + j]? = R[fsn l t + j]?
theorem Rw1.nil (l : List S5) (s : Nat) (R : List (List Nat)) : Rw1 l s 0 R R := ⟨rfl, fun j z h => by omega, fun _ _ _ _ => rfl⟩
theorem Rw1.more {l : List S5} {s i : Nat} {R R1 : List (List Nat)} {z : It} (h : Rw1 l s i R R1) (hz : (itn l s)[i]? = some z) (hl : R.length = nI l) : Rw1 l s (i + 1) R (R1.set (fsn l s + i) (rdI l s (FM l s) z)) := by
  have hn : fsn l s + i < R1.length := by rw [h.ln, hl]; exact itn_len (lt_of_get hz)
  refine ⟨by simp [h.ln], fun j y hj hy => ?_, fun t ht j hj => ?_⟩
  · by_cases e : j = i
    · subst e; rw [hz] at hy; cases hy; exact List.getElem?_set_self hn
    · rw [List.getElem?_set_ne (by omega)]; exact h.ok j y (by omega) hy
  · rw [List.getElem?_set_ne (fsn_apart (Ne.symm ht) (lt_of_get hz) hj)]; exact h.sm t ht j hj
theorem mem_kidL {l : List S5} {s u : Nat} : u ∈ kidL l s ↔ u < l.length ∧ par l u = (s : Int) := by unfold kidL; rw [List.mem_filter, List.mem_range]; simp
end Go.Proofs.Ythghblgbjgghcaa

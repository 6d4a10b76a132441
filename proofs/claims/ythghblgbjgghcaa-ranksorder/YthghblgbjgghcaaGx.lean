/-
  Which sections have been entered, and which rows are told.
-/
import Derived.Test.YthghblgbjgghcaaG8
namespace Go.Proofs.Ythghblgbjgghcaa
open Go.RowKit D
/-- A row of an item is right. -/
def Rok (l : List S5) (R : List (List Nat)) (t : Nat) : Prop := ∀ i z, (itn l t)[i]? = some z → R[fsn l t + i]? = some (rdI l t (FM l t) z)
/-- From one state to a later one. -/
structure Gx (l : List S5) (E : List Bool) (R : List (List Nat)) (E' : List Bool) (R' : List (List Nat)) : Prop where
  le : E'.length = E.length
  lr : R'.length = R.length
  up : ∀ t : Nat, E[t]? = some true → E'[t]? = some true
  ok : ∀ t : Nat, E'[t]? = some true → E[t]? = some false → Rok l R' t
  sm : ∀ t : Nat, E[t]? = some true → ∀ i, i < (itn l t).length → R'[fsn l t + i]? = R[fsn l t + i]?
  kd : ∀ t : Nat, E'[t]? = some true → E[t]? = some false → ∀ u, u < l.length → par l u = (t : Int) → E'[u]? = some true
theorem Gx.refl (l : List S5) (E : List Bool) (R : List (List Nat)) : Gx l E R E R := ⟨rfl, rfl, fun _ h => h, fun t h h2 => (by rw [h] at h2; cases h2), fun _ _ _ _ => rfl, fun t h h2 => (by rw [h] at h2; cases h2)⟩
theorem bool_at {E E' : List Bool} (h : E'.length = E.length) {t : Nat} {b : Bool} (hb : E'[t]? = some b) : E[t]? = some true ∨ E[t]? = some false := by
  have := lt_of_get hb
  rw [List.getElem?_eq_getElem (show t < E.length by omega)]
  cases E[t] <;> simp
theorem Gx.trans {l : List S5} {E E1 E2 : List Bool} {R R1 R2 : List (List Nat)} (h : Gx l E R E1 R1) (k : Gx l E1 R1 E2 R2) : Gx l E R E2 R2 := by
  refine ⟨k.le.trans h.le, k.lr.trans h.lr, fun t q => k.up t (h.up t q), fun t q2 q0 => ?_, fun t q i hi => (k.sm t (h.up t q) i hi).trans (h.sm t q i hi), fun t q2 q0 u hu hp => ?_⟩
  · rcases bool_at k.le q2 with q1 | q1
    · intro i z hz
      rw [k.sm t q1 i (lt_of_get hz)]; exact h.ok t q1 q0 i z hz
    · exact k.ok t q2 q1
  · rcases bool_at k.le q2 with q1 | q1
    · exact k.up u (h.kd t q1 q0 u hu hp)
    · exact k.kd t q2 q1 u hu hp
theorem fsn_apart {l : List S5} {s t i j : Nat} (hst : s ≠ t) (hi : i < (itn l s).length) (hj : j < (itn l t).length) : fsn l s + i ≠ fsn l t + j := by
  have key : ∀ {s t i j : Nat}, s < t → i < (itn l s).length → fsn l s + i < fsn l t + j := by
    intro s t i j h hi
    cases e : l[s]? with
    | none => unfold itn at hi; rw [e] at hi; simp at hi
    | some x => have h1 := fsn_s e; have h2 : fsn l (s + 1) ≤ fsn l t := fsn_mono h; rw [itn_eq e] at hi; omega
  rcases Nat.lt_or_gt_of_ne hst with h | h
  · have := key (j := j) h hi; omega
  · have := key (s := t) (t := s) (i := j) (j := i) h hj; omega
/-- One section entered, its rows told, then its kids. -/
theorem Gx.one {l : List S5} {E E2 : List Bool} {R R1 R2 : List (List Nat)} {s : Nat} (hs : E[s]? = some false) (hsl : s < l.length) (hr : R1.length = R.length) (h1 : Rok l R1 s) (h2 : ∀ t : Nat, t ≠ s → ∀ i, i < (itn l t).length → R1[fsn l t + i]? = R[fsn l t + i]?) (k : Gx l (E.set s true) R1 E2 R2) (hk : ∀ u, u < l.length → par l u = (s : Int) → E2[u]? = some true) : Gx l E R E2 R2 := by
  have hse : s < E.length := lt_of_get hs
  have set_ne : ∀ t : Nat, t ≠ s → (E.set s true)[t]? = E[t]? := fun t ht => List.getElem?_set_ne (Ne.symm ht)
  have set_s : (E.set s true)[s]? = some true := List.getElem?_set_self hse
  refine ⟨by rw [k.le]; simp, k.lr.trans hr, fun t q => ?_, fun t q2 q0 => ?_, fun t q i hi => ?_, fun t q2 q0 u hu hp => ?_⟩
  · by_cases e : t = s
    · subst e; exact k.up t set_s
    · exact k.up t (by rw [set_ne t e]; exact q)
  · by_cases e : t = s
    · subst e
      intro i z hz
      rw [k.sm t set_s i (lt_of_get hz)]; exact h1 i z hz
    · exact k.ok t q2 (by rw [set_ne t e]; exact q0)
  · have e : t ≠ s := fun e => by subst e; rw [hs] at q; cases q
    rw [k.sm t (by rw [set_ne t e]; exact q) i hi]; exact h2 t e i hi
  · by_cases e : t = s
    · subst e; exact hk u hu hp
    · exact k.kd t q2 (by rw [set_ne t e]; exact q0) u hu hp
/-- How many items the sections have that have not been entered. -/
def rem (l : List S5) (E : List Bool) : Nat := ((List.range l.length).map (fun t => if E[t]? = some true then 0 else (itn l t).length)).sum
theorem sum_le {f g : Nat → Nat} : ∀ L : List Nat, (∀ t ∈ L, f t ≤ g t) → (L.map f).sum ≤ (L.map g).sum
  | [], _ => Nat.le_refl _
  | t :: L, h => by have h1 := h t (List.mem_cons_self ..); have h2 := sum_le L (fun x hx => h x (List.mem_cons_of_mem _ hx)); simp only [List.map_cons, List.sum_cons]; omega
theorem rem_le {l : List S5} {E E' : List Bool} (h : ∀ t : Nat, E[t]? = some true → E'[t]? = some true) : rem l E' ≤ rem l E := sum_le _ (fun t _ => by
  by_cases q : E[t]? = some true
  · rw [if_pos (h t q), if_pos q]; exact Nat.le_refl _
  · rw [if_neg q]; split <;> omega)
theorem sum_one {f g : Nat → Nat} {s : Nat} : ∀ L : List Nat, L.Nodup → s ∈ L → (∀ t : Nat, t ≠ s → f t = g t) → f s + (L.map g).sum = g s + (L.map f).sum
  | [], _, h, _ => by simp at h
  | t :: L, hn, h, hf => by
    have hn2 := List.nodup_cons.1 hn
    simp only [List.map_cons, List.sum_cons]
    rcases List.mem_cons.1 h with rfl | q
    · have : L.map f = L.map g := List.map_congr_left (fun x hx => hf x (fun e => hn2.1 (e ▸ hx)))
      rw [this]; omega
    · have := sum_one L hn2.2 q hf
      have h2 : t ≠ s := fun e => hn2.1 (e ▸ q)
      have := hf t h2
      omega
theorem rem_set {l : List S5} {E : List Bool} {s : Nat} (hs : E[s]? = some false) (hsl : s < l.length) : (itn l s).length + rem l (E.set s true) = rem l E := by
  have hse := lt_of_get hs
  have h := sum_one (f := fun t => if E[t]? = some true then 0 else (itn l t).length) (g := fun t => if (E.set s true)[t]? = some true then 0 else (itn l t).length) (s := s) (List.range l.length) List.nodup_range (List.mem_range.2 hsl) (fun t ht => by simp only [List.getElem?_set_ne (Ne.symm ht)])
  simp only [List.getElem?_set_self hse, hs] at h
  unfold rem
  simp at h ⊢
  omega
def cfl (E : List Bool) : Nat := E.count false
theorem cfl_set {E : List Bool} {s : Nat} (hs : E[s]? = some false) : cfl (E.set s true) + 1 = cfl E := by
  unfold cfl
  induction E generalizing s with
  | nil => simp at hs
  | cons b E ih =>
    cases s with
    | zero => simp at hs; subst hs; simp
    | succ s => simp at hs; have := ih hs; simp only [List.set_cons_succ, List.count_cons]; omega
theorem cfl_le {E E' : List Bool} (hl : E'.length = E.length) (h : ∀ t : Nat, E[t]? = some true → E'[t]? = some true) : cfl E' ≤ cfl E := by
  unfold cfl
  induction E generalizing E' with
  | nil => simp at hl; subst hl; exact Nat.le_refl _
  | cons b E ih =>
    cases E' with
    | nil => simp at hl
    | cons b' E' =>
      have h1 := ih (E' := E') (by simpa using hl) (fun t q => by have := h (t + 1) (by simpa using q); simpa using this)
      have h2 := h 0
      simp only [List.count_cons]
      cases b <;> cases b' <;> simp at h2 ⊢ <;> omega
/-- All rows. -/
def RA (l : List S5) : List (List Nat) := (List.range l.length).flatMap (fun s => (itn l s).map (rdI l s (FM l s)))
theorem RA_pre (l : List S5) : ∀ n, n ≤ l.length → ((List.range n).flatMap (fun s => (itn l s).map (rdI l s (FM l s)))).length = fsn l n
  | 0, _ => by simp [fsn]
  | n + 1, h => by
    obtain ⟨x, hx⟩ := get_of_lt (show n < l.length by omega)
    rw [List.range_succ, List.flatMap_append, List.length_append, RA_pre l n (by omega), fsn_s hx]
    simp [itn_eq hx]
theorem RA_len (l : List S5) : (RA l).length = nI l := RA_pre l l.length (Nat.le_refl _)
theorem RA_get {l : List S5} {s i : Nat} {z : It} (hs : s < l.length) (hz : (itn l s)[i]? = some z) : (RA l)[fsn l s + i]? = some (rdI l s (FM l s) z) := by
  unfold RA
  obtain ⟨d, hd⟩ : ∃ d, l.length = s + (d + 1) := ⟨l.length - s - 1, by omega⟩
  have e : List.range l.length = List.range s ++ (s :: (List.range d).map (fun k => s + (k + 1))) := by
    rw [hd, List.range_add, List.range_succ_eq_map]; simp [List.map_map, Function.comp_def]
  rw [e, List.flatMap_append, List.getElem?_append_right (by rw [RA_pre l s (by omega)]; omega), RA_pre l s (by omega), Nat.add_sub_cancel_left, List.flatMap_cons, List.getElem?_append_left (by rw [List.length_map]; exact lt_of_get hz), List.getElem?_map, hz]
  rfl
theorem of_num {l : List S5} {n : Nat} (h : n < nI l) : ∃ s i z, s < l.length ∧ (itn l s)[i]? = some z ∧ n = fsn l s + i := by
  have key : ∀ m, m ≤ l.length → n < fsn l m → ∃ s i z, s < l.length ∧ (itn l s)[i]? = some z ∧ n = fsn l s + i := by
    intro m
    induction m with
    | zero => intro _ h; simp [fsn] at h
    | succ m ih =>
      intro hm h
      obtain ⟨x, hx⟩ := get_of_lt (show m < l.length by omega)
      rw [fsn_s hx] at h
      rcases Nat.lt_or_ge n (fsn l m) with q | q
      · exact ih (by omega) q
      · obtain ⟨z, hz⟩ := get_of_lt (show n - fsn l m < x.items.length by omega)
        exact ⟨m, n - fsn l m, z, by omega, by rw [itn_eq hx]; exact hz, by omega⟩
  exact key l.length (Nat.le_refl _) h
theorem RA_all {l : List S5} {R : List (List Nat)} (hl : R.length = nI l) (h : ∀ t, t < l.length → Rok l R t) : R = RA l := by
  apply List.ext_getElem?
  intro n
  rcases Nat.lt_or_ge n (nI l) with q | q
  · obtain ⟨s, i, z, hs, hz, rfl⟩ := of_num q
    rw [RA_get hs hz]; exact h s hs i z hz
  · rw [List.getElem?_eq_none (by omega), List.getElem?_eq_none (by rw [RA_len]; exact q)]
/-- The way up of a section that has not been entered: its end has not been, and once it has, so has the section. -/
theorem way_in {l : List S5} {s : Int} {W : List Nat} {c : Nat} (h : Way l s W c) {E : List Bool} (hcl : ∀ t : Nat, E[t]? = some true → ∀ u, u < l.length → par l u = (t : Int) → E[u]? = some true) : ∀ i t u : Nat, W[i]? = some t → W[W.length - 1]? = some u → E[u]? = some true → E[t]? = some true := by
  intro i t u hi hu hE
  have key : ∀ d i t : Nat, W.length - 1 - i = d → W[i]? = some t → E[t]? = some true := by
    intro d
    induction d with
    | zero =>
      intro i t hd hi
      have := lt_of_get hi
      rw [show i = W.length - 1 by omega, hu] at hi; cases hi; exact hE
    | succ d ih =>
      intro i t hd hi
      have hil := lt_of_get hi
      obtain ⟨v, hv⟩ := get_of_lt (show i + 1 < W.length by omega)
      exact hcl v (ih (i + 1) v (by omega) hv) t (h.rg t (List.mem_of_getElem? hi)) (h.nx i t v hi hv)
  exact key _ i t rfl hi
end Go.Proofs.Ythghblgbjgghcaa

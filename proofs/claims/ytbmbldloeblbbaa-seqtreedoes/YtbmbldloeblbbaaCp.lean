/-
  A tree and its copy.
-/
import Derived.Test.YtbmbldloeblbbaaLi
namespace Go.Proofs.Ytbmbldloeblbbaa
open Go.RowKit
/-- The same shape, ids and sizes. -/
def Sim : T → T → Prop
  | .e, .e => True
  | .n _ i s l r, .n _ i' s' l' r' => i = i' ∧ s = s' ∧ Sim l l' ∧ Sim r r'
  | _, _ => False
theorem Sim.ids : ∀ {a b : T}, Sim a b → b.ids = a.ids
  | .e, .e, _ => rfl
  | .n _ i s l r, .n _ i' s' l' r', h => by
    obtain ⟨rfl, rfl, h1, h2⟩ := h
    unfold T.ids; rw [h1.ids, h2.ids]
  | .e, .n .., h => h.elim
  | .n .., .e, h => h.elim
theorem Sim.sz : ∀ {a b : T}, Sim a b → b.sz = a.sz
  | .e, .e, _ => rfl
  | .n _ i s l r, .n _ i' s' l' r', h => by
    obtain ⟨rfl, rfl, h1, h2⟩ := h
    unfold T.sz; rw [h1.sz, h2.sz]
  | .e, .n .., h => h.elim
  | .n .., .e, h => h.elim
theorem Sim.ok : ∀ {a b : T}, Sim a b → a.ok → b.ok
  | .e, .e, _, _ => trivial
  | .n _ i s l r, .n _ i' s' l' r', h, k => by
    obtain ⟨rfl, rfl, h1, h2⟩ := h
    exact ⟨by rw [h1.sz, h2.sz]; exact k.1, h1.ok k.2.1, h2.ok k.2.2⟩
  | .e, .n .., h, _ => h.elim
  | .n .., .e, h, _ => h.elim
theorem Sim.bw : ∀ {a b : T}, Sim a b → a.bw → b.bw
  | .e, .e, _, _ => trivial
  | .n _ i s l r, .n _ i' s' l' r', h, k => by
    obtain ⟨rfl, rfl, h1, h2⟩ := h
    exact ⟨by rw [h1.sz, h2.sz]; exact k.1, by rw [h1.sz, h2.sz]; exact k.2.1, h1.bw k.2.2.1, h2.bw k.2.2.2⟩
  | .e, .n .., h, _ => h.elim
  | .n .., .e, h, _ => h.elim
/-- The ids with their blocks, a node ahead of its sides. -/
def pv : T → List (Int × Nat)
  | .e => []
  | .n k i _ l r => (i, k) :: (pv l ++ pv r)
theorem pv_mem : ∀ (tr : T) (x : Int × Nat), x ∈ pv tr ↔ x ∈ tr.kv
  | .e, x => Iff.rfl
  | .n k i s l r, x => by
    unfold pv T.kv
    simp only [List.mem_cons, List.mem_append, pv_mem l x, pv_mem r x]
    constructor
    · rintro (h | h | h)
      · exact Or.inr (Or.inl h)
      · exact Or.inl h
      · exact Or.inr (Or.inr h)
    · rintro (h | h | h)
      · exact Or.inr (Or.inl h)
      · exact Or.inl h
      · exact Or.inr (Or.inr h)
theorem pv_len : ∀ tr : T, (pv tr).length = tr.kv.length
  | .e => rfl
  | .n k i s l r => by unfold pv T.kv; simp [pv_len l, pv_len r]; omega
theorem pv_ids (tr : T) (i : Int) : i ∈ (pv tr).map (·.1) ↔ i ∈ tr.ids := by
  rw [← T.kv_ids]
  simp only [List.mem_map]
  exact ⟨fun ⟨x, h, e⟩ => ⟨x, (pv_mem tr x).1 h, e⟩, fun ⟨x, h, e⟩ => ⟨x, (pv_mem tr x).2 h, e⟩⟩
theorem mem_once {l : List (Int × Nat)} (hn : (l.map (·.1)).Nodup) {i : Int} {k : Nat} (h : (i, k) ∈ l) : adr l i = some k := by
  obtain ⟨A, B, rfl⟩ := List.append_of_mem h
  refine adr_mid (fun q => ?_)
  rw [List.map_append, List.map_cons, List.nodup_append] at hn
  exact hn.2.2 i q i (by simp) rfl
theorem pv_nd : ∀ {tr : T}, tr.ids.Nodup → ((pv tr).map (·.1)).Nodup
  | .e, _ => List.nodup_nil
  | .n k i s l r, h => by
    have h0 : (l.ids ++ i :: r.ids).Nodup := h
    rw [List.nodup_append] at h0
    obtain ⟨h1, h2, h3⟩ := h0
    rw [List.nodup_cons] at h2
    unfold pv
    rw [List.map_cons, List.map_append, List.nodup_cons, List.nodup_append]
    refine ⟨fun q => ?_, pv_nd h1, pv_nd h2.2, fun a ha b hb e => ?_⟩
    · rcases List.mem_append.1 q with q | q
      · exact h3 i ((pv_ids l i).1 q) i (by simp) rfl
      · exact h2.1 ((pv_ids r i).1 q)
    · subst e; exact h3 a ((pv_ids l a).1 ha) a (by simp [(pv_ids r a).1 hb]) rfl
theorem adr_pv {tr : T} (hn : tr.ids.Nodup) : adr (pv tr) = adr tr.kv := by
  funext i
  cases h : adr tr.kv i with
  | some k => exact mem_once (pv_nd hn) ((pv_mem tr _).2 (adr_some h))
  | none =>
    refine adr_none (fun q => ?_)
    have := (pv_ids tr i).1 q
    rw [← T.kv_ids] at this
    have := adr_is.2 this
    rw [h] at this; cases this
theorem fu_adr {K : List (Int × Nat)} {i : Int} {k : Nat} (h : i ∉ K.map (·.1)) : fu (adr K) i (some k) = adr (K ++ [(i, k)]) := by
  funext j
  by_cases e : j = i
  · subst e; rw [fu_same, adr_mid h]
  · rw [fu_ne _ _ e, adr_off e, List.append_nil]
/-- The records of a tree lie there. -/
def Lay (w : World) : Option Nat → T → Prop
  | _, .e => True
  | u, .n k i s l r => At w k [pp u, pp l.p, pp r.p, .int .i64 s, .int .i64 i] ∧ Cb w k ∧ Lay w (some k) l ∧ Lay w (some k) r
theorem Lay.mo {w w' : World} (m : Mo w w') : ∀ {tr : T} {u : Option Nat}, Lay w u tr → Lay w' u tr
  | .e, _, _ => trivial
  | .n _ _ _ _ _, _, h => ⟨h.1.mo m, h.2.1.mo m, Lay.mo m h.2.2.1, Lay.mo m h.2.2.2⟩
theorem Lay.kept {E : Nat → Prop} {w w' : World} (m : Mk E w w') : ∀ {tr : T} {u : Option Nat}, Lay w u tr → (∀ k ∈ tr.ad, ¬ E k) → Lay w' u tr
  | .e, _, _, _ => trivial
  | .n k i s l r, u, h, hE => by
    unfold T.ad at hE
    simp only [List.mem_cons, List.mem_append] at hE
    exact ⟨m.at h.1 (hE k (Or.inl rfl)), h.2.1.mk m (hE k (Or.inl rfl)), Lay.kept m h.2.2.1 (fun j q => hE j (Or.inr (Or.inl q))), Lay.kept m h.2.2.2 (fun j q => hE j (Or.inr (Or.inr q)))⟩
def recs : Option Nat → T → List (Nat × Rc)
  | _, .e => []
  | u, .n k i s l r => (k, ⟨u, l.p, r.p, s, i⟩) :: (recs (some k) l ++ recs (some k) r)
theorem recs_ad : ∀ (tr : T) (u : Option Nat), (recs u tr).map (·.1) = tr.ad
  | .e, _ => rfl
  | .n k i s l r, u => by unfold recs T.ad; simp [recs_ad l, recs_ad r]
theorem lay_recs {w : World} : ∀ {tr : T} {u : Option Nat}, Lay w u tr → ∀ x ∈ recs u tr, At w x.1 x.2.cells ∧ Cb w x.1
  | .e, _, _, _, h => by cases h
  | .n k i s l r, u, h, x, hx => by
    simp only [recs, List.mem_cons, List.mem_append] at hx
    rcases hx with rfl | hx | hx
    · exact ⟨h.1, h.2.1⟩
    · exact lay_recs h.2.2.1 x hx
    · exact lay_recs h.2.2.2 x hx
theorem rep_recs {R : Mp} : ∀ {tr : T} {u : Option Nat}, (∀ x ∈ recs u tr, R x.1 = some x.2) → Rep R u tr
  | .e, _, _ => trivial
  | .n k i s l r, u, h => by
    simp only [recs, List.mem_cons, List.mem_append] at h
    exact ⟨h _ (Or.inl rfl), rep_recs (fun x hx => h x (Or.inr (Or.inl hx))), rep_recs (fun x hx => h x (Or.inr (Or.inr hx)))⟩
theorem look_once {l : List (Nat × Rc)} (hn : (l.map (·.1)).Nodup) {x : Nat × Rc} (h : x ∈ l) : l.lookup x.1 = some x.2 := by
  induction l with
  | nil => cases h
  | cons y l ih =>
    rw [List.map_cons, List.nodup_cons] at hn
    rcases List.mem_cons.1 h with rfl | h9
    · simp [List.lookup]
    · have hne : x.1 ≠ y.1 := fun e => hn.1 (by rw [← e]; exact List.mem_map_of_mem h9)
      obtain ⟨a, b⟩ := y
      simp only [List.lookup]
      rw [show (x.1 == a) = false by simpa using hne]
      exact ih hn.2 h9
theorem look_mem {l : List (Nat × Rc)} {k : Nat} {r : Rc} (h : l.lookup k = some r) : (k, r) ∈ l := by
  induction l with
  | nil => cases h
  | cons y l ih =>
    obtain ⟨a, b⟩ := y
    simp only [List.lookup] at h
    cases e : (k == a) with
    | true => rw [e] at h; simp at e; cases h; subst e; simp
    | false => rw [e] at h; exact List.mem_cons_of_mem _ (ih h)
/-- What lies there is a tree. -/
theorem lay_ft {w : World} {t mb : Nat} {tr : T} {lk : Int} (ht : At w t [pp tr.p, .map (some mb), .int .i64 lk]) (hL : Lay w none tr) (hn : tr.ad.Nodup) (htn : t ∉ tr.ad) (hmt : mb ≠ t) (hmn : mb ∉ tr.ad) (hM : OM w mb (adr tr.kv) tr.kv.length) (ok : tr.ok) (nd : tr.ids.Nodup) (rg : ∀ i ∈ tr.ids, 1 ≤ i ∧ i ≤ 9007199254740992) (le : tr.sz ≤ 1024) (l0 : 0 ≤ lk) :
    FT (fun k => k = t ∨ k ∈ tr.ad) w t mb tr lk := by
  have hk : ((recs none tr).map (·.1)).Nodup := by rw [recs_ad]; exact hn
  have hin : ∀ k, (recs none tr).lookup k ≠ none → k ∈ tr.ad := fun k h => by
    cases e : (recs none tr).lookup k with
    | none => exact absurd e h
    | some r => rw [← recs_ad tr none]; exact List.mem_map_of_mem (look_mem e)
  refine ⟨⟨fun k => (recs none tr).lookup k, tr.p, ⟨ht, fun k r e => ?_, fun k r e => ?_, ?_, fun k => ?_, ?_⟩, rfl, rep_recs (fun x hx => look_once hk hx), by simpa [adC] using hn⟩, hM, ok, nd, rg, le, l0⟩
  · exact (lay_recs hL _ (look_mem e)).1
  · exact (lay_recs hL _ (look_mem e)).2
  · apply Classical.byContradiction
    intro q
    exact htn (hin t q)
  · constructor
    · rintro (h | h)
      · exact Or.inl h
      · refine Or.inr (fun q => ?_)
        rw [← recs_ad tr none] at h
        obtain ⟨x, hx, rfl⟩ := List.mem_map.1 h
        rw [look_once hk hx] at q; cases q
    · rintro (h | h)
      · exact Or.inl h
      · exact Or.inr (hin k h)
  · rintro (h | h)
    · exact hmt h
    · exact hmn h
end Go.Proofs.Ytbmbldloeblbbaa

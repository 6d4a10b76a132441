/-
  The tree with its map; an id taken out.
-/
import Derived.Test.YtbmbldloeblbbaaFt
namespace Go.Proofs.Ytbmbldloeblbbaa
open Go.RowKit
theorem fu_set {A B : List (Int × Nat)} {id : Int} {k0 k : Nat} (h : id ∉ A.map (·.1)) : fu (adr (A ++ (id, k0) :: B)) id (some k) = adr (A ++ (id, k) :: B) := by
  funext j
  by_cases e : j = id
  · subst e; rw [fu_same, adr_mid h]
  · rw [fu_ne _ _ e, adr_off e, adr_off e]
theorem pre_left {B : Cx} : ∀ {Ls : Cx}, (∀ g ∈ Ls, g.d = false) → preC (Ls ++ B) = preC B
  | [], _ => rfl
  | f :: Ls, h => by
    show preC (Ls ++ B) ++ (if f.d then f.o.kv ++ [(f.i, f.k)] else []) = preC B
    rw [h f (by simp), pre_left (fun g hg => h g (by simp [hg]))]
    simp
theorem pos_app (B : Cx) : ∀ Ls : Cx, posC (Ls ++ B) = posC Ls ++ posC B
  | [] => rfl
  | f :: Ls => by
    show (if f.d then [] else (f.i, f.k) :: f.o.kv) ++ posC (Ls ++ B) = ((if f.d then [] else (f.i, f.k) :: f.o.kv) ++ posC Ls) ++ posC B
    rw [pos_app B Ls, List.append_assoc]
section
variable {D : Nat → Prop} {w : World} {t mb : Nat} {lk : Int}
/-- All but the shape, once the ids are known. -/
theorem FT.of {w' : World} {tr tr' : T} {lk' : Int} {A B : List (Int × Nat)} {i : Int} {k : Nat} (h : FT D w t mb tr lk) (e : tr.kv = A ++ (i, k) :: B) (e' : tr'.kv.map (·.1) = (A ++ B).map (·.1)) (hT : TS D w' t mb [] tr' lk') (hM : OM w' mb (adr tr'.kv) (tr.kv.length - 1)) (ho : tr'.ok) (hl : lk ≤ lk') : FT D w' t mb tr' lk' := by
  have hn := kv_nd e (by rw [T.kv_ids]; exact h.nd)
  have hlen : tr'.kv.length = tr.kv.length - 1 := by
    have := congrArg List.length e'
    rw [e]
    simp at this ⊢
    omega
  have h0 := h.l0
  refine ⟨hT, by rw [hlen]; exact hM, ho, by rw [← T.kv_ids, e']; exact hn.2.2, fun j hj => h.rg j ?_, ?_, by omega⟩
  · rw [← T.kv_ids, e'] at hj
    rw [← T.kv_ids, e]
    simp only [List.map_append, List.map_cons, List.mem_append, List.mem_cons] at hj ⊢
    rcases hj with hj | hj
    · exact Or.inl hj
    · exact Or.inr (Or.inr hj)
  · have h1 := tr.kv_len
    have h2 := tr'.kv_len
    have h3 := h.le
    rw [hlen] at h2
    omega
theorem take_f {C : Cx} {k : Nat} {i s : Int} {l r : T} (h : FT D w t mb (plug C (.n k i s l r)) lk) (hlk : lk ≤ 3000000000000000000) :
    Calls Try.prog 34 #[pt t 0, pt k 0] w fun e w' => e = .returned (.tuple #[]) ∧ ∃ tr' lk', Del (plug C (.n k i s l r)) i (l.sz + ix C) tr' ∧ FT D w' t mb tr' lk' ∧ lk ≤ lk' ∧ lk' ≤ lk + 3 + 9 * (plug C (.n k i s l r)).ht ∧ Mk (fun j => D j ∨ j = mb) w w' := by
  have hkv : (plug C (.n k i s l r)).kv = (preC C ++ l.kv) ++ (i, k) :: (r.kv ++ posC C) := by rw [plug_kv]; simp [T.kv]
  have hn := kv_nd hkv (by rw [T.kv_ids]; exact h.nd)
  obtain ⟨oc, ot⟩ := plug_okC C h.ok
  have hps := plug_sz C (.n k i s l r)
  have hle := h.le
  have hph := plug_ht C (.n k i s l r)
  have hhl := (plug C (.n k i s l r)).ht_le
  have hkl := (plug C (.n k i s l r)).kv_len
  have h0 := h.l0
  have hcn := csz_nn C
  have hi : (adr (plug C (.n k i s l r)).kv i).isSome = true := by rw [hkv, adr_mid hn.1]; rfl
  have hri := h.rg i (by rw [← T.kv_ids, hkv]; simp)
  have hwi : (Lit.int .i64 i).wf = true := WalkArith.wf_i64 ⟨by omega, by omega⟩
  have hT := h.ts.at0
  have hb : csz C + (T.n k i s l r).sz ≤ 8000 := by omega
  have hfd : fu (adr (plug C (.n k i s l r)).kv) i none = adr ((preC C ++ l.kv) ++ (r.kv ++ posC C)) := by rw [hkv]; exact fu_del hn.2.1
  generalize hH : (plug C (.n k i s l r)).ht = H at *
  cases l with
  | e =>
    refine (take_B hT h.om hwi hi ot oc hb ⟨h0, by omega⟩).mono fun e w' hq => ?_
    obtain ⟨he, lk', hk1, hk2, hT2, hM2, hK⟩ := hq
    rw [hfd] at hM2
    have e2 : (rebuild C r).kv = preC C ++ T.e.kv ++ (r.kv ++ posC C) := by rw [rebuild_kv]; simp [T.kv]
    have hp1 : 1 ≤ (T.n k i s .e r).ht := by unfold T.ht; omega
    exact ⟨he, rebuild C r, lk', ⟨C, k, s, .e, r, rfl, rfl, Or.inl ⟨rfl, rfl⟩⟩, h.of hkv (by rw [e2]) hT2 (by rw [e2]; exact hM2) (rebuild_ok C r oc ot.2.2) hk1, hk1, by omega, hK⟩
  | n lk0 li ls la lb =>
    cases r with
    | e =>
      refine (take_C hT h.om hwi hi ot oc hb ⟨h0, by omega⟩).mono fun e w' hq => ?_
      obtain ⟨he, lk', hk1, hk2, hT2, hM2, hK⟩ := hq
      rw [hfd] at hM2
      have e2 : (rebuild C (.n lk0 li ls la lb)).kv = preC C ++ (T.n lk0 li ls la lb).kv ++ (T.e.kv ++ posC C) := by rw [rebuild_kv]; simp [T.kv]
      have hp1 : 1 ≤ (T.n k i s (.n lk0 li ls la lb) .e).ht := by unfold T.ht; omega
      exact ⟨he, rebuild C (.n lk0 li ls la lb), lk', ⟨C, k, s, .n lk0 li ls la lb, .e, rfl, rfl, Or.inr (Or.inl ⟨rfl, rfl⟩)⟩, h.of hkv (by rw [e2]) hT2 (by rw [e2]; exact hM2) (rebuild_ok C _ oc ot.2.1) hk1, hk1, by omega, hK⟩
    | n rk ri rs ra rb =>
      have hrh : (T.n rk ri rs ra rb).ht + 1 ≤ (T.n k i s (.n lk0 li ls la lb) (.n rk ri rs ra rb)).ht := by
        show _ ≤ 1 + max (T.n lk0 li ls la lb).ht (T.n rk ri rs ra rb).ht
        omega
      refine (take_A hT h.om (by omega) hwi hi ot oc hb ⟨h0, by omega⟩ (fun j hj => ?_)).mono fun e w' hq => ?_
      · have := h.rg j (plug_mem C (by unfold T.ids; simp only [List.mem_append, List.mem_cons]; exact Or.inr (Or.inr hj)))
        exact WalkArith.wf_i64 ⟨by omega, by omega⟩
      · obtain ⟨he, Ls, kn, i2, s2, b, lk', hpl, okL, hLd, hok, hk1, hk2, hlt, hT2, hM2, hK⟩ := hq
        have hpre : preC Ls = [] := by have := pre_left (B := []) hLd; rw [List.append_nil] at this; exact this
        have er : (T.n rk ri rs ra rb).kv = (i2, kn) :: (b.kv ++ posC Ls) := by rw [← hpl, plug_kv, hpre]; simp [T.kv]
        have e2 : (rebuild (Ls ++ (⟨k, i2, s, true, .n lk0 li ls la lb⟩ : Fr) :: C) b).kv = (preC C ++ (T.n lk0 li ls la lb).kv) ++ (i2, k) :: (b.kv ++ (posC Ls ++ posC C)) := by
          rw [rebuild_kv, pre_left hLd, pos_app]
          show (preC C ++ ((T.n lk0 li ls la lb).kv ++ [(i2, k)])) ++ b.kv ++ (posC Ls ++ ([] ++ posC C)) = _
          simp
        rw [hfd, er] at hM2
        have hn2 := hn.2.2
        rw [er] at hn2
        have hi2 : i2 ∉ (preC C ++ (T.n lk0 li ls la lb).kv).map (·.1) := (kv_nd (l := (preC C ++ (T.n lk0 li ls la lb).kv) ++ (i2, kn) :: (b.kv ++ posC Ls ++ posC C)) rfl (by simpa using hn2)).1
        have hM3 : OM w' mb (adr (rebuild (Ls ++ (⟨k, i2, s, true, .n lk0 li ls la lb⟩ : Fr) :: C) b).kv) ((plug C (.n k i s (.n lk0 li ls la lb) (.n rk ri rs ra rb))).kv.length - 1) := by
          rw [List.cons_append, adr_mid hi2] at hM2
          rw [fu_set hi2] at hM2
          rw [e2]
          simpa using hM2
        refine ⟨he, _, lk', ⟨C, k, s, .n lk0 li ls la lb, .n rk ri rs ra rb, rfl, rfl, Or.inr (Or.inr ⟨by simp, Ls, kn, i2, s2, b, hpl, hLd, rfl⟩)⟩, h.of hkv (by rw [e2, er]; simp) hT2 hM3 (rebuild_ok _ b (okC_app okL ot.2.1 oc) hok.2.2) hk1, hk1, by omega, hK⟩
end
end Go.Proofs.Ytbmbldloeblbbaa

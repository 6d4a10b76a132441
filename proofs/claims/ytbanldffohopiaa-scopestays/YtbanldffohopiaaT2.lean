/-
  A field more: what stays.
-/
import Derived.Test.YtbanldffohopiaaT1
namespace Go.Proofs.Ytbanldffohopiaa
open Go.RowKit D
/-- A definition with a field more at the root's end. -/
def dadd (d : Df) (pi : Option Addr) (ci : Nat) (nm : ByteArray) : Df := ⟨d.nm, .mk d.rt.nm d.rt.mx pi ci (d.rt.items ++ [lIt nm]) d.rt.pk d.rt.ck d.rt.kids, d.pt, d.ct, d.tb, d.pp, d.cp, d.pg⟩
theorem fold_par {f : List S5 → Se → List S5} : ∀ (l : List Se) (b b' : List S5), (∀ k ∈ l, ∀ a a' : List S5, a.length = a'.length → ∃ t, f a k = a ++ t ∧ f a' k = a' ++ t) → b.length = b'.length → ∃ t, l.foldl f b = b ++ t ∧ l.foldl f b' = b' ++ t
  | [], b, b', _, _ => ⟨[], by simp, by simp⟩
  | k :: l, b, b', h, hl => by
    obtain ⟨t1, e1, e1'⟩ := h k (List.mem_cons_self ..) b b' hl
    obtain ⟨t2, e2, e2'⟩ := fold_par l (b ++ t1) (b' ++ t1) (fun k hk => h k (List.mem_cons_of_mem _ hk)) (by simp [hl])
    refine ⟨t1 ++ t2, ?_, ?_⟩
    · rw [List.foldl_cons, e1, e2, List.append_assoc]
    · rw [List.foldl_cons, e1', e2', List.append_assoc]
theorem flt_par : ∀ (s : Se) (acc acc' : List S5) (p dp : Int), acc.length = acc'.length → ∃ t, flt s acc p dp = acc ++ t ∧ flt s acc' p dp = acc' ++ t := by
  refine Se.ind2 ?_
  intro s ih acc acc' p dp hl
  rw [flt_eq, flt_eq, ← hl]
  by_cases hc : 64 ≤ acc.length ∨ 16 < dp
  · rw [if_pos hc, if_pos hc]; exact ⟨[], by simp, by simp⟩
  · rw [if_neg hc, if_neg hc]
    obtain ⟨t, e, e'⟩ := fold_par (f := fun a k => flt k a acc.length (dp + 1)) s.kids (acc ++ [⟨p, dp, s.nm, s.mx, s.pi, s.ci, s.items⟩]) (acc' ++ [⟨p, dp, s.nm, s.mx, s.pi, s.ci, s.items⟩]) (fun k hk a a' h => ih k hk a a' _ _ h) (by simp [hl])
    exact ⟨[⟨p, dp, s.nm, s.mx, s.pi, s.ci, s.items⟩] ++ t, by rw [e, List.append_assoc], by rw [e', List.append_assoc]⟩
def rt5 (s : Se) : S5 := ⟨-1, 1, s.nm, s.mx, s.pi, s.ci, s.items⟩
theorem fla_add (d : Df) (pi : Option Addr) (ci : Nat) (nm : ByteArray) : ∃ R, fla d = rt5 d.rt :: R ∧ fla (dadd d pi ci nm) = rt5 (dadd d pi ci nm).rt :: R := by
  have e : ∀ x : Df, fla x = x.rt.kids.foldl (fun a k => flt k a ([] : List S5).length (1 + 1)) [rt5 x.rt] := fun x => by
    unfold fla
    rw [flt_eq, if_neg (by simp)]; rfl
  rw [e, e]
  obtain ⟨t, e1, e2⟩ := fold_par (f := fun a k => flt k a ([] : List S5).length (1 + 1)) d.rt.kids [rt5 d.rt] [rt5 (dadd d pi ci nm).rt] (fun k _ a a' h => flt_par k a a' _ _ h) rfl
  exact ⟨t, e1, e2⟩
section
variable {L L' : List S5}
theorem anc_congr (h : ∀ i : Nat, prn L i = prn L' i) : ∀ s, anc L s = anc L' s := by
  intro s
  induction s using Nat.strongRecOn with
  | ind s ih =>
    conv => lhs; rw [anc]
    conv => rhs; rw [anc]
    simp only [← h s]
    by_cases hc : 0 ≤ prn L s ∧ (prn L s).toNat < s
    · rw [dif_pos hc, dif_pos hc, ih _ hc.2]
    · rw [dif_neg hc, dif_neg hc]
theorem kdA_congr (h : ∀ i : Nat, (L[i]?).map (fun x => (x.pr, x.nm)) = (L'[i]?).map (fun x => (x.pr, x.nm))) (p : Nat) : ∀ n, kdA L p n = kdA L' p n
  | 0 => rfl
  | n + 1 => by
    have hn := h n
    rw [kdA, kdA, kdA_congr h p n]
    cases h1 : L[n]? with
    | none =>
      cases h2 : L'[n]? with
      | none => rfl
      | some y => rw [h1, h2] at hn; cases hn
    | some x =>
      cases h2 : L'[n]? with
      | none => rw [h1, h2] at hn; cases hn
      | some y =>
        rw [h1, h2] at hn
        simp only [Option.map_some, Option.some.injEq, Prod.mk.injEq] at hn
        simp only [hn.1, hn.2]
end
theorem itA_pre {l : List It} {x : It} : ∀ i, i ≤ l.length → itA (l ++ [x]) i = itA l i
  | 0, _ => rfl
  | i + 1, h => by
    obtain ⟨y, hy⟩ := get_of_lt (show i < l.length by omega)
    rw [itA_s hy, itA_s (show (l ++ [x])[i]? = some y by rw [List.getElem?_append_left (by omega)]; exact hy), itA_pre i (by omega)]
theorem itA_all {l : List It} {x : It} : itA (l ++ [x]) (l ++ [x]).length = (x.nm, x.k) :: itA l l.length := by
  rw [show (l ++ [x]).length = l.length + 1 by simp, itA_s (x := x) (by simp), itA_pre _ (Nat.le_refl _)]
/-- Two lists of sections that differ in the root's items alone: one more at the end. -/
structure Ad (L L' : List S5) (nm : ByteArray) : Prop where
  pos : 0 < L.length
  len : L'.length = L.length
  get : ∀ i, 0 < i → L'[i]? = L[i]?
  z : ∃ x x' : S5, L[0]? = some x ∧ L'[0]? = some x' ∧ x'.pr = x.pr ∧ x'.dp = x.dp ∧ x'.nm = x.nm ∧ x'.mx = x.mx ∧ x'.items = x.items ++ [lIt nm]
section
variable {L L' : List S5} {nm : ByteArray}
theorem Ad.kv (h : Ad L L' nm) (i : Nat) : (L[i]?).map (fun x => (x.pr, x.nm)) = (L'[i]?).map (fun x => (x.pr, x.nm)) := by
  rcases Nat.eq_zero_or_pos i with rfl | hi
  · obtain ⟨x, x', h1, h2, h3, _, h5, _⟩ := h.z
    rw [h1, h2]; simp [h3, h5]
  · rw [h.get i hi]
theorem Ad.prnE (h : Ad L L' nm) (i : Nat) : prn L i = prn L' i := by
  have := congrArg (fun o => (o.map Prod.fst).getD (-1)) (h.kv i)
  simpa [prn, Option.map_map, Function.comp_def] using this
theorem Ad.nmE (h : Ad L L' nm) (i : Nat) : nmO L i = nmO L' i := by
  have := congrArg (fun o => (o.map Prod.snd).getD ⟨#[]⟩) (h.kv i)
  simpa [nmO, Option.map_map, Function.comp_def] using this
theorem Ad.ancE (h : Ad L L' nm) (s : Nat) : anc L s = anc L' s := anc_congr h.prnE s
theorem Ad.itOE (h : Ad L L' nm) {i : Nat} (hi : 0 < i) : itO L' i = itO L i := by unfold itO; rw [h.get i hi]
theorem Ad.it0 (h : Ad L L' nm) : itO L' 0 = itO L 0 ++ [lIt nm] := by
  obtain ⟨x, x', h1, h2, _, _, _, _, h7⟩ := h.z
  rw [itO_of h1, itO_of h2, h7]
theorem Ad.stKE (h : Ad L L' nm) (n : Nat) : stK L' n = stK L n := by
  funext p
  exact (kdA_congr h.kv p n).symm
theorem Ad.stIE (h : Ad L L' nm) {n i j : Nat} (hj : 0 < j) : stI L' n i j = stI L n i j := by
  unfold stI
  by_cases h1 : j < n
  · rw [if_pos h1, if_pos h1, h.itOE hj]
  · rw [if_neg h1, if_neg h1]
    by_cases h2 : j = n
    · subst h2; rw [if_pos rfl, if_pos rfl, h.itOE hj]
    · rw [if_neg h2, if_neg h2]
theorem Ad.stI0 (h : Ad L L' nm) {n i : Nat} (hn : 0 < n) : stI L' n i 0 = (nm, 1) :: stI L n i 0 := by
  unfold stI
  rw [if_pos hn, if_pos hn, h.it0, itA_all]; rfl
/-- What another name means is the same. -/
theorem Ad.lkE (h : Ad L L' nm) {n i : Nat} (hn : 0 < n) {q : ByteArray} (hq : nm ≠ q) (a : Nat) : lk (stI L' n i a) q = lk (stI L n i a) q := by
  rcases Nat.eq_zero_or_pos a with rfl | ha
  · rw [h.stI0 hn, lk_cons, if_neg hq]
  · rw [h.stIE ha]
theorem Ad.tknE (h : Ad L L' nm) {n i s : Nat} (hn : 0 < n) {q : ByteArray} (hq : nm ≠ q) : tkn L' (stI L' n i) s q = tkn L (stI L n i) s q := by
  unfold tkn
  rw [← h.ancE s]
  exact any_congr (fun a _ => by rw [h.nmE a, h.lkE hn hq a])
theorem Ad.lkm (h : Ad L L' nm) {N : Nat} (hN : 0 < N) (a : Nat) (q : ByteArray) (hc : cbr ((lk (stI L N 0 a) q).getD 0) = true) : cbr ((lk (stI L' N 0 a) q).getD 0) = true := by
  by_cases hq : nm = q
  · rcases Nat.eq_zero_or_pos a with rfl | ha
    · rw [h.stI0 hN, lk_cons, if_pos hq]; rfl
    · rw [h.stIE ha]; exact hc
  · rw [h.lkE hN hq]; exact hc
theorem Ad.knoE (h : Ad L L' nm) {T : List (ByteArray × Int)} {N s : Nat} (hN : 0 < N) (x : Ex) (hk : kno L ⟨T, stI L N 0, stK L N⟩ s x = true) : kno L' ⟨T, stI L' N 0, stK L' N⟩ s x = true := by
  unfold kno at hk ⊢
  rw [h.stKE N]
  split
  · rename_i h2
    rw [if_pos h2] at hk
    unfold fnd at hk ⊢
    rw [← h.ancE s]
    obtain ⟨a, ha, hc⟩ := List.any_eq_true.1 hk
    exact List.any_eq_true.2 ⟨a, ha, h.lkm hN a x.nm hc⟩
  · rename_i h2
    rw [if_neg h2] at hk
    split
    · rename_i h3
      rw [if_pos h3] at hk
      simp only [Bool.and_eq_true, Bool.or_eq_true] at hk ⊢
      exact ⟨hk.1, hk.2.imp_right (h.lkm hN _ x.nm)⟩
    · rename_i h3
      rw [if_neg h3] at hk
      exact hk
end
theorem lck_mono {f g : Ex → Bool} (h : ∀ x, f x = true → g x = true) : ∀ x, lck f x = false → lck g x = false := by
  refine Ex.ind2 ?_
  intro x ih hf
  rw [lck_eq] at hf ⊢
  simp only [Bool.or_eq_false_iff, Bool.not_eq_false'] at hf ⊢
  refine ⟨h x hf.1, ?_⟩
  rw [List.any_eq_false] at hf ⊢
  exact fun a ha => by simpa using ih a ha (by simpa using hf.2 a ha)
/-- Nobody's name. -/
def frs (L : List S5) (nm : ByteArray) : Bool := !L.any (fun x => decide (x.nm = nm) || x.items.any (fun y => decide (y.nm = nm)))
theorem frs_of {L : List S5} {nm : ByteArray} (h : frs L nm = true) {n : Nat} {x : S5} (hx : L[n]? = some x) : nm ≠ x.nm ∧ ∀ (i : Nat) (y : It), x.items[i]? = some y → nm ≠ y.nm := by
  unfold frs at h
  simp only [Bool.not_eq_true', List.any_eq_false, Bool.or_eq_true, not_or, decide_eq_true_eq] at h
  have h1 := h x (List.mem_of_getElem? hx)
  refine ⟨fun e => h1.1 e.symm, fun i y hy e => h1.2 (any_hit hy (decide_eq_true e.symm))⟩
end Go.Proofs.Ytbanldffohopiaa

/-
  Sections and their items, as lists: numbers, own names, kids; what names mean around a section. The way up from a section. A reader: what it knows, and where that lies. Slices of one's own that grow by one.
-/
import Derived.Test.YthghblgbjgghcaaG1
namespace Go.Proofs.Ythghblgbjgghcaa
open Go.RowKit D
/-- A section's items. -/
def itn (l : List S5) (s : Nat) : List It := ((l[s]?).map S5.items).getD []
/-- The number of a section's first item. -/
def fsn (l : List S5) (s : Nat) : Nat := ((l.take s).map (fun x => x.items.length)).sum
/-- How many items there are. -/
def nI (l : List S5) : Nat := fsn l l.length
def par (l : List S5) (s : Nat) : Int := ((l[s]?).map S5.pr).getD (-1)
/-- The first field or line of a name. -/
def ownI (its : List It) (nm : ByteArray) : Option Nat := its.findIdx? (fun y => rdb y.k && decide (y.nm = nm))
def ownN (l : List S5) (s : Nat) (nm : ByteArray) : Option Nat := (ownI (itn l s) nm).map (fsn l s + ·)
/-- The first kid of a name. -/
def kidN (l : List S5) (s : Int) (nm : ByteArray) : Option Nat := if hasS l s then l.findIdx? (fun x => decide (x.pr = s) && decide (x.nm = nm)) else none
def kidL (l : List S5) (s : Nat) : List Nat := (List.range l.length).filter (fun t => decide (par l t = (s : Int)))
theorem fsn_s {l : List S5} {s : Nat} {x : S5} (h : l[s]? = some x) : fsn l (s + 1) = fsn l s + x.items.length := by
  unfold fsn; rw [List.take_add_one, h]; simp
theorem fsn_mono {l : List S5} {s t : Nat} (h : s ≤ t) : fsn l s ≤ fsn l t := by
  induction t with
  | zero => have : s = 0 := by omega
            subst this; exact Nat.le_refl _
  | succ t ih =>
    rcases Nat.lt_or_ge s (t + 1) with h1 | h1
    · have h2 := ih (by omega)
      cases e : l[t]? with
      | none =>
        have : l.length ≤ t := by simpa using e
        unfold fsn; rw [List.take_of_length_le (show l.length ≤ t + 1 by omega)]
        unfold fsn at h2; rw [List.take_of_length_le this] at h2; exact h2
      | some x => rw [fsn_s e]; omega
    · have : s = t + 1 := by omega
      subst this; exact Nat.le_refl _
theorem fsn_lt {l : List S5} {s : Nat} {x : S5} (h : l[s]? = some x) {i : Nat} (hi : i < x.items.length) : fsn l s + i < nI l := by
  have h1 := fsn_s h
  have h2 : fsn l (s + 1) ≤ nI l := fsn_mono (by have := lt_of_get h; omega)
  omega
theorem fsn_le (l : List S5) (s : Nat) : fsn l s ≤ nI l := by
  rcases Nat.lt_or_ge s l.length with h | h
  · exact fsn_mono (by omega)
  · unfold nI fsn; rw [List.take_of_length_le h, List.take_length]; exact Nat.le_refl _
theorem itn_eq {l : List S5} {s : Nat} {x : S5} (h : l[s]? = some x) : itn l s = x.items := by unfold itn; rw [h]; rfl
theorem par_eq {l : List S5} {s : Nat} {x : S5} (h : l[s]? = some x) : par l s = x.pr := by unfold par; rw [h]; rfl
theorem ownI_lt {its : List It} {nm : ByteArray} {k : Nat} (h : ownI its nm = some k) : k < its.length := by
  unfold ownI at h; rw [List.findIdx?_eq_some_iff_getElem] at h; obtain ⟨h1, _⟩ := h; exact h1
theorem itn_len {l : List S5} {s i : Nat} (h : i < (itn l s).length) : fsn l s + i < nI l := by
  cases e : l[s]? with
  | none => unfold itn at h; rw [e] at h; simp at h
  | some x => rw [itn_eq e] at h; exact fsn_lt e h
theorem ownN_lt {l : List S5} {s : Nat} {nm : ByteArray} {k : Nat} (h : ownN l s nm = some k) : k < nI l := by
  unfold ownN at h
  cases e : ownI (itn l s) nm with
  | none => rw [e] at h; cases h
  | some i => rw [e] at h; cases h; exact itn_len (ownI_lt e)
theorem kidN_lt {l : List S5} {s : Int} {nm : ByteArray} {k : Nat} (h : kidN l s nm = some k) : k < l.length := by
  unfold kidN at h
  split at h
  · rw [List.findIdx?_eq_some_iff_getElem] at h; obtain ⟨h1, _⟩ := h; exact h1
  · cases h
/-! What names mean while sections are entered and left. -/
abbrev Fn := ByteArray → Int
def upF (F : Fn) (a : ByteArray) (v : Int) : Fn := fun c => if a = c then v else F c
/-- Items are entered from behind: what names mean then, and what is hidden. -/
def entL : Nat → List It → Fn × List (ByteArray × Int) → Fn × List (ByteArray × Int)
  | _, [], st => st
  | b, y :: ys, st =>
    let q := entL (b + 1) ys st
    if rdb y.k then (upF q.1 y.nm (b : Int), q.2 ++ [(y.nm, q.1 y.nm)]) else q
/-- Sections, told from within, are entered, the outermost first. -/
def entW (l : List S5) : List Nat → Fn × List (ByteArray × Int) → Fn × List (ByteArray × Int)
  | [], st => st
  | s :: W, st => entL (fsn l s) (itn l s) (entW l W st)
/-- Left again. -/
def lev : List (ByteArray × Int) → Fn → Fn
  | [], F => F
  | p :: ps, F => upF (lev ps F) p.1 p.2
theorem lev_app : ∀ (a b : List (ByteArray × Int)) (F : Fn), lev (a ++ b) F = lev a (lev b F)
  | [], _, _ => rfl
  | p :: a, b, F => by simp [lev, lev_app a b F]
theorem upF_back (F : Fn) (a : ByteArray) (v : Int) : upF (upF F a v) a (F a) = F := by
  funext c; unfold upF; by_cases h : a = c
  · simp [h]
  · simp [h]
theorem entL_hid : ∀ (ys : List It) (b : Nat) (st : Fn × List (ByteArray × Int)), ∃ P, (entL b ys st).2 = st.2 ++ P ∧ P.length ≤ ys.length ∧ lev P (entL b ys st).1 = st.1
  | [], _, st => ⟨[], by simp [entL], Nat.le_refl _, rfl⟩
  | y :: ys, b, st => by
    obtain ⟨P, h1, h2, h3⟩ := entL_hid ys (b + 1) st
    unfold entL
    by_cases h : rdb y.k = true
    · refine ⟨P ++ [(y.nm, (entL (b + 1) ys st).1 y.nm)], by simp [h, h1], by simp; omega, ?_⟩
      simp only [h, if_true]
      rw [lev_app]
      simp only [lev]
      rw [upF_back]; exact h3
    · exact ⟨P, by simp [h, h1], by simp; omega, by simp only [h]; exact h3⟩
theorem entL_val : ∀ (ys : List It) (b : Nat) (st : Fn × List (ByteArray × Int)) (nm : ByteArray), (entL b ys st).1 nm = match ownI ys nm with | some i => ((b + i : Nat) : Int) | none => st.1 nm
  | [], _, _, _ => rfl
  | y :: ys, b, st, nm => by
    have ih := entL_val ys (b + 1) st nm
    unfold entL ownI
    rw [List.findIdx?_cons]
    by_cases h : rdb y.k = true
    · by_cases h2 : y.nm = nm
      · simp [h, h2, upF]
      · simp only [h, h2, if_true, upF, if_false, Bool.true_and, decide_false]
        rw [ih]
        unfold ownI
        cases List.findIdx? (fun y => rdb y.k && decide (y.nm = nm)) ys with
        | none => rfl
        | some i => simp only [Option.map_some]; congr 1; omega
    · simp only [h, Bool.false_and]
      show (entL (b + 1) ys st).1 nm = _
      rw [ih]
      unfold ownI
      cases List.findIdx? (fun y => rdb y.k && decide (y.nm = nm)) ys with
      | none => rfl
      | some i => simp only [Option.map_some]; congr 1; omega
theorem entS_val (l : List S5) (s : Nat) (st : Fn × List (ByteArray × Int)) (nm : ByteArray) : (entL (fsn l s) (itn l s) st).1 nm = match ownN l s nm with | some k => (k : Int) | none => st.1 nm := by
  rw [entL_val]; unfold ownN
  cases ownI (itn l s) nm <;> rfl
theorem entW_val (l : List S5) : ∀ (W : List Nat) (st : Fn × List (ByteArray × Int)) (nm : ByteArray), (entW l W st).1 nm = match W.findSome? (fun s => ownN l s nm) with | some k => (k : Int) | none => st.1 nm
  | [], _, _ => rfl
  | s :: W, st, nm => by
    unfold entW
    rw [entS_val, List.findSome?_cons]
    cases h : ownN l s nm with
    | none => exact entW_val l W st nm
    | some k => rfl
/-- How many items sections have. -/
def sumI (l : List S5) (W : List Nat) : Nat := (W.map (fun s => (itn l s).length)).sum
theorem entW_hid (l : List S5) : ∀ (W : List Nat) (st : Fn × List (ByteArray × Int)), ∃ P, (entW l W st).2 = st.2 ++ P ∧ P.length ≤ sumI l W ∧ lev P (entW l W st).1 = st.1
  | [], st => ⟨[], by simp [entW], Nat.le_refl _, rfl⟩
  | s :: W, st => by
    obtain ⟨P, h1, h2, h3⟩ := entW_hid l W st
    obtain ⟨R, h4, h5, h6⟩ := entL_hid (itn l s) (fsn l s) (entW l W st)
    refine ⟨P ++ R, by unfold entW; rw [h4, h1, List.append_assoc], ?_, ?_⟩
    · unfold sumI at h2 ⊢; simp only [List.map_cons, List.sum_cons, List.length_append]; omega
    · unfold entW; rw [lev_app, h6, h3]
/-! What a name means in a section: along the way up. -/
def mean (l : List S5) : Nat → Int → ByteArray → Option Nat
  | 0, _, _ => none
  | f + 1, s, nm => if hasS l s then (match ownN l s.toNat nm with | some k => some k | none => mean l f (par l s.toNat) nm) else none
/-- The way up from a section: each once, and where a circle begins. -/
structure Way (l : List S5) (s : Int) (W : List Nat) (c : Nat) : Prop where
  nd : W.Nodup
  rg : ∀ t ∈ W, t < l.length
  hd : hasS l s = true → W[0]? = some s.toNat
  nx : ∀ i t u : Nat, W[i]? = some t → W[i + 1]? = some u → par l t = (u : Int)
  en : (c = W.length ∧ ∀ t, W.getLast? = some t → hasS l (par l t) = false) ∨ ∃ t u : Nat, W.getLast? = some t ∧ par l t = (u : Int) ∧ W[c]? = some u
theorem nodup_le : ∀ (n : Nat) (L : List Nat), L.Nodup → (∀ x ∈ L, x < n) → L.length ≤ n
  | 0, L, _, h => by
    cases L with
    | nil => exact Nat.le_refl _
    | cons x L => exact absurd (h x (List.mem_cons_self ..)) (Nat.not_lt_zero _)
  | n + 1, L, hd, h => by
    have h1 := nodup_le n (L.filter (fun x => decide (x ≠ n))) (hd.filter _) (fun x hx => by
      have := List.mem_filter.1 hx
      have h2 := h x this.1
      simp at this; omega)
    have h2 : ∀ M : List Nat, M.Nodup → M.length ≤ (M.filter (fun x => decide (x ≠ n))).length + 1 := by
      intro M
      induction M with
      | nil => intro _; simp
      | cons x M ih =>
        intro hM
        have hM2 := List.nodup_cons.1 hM
        by_cases e : x = n
        · subst e
          have : M.filter (fun y => decide (y ≠ x)) = M := List.filter_eq_self.2 (fun y hy => by simp; intro e; subst e; exact hM2.1 hy)
          have h3 : decide (x ≠ x) = false := by simp
          rw [List.filter_cons, h3, this]; simp
        · simp [e]; have := ih hM2.2; simpa using this
    have := h2 L hd
    omega
theorem hasS_nat {l : List S5} {s : Nat} : hasS l (s : Int) = decide (s < l.length) := by unfold hasS; by_cases h : s < l.length <;> simp [h] <;> omega
theorem hasS_get {l : List S5} {s : Int} (h : hasS l s = true) : ∃ k x, s = ((k : Nat) : Int) ∧ l[k]? = some x := by
  unfold hasS at h; simp at h
  exact ⟨s.toNat, l[s.toNat]'(by omega), by omega, List.getElem?_eq_getElem (by omega)⟩
theorem mean_up {l : List S5} {nm : ByteArray} {k : Nat} : ∀ (f : Nat) (s : Int), mean l f s nm = some k → mean l (f + 1) s nm = some k
  | 0, _, h => by cases h
  | f + 1, s, h => by
    unfold mean at h ⊢
    split at h
    · rename_i hs
      rw [if_pos hs]
      cases e : ownN l s.toNat nm with
      | some j => rw [e] at h; exact h
      | none => rw [e] at h; exact mean_up f _ h
    · cases h
theorem mean_ups {l : List S5} {nm : ByteArray} {k f : Nat} {s : Int} (h : mean l f s nm = some k) : ∀ d, mean l (f + d) s nm = some k
  | 0 => h
  | d + 1 => mean_up (f + d) s (mean_ups h d)
/-- None of a set of sections that holds its parents: none ever. -/
theorem mean_none {l : List S5} {nm : ByteArray} {S : Nat → Prop} (h : ∀ t, S t → ownN l t nm = none ∧ (hasS l (par l t) = true → S (par l t).toNat)) : ∀ (f : Nat) (s : Int), (hasS l s = true → S s.toNat) → mean l f s nm = none
  | 0, _, _ => rfl
  | f + 1, s, hs => by
    unfold mean
    split
    · rename_i h1
      have h2 := h _ (hs h1)
      rw [h2.1]
      exact mean_none h f _ h2.2
    · rfl
theorem mean_some {l : List S5} {nm : ByteArray} {k : Nat} : ∀ (W : List Nat) (t : Nat), (∀ x ∈ (t :: W), x < l.length) → (∀ i a b : Nat, (t :: W)[i]? = some a → (t :: W)[i + 1]? = some b → par l a = (b : Int)) → (t :: W).findSome? (fun s => ownN l s nm) = some k → mean l (W.length + 1) (t : Int) nm = some k
  | [], t, hr, _, h => by
    unfold mean
    rw [hasS_nat, decide_eq_true (hr t (List.mem_cons_self ..)), if_pos rfl, Int.toNat_natCast]
    simp only [List.findSome?_cons] at h
    cases e : ownN l t nm with
    | some j => rw [e] at h; exact h
    | none => rw [e] at h; cases h
  | u :: W, t, hr, hn, h => by
    rw [List.findSome?_cons] at h
    unfold mean
    rw [hasS_nat, decide_eq_true (hr t (List.mem_cons_self ..)), if_pos rfl, Int.toNat_natCast]
    cases e : ownN l t nm with
    | some j => rw [e] at h; exact h
    | none =>
      rw [e] at h
      show mean l (W.length + 1) (par l t) nm = some k
      rw [hn 0 t u rfl rfl]
      exact mean_some W u (fun x hx => hr x (List.mem_cons_of_mem _ hx)) (fun i a b h1 h2 => hn (i + 1) a b (by simpa using h1) (by simpa using h2)) h
theorem Way.len {l : List S5} {s : Int} {W : List Nat} {c : Nat} (h : Way l s W c) : W.length ≤ l.length := nodup_le _ W h.nd h.rg
/-- What is around is on the way, too. -/
theorem Way.shut {l : List S5} {s : Int} {W : List Nat} {c : Nat} (h : Way l s W c) {t : Nat} (ht : t ∈ W) (hp : hasS l (par l t) = true) : (par l t).toNat ∈ W := by
  obtain ⟨i, hi, e⟩ := List.mem_iff_getElem.1 ht
  have e' : W[i]? = some t := by rw [List.getElem?_eq_getElem hi, e]
  rcases Nat.lt_or_ge (i + 1) W.length with h1 | h1
  · have := h.nx i t _ e' (List.getElem?_eq_getElem h1)
    rw [this]; simp
  · have hl : W.getLast? = some t := by rw [List.getLast?_eq_getElem?, show W.length - 1 = i by omega]; exact e'
    rcases h.en with ⟨_, h2⟩ | ⟨t', u, h2, h3, h4⟩
    · rw [h2 t hl] at hp; cases hp
    · rw [hl] at h2; cases h2; rw [h3]; simp; exact List.mem_of_getElem? h4
theorem Way.mns {l : List S5} {s : Int} {W : List Nat} {c : Nat} (h : Way l s W c) (hs : hasS l s = true) (nm : ByteArray) (f : Nat) (hf : l.length ≤ f) : mean l f s nm = W.findSome? (fun t => ownN l t nm) := by
  have h0 := h.hd hs
  obtain ⟨k, x, rfl, _⟩ := hasS_get hs
  rw [Int.toNat_natCast] at h0
  cases hW : W with
  | nil => rw [hW] at h0; cases h0
  | cons t R =>
    rw [hW] at h0; simp at h0; subst h0
    cases e : (t :: R).findSome? (fun t => ownN l t nm) with
    | some j =>
      have h1 := mean_some R t (fun x hx => h.rg x (hW ▸ hx)) (fun i a b h1 h2 => h.nx i a b (hW ▸ h1) (hW ▸ h2)) e
      have h2 := h.len
      rw [hW] at h2; simp at h2
      have := mean_ups h1 (f - (R.length + 1))
      rw [show R.length + 1 + (f - (R.length + 1)) = f by omega] at this
      exact this
    | none =>
      refine mean_none (S := fun t => t ∈ W) (fun y hy => ⟨?_, fun hp => h.shut hy hp⟩) f _ (fun _ => by rw [hW, Int.toNat_natCast]; exact List.mem_cons_self ..)
      rw [List.findSome?_eq_none_iff] at e
      exact e y (hW ▸ hy)
/-- What names mean in a section, and around it. -/
def FM (l : List S5) (s : Int) : Fn := fun nm => match mean l (l.length + 1) s nm with | some k => (k : Int) | none => -1
def F0 : Fn := fun _ => -1
theorem FM_out {l : List S5} {s : Int} (h : hasS l s = false) : FM l s = F0 := by funext nm; unfold FM mean; rw [h]; rfl
end Go.Proofs.Ythghblgbjgghcaa
namespace Go.Proofs.Ythghblgbjgghcaa
open Go.RowKit D
def wyA (l : List S5) : Nat → List Nat → Int → List Nat × Nat
  | 0, acc, _ => (acc, acc.length)
  | f + 1, acc, s => if hasS l s then (if s.toNat ∈ acc then (acc, acc.idxOf s.toNat) else wyA l f (acc ++ [s.toNat]) (par l s.toNat)) else (acc, acc.length)
def wy (l : List S5) (s : Int) : List Nat × Nat := wyA l (l.length + 1) [] s
theorem get_idx : ∀ (L : List Nat) (k : Nat), k ∈ L → L[L.idxOf k]? = some k
  | [], _, h => by simp at h
  | x :: L, k, h => by
    rw [List.idxOf_cons]
    by_cases e : x = k
    · simp [e]
    · have h2 : k ∈ L := by
        rcases List.mem_cons.1 h with q | q
        · exact absurd q.symm e
        · exact q
      have e2 : (x == k) = false := by simp [e]
      rw [e2, cond_false, List.getElem?_cons_succ]; exact get_idx L k h2
/-- A way under way. -/
structure Pw (l : List S5) (s0 : Int) (acc : List Nat) (s : Int) : Prop where
  nd : acc.Nodup
  rg : ∀ t ∈ acc, t < l.length
  h0 : acc = [] → s = s0
  hd : ∀ t : Nat, acc[0]? = some t → s0 = (t : Int)
  nx : ∀ i t u : Nat, acc[i]? = some t → acc[i + 1]? = some u → par l t = (u : Int)
  la : ∀ t : Nat, acc.getLast? = some t → par l t = s
theorem Pw.nil (l : List S5) (s : Int) : Pw l s [] s := ⟨List.nodup_nil, fun t h => by simp at h, fun _ => rfl, fun t h => by simp at h, fun i t u h => by simp at h, fun t h => by simp at h⟩
theorem Pw.len {l : List S5} {s0 s : Int} {acc : List Nat} (h : Pw l s0 acc s) : acc.length ≤ l.length := nodup_le _ acc h.nd h.rg
theorem Pw.more {l : List S5} {s0 s : Int} {acc : List Nat} (h : Pw l s0 acc s) (hs : hasS l s = true) (hn : s.toNat ∉ acc) : Pw l s0 (acc ++ [s.toNat]) (par l s.toNat) := by
  obtain ⟨k, x, rfl, hx⟩ := hasS_get hs
  rw [Int.toNat_natCast] at hn ⊢
  refine ⟨?_, ?_, fun e => by simp at e, ?_, ?_, ?_⟩
  · rw [List.nodup_append]
    exact ⟨h.nd, by simp, fun a ha b hb => by simp at hb; subst hb; intro e; subst e; exact hn ha⟩
  · intro t ht
    rcases List.mem_append.1 ht with q | q
    · exact h.rg t q
    · simp at q; subst q; exact lt_of_get hx
  · intro t ht
    cases acc with
    | nil => simp at ht; subst ht; exact (h.h0 rfl).symm
    | cons a r => exact h.hd t (by simpa using ht)
  · intro i t u h1 h2
    rcases Nat.lt_or_ge (i + 1) acc.length with q | q
    · rw [List.getElem?_append_left (by omega)] at h1; rw [List.getElem?_append_left q] at h2
      exact h.nx i t u h1 h2
    · rw [List.getElem?_append_right q] at h2
      have h3 : i + 1 = acc.length := by
        have := lt_of_get h2
        simp at this; omega
      rw [h3, Nat.sub_self] at h2
      simp at h2; subst h2
      rw [List.getElem?_append_left (by omega)] at h1
      refine h.la t ?_
      rw [List.getLast?_eq_getElem?, show acc.length - 1 = i by omega]; exact h1
  · intro t ht
    simp at ht; subst ht; rfl
theorem wyA_way {l : List S5} {s0 : Int} : ∀ (f : Nat) (acc : List Nat) (s : Int), Pw l s0 acc s → l.length + 1 ≤ f + acc.length → Way l s0 (wyA l f acc s).1 (wyA l f acc s).2
  | 0, acc, s, h, hf => by have := h.len; omega
  | f + 1, acc, s, h, hf => by
    unfold wyA
    by_cases hs : hasS l s = true
    · rw [if_pos hs]
      by_cases hm : s.toNat ∈ acc
      · rw [if_pos hm]
        have hne : acc ≠ [] := fun e => by subst e; simp at hm
        refine ⟨h.nd, h.rg, fun h0 => ?_, h.nx, Or.inr ?_⟩
        · cases acc with
          | nil => exact absurd rfl hne
          | cons a r => have := h.hd a rfl; subst this; simp
        · obtain ⟨k, x, rfl, hx⟩ := hasS_get hs
          rw [Int.toNat_natCast] at hm ⊢
          refine ⟨acc.getLast hne, k, List.getLast?_eq_some_getLast hne, h.la _ (List.getLast?_eq_some_getLast hne), ?_⟩
          exact get_idx acc k hm
      · rw [if_neg hm]
        exact wyA_way f _ _ (h.more hs hm) (by simp; omega)
    · rw [if_neg hs]
      have hs' : hasS l s = false := by cases e : hasS l s with | true => exact absurd e hs | false => rfl
      refine ⟨h.nd, h.rg, fun h0 => ?_, h.nx, Or.inl ⟨rfl, fun t ht => by rw [h.la t ht]; exact hs'⟩⟩
      cases acc with
      | nil => have := h.h0 rfl; subst this; exact absurd h0 hs
      | cons a r => have := h.hd a rfl; subst this; simp
theorem way_of (l : List S5) (s : Int) : Way l s (wy l s).1 (wy l s).2 := wyA_way _ _ _ (Pw.nil l s) (by simp)
theorem mean_st (l : List S5) (s : Int) (nm : ByteArray) {f : Nat} (hf : l.length ≤ f) : mean l f s nm = mean l (l.length + 1) s nm := by
  cases hs : hasS l s with
  | true => rw [(way_of l s).mns hs nm f hf, (way_of l s).mns hs nm (l.length + 1) (by omega)]
  | false =>
    have : ∀ f, mean l f s nm = none := fun f => by cases f with | zero => rfl | succ f => unfold mean; rw [hs]; rfl
    rw [this, this]
theorem FM_in {l : List S5} {s : Nat} (h : s < l.length) (hid : List (ByteArray × Int)) : (entL (fsn l s) (itn l s) (FM l (par l s), hid)).1 = FM l (s : Int) := by
  funext nm
  rw [entS_val]
  unfold FM
  have hm : mean l (l.length + 1) (s : Int) nm = (ownN l s nm).or (mean l l.length (par l s) nm) := by
    rw [mean, hasS_nat, decide_eq_true h, if_pos rfl, Int.toNat_natCast]
    cases ownN l s nm <;> rfl
  rw [hm, mean_st l (par l s) nm (Nat.le_refl _)]
  cases ownN l s nm <;> rfl
/-- All of a way entered. -/
theorem FM_way {l : List S5} {s : Int} (hs : hasS l s = true) (hid : List (ByteArray × Int)) : (entW l (wy l s).1 (F0, hid)).1 = FM l s := by
  funext nm
  rw [entW_val]
  unfold FM
  rw [(way_of l s).mns hs nm _ (by omega)]
  rfl
theorem Way.drop {l : List S5} {s : Int} {W : List Nat} {c : Nat} (h : Way l s W c) {t u : Nat} (hl : W.getLast? = some t) (hp : par l t = (u : Int)) (hc : W[c]? = some u) : Way l (u : Int) (W.drop c) 0 := by
  have hcl := lt_of_get hc
  refine ⟨h.nd.sublist (List.drop_sublist _ _), fun t ht => h.rg t (List.mem_of_mem_drop ht), fun _ => by rw [List.getElem?_drop, Nat.add_zero, hc, Int.toNat_natCast], fun i a b h1 h2 => ?_, Or.inr ⟨t, u, ?_, hp, by rw [List.getElem?_drop]; exact hc⟩⟩
  · rw [List.getElem?_drop] at h1 h2
    exact h.nx (c + i) a b h1 (by rw [← h2]; congr 1)
  · rw [List.getLast?_eq_getElem?] at hl ⊢
    rw [List.getElem?_drop, List.length_drop, ← hl]; congr 1; omega
/-- What stands around the last one of a way. -/
theorem FM_circ {l : List S5} {s : Int} (hs : hasS l s = true) (hid : List (ByteArray × Int)) : ∃ t, (wy l s).1.getLast? = some t ∧ t < l.length ∧ (entW l ((wy l s).1.drop (wy l s).2) (F0, hid)).1 = FM l (par l t) := by
  have h := way_of l s
  have h0 := h.hd hs
  generalize (wy l s).1 = W at h h0 ⊢
  generalize (wy l s).2 = c at h ⊢
  have hne : W ≠ [] := fun e => by subst e; simp at h0
  have hl := List.getLast?_eq_some_getLast hne
  refine ⟨W.getLast hne, hl, h.rg _ (List.getLast_mem hne), ?_⟩
  rcases h.en with ⟨rfl, h2⟩ | ⟨t, u, h2, h3, h4⟩
  · rw [List.drop_length, FM_out (h2 _ hl)]; rfl
  · rw [hl] at h2; cases h2
    rw [h3]
    have hd := h.drop hl h3 h4
    have hu : hasS l (u : Int) = true := by rw [hasS_nat]; exact decide_eq_true (h.rg u (List.mem_of_getElem? h4))
    funext nm
    rw [entW_val]
    unfold FM
    rw [hd.mns hu nm _ (by omega)]
    rfl
end Go.Proofs.Ythghblgbjgghcaa
namespace Go.Proofs.Ythghblgbjgghcaa
open Go.RowKit D
/-- Where a reader's parts lie. -/
structure Ra where
  r : Nat
  pl : Option Addr
  cl : Nat
  pf : Option Addr
  cf : Nat
  pk : Option Addr
  ck : Nat
  V : List Iz
  nb : Nat
  ob : Nat
  mb : Nat
  N : Nat
/-- A name with what it meant. -/
abbrev hc (p : ByteArray × Int) : List Value := [.string p.1, .int .i64 p.2]
abbrev Ra.cells (A : Ra) (l : List S5) (hv : Value) : List Value := [.slice A.pl l.length A.cl, .int .i64 ((nI l : Nat) : Int), .slice A.pf l.length A.cf, .slice A.pk l.length A.ck, .map (some A.nb), .map (some A.ob), .map (some A.mb), hv]
def fsts (l : List S5) : List Nat := (List.range l.length).map (fsn l)
/-- What stays as it is. -/
structure Rst (l : List S5) (A : Ra) (w : World) : Prop where
  fs : Li w A.pf (fsts l)
  kd : SL w 1 zc A.pk A.V
  kt : ∀ a, A.pk = some a → Ty w a.block 32
  kl : ∀ x ∈ A.V, Li w x.pa x.L
  kv : A.V.map Iz.L = (List.range l.length).map (kidL l)
  nm : ∃ al, Mp es w A.nb al ∧ ∀ s nm, lkq al (s, nm) = (kidN l s nm).map Int.ofNat
  ow : ∃ al, Mp es w A.ob al ∧ ∀ (s : Nat) nm, lkq al ((s : Int), nm) = (ownN l s nm).map Int.ofNat
/-- What a reader knows. -/
structure Rdr (l : List S5) (A : Ra) (w : World) (F : Fn) (hid : List (ByteArray × Int)) : Prop where
  st : Rst l A w
  rc : ∃ hv, Ob w A.r 95 (A.cells l hv) ∧ w.ownsRow A.N 105 2 hv hid.length (hid.flatMap hc)
  mt : ∃ al, Mp Value.string w A.mb al ∧ ∀ nm, (lkq al nm).getD (-1) = F nm
  nn : A.nb ≠ A.mb
  no : A.ob ≠ A.mb
  nr : A.N ≤ A.r
  nb : A.N ≤ A.mb
theorem Rst.kk {D : Nat → Prop} {l : List S5} {A : Ra} {w w' : World} (h : Rst l A w) (m : Mk D w w') (h3 : ∀ b, Ty w b 3 → ¬ D b) (h32 : ∀ a, A.pk = some a → ¬ D a.block) (hn : ¬ D A.nb) (ho : ¬ D A.ob) : Rst l A w' := by
  obtain ⟨an, n1, n2⟩ := h.nm
  obtain ⟨ao, o1, o2⟩ := h.ow
  exact ⟨h.fs.kk m (fun a e => h3 _ (h.fs.ty a e)), SL.mk h.kd m h32, fun a e => (h.kt a e).mk m (h32 a e), fun x hx => (h.kl x hx).kk m (fun a e => h3 _ ((h.kl x hx).ty a e)), h.kv, ⟨an, n1.mk m hn, n2⟩, ⟨ao, o1.mk m ho, o2⟩⟩
theorem Rst.mo {l : List S5} {A : Ra} {w w' : World} (h : Rst l A w) (m : Mo w w') : Rst l A w' := h.kk (Mk.of (fun _ => False) m) (fun _ _ e => e) (fun _ _ e => e) (fun e => e) (fun e => e)
theorem Rdr.mo {l : List S5} {A : Ra} {w w' : World} {F : Fn} {hid : List (ByteArray × Int)} (h : Rdr l A w F hid) (m : Mo w w') : Rdr l A w' F hid := by
  obtain ⟨hv, r1, r2⟩ := h.rc
  obtain ⟨am, m1, m2⟩ := h.mt
  exact ⟨h.st.mo m, ⟨hv, r1.mo m, own_mo r2 m⟩, ⟨am, m1.mo m, m2⟩, h.nn, h.no, h.nr, h.nb⟩
/-- What entering and leaving may write. -/
def DE (A : Ra) (w : World) (k : Nat) : Prop := k = A.r ∨ k = A.mb ∨ (A.N ≤ k ∧ Ty w k 105)
theorem DE.N {l : List S5} {A : Ra} {w w2 : World} {F : Fn} {hid : List (ByteArray × Int)} (h : Rdr l A w F hid) {k : Nat} (hk : DE A w2 k) : A.N ≤ k := by
  rcases hk with e | e | e
  · exact e ▸ h.nr
  · exact e ▸ h.nb
  · exact e.1
/-- From one world to the next: what was of such a type, was so ahead of it, or could be written then. -/
theorem DE.tr {A : Ra} {a b c : World} (h : Mk (DE A a) a b) (k : Mk (DE A b) b c) : Mk (DE A a) a c := h.tr k (fun j hj e => by
  rcases e with e | e | e
  · exact Or.inl e
  · exact Or.inr (Or.inl e)
  · refine Classical.byContradiction fun hn => hn ?_
    obtain ⟨h1, vs, h2⟩ := e
    exact Or.inr (Or.inr ⟨h1, vs, (h.block j hj hn).symm.trans h2⟩))
/-- What stays, whatever is entered and left. -/
theorem Rst.de {l : List S5} {A : Ra} {w w' w2 : World} {F : Fn} {hid : List (ByteArray × Int)} (h : Rdr l A w F hid) (m : Mk (DE A w) w w') (hs : Rst l A w) (hw : w2 = w') : Rst l A w2 := by
  subst hw
  obtain ⟨hv, r1, r2⟩ := h.rc
  obtain ⟨am, m1, m2⟩ := h.mt
  refine hs.kk m (fun b hb => ?_) (fun a e => ?_) ?_ ?_
  · rintro (e | e | e)
    · subst e; have := hb.two r1.ty; cases this
    · exact m1.nty hb e
    · have := hb.two e.2; cases this
  · rintro (q | q | q)
    · have := (hs.kt a e).two (q ▸ r1.ty); cases this
    · exact m1.nty (hs.kt a e) q
    · have := (hs.kt a e).two q.2; cases this
  · obtain ⟨an, n1, _⟩ := hs.nm
    rintro (q | q | q)
    · exact n1.nty r1.ty q.symm
    · exact h.nn q
    · exact n1.nty q.2 rfl
  · obtain ⟨ao, o1, _⟩ := hs.ow
    rintro (q | q | q)
    · exact o1.nty r1.ty q.symm
    · exact h.no q
    · exact o1.nty q.2 rfl
/-- What lies below stays. -/
theorem kp_de {l : List S5} {A : Ra} {w0 w w' : World} {F : Fn} {hid : List (ByteArray × Int)} (h : Rdr l A w F hid) (m : Mk (DE A w) w w') (k : Kp w0 w) (hN : w0.heap.size ≤ A.N) : Kp w0 w' :=
  ⟨Nat.le_trans k.size m.size, fun x o v e => by
    have h1 := k.cell x o v e
    have hx := cell_lt e
    exact (World.cell?_of_block (a := ⟨x, o, none⟩) (m.block x (cell_lt h1) (fun s => by have := DE.N h s; omega))).trans h1⟩
/-- What an aggregate's column is. -/
def col (l : List S5) (s : Int) (se nm : ByteArray) : Int := match kidN l s se with
  | some k => (match ownN l k nm with | some j => (j : Int) | none => -1)
  | none => -1
/-- What a node reads itself. -/
def rdO (l : List S5) (s : Int) (F : Fn) (k op : Int) (nm se : ByteArray) : Int := if k = 2 then F nm else if k = 10 ∧ op ≠ 16 then col l s se nm else -1
end Go.Proofs.Ythghblgbjgghcaa
namespace Go.Proofs.Ythghblgbjgghcaa
open Go.RowKit D
/-- A slice of one's own. -/
abbrev Ow (N : Nat) (et sz : Nat) {α : Type} (cells : α → List Value) (w : World) (pv : Option Addr) (cv : Nat) (L : List α) : Prop := w.ownsRow N et sz (.slice pv L.length cv) L.length (L.flatMap cells)
abbrev obk (pv : Option Addr) (n cv : Nat) : Option Nat := Value.ownBlock (.slice pv n cv)
section
variable {o : Oper} {n : Nat} {l : List (Nat × Value)} {w : World} {ops : Array Oper} {rest : List Oper} {Q : Exit → Act → World → Prop}
theorem wl_apG {st et sz bys : Nat} {zv : Value} {α : Type} {cells : α → List Value} (hst : Try.prog.underlying st = some (.slice et)) (hin : ∃ i, Try.prog.info? et = some i ∧ i.zero = some zv ∧ i.size = sz ∧ i.bytes = bys) (hzs : zv.cells.size = sz) (hsz : 0 < sz) (hby : bys ≤ 24)
    (s x : Operand) {N : Nat} {pv : Option Addr} {cv : Nat} {L : List α} {y : α} (kb : Nat) (ho : o.op = .call { callee := .builtin .append, args := #[s, x], argTypes := #[st, st] }) (hs : evl n l s = .slice pv L.length cv) (hx : evl n l x = .slice (some ⟨kb, 0, none⟩) 1 1)
    (h : Ow N et sz cells w pv cv L) (hl : (cells y).length = sz) (h1 : ∀ u ∈ cells y, u.oneCell' = true) (hA : At w kb (cells y)) (hz : L.length < 4000000) (hN : N ≤ w.heap.size) (hg : wnt n l ops o = true)
    (hk : ∀ pv2 cv2 w', Ow N et sz cells w' pv2 cv2 (L ++ [y]) → Mk (fun j => obk pv L.length cv = some j) w w' → (obk pv2 (L ++ [y]).length cv2 = obk pv L.length cv ∨ obk pv2 (L ++ [y]).length cv2 = some w.heap.size) → WL Try.prog ops Q rest n (ext l o.dst (.slice pv2 (L ++ [y]).length cv2)) w') : WL Try.prog ops Q (o :: rest) n l w := by
  refine wl_app hst hin hzs hsz s x N (.slice pv L.length cv) L.length (L.flatMap cells) kb 1 1 (cells y) ho hs hx h (by rw [hl]; omega) hA h1 (by decide) (by unfold maxLen; omega) ?_ hN hg ?_
  · have h9 : (L.length + 1) * bys ≤ 4000000 * 24 := Nat.mul_le_mul (by omega) hby
    omega
  · intro v2 w' hw m hv
    have e : (L ++ [y]).length = L.length + 1 := by simp
    have e2 : (L ++ [y]).flatMap cells = L.flatMap cells ++ cells y := by simp
    obtain ⟨pv2, cv2, rfl, _⟩ := own_form hw
    rw [← e] at hv hw ⊢
    rw [← e2] at hw
    exact hk pv2 cv2 w' hw m hv
theorem wl_apI (s x : Operand) {N : Nat} {pv : Option Addr} {cv : Nat} {L : List Nat} {y : Nat} (kb : Nat) (ho : o.op = .call { callee := .builtin .append, args := #[s, x], argTypes := #[32, 32] }) (hs : evl n l s = .slice pv L.length cv) (hx : evl n l x = .slice (some ⟨kb, 0, none⟩) 1 1)
    (h : Ow N 3 1 ic w pv cv L) (hA : At w kb (ic y)) (hz : L.length < 4000000) (hN : N ≤ w.heap.size) (hg : wnt n l ops o = true)
    (hk : ∀ pv2 cv2 w', Ow N 3 1 ic w' pv2 cv2 (L ++ [y]) → Mk (fun j => obk pv L.length cv = some j) w w' → (obk pv2 (L ++ [y]).length cv2 = obk pv L.length cv ∨ obk pv2 (L ++ [y]).length cv2 = some w.heap.size) → WL Try.prog ops Q rest n (ext l o.dst (.slice pv2 (L ++ [y]).length cv2)) w') : WL Try.prog ops Q (o :: rest) n l w :=
  wl_apG Try.underlying32 inf3 rfl (by decide) (by decide) s x kb ho hs hx h rfl (by simp [Value.oneCell']) hA hz hN hg hk
theorem wl_apM (s x : Operand) {N : Nat} {pv : Option Addr} {cv : Nat} {L : List (ByteArray × Int)} {y : ByteArray × Int} (kb : Nat) (ho : o.op = .call { callee := .builtin .append, args := #[s, x], argTypes := #[93, 93] }) (hs : evl n l s = .slice pv L.length cv) (hx : evl n l x = .slice (some ⟨kb, 0, none⟩) 1 1)
    (h : Ow N 105 2 hc w pv cv L) (hA : At w kb (hc y)) (hz : L.length < 4000000) (hN : N ≤ w.heap.size) (hg : wnt n l ops o = true)
    (hk : ∀ pv2 cv2 w', Ow N 105 2 hc w' pv2 cv2 (L ++ [y]) → Mk (fun j => obk pv L.length cv = some j) w w' → (obk pv2 (L ++ [y]).length cv2 = obk pv L.length cv ∨ obk pv2 (L ++ [y]).length cv2 = some w.heap.size) → WL Try.prog ops Q rest n (ext l o.dst (.slice pv2 (L ++ [y]).length cv2)) w') : WL Try.prog ops Q (o :: rest) n l w :=
  wl_apG Try.underlying93 inf105 rfl (by decide) (by decide) s x kb ho hs hx h rfl (by simp [Value.oneCell']) hA hz hN hg hk
end
theorem Ow.nil (N et sz : Nat) {α : Type} (cells : α → List Value) (w : World) : Ow N et sz cells w none 0 [] := ⟨by simp, Or.inl ⟨rfl, rfl⟩⟩
theorem own_gap {w w' : World} {N e sz : Nat} {v : Value} {n : Nat} {xs : List Value} (h : w.ownsRow N e sz v n xs) (m : Mk (fun j => v.ownBlock = some j) w w') {a : World} (ha : a.heap.size ≤ N) (q : Mo a w) : Mo a w' := m.mo q (fun _ e3 => Nat.le_trans ha (own_lt h e3).2)
end Go.Proofs.Ythghblgbjgghcaa

/-
  Names that are apart; what both sides say of expressions and pages.
-/
import Derived.Test.YtbanldffohopiaaR5
namespace Go.Proofs.Ytbanldffohopiaa
open Go.RowKit D
/-- No two have the same name. -/
def Un (l : List It) : Prop := ∀ (i : Nat) (y : It), l[i]? = some y → (l.take i).any (fun u => decide (u.nm = y.nm)) = false
theorem er_n {b : Value} {e : Int} (h : er b e = none) : e = 0 := by
  unfold er at h
  split at h
  · assumption
  · cases h
theorem se_n {T : List (ByteArray × Int)} {L : List S5} (h : seR T L = none) {n : Nat} {x : S5} (hx : L[n]? = some x) : seE L ⟨T, stI L n 0, stK L n⟩ n x = 0 ∧ ∀ i y, x.items[i]? = some y → itE L (stI L n i) n y = 0 := by
  have h1 := fs_inv h n (lt_of_get hx)
  rw [seG_of hx] at h1
  have h2 : er (plc 2 n 0 0 0) (seE L ⟨T, stI L n 0, stK L n⟩ n x) = none := by
    cases q : er (plc 2 n 0 0 0) (seE L ⟨T, stI L n 0, stK L n⟩ n x) with
    | none => rfl
    | some z => rw [q] at h1; cases h1
  rw [h2, Option.none_or] at h1
  refine ⟨er_n h2, fun i y hy => ?_⟩
  have h3 := fs_inv h1 i (lt_of_get hy)
  rw [ixG_of hx hy] at h3
  exact er_n h3
theorem itE_0 {L : List S5} {I : Nat → List (ByteArray × Int)} {n : Nat} {y : It} (h : itE L I n y = 0) : may y.nm = true ∧ tkn L I n y.nm = false := by
  unfold itE at h
  split at h
  · rename_i h1
    split at h
    · cases h
    · rename_i h2; exact ⟨h1, by simpa using h2⟩
  · cases h
theorem un_of {T : List (ByteArray × Int)} {L : List S5} (h : seR T L = none) (hw : Wf L) {n : Nat} {x : S5} (hx : L[n]? = some x) : Un x.items := fun i y hy => by
  have h1 := (itE_0 ((se_n h hx).2 i y hy)).2
  rw [arn_item hw hx] at h1
  simp only [Bool.or_eq_false_iff] at h1
  exact h1.1.1
theorem lk_un {l : List It} (h : Un l) {i : Nat} {y : It} (hy : l[i]? = some y) : ∀ N, i < N → N ≤ l.length → lk (itA l N) y.nm = some y.k
  | 0, h1, _ => by omega
  | N + 1, h1, h2 => by
    obtain ⟨u, hu⟩ := get_of_lt (show N < l.length by omega)
    rw [itA_s hu, lk_cons]
    by_cases e : N = i
    · subst e
      rw [hy] at hu; cases hu
      rw [if_pos rfl]
    · rw [if_neg (fun q => ?_)]
      · exact lk_un h hy N (by omega) (by omega)
      · have h3 := h N u hu
        rw [take_any.2 ⟨i, y, by omega, hy, by simp [q]⟩] at h3
        cases h3
theorem lk_no {l : List It} {nm : ByteArray} (h : l.any (fun u => decide (u.nm = nm)) = false) : lk (itA l l.length) nm = none := isn (by rw [itA_any, List.take_length]; exact h)
theorem get_any {α : Type} {f : α → Bool} {l : List α} (h : l.any f = true) : ∃ (i : Nat) (x : α), l[i]? = some x ∧ f x = true := by
  rw [List.any_eq_true] at h
  obtain ⟨x, hx, hf⟩ := h
  obtain ⟨i, hi⟩ := List.getElem?_of_mem hx
  exact ⟨i, x, hi, hf⟩
theorem cbr_un {l : List It} (h : Un l) (nm : ByteArray) : cbr ((lk (itA l l.length) nm).getD 0) = l.any (rdP nm) := by
  cases q : l.any (fun u => decide (u.nm = nm)) with
  | false =>
    rw [lk_no q, Bool.eq_iff_iff]
    constructor
    · intro e; cases e
    · intro e
      obtain ⟨i, x, hx, hf⟩ := get_any e
      unfold rdP at hf
      simp only [Bool.and_eq_true] at hf
      rw [any_hit hx hf.1] at q
      cases q
  | true =>
    obtain ⟨i, y, hy, hn⟩ := get_any q
    have hn := of_decide_eq_true hn
    have hk := lk_un h hy l.length (lt_of_get hy) (Nat.le_refl _)
    rw [hn] at hk
    rw [hk, Bool.eq_iff_iff]
    constructor
    · intro e
      exact any_hit hy (by unfold rdP; rw [decide_eq_true hn]; exact e)
    · intro e
      obtain ⟨j, z, hz, hf⟩ := get_any e
      unfold rdP at hf
      simp only [Bool.and_eq_true] at hf
      have hk2 := lk_un h hz l.length (lt_of_get hz) (Nat.le_refl _)
      rw [of_decide_eq_true hf.1, hk] at hk2
      have e9 := Option.some.inj hk2
      show cbr y.k = true
      rw [e9]; exact hf.2
/-- Is the first field or line of a name a field? -/
def fldR (l : List It) (nm : ByteArray) : Bool := (ffi (rdP nm) l).isSome && decide ((((l[(ffi (rdP nm) l).getD 0]?).map (·.k)).getD 0) = 1)
theorem fld_un {l : List It} (h : Un l) (nm : ByteArray) : fldR l nm = decide ((lk (itA l l.length) nm).getD 0 = 1) := by
  unfold fldR
  cases q : ffi (rdP nm) l with
  | some k =>
    obtain ⟨y, hy, hf, hk⟩ := ffi_some q
    unfold rdP at hf
    simp only [Bool.and_eq_true] at hf
    have := lk_un h hy l.length hk (Nat.le_refl _)
    rw [of_decide_eq_true hf.1] at this
    rw [this]
    show (true && decide ((((l[k]?).map (·.k)).getD 0) = 1)) = _
    rw [hy]; rfl
  | none =>
    have h1 := ffi_none q
    rw [← cbr_un h] at h1
    show false = _
    symm
    rw [decide_eq_false_iff_not]
    intro e
    rw [e] at h1
    cases h1
/-- Kids' names are apart. -/
theorem kd_un {T : List (ByteArray × Int)} {L : List S5} (h : seR T L = none) (hw : Wf L) {n : Nat} {x : S5} (hx : L[n]? = some x) {s : Nat} (hs : x.pr = s) : (L.take n).any (kdP s x.nm) = false := by
  have h1 := (se_n h hx).1
  have hn : n ≠ 0 := fun e => by have := (hw n x hx).1; omega
  have h2 : nsE L ⟨T, stI L n 0, stK L n⟩ n x = 0 := by
    unfold seE at h1
    split at h1
    · assumption
    · exact h1
  unfold nsE at h2
  rw [if_neg hn] at h2
  split at h2
  · split at h2
    · cases h2
    · rename_i h3
      simp only [Bool.or_eq_true, not_or] at h3
      have h4 := h3.1
      rw [show x.pr.toNat = s by omega] at h4
      have h5 : (lk (stK L n s) x.nm).isSome = false := by simpa using h4
      unfold stK at h5
      rw [kdA_any] at h5
      exact h5
  · cases h2
theorem lk_kd {T : List (ByteArray × Int)} {L : List S5} (h : seR T L = none) (hw : Wf L) {m s : Nat} {x : S5} (hx : L[m]? = some x) (hs : x.pr = s) : ∀ N, m < N → N ≤ L.length → lk (kdA L s N) x.nm = some (m : Int)
  | 0, h1, _ => by omega
  | N + 1, h1, h2 => by
    obtain ⟨u, hu⟩ := get_of_lt (show N < L.length by omega)
    rw [kdA, hu]
    by_cases e : N = m
    · subst e
      rw [hx] at hu; cases hu
      simp only [hs, if_true]
      rw [lk_cons, if_pos rfl]
    · have ih := lk_kd h hw hx hs N (by omega) (by omega)
      by_cases hp : u.pr = s
      · simp only [hp, if_true]
        rw [lk_cons, if_neg (fun q => ?_)]
        · exact ih
        · have h3 := kd_un h hw hu hp
          rw [take_any.2 ⟨m, x, by omega, hx, by unfold kdP; simp [hs, q]⟩] at h3
          cases h3
      · simp only [hp, if_false]; exact ih
/-- The document's: is there what a node reads? -/
def knoR (d : Df) (L : List S5) (s : Nat) (x : Ex) : Bool :=
  if x.k = 2 then rfd L s x.nm
  else if x.k = 10 then (ffi (kdP s x.se) L).isSome && ((ffi (rdP x.nm) (itO L ((ffi (kdP s x.se) L).getD 0))).isSome || decide (x.op = 16))
  else if x.k = 8 then (tF d.tb x.nm).isSome else true
theorem kno_both {d : Df} (h : seR (tbA d.tb d.tb.length) (fla d) = none) {s : Nat} (hs : s < (fla d).length) (x : Ex) : knoR d (fla d) s x = kno (fla d) (alF d) s x := by
  have hw := fla_wf d
  have hc : ∀ a, a < (fla d).length → ∀ nm, cbr ((lk (stI (fla d) (fla d).length 0 a) nm).getD 0) = (itO (fla d) a).any (rdP nm) := fun a ha nm => by
    obtain ⟨y, hy⟩ := get_of_lt ha
    rw [stI_lt ha, cbr_un (by rw [itO_of hy]; exact un_of h hw hy)]
  unfold knoR kno alF
  split
  · unfold rfd fnd
    exact any_congr (fun a ha => (hc a (by have := anc_le (fla d) s a ha; omega) x.nm).symm)
  · split
    · have h1 : (lk (stK (fla d) (fla d).length s) x.se).isSome = (ffi (kdP s x.se) (fla d)).isSome := by
        unfold stK; rw [kdA_any, List.take_length, ffi_isSome]; rfl
      show _ = ((lk (stK (fla d) (fla d).length s) x.se).isSome && (decide (x.op = 16) || cbr ((lk (stI (fla d) (fla d).length 0 ((lk (stK (fla d) (fla d).length s) x.se).getD 0).toNat) x.nm).getD 0)))
      rw [h1]
      cases q : ffi (kdP s x.se) (fla d) with
      | none => rfl
      | some m =>
        obtain ⟨y, hy, hf, hm⟩ := ffi_some q
        unfold kdP at hf
        simp only [Bool.and_eq_true, decide_eq_true_eq] at hf
        have h2 : lk (stK (fla d) (fla d).length s) x.se = some (m : Int) := by
          unfold stK; rw [← hf.2]; exact lk_kd h hw hy hf.1 _ hm (Nat.le_refl _)
        rw [h2]
        show (true && ((ffi (rdP x.nm) (itO (fla d) m)).isSome || decide (x.op = 16))) = (true && (decide (x.op = 16) || cbr ((lk (stI (fla d) (fla d).length 0 m) x.nm).getD 0)))
        rw [hc m hm, ffi_isSome, Bool.or_comm]
    · split
      · rw [tF_ffi, ffi_isSome, tbA_any, List.take_length]
      · rfl
theorem lck_congr {f g : Ex → Bool} (h : ∀ x, f x = g x) (x : Ex) : lck f x = lck g x := by rw [show f = g from funext h]
/-! Pages. -/
theorem shA_any {p : Int} {S : List (ByteArray × Int)} {l : List ByteArray} {nm : ByteArray} : ∀ i, (lk (shA p S l i) nm).isSome = ((lk S nm).isSome || (l.take i).any (fun s => decide (s = nm)))
  | 0 => by show _ = ((lk S nm).isSome || false); rw [Bool.or_false]; rfl
  | i + 1 => by
    cases h : l[i]? with
    | none => rw [show shA p S l (i + 1) = shA p S l i by rw [shA, h], shA_any i, List.take_add_one, h]; simp
    | some x => rw [shA_s h, lk_any, List.any_cons, ← lk_any, shA_any i, List.take_add_one, h, List.any_append, Bool.or_comm, Bool.or_assoc]; simp
theorem pgS_any {l : List Pg} {nm : ByteArray} : ∀ i, (lk (pgS l i) nm).isSome = (l.take i).any (fun x => x.its.any (fun s => decide (s = nm)))
  | 0 => rfl
  | i + 1 => by
    cases h : l[i]? with
    | none => rw [show pgS l (i + 1) = pgS l i by rw [pgS, h], pgS_any i, List.take_add_one, h]; simp
    | some x => rw [pgS_s h, shA_any, pgS_any i, List.take_length, List.take_add_one, h, List.any_append]; simp
/-- Does a name stand on a page ahead, or ahead on this one? -/
def stD (l : List Pg) (n i : Nat) (x : Pg) (nm : ByteArray) : Bool := (l.take n).any (fun x => x.its.any (fun s => decide (s = nm))) || (x.its.take i).any (fun s => decide (s = nm))
theorem st_both {l : List Pg} {n i : Nat} {x : Pg} {nm : ByteArray} {p : Int} : (lk (shA p (pgS l n) x.its i) nm).isSome = stD l n i x nm := by rw [shA_any, pgS_any]; rfl
end Go.Proofs.Ytbanldffohopiaa

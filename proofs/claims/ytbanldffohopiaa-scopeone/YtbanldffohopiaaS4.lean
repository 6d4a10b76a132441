/-
  What Check's parts say, over lists.
-/
import Derived.Test.YtbanldffohopiaaS3
namespace Go.Proofs.Ytbanldffohopiaa
open Go.RowKit D
theorem isn {α : Type} {o : Option α} (h : o.isSome = false) : o = none := by cases o with | none => rfl | some _ => cases h
theorem fs_none {α : Type} {g : Nat → Option α} : ∀ {N : Nat}, (∀ j, j < N → g j = none) → (List.range N).findSome? g = none
  | 0, _ => rfl
  | N + 1, h => by
    rw [List.range_succ, List.findSome?_append, fs_none (fun j hj => h j (by omega))]
    simp [h N (by omega)]
theorem fs_hit {α : Type} {g : Nat → Option α} {n : Nat} {x : α} (h : ∀ j, j < n → g j = none) (hx : g n = some x) : ∀ {N : Nat}, n < N → (List.range N).findSome? g = some x
  | 0, hn => by omega
  | N + 1, hn => by
    rw [List.range_succ, List.findSome?_append]
    rcases Nat.lt_or_ge n N with q | q
    · rw [fs_hit h hx q]; rfl
    · have e : n = N := by omega
      subst e
      rw [fs_none h]
      simp [hx]
theorem fs_inv {α : Type} {g : Nat → Option α} {N : Nat} (h : (List.range N).findSome? g = none) : ∀ j, j < N → g j = none := fun j hj => by
  rw [List.findSome?_eq_none_iff] at h
  exact h j (List.mem_range.2 hj)
/-- One more that tells nothing. -/
theorem fs_step {α : Type} {g : Nat → Option α} {n : Nat} (h : ∀ j, j < n → g j = none) (hx : g n = none) : ∀ j, j < n + 1 → g j = none := fun j hj => by
  rcases Nat.lt_or_ge j n with q | q
  · exact h j q
  · rw [show j = n by omega]; exact hx
/-- A place and an error's number, if there is one. -/
def er (b : Value) (e : Int) : Option (Value × Int) := if e = 0 then none else some (b, e)
theorem er_0 {b : Value} {e : Int} (h : e = 0) : er b e = none := if_pos h
theorem er_1 {b : Value} {e : Int} (h : e ≠ 0) : er b e = some (b, e) := if_neg h
/-- What a part of Check answers. -/
def rv (o : Option (Value × Int)) : Value := .tuple #[(o.getD (plc 0 0 0 0 0, 0)).1, .int .i64 (o.getD (plc 0 0 0 0 0, 0)).2]
/-! Tables. -/
def tbE (T : List (ByteArray × Int)) (x : Tb) : Int := if may x.nm then (if (lk T x.nm).isSome then 5 else if decide (x.st.length < 1) || decide (32 < x.st.length) then 92 else 0) else 90
def tbA (l : List Tb) : Nat → List (ByteArray × Int)
  | 0 => []
  | i + 1 => match l[i]? with
    | some x => (x.nm, (i : Int)) :: tbA l i
    | none => tbA l i
theorem tbA_s {l : List Tb} {i : Nat} {x : Tb} (h : l[i]? = some x) : tbA l (i + 1) = (x.nm, (i : Int)) :: tbA l i := by rw [tbA, h]
theorem tbA_len (l : List Tb) : ∀ i, (tbA l i).length ≤ i
  | 0 => Nat.le_refl _
  | i + 1 => by
    rw [tbA]; have := tbA_len l i
    split <;> simp <;> omega
def tbG (l : List Tb) (i : Nat) : Option (Value × Int) := (l[i]?).bind (fun x => er (plc 1 0 0 i 0) (tbE (tbA l i) x))
theorem tbG_of {l : List Tb} {i : Nat} {x : Tb} (h : l[i]? = some x) : tbG l i = er (plc 1 0 0 i 0) (tbE (tbA l i) x) := by unfold tbG; rw [h]; rfl
def tbR (l : List Tb) : Option (Value × Int) := (List.range l.length).findSome? (tbG l)
/-! Sections and items. -/
def itA (l : List It) : Nat → List (ByteArray × Int)
  | 0 => []
  | i + 1 => match l[i]? with
    | some x => (x.nm, x.k) :: itA l i
    | none => itA l i
theorem itA_s {l : List It} {i : Nat} {x : It} (h : l[i]? = some x) : itA l (i + 1) = (x.nm, x.k) :: itA l i := by rw [itA, h]
theorem itA_len (l : List It) : ∀ i, (itA l i).length ≤ i
  | 0 => Nat.le_refl _
  | i + 1 => by
    rw [itA]; have := itA_len l i
    split <;> simp <;> omega
def kdA (L : List S5) (p : Nat) : Nat → List (ByteArray × Int)
  | 0 => []
  | m + 1 => match L[m]? with
    | some x => if x.pr = p then (x.nm, (m : Int)) :: kdA L p m else kdA L p m
    | none => kdA L p m
theorem kdA_len (L : List S5) (p : Nat) : ∀ i, (kdA L p i).length ≤ i
  | 0 => Nat.le_refl _
  | i + 1 => by
    rw [kdA]; have := kdA_len L p i
    split
    · split <;> simp <;> omega
    · omega
def stI (L : List S5) (n i : Nat) (j : Nat) : List (ByteArray × Int) := if j < n then itA (itO L j) (itO L j).length else if j = n then itA (itO L n) i else []
def stK (L : List S5) (n : Nat) (p : Nat) : List (ByteArray × Int) := kdA L p n
theorem stI_up {L : List S5} {n i : Nat} {x : S5} {y : It} (hx : L[n]? = some x) (hy : x.items[i]? = some y) : upF (stI L n i) n ((y.nm, y.k) :: stI L n i n) = stI L n (i + 1) := by
  funext j
  unfold upF stI
  by_cases h : j = n
  · subst h
    rw [if_pos rfl, if_neg (Nat.lt_irrefl _), if_pos rfl, if_neg (Nat.lt_irrefl _), if_pos rfl, itO_of hx, itA_s hy]
  · rw [if_neg h, if_neg h, if_neg h]
theorem stI_self {L : List S5} {n i : Nat} : stI L n i n = itA (itO L n) i := by unfold stI; rw [if_neg (Nat.lt_irrefl _), if_pos rfl]
theorem stI_next {L : List S5} {n : Nat} {x : S5} (hx : L[n]? = some x) : stI L n x.items.length = stI L (n + 1) 0 := by
  funext j
  unfold stI
  rcases Nat.lt_trichotomy j n with h | h | h
  · rw [if_pos h, if_pos (by omega)]
  · subst h
    rw [if_neg (Nat.lt_irrefl _), if_pos rfl, if_pos (Nat.lt_succ_self _), itO_of hx]
  · rw [if_neg (by omega), if_neg (by omega), if_neg (by omega)]
    split
    · rfl
    · rfl
theorem stK_up {L : List S5} {n : Nat} {x : S5} (hx : L[n]? = some x) {p : Nat} (hp : x.pr = p) : upF (stK L n) p ((x.nm, (n : Int)) :: stK L n p) = stK L (n + 1) := by
  funext j
  unfold upF stK
  by_cases h : j = p
  · subst h; rw [if_pos rfl, kdA, hx]; simp [hp]
  · rw [if_neg h, kdA, hx]
    have : ¬ x.pr = j := fun e => h (by omega)
    simp [this]
theorem stK_0 {L : List S5} {n : Nat} {x : S5} (hx : L[n]? = some x) (hp : x.pr < 0) : stK L (n + 1) = stK L n := by
  funext j
  unfold stK
  rw [kdA, hx]
  have : ¬ x.pr = j := fun e => by omega
  simp [this]
def rmE (n : Nat) (x : S5) : Bool := if n = 0 then decide (x.mx = 0) else decide (1 ≤ x.mx) && decide (x.mx ≤ 1024)
def nsE (L : List S5) (A : Al) (n : Nat) (x : S5) : Int := if n = 0 then (if x.nm = ⟨#[]⟩ then 0 else 90) else if may x.nm then (if (lk (A.K x.pr.toNat) x.nm).isSome || tkn L A.I x.pr.toNat x.nm then 5 else 0) else 90
def seE (L : List S5) (A : Al) (n : Nat) (x : S5) : Int := if nsE L A n x = 0 then (if decide (64 < x.items.length) || !rmE n x then 92 else 0) else nsE L A n x
def itE (L : List S5) (I : Nat → List (ByteArray × Int)) (n : Nat) (y : It) : Int := if may y.nm then (if tkn L I n y.nm then 5 else 0) else 90
def ixG (L : List S5) (n i : Nat) : Option (Value × Int) := ((itO L n)[i]?).bind (fun y => er (plc 3 n i 0 0) (itE L (stI L n i) n y))
theorem ixG_of {L : List S5} {n i : Nat} {x : S5} {y : It} (hx : L[n]? = some x) (hy : x.items[i]? = some y) : ixG L n i = er (plc 3 n i 0 0) (itE L (stI L n i) n y) := by unfold ixG; rw [itO_of hx, hy]; rfl
def seG (T : List (ByteArray × Int)) (L : List S5) (n : Nat) : Option (Value × Int) := (L[n]?).bind (fun x => (er (plc 2 n 0 0 0) (seE L ⟨T, stI L n 0, stK L n⟩ n x)).or ((List.range x.items.length).findSome? (ixG L n)))
theorem seG_of {T : List (ByteArray × Int)} {L : List S5} {n : Nat} {x : S5} (hx : L[n]? = some x) : seG T L n = (er (plc 2 n 0 0 0) (seE L ⟨T, stI L n 0, stK L n⟩ n x)).or ((List.range x.items.length).findSome? (ixG L n)) := by unfold seG; rw [hx]; rfl
def seR (T : List (ByteArray × Int)) (L : List S5) : Option (Value × Int) := (List.range L.length).findSome? (seG T L)
/-! What formulas read. -/
def foG (L : List S5) (A : Al) (n i : Nat) : Option (Value × Int) := ((itO L n)[i]?).bind (fun y => if !decide (y.k = 1) && lck (kno L A n) y.ex then some (plc 3 n i 0 0, 91) else none)
theorem foG_of {L : List S5} {A : Al} {n i : Nat} {x : S5} {y : It} (hx : L[n]? = some x) (hy : x.items[i]? = some y) : foG L A n i = if !decide (y.k = 1) && lck (kno L A n) y.ex then some (plc 3 n i 0 0, 91) else none := by unfold foG; rw [itO_of hx, hy]; rfl
def foS (L : List S5) (A : Al) (n : Nat) : Option (Value × Int) := (List.range (itO L n).length).findSome? (foG L A n)
def foR (L : List S5) (A : Al) : Option (Value × Int) := (List.range L.length).findSome? (foS L A)
/-! Pages. -/
def pgE (L : List S5) (A : Al) (P : List (ByteArray × Int)) (x : Pg) : Int := if may x.nm then (if (lk P x.nm).isSome then 5 else if decide (64 < x.its.length) then 92 else if lck (kno L A 0) x.wh then 91 else 0) else 90
/-- One name on a page. -/
def shE (A : Al) (S : List (ByteArray × Int)) (s : ByteArray) : Int := if !decide ((lk (A.I 0) s).getD 0 = 1) && !(lk (A.K 0) s).isSome then 91 else if (lk S s).isSome then 5 else 0
def shA (p : Int) (S : List (ByteArray × Int)) (l : List ByteArray) : Nat → List (ByteArray × Int)
  | 0 => S
  | i + 1 => match l[i]? with
    | some x => (x, p) :: shA p S l i
    | none => shA p S l i
theorem shA_s {p : Int} {S : List (ByteArray × Int)} {l : List ByteArray} {i : Nat} {x : ByteArray} (h : l[i]? = some x) : shA p S l (i + 1) = (x, p) :: shA p S l i := by rw [shA, h]
theorem shA_len (p : Int) (S : List (ByteArray × Int)) (l : List ByteArray) : ∀ i, (shA p S l i).length ≤ S.length + i
  | 0 => Nat.le_refl _
  | i + 1 => by
    rw [shA]; have := shA_len p S l i
    split <;> simp <;> omega
def shG (A : Al) (p : Int) (S : List (ByteArray × Int)) (l : List ByteArray) (i : Nat) : Option Int := (l[i]?).bind (fun x => if shE A (shA p S l i) x = 0 then none else some (shE A (shA p S l i) x))
theorem shG_of {A : Al} {p : Int} {S : List (ByteArray × Int)} {l : List ByteArray} {i : Nat} {x : ByteArray} (h : l[i]? = some x) : shG A p S l i = if shE A (shA p S l i) x = 0 then none else some (shE A (shA p S l i) x) := by unfold shG; rw [h]; rfl
def shR (A : Al) (p : Int) (S : List (ByteArray × Int)) (l : List ByteArray) : Int := ((List.range l.length).findSome? (shG A p S l)).getD 0
/-- The names of the pages ahead, and what stands on them. -/
def pgA (l : List Pg) : Nat → List (ByteArray × Int)
  | 0 => []
  | i + 1 => match l[i]? with
    | some x => (x.nm, (i : Int)) :: pgA l i
    | none => pgA l i
theorem pgA_s {l : List Pg} {i : Nat} {x : Pg} (h : l[i]? = some x) : pgA l (i + 1) = (x.nm, (i : Int)) :: pgA l i := by rw [pgA, h]
theorem pgA_len (l : List Pg) : ∀ i, (pgA l i).length ≤ i
  | 0 => Nat.le_refl _
  | i + 1 => by
    rw [pgA]; have := pgA_len l i
    split <;> simp <;> omega
def pgS (l : List Pg) : Nat → List (ByteArray × Int)
  | 0 => []
  | i + 1 => match l[i]? with
    | some x => shA i (pgS l i) x.its x.its.length
    | none => pgS l i
theorem pgS_s {l : List Pg} {i : Nat} {x : Pg} (h : l[i]? = some x) : pgS l (i + 1) = shA i (pgS l i) x.its x.its.length := by rw [pgS, h]
def pgF (L : List S5) (A : Al) (l : List Pg) (i : Nat) (x : Pg) : Int := if pgE L A (pgA l i) x = 0 then shR A i (pgS l i) x.its else pgE L A (pgA l i) x
def pgG (L : List S5) (A : Al) (l : List Pg) (i : Nat) : Option (Value × Int) := (l[i]?).bind (fun x => er (plc 4 0 0 0 i) (pgF L A l i x))
theorem pgG_of {L : List S5} {A : Al} {l : List Pg} {i : Nat} {x : Pg} (h : l[i]? = some x) : pgG L A l i = er (plc 4 0 0 0 i) (pgF L A l i x) := by unfold pgG; rw [h]; rfl
def pgR (L : List S5) (A : Al) (l : List Pg) : Option (Value × Int) := (List.range l.length).findSome? (pgG L A l)
end Go.Proofs.Ytbanldffohopiaa

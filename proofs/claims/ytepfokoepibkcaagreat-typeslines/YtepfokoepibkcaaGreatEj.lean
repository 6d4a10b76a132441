/-
  A region that draws its order: where no two that don't wait for each other are at odds, each order comes to the same.
-/
import Derived.Test.YtepfokoepibkcaaGreatEi
namespace Go.Proofs.YtepfokoepibkcaaGreat
namespace E
open Go.CheckFast (force force_eq)
section
variable {P : Program} {ops : Array Oper} {Q : Exit → Act → World → Prop}
theorem count_set : ∀ (l : List Bool) (i : Nat), l[i]? = some false → (l.set i true).count false + 1 = l.count false
  | [], _, h => by cases h
  | b :: l, 0, h => by simp at h; subst h; simp
  | b :: l, i + 1, h => by
    have := count_set l i (by simpa using h)
    simp only [List.set_cons_succ, List.count_cons]
    omega
theorem edgesBack_spec (h : edgesBack ops = true) {i : Nat} {o : Oper} (ho : ops[i]? = some o) : ∀ e ∈ o.after, Region.binds .any e = true → e.on < i := by
  intro e he hb
  have h1 := List.all_eq_true.1 h i (List.mem_range.2 (Array.getElem?_eq_some_iff.1 ho).1)
  simp only [ho] at h1
  have h2 := Array.all_eq_true_iff_forall_mem.1 h1 e he
  simpa [hb] using h2
theorem all_listed (hb : edgesBack ops = true) {listed : Array Bool} (hr : Region.ready .any ops listed = []) : ∀ i, i < ops.size → listed.getD i true = true := by
  intro i
  induction i using Nat.strongRecOn with
  | ind i ih =>
    intro hi
    cases hl : listed.getD i true with
    | true => rfl
    | false =>
      have hm : i ∈ Region.ready .any ops listed := mem_ready.2 ⟨hl, ops[i], by simp [hi], fun e he hbd => by
        have hlt := edgesBack_spec hb (i := i) (o := ops[i]) (by simp [hi]) e he hbd
        have h1 := ih e.on hlt (Nat.lt_trans hlt hi)
        have hsz : i < listed.size := by
          rcases Nat.lt_or_ge i listed.size with h' | h'
          · exact h'
          · simp [Array.getElem?_eq_none h'] at hl
        have : e.on < listed.size := Nat.lt_trans hlt hsz
        simpa [this] using h1⟩
      rw [hr] at hm; cases hm
/-- An invariant over what has come up. -/
theorem wpAny_inv (I : Array Bool → Act → World → Prop) (hb : edgesBack ops = true)
    (hstep : ∀ listed a w i o, I listed a w → ops[i]? = some o → listed.getD i true = false → (∀ e ∈ o.after, Region.binds .any e = true → listed.getD e.on false = true) → wpOp P ops Q i (I (listed.setIfInBounds i true)) a w)
    (hend : ∀ listed a w, I listed a w → (∀ i, i < ops.size → listed.getD i true = true) → Q .normal a w) :
    ∀ (fuel : Nat) (listed : Array Bool) (a : Act) (w : World), listed.toList.count false ≤ fuel → I listed a w → wpAny P .any ops Q fuel listed a w := by
  intro fuel
  induction fuel with
  | zero =>
    intro listed a w hc hI
    have hr : Region.ready .any ops listed = [] := by
      rw [List.eq_nil_iff_forall_not_mem]
      intro i hi
      obtain ⟨h0, _⟩ := mem_ready.1 hi
      have : false ∈ listed.toList := by
        rcases Nat.lt_or_ge i listed.size with h' | h'
        · simp [h'] at h0; rw [← h0]; simp
        · simp [Array.getElem?_eq_none h'] at h0
      have := List.count_pos_iff.2 this
      omega
    exact ⟨hr, hend _ _ _ hI (all_listed hb hr)⟩
  | succ fuel ih =>
    intro listed a w hc hI
    refine ⟨fun hr => hend _ _ _ hI (all_listed hb hr), fun i hi => ?_⟩
    obtain ⟨h0, o, ho, hall⟩ := mem_ready.1 hi
    refine wpOp_mono (fun a' w' h' => ih _ a' w' ?_ h') (hstep _ _ _ _ _ hI ho h0 hall)
    have h1 : listed.toList[i]? = some false := by
      rcases Nat.lt_or_ge i listed.size with h' | h'
      · simp [h'] at h0; simp [h', h0]
      · simp [Array.getElem?_eq_none h'] at h0
    have := count_set _ _ h1
    simp only [Array.toList_setIfInBounds]
    omega
end
/-! Who waits for whom. -/
theorem fold_bit (A : Array Nat) (i : Nat) : ∀ (l : List Edge) (s : Nat), (l.foldl (fun s e => if Region.binds .any e then s ||| 2 ^ e.on ||| A.getD e.on 0 else s) s).testBit i = true →
    s.testBit i = true ∨ ∃ e ∈ l, Region.binds .any e = true ∧ (e.on = i ∨ (A.getD e.on 0).testBit i = true)
  | [], s, h => Or.inl h
  | e :: l, s, h => by
    rw [List.foldl_cons] at h
    rcases fold_bit A i l _ h with h | ⟨e', h1, h2⟩
    · by_cases hb : Region.binds .any e = true
      · rw [if_pos hb, Nat.testBit_or, Nat.testBit_or] at h
        simp only [Bool.or_eq_true] at h
        rcases h with (h | h) | h
        · exact Or.inl h
        · rw [Nat.testBit_two_pow] at h
          exact Or.inr ⟨e, by simp, hb, Or.inl (by simpa using h)⟩
        · exact Or.inr ⟨e, by simp, hb, Or.inr h⟩
      · rw [if_neg hb] at h; exact Or.inl h
    · exact Or.inr ⟨e', by simp [h1], h2⟩
def BP (L : List Oper) (A : Array Nat) : Prop := ∀ j i, (A.getD j 0).testBit i = true → ∃ o, L[j]? = some o ∧ ∃ e ∈ o.after, Region.binds .any e = true ∧ (e.on = i ∨ (e.on < j ∧ (A.getD e.on 0).testBit i = true))
theorem before_go (L : List Oper) : ∀ (l : List Oper) (A : Array Nat), L = L.take A.size ++ l → A.size ≤ L.length → BP L A →
    BP L (l.foldl (fun acc o => acc.push (o.after.foldl (fun s e => if Region.binds .any e then s ||| 2 ^ e.on ||| acc.getD e.on 0 else s) 0)) A)
  | [], A, _, _, h => h
  | o :: l, A, hL, hle, h => by
    rw [List.foldl_cons]
    have hlen : A.size < L.length := by
      have := congrArg List.length hL
      simp at this
      omega
    have ho : L[A.size]? = some o := by rw [hL, List.getElem?_append_right (by simp; omega)]; simp [Nat.min_eq_left hle]
    refine before_go L l _ ?_ (by simp; omega) ?_
    · rw [Array.size_push, List.take_add_one, ho]
      simp only [Option.toList_some, List.append_assoc, List.singleton_append]
      exact hL
    · intro j i hb
      rcases Nat.lt_trichotomy j A.size with hj | hj | hj
      · have e1 : ∀ x m, m < A.size → (A.push x).getD m 0 = A.getD m 0 := fun x m hm => by
          simp only [Array.getD_eq_getD_getElem?, Array.getElem?_push, if_neg (show ¬ m = A.size by omega)]
        rw [e1 _ j hj] at hb
        obtain ⟨o', h1, e, h2, h3, h4⟩ := h j i hb
        refine ⟨o', h1, e, h2, h3, h4.imp id (fun ⟨a, b⟩ => ⟨a, by rw [e1 _ _ (by omega)]; exact b⟩)⟩
      · subst hj
        have e2 : ∀ x, (A.push x).getD A.size 0 = x := fun x => by simp
        rw [e2, ← Array.foldl_toList] at hb
        rcases fold_bit A i _ _ hb with h0 | ⟨e, h1, h2, h3⟩
        · simp at h0
        · refine ⟨o, ho, e, by simpa using h1, h2, h3.imp id (fun h5 => ?_)⟩
          have h6 : e.on < A.size := by
            rcases Nat.lt_or_ge e.on A.size with h' | h'
            · exact h'
            · simp [Array.getD_eq_getD_getElem?, Array.getElem?_eq_none h'] at h5
          refine ⟨h6, ?_⟩
          simp only [Array.getD_eq_getD_getElem?, Array.getElem?_push, if_neg (show ¬ e.on = A.size by omega)]
          simpa [Array.getD_eq_getD_getElem?] using h5
      · exfalso
        rw [Array.getD_eq_getD_getElem?, Array.getElem?_eq_none (by simp; omega)] at hb
        simp at hb
theorem before_bp (ops : Array Oper) : BP ops.toList (Region.before ops) := by
  unfold Region.before
  rw [← Array.foldl_toList]
  exact before_go ops.toList ops.toList #[] (by simp) (by simp) (fun j i h => by simp at h)
/-- What an operation waits for, by however many steps, has come up. -/
theorem waits {ops : Array Oper} {listed : Array Bool} (hs : ∀ j o, ops[j]? = some o → listed.getD j false = true → ∀ e ∈ o.after, Region.binds .any e = true → listed.getD e.on false = true) :
    ∀ (j : Nat) (o : Oper), ops[j]? = some o → (∀ e ∈ o.after, Region.binds .any e = true → listed.getD e.on false = true) → ∀ i, ((bef ops).getD j 0).testBit i = true → listed.getD i false = true := by
  intro j
  induction j using Nat.strongRecOn with
  | ind j ih =>
    intro o ho hall i hb
    have hb' : ((Region.before ops).getD j 0).testBit i = true := by
      have : (bef ops).getD j 0 = (Region.before ops).getD j 0 := by
        unfold bef
        rw [Go.CheckFast.beforeF_eq]
        simp [List.getD_eq_getElem?_getD, Array.getD_eq_getD_getElem?]
      rw [← this]; exact hb
    obtain ⟨o', h1, e, h2, h3, h4⟩ := before_bp ops j i hb'
    have : o' = o := by rw [Array.getElem?_toList, ho] at h1; cases h1; rfl
    subst this
    rcases h4 with h4 | ⟨h4, h5⟩
    · rw [← h4]; exact hall e h2 h3
    · have hel := hall e h2 h3
      have hes : e.on < ops.size := by have := (Array.getElem?_eq_some_iff.1 ho).1; omega
      refine ih e.on h4 ops[e.on] (by simp [hes]) (hs e.on _ (by simp [hes]) hel) i ?_
      unfold bef
      rw [Go.CheckFast.beforeF_eq]
      simpa [List.getD_eq_getElem?_getD, Array.getD_eq_getD_getElem?] using h5
/-! Not at odds. -/
def dl (f : Nat → Nat × Nat) : Nat → List (Nat × Nat)
  | 0 => []
  | i + 1 => f i :: dl f i
theorem odds_spec {f : Nat → Nat × Nat} {b r w : Nat} : ∀ {j : Nat}, odds b r w j (dl f j) = true → ∀ i, i < j → b.testBit i = true ∨ (Nat.land w (Nat.lor (f i).1 (f i).2) = 0 ∧ Nat.land (f i).2 r = 0)
  | 0, _, i, hi => by omega
  | j + 1, h, i, hi => by
    simp only [dl, odds, Nat.pred_succ] at h
    obtain ⟨h1, h2⟩ : (b.testBit j || (Nat.beq (Nat.land w (Nat.lor (f j).1 (f j).2)) 0 && Nat.beq (Nat.land (f j).2 r) 0)) = true ∧ odds b r w j (dl f j) = true := by
      revert h
      cases (b.testBit j || (Nat.beq (Nat.land w (Nat.lor (f j).1 (f j).2)) 0 && Nat.beq (Nat.land (f j).2 r) 0)) <;> intro h <;> first | cases h | exact ⟨rfl, h⟩
    by_cases e : i = j
    · subst e
      simp only [Bool.or_eq_true, Bool.and_eq_true, Nat.beq_eq] at h1
      exact h1
    · exact odds_spec h2 i (by omega)
theorem drawn_spec {f : Nat → Nat × Nat} {bs : List Nat} : ∀ {n : Nat}, drawn bs n (dl f n) = true → ∀ i j, i < j → j < n → (bs.getD j 0).testBit i = true ∨ (Nat.land (f j).2 (Nat.lor (f i).1 (f i).2) = 0 ∧ Nat.land (f i).2 (f j).1 = 0)
  | 0, _, i, j, _, hj => by omega
  | n + 1, h, i, j, hi, hj => by
    simp only [dl, drawn, Nat.pred_succ] at h
    obtain ⟨h1, h2⟩ : odds (bs.getD n 0) (f n).1 (f n).2 n (dl f n) = true ∧ drawn bs n (dl f n) = true := by
      revert h
      cases odds (bs.getD n 0) (f n).1 (f n).2 n (dl f n) <;> intro h <;> first | cases h | exact ⟨rfl, h⟩
    by_cases e : j = n
    · subst e
      exact odds_spec h1 i hi
    · exact drawn_spec h2 i j hi (by omega)
theorem land_zero {a b i : Nat} (h : Nat.land a b = 0) (ha : tb a i) (hb : tb b i) : False := by
  have : (a &&& b).testBit i = true := by rw [Nat.testBit_and, ha, hb]; rfl
  rw [show a &&& b = Nat.land a b from rfl, h] at this
  simp at this
/-- Of two that are at odds at a place one waits for the other. -/
theorem order {ops : Array Oper} {listed : Array Bool} {f : Nat → Nat × Nat} (hd : drawn (bef ops) ops.size (dl f ops.size) = true)
    (hs : ∀ j o, ops[j]? = some o → listed.getD j false = true → ∀ e ∈ o.after, Region.binds .any e = true → listed.getD e.on false = true)
    {i : Nat} {o : Oper} (ho : ops[i]? = some o) (hu : ¬ listed.getD i false = true) (hall : ∀ e ∈ o.after, Region.binds .any e = true → listed.getD e.on false = true)
    {m : Nat} (hm : tb (f i).1 m ∨ tb (f i).2 m) : ∀ j, j < ops.size → tb (f j).2 m → (listed.getD j false = true ↔ j < i) := by
  intro j hj hw
  have hi := (Array.getElem?_eq_some_iff.1 ho).1
  rcases Nat.lt_trichotomy j i with h | h | h
  · refine ⟨fun _ => h, fun _ => ?_⟩
    rcases drawn_spec hd j i h hi with h1 | ⟨h1, h2⟩
    · exact waits hs i o ho hall j h1
    · rcases hm with hm | hm
      · exact (land_zero h2 hw hm).elim
      · exact (land_zero h1 hm (tb_or.2 (Or.inr hw))).elim
  · subst h
    exact ⟨fun h => absurd h hu, fun h => absurd h (by omega)⟩
  · refine ⟨fun hl => ?_, fun h' => absurd h' (by omega)⟩
    exfalso
    rcases drawn_spec hd i j h hj with h1 | ⟨h1, h2⟩
    · exact hu (waits hs j ops[j] (by simp [hj]) (hs j _ (by simp [hj]) hl) i h1)
    · exact land_zero h1 hw (tb_or.2 hm)
theorem opsL_states {P : Program} {cf : Nat → List Value → HT → Nat → Option R5} {ops : Array Oper} : ∀ (l : List Oper) (s s' : RL), opsL P cf ops l s = some s' → ∃ st : Nat → RL, st 0 = s ∧ st l.length = s' ∧ ∀ i o, l[i]? = some o → StepR P cf ops (st i) o (st (i + 1))
  | [], s, s', e => by cases e; exact ⟨fun _ => s, rfl, rfl, fun i o h => by cases h⟩
  | o :: l, s, s', e => by
    obtain ⟨s1, h1, e⟩ := opsL_step e
    obtain ⟨st, h2, h3, h4⟩ := opsL_states l s1 s' e
    refine ⟨fun i => match i with | 0 => s | i + 1 => st i, rfl, h3, fun i o' h => ?_⟩
    cases i with
    | zero => simp at h; subst h; show StepR P cf ops s o (st 0); rw [h2]; exact h1
    | succ i => exact h4 i o' (by simpa using h)
end E
end Go.Proofs.YtepfokoepibkcaaGreat

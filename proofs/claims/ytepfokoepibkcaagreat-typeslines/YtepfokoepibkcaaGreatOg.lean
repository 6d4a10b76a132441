/-
  A region whose operations come in any order: what each of them yields, and that none of them spoils what another has yielded, said once for each operation.
-/
import Derived.RegionTactic
namespace Go.Proofs.YtepfokoepibkcaaGreat
section
variable {P : Program} {ops : Array Oper} {Q : Exit → Act → World → Prop} {md : Region.Mode}
theorem count_set : ∀ (l : List Bool) (i : Nat), l[i]? = some false → (l.set i true).count false + 1 = l.count false
  | [], _, h => by cases h
  | b :: l, 0, h => by simp at h; subst h; simp
  | b :: l, i + 1, h => by
    have := count_set l i (by simpa using h)
    simp only [List.set_cons_succ, List.count_cons]
    omega
/-- Edges go back. -/
def edgesBack (md : Region.Mode) (ops : Array Oper) : Bool :=
  (List.range ops.size).all fun i => match ops[i]? with | some o => o.after.all (fun e => !Region.binds md e || decide (e.on < i)) | none => true
theorem edgesBack_spec (h : edgesBack md ops = true) {i : Nat} {o : Oper} (ho : ops[i]? = some o) : ∀ e ∈ o.after, Region.binds md e = true → e.on < i := by
  intro e he hb
  have h1 := List.all_eq_true.1 h i (List.mem_range.2 (Array.getElem?_eq_some_iff.1 ho).1)
  simp only [ho] at h1
  have h2 := Array.all_eq_true_iff_forall_mem.1 h1 e he
  simpa [hb] using h2
theorem all_listed (hb : edgesBack md ops = true) {listed : Array Bool} (hr : Region.ready md ops listed = []) : ∀ i, i < ops.size → listed.getD i true = true := by
  intro i
  induction i using Nat.strongRecOn with
  | ind i ih =>
    intro hi
    cases hl : listed.getD i true with
    | true => rfl
    | false =>
      have hm : i ∈ Region.ready md ops listed := mem_ready.2 ⟨hl, ops[i], by simp [hi], fun e he hbd => by
        have hlt := edgesBack_spec hb (i := i) (o := ops[i]) (by simp [hi]) e he hbd
        have h1 := ih e.on hlt (Nat.lt_trans hlt hi)
        have hsz : i < listed.size := by
          rcases Nat.lt_or_ge i listed.size with h' | h'
          · exact h'
          · simp [Array.getElem?_eq_none h'] at hl
        have : e.on < listed.size := Nat.lt_trans hlt hsz
        simpa [this] using h1⟩
      rw [hr] at hm; cases hm
/-- An invariant over what has come up. -/
theorem wpAny_inv (I : Array Bool → Act → World → Prop) (hb : edgesBack md ops = true)
    (hstep : ∀ listed a w i o, I listed a w → ops[i]? = some o → listed.getD i true = false → (∀ e ∈ o.after, Region.binds md e = true → listed.getD e.on false = true) → wpOp P ops Q i (I (listed.setIfInBounds i true)) a w)
    (hend : ∀ listed a w, I listed a w → (∀ i, i < ops.size → listed.getD i true = true) → Q .normal a w) :
    ∀ (fuel : Nat) (listed : Array Bool) (a : Act) (w : World), listed.toList.count false ≤ fuel → I listed a w → wpAny P md ops Q fuel listed a w := by
  intro fuel
  induction fuel with
  | zero =>
    intro listed a w hc hI
    have hr : Region.ready md ops listed = [] := by
      rw [List.eq_nil_iff_forall_not_mem]
      intro i hi
      obtain ⟨h0, _⟩ := mem_ready.1 hi
      have : false ∈ listed.toList := by
        rcases Nat.lt_or_ge i listed.size with h' | h'
        · simp [h'] at h0; rw [← h0]; simp
        · simp [Array.getElem?_eq_none h'] at h0
      have := List.count_pos_iff.2 this
      omega
    exact ⟨hr, hend _ _ _ hI (all_listed hb hr)⟩
  | succ fuel ih =>
    intro listed a w hc hI
    refine ⟨fun hr => hend _ _ _ hI (all_listed hb hr), fun i hi => ?_⟩
    obtain ⟨h0, o, ho, hall⟩ := mem_ready.1 hi
    refine wpOp_mono (fun a' w' h' => ih _ a' w' ?_ h') (hstep _ _ _ _ _ hI ho h0 hall)
    have h1 : listed.toList[i]? = some false := by
      rcases Nat.lt_or_ge i listed.size with h' | h'
      · simp [h'] at h0; simp [h', h0]
      · simp [Array.getElem?_eq_none h'] at h0
    have := count_set _ _ h1
    simp only [Array.toList_setIfInBounds]
    omega
/-- What each operation yields. -/
def upd (f : Nat → Value) (i : Nat) (v : Value) : Nat → Value := fun j => if j = i then v else f j
/-- One operation, whatever of the others has come up: it yields v with R i v, keeps G and each R of another. -/
def OgStep (P : Program) (md : Region.Mode) (ops : Array Oper) (Q : Exit → Act → World → Prop) (A : (Nat → Value) → Act) (G : (Nat → Value) → World → Prop) (R : Nat → (Nat → Value) → World → Prop) (i : Nat) (o : Oper) : Prop :=
  ∀ f w, G f w → (∀ e ∈ o.after, Region.binds md e = true → R e.on f w) → ∀ K : Act → World → Prop,
    (∀ v w', G (upd f i v) w' → R i (upd f i v) w' → (∀ j, j ≠ i → R j f w → R j (upd f i v) w') → K ((A f).put o.dst v) w') →
    if Region.wanted o (yielded ops (A f).tmps) = true then Oper.wp P o (A f) w K Q else K ((A f).put o.dst undef) w
theorem wpAny_og (A : (Nat → Value) → Act) (G : (Nat → Value) → World → Prop) (R : Nat → (Nat → Value) → World → Prop) (hb : edgesBack md ops = true)
    (hA : ∀ i o, ops[i]? = some o → ∀ f v, (A f).put o.dst v = A (upd f i v))
    (hs : ∀ i o, ops[i]? = some o → OgStep P md ops Q A G R i o)
    (hend : ∀ f w, G f w → (∀ i, i < ops.size → R i f w) → Q .normal (A f) w)
    (f : Nat → Value) (w : World) (hG : G f w) : wpAny P md ops Q ops.size (Array.replicate ops.size false) (A f) w := by
  refine wpAny_inv (fun listed a w => listed.size = ops.size ∧ ∃ f, G f w ∧ a = A f ∧ ∀ i, listed.getD i false = true → R i f w) hb ?_ ?_ _ _ _ _ ?_ ⟨by simp, f, hG, rfl, fun i hi => ?_⟩
  · rintro listed a w i o ⟨hz, f, hG, rfl, hR⟩ ho h0 hall
    refine wpOp_step ho (fun K hK => hs i o ho f w hG (fun e he hbd => hR _ (hall e he hbd)) K (fun v w' hG' hi' hj' => hK _ _ ⟨by simpa using hz, upd f i v, hG', hA i o ho f v, fun j hj => ?_⟩))
    by_cases hji : j = i
    · subst hji; exact hi'
    · rw [getD_set_ne false (Ne.symm hji)] at hj
      exact hj' j hji (hR j hj)
  · rintro listed a w ⟨hz, f, hG, rfl, hR⟩ hall
    refine hend f w hG (fun i hi => hR i ?_)
    have h1 := hall i hi
    have : i < listed.size := by omega
    simpa [this] using h1
  · simp
  · exfalso
    rcases Nat.lt_or_ge i ops.size with h' | h'
    · simp [h'] at hi
    · simp [h'] at hi

/-- Something of each operation, with its number. -/
def Each (F : Nat → Oper → Prop) : Nat → List Oper → Prop
  | _, [] => True
  | i, o :: l => F i o ∧ Each F (i + 1) l
theorem Each.spec {F : Nat → Oper → Prop} : ∀ (l : List Oper) (n : Nat), Each F n l → ∀ i o, l[i]? = some o → F (n + i) o
  | [], _, _, i, o, h => by cases h
  | x :: l, n, hh, 0, o, h => by simp at h; subst h; exact hh.1
  | x :: l, n, hh, i + 1, o, h => by
    have := Each.spec l (n + 1) hh.2 i o (by simpa using h)
    rwa [show n + (i + 1) = n + 1 + i by omega]
/-- The frame in which each operation's slot holds what f says. -/
def putAll (f : Nat → Value) : Nat → List Oper → Act → Act
  | _, [], a => a
  | i, o :: l, a => putAll f (i + 1) l (a.put o.dst (f i))
theorem putAll_congr {f g : Nat → Value} : ∀ (l : List Oper) (n : Nat) (a : Act), (∀ j, n ≤ j → f j = g j) → putAll f n l a = putAll g n l a
  | [], _, _, _ => rfl
  | o :: l, n, a, h => by
    unfold putAll
    rw [h n (Nat.le_refl _)]
    exact putAll_congr l (n + 1) _ (fun j hj => h j (by omega))
/-- No two operations write one slot. -/
def dstsApart : List Oper → Bool
  | [] => true
  | o :: l => (match o.dst with | none => true | some d => l.all fun x => x.dst != some d) && dstsApart l
theorem putAll_out (f : Nat → Value) (v : Value) (dst : Option Tmp) : ∀ (l : List Oper) (n : Nat) (a : Act), (∀ d, dst = some d → ∀ x ∈ l, x.dst ≠ some d) → (putAll f n l a).put dst v = putAll f n l (a.put dst v)
  | [], _, _, _ => rfl
  | o :: l, n, a, h => by
    unfold putAll
    rw [putAll_out f v dst l (n + 1) _ (fun d hd x hx => h d hd x (List.mem_cons_of_mem _ hx))]
    rw [Act.put_comm a (x := o.dst) (y := dst) (f n) v (fun d hd he => h d he o List.mem_cons_self hd)]
theorem put_twice (a : Act) (d : Option Tmp) (u v : Value) : (a.put d u).put d v = a.put d v := by
  cases d with
  | none => rfl
  | some d => simp [Act.put]
theorem putAll_put (v : Value) : ∀ (l : List Oper) (n : Nat) (f : Nat → Value) (a : Act), dstsApart l = true → ∀ i o, l[i]? = some o → (putAll f n l a).put o.dst v = putAll (upd f (n + i) v) n l a
  | [], _, _, _, _, i, o, h => by cases h
  | x :: l, n, f, a, hd, 0, o, h => by
    simp at h; subst h
    simp only [dstsApart, Bool.and_eq_true] at hd
    unfold putAll
    rw [putAll_out f v x.dst l (n + 1) _ (fun d hx y hy => by
      have h1 := hd.1
      rw [hx] at h1
      have := List.all_eq_true.1 h1 y hy
      simpa using this)]
    rw [put_twice]
    have e : upd f (n + 0) v n = v := by simp [upd]
    rw [e]
    exact putAll_congr l (n + 1) _ (fun j hj => by simp only [upd]; rw [if_neg (by omega)])
  | x :: l, n, f, a, hd, i + 1, o, h => by
    simp only [dstsApart, Bool.and_eq_true] at hd
    unfold putAll
    rw [putAll_put v l (n + 1) f _ hd.2 i o (by simpa using h)]
    have e : upd f (n + (i + 1)) v n = f n := by simp only [upd]; rw [if_neg (by omega)]
    rw [e, show n + 1 + i = n + (i + 1) by omega]
/-- What lies in the slots. -/
def slots (a : Act) (ops : Array Oper) : Nat → Value := fun i => match (ops[i]?).bind (·.dst) with | some d => a.tmps.getD d undef | none => undef
theorem put_self (a : Act) (d : Option Tmp) (v : Value) (h : ∀ t, d = some t → v = a.tmps.getD t undef) : a.put d v = a := by
  cases d with
  | none => rfl
  | some t =>
    have := h t rfl
    subst this
    obtain ⟨ts, ds⟩ := a
    simp only [Act.put]
    congr 1
    apply Array.ext
    · simp
    · intro j h1 h2
      by_cases e : t = j
      · subst e; simp [h2]
      · simp [Array.getElem_setIfInBounds_ne, e, h2]
theorem putAll_self (a : Act) : ∀ (l : List Oper) (n : Nat) (f : Nat → Value), (∀ i o, l[i]? = some o → ∀ t, o.dst = some t → f (n + i) = a.tmps.getD t undef) → putAll f n l a = a
  | [], _, _, _ => rfl
  | o :: l, n, f, h => by
    unfold putAll
    rw [put_self a o.dst (f n) (fun t ht => h 0 o rfl t ht)]
    exact putAll_self a l (n + 1) f (fun i x hx t ht => by
      have := h (i + 1) x (by simpa using hx) t ht
      rwa [show n + (i + 1) = n + 1 + i by omega] at this)
/-- A region that asks for its order, operation by operation. -/
theorem wp_region_og {id : Nat} {l : List Oper} {a : Act} {w : World} (G : (Nat → Value) → World → Prop) (R : Nat → (Nat → Value) → World → Prop) (hm : P.follows .mixedOrders = true)
    (hb : edgesBack .any l.toArray = true) (hd : dstsApart l = true) (hG : G (slots a l.toArray) w.drew)
    (hs : Each (fun i o => OgStep P .any l.toArray Q (fun f => putAll f 0 l a) G R i o) 0 l)
    (hend : ∀ f w, G f w → (∀ i, i < l.length → R i f w) → Q .normal (putAll f 0 l a) w) : (Code.region id l.toArray true).wp P Q a w := by
  refine wp_region_any hm ?_
  have h0 : putAll (slots a l.toArray) 0 l a = a := putAll_self a l 0 _ (fun i o ho t ht => by simp [slots, ho, ht])
  have := wpAny_og (P := P) (Q := Q) (ops := l.toArray) (md := .any) (fun f => putAll f 0 l a) G R hb
    (fun i o ho f v => by have := putAll_put v l 0 f a hd i o (by simpa using ho); simpa using this)
    (fun i o ho => by have := Each.spec l 0 hs i o (by simpa using ho); simpa using this)
    (fun f w hG hR => hend f w hG (fun i hi => hR i (by simpa using hi))) (slots a l.toArray) w.drew hG
  simp only [h0] at this
  exact this
end
end Go.Proofs.YtepfokoepibkcaaGreat


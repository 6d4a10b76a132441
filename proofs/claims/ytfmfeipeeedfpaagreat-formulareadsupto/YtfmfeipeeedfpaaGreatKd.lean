/-
  Frames; a region's operations one behind the other. A region that draws its order: where no two that don't wait for each other are at odds, each order comes to the same. A region that draws its order comes to what was reckoned in one order. One more comes up; all have come up.
-/
import Derived.Test.YtfmfeipeeedfpaaGreatKc
namespace Go.Proofs.YtfmfeipeeedfpaaGreat
namespace E
open Go.CheckFast (force force_eq)
/-- A frame that was reckoned against one of the run. -/
structure FR (k : K) (f : FT) (a : Act) : Prop where
  m : f.m = a.tmps.size
  le : f.m ≤ 256
  get : ∀ t, VX k (fget f t) (a.tmps.getD t undef)
  df : a.defers = []
theorem ev_of {k : K} {f : FT} {a : Act} (y : Operand) (h : ∀ t, y = .tmp t → VX k (fget f t) (a.tmps.getD t undef)) : VX k (evo f y) (a.eval y) := by
  cases y with
  | tmp t => exact h t rfl
  | const v =>
    show VX k (bif cok v then v else unk) v
    cases hc : cok v with
    | true => exact cok_vx hc
    | false => exact unk_vx
  | global g => exact unk_vx
  | func g => exact VX.func (cs := []) (us := []) rfl
theorem FR.ev {k : K} {f : FT} {a : Act} (h : FR k f a) (y : Operand) : VX k (evo f y) (a.eval y) := ev_of y fun t _ => h.get t
theorem FR.mono {k k' : K} {f : FT} {a : Act} (h : FR k f a) (e : ∀ i p, k i = some p → k' i = some p) : FR k' f a := ⟨h.m, h.le, fun t => (h.get t).mono e, h.df⟩
theorem put_m (f : FT) (d : Option Tmp) (v : Value) : (put f d v).m = f.m := by
  cases d with
  | none => rfl
  | some t => exact fput_m f t v
theorem put_sz (a : Act) (d : Option Tmp) (u : Value) : (a.put d u).tmps.size = a.tmps.size := by
  cases d with
  | none => rfl
  | some t => simp [Act.put]
theorem put_df (a : Act) (d : Option Tmp) (u : Value) : (a.put d u).defers = a.defers := by
  cases d with
  | none => rfl
  | some t => rfl
/-- One slot after it was written. -/
theorem put_get {k : K} {f : FT} {a : Act} {d : Option Tmp} {v u : Value} (hm : f.m = a.tmps.size) (hle : f.m ≤ 256) (hv : VX k v u) (t : Nat) (h : VX k (fget f t) (a.tmps.getD t undef)) : VX k (fget (put f d v) t) ((a.put d u).tmps.getD t undef) := by
  cases d with
  | none => exact h
  | some s =>
    simp only [put, Act.put]
    by_cases e : s = t
    · subst e
      by_cases hs : s < f.m
      · rw [fget_same v hle hs]
        have : s < a.tmps.size := hm ▸ hs
        simpa [this] using hv
      · have h1 : fput f s v = f := by unfold fput; rw [blt_f hs]; rfl
        rw [h1]
        have : ¬ s < a.tmps.size := hm ▸ hs
        simpa [this] using h
    · rw [fget_ne v hle e]
      have : (a.tmps.setIfInBounds s u).getD t undef = a.tmps.getD t undef := by
        simp [Array.getD_eq_getD_getElem?, Array.getElem?_setIfInBounds_ne e]
      rw [this]
      exact h
theorem FR.put {k : K} {f : FT} {a : Act} {v u : Value} (h : FR k f a) (d : Option Tmp) (hv : VX k v u) : FR k (E.put f d v) (a.put d u) :=
  ⟨by rw [put_m, put_sz]; exact h.m, by rw [put_m]; exact h.le, fun t => put_get h.m h.le hv t (h.get t), by rw [put_df]; exact h.df⟩
theorem want_of {k : K} {f : FT} {a : Act} {ops : Array Oper} {o : Oper} {b : Bool} (e : want f ops o.guard = some b)
    (h : ∀ j w t, o.guard = some (j, w) → (ops[j]?).bind (·.dst) = some t → VX k (fget f t) (a.tmps.getD t undef)) : Region.wanted o (yielded ops a.tmps) = b := by
  unfold want at e
  unfold Region.wanted
  split at e
  · rename_i hg; cases e; rw [hg]
  · rename_i j w hg
    rw [hg]
    simp only
    split at e
    · rename_i t ht
      have h1 := h j w t hg ht
      unfold yielded
      rw [ht]
      simp only [Option.bind_some]
      split at e
      · rename_i c hc
        cases e
        rw [hc] at h1
        have h2 := h1.bool_inv
        rw [Array.getD_eq_getD_getElem?] at h2
        cases h3 : a.tmps[t]? with
        | none => rw [h3] at h2; cases h2
        | some u => rw [h3] at h2; simp at h2; subst h2; cases c <;> cases w <;> rfl
      · rename_i vs hc
        cases e
        rw [hc] at h1
        obtain ⟨us, h2, _⟩ := h1.tuple_inv
        rw [Array.getD_eq_getD_getElem?] at h2
        cases h3 : a.tmps[t]? with
        | none => cases w <;> rfl
        | some u => rw [h3] at h2; simp at h2; subst h2; cases w <;> rfl
      · cases e
    · cases e
/-- One operation of a region. -/
def StepR (P : Program) (cf : Nat → List Value → HT → Nat → Option R5) (ops : Array Oper) (s : RL) (o : Oper) (s1 : RL) : Prop :=
  (want s.f ops o.guard = some true ∧ ∃ x, op1 P cf o.op s.f s.h s.n = some x ∧ s1 = ⟨put s.f o.dst x.v, x.h, x.n, Nat.lor s.r x.r, Nat.lor s.w x.w, (x.r, x.w) :: s.l⟩) ∨
  (want s.f ops o.guard = some false ∧ s1 = ⟨put s.f o.dst undef, s.h, s.n, s.r, s.w, (0, 0) :: s.l⟩)
theorem opsL_step {P : Program} {cf : Nat → List Value → HT → Nat → Option R5} {ops : Array Oper} {o : Oper} {rest : List Oper} {s s' : RL} (e : opsL P cf ops (o :: rest) s = some s') : ∃ s1, StepR P cf ops s o s1 ∧ opsL P cf ops rest s1 = some s' := by
  simp only [opsL] at e
  obtain ⟨b, hb, e⟩ := bind_some e
  cases b with
  | true =>
    obtain ⟨x, hx, e⟩ := bind_some (x := op1 P cf o.op s.f s.h s.n) e
    rw [force_eq, force_eq, force_eq] at e
    exact ⟨_, Or.inl ⟨hb, x, hx, rfl⟩, e⟩
  | false => exact ⟨_, Or.inr ⟨hb, rfl⟩, e⟩
theorem Ss.congr {h h' : HT} {n n' r w r' w' : Nat} (s : Ss h n h' n' r w) (hr : ∀ i, tb r i ↔ tb r' i) (hw : ∀ i, tb w i ↔ tb w' i) : Ss h n h' n' r' w' :=
  ⟨s.le, s.nn, fun i hi => s.same i (fun h => hi ((hw i).1 h)), fun i hi hn => (hr i).1 (s.old i ((hw i).2 hi) hn), fun i hi => s.lt i ((hw i).2 hi), s.back⟩
theorem Sd.congr {h h' : HT} {n n' r w r' w' : Nat} {k k' : K} {W W' : World} (d : Sd h n h' n' r w k W k' W') (hr : ∀ i, tb r i ↔ tb r' i) (hw : ∀ i, tb w i ↔ tb w' i) : Sd h n h' n' r' w' k W k' W' :=
  ⟨d.ext, d.dom, d.rep.sub (fun i hi => by rw [tb_or] at hi ⊢; exact hi.imp (hr i).2 (hw i).2), fun b hb hj => d.frm b hb (fun j z hj' => hj j z ((hw j).1 hj')),
    fun i b z h1 h2 h3 h4 => (d.fresh i b z h1 h2 h3 h4).imp id (fun ⟨j, z', a, b⟩ => ⟨j, z', (hw j).1 a, b⟩), d.size, d.os, d.tape, d.output, d.fz⟩
/-- What is said of a step. -/
theorem step_ok {P : Program} {cf : Nat → List Value → HT → Nat → Option R5} {ops : Array Oper} {o : Oper} {s s1 : RL} (hcf : Cs P cf) (nn : ∀ i, s.n ≤ i → hget s.h i = none) (e : StepR P cf ops s o s1) :
    ∃ r w v, s1.l = (r, w) :: s.l ∧ s1.f = put s.f o.dst v ∧ (∀ i, tb s1.r i ↔ tb s.r i ∨ tb r i) ∧ (∀ i, tb s1.w i ↔ tb s.w i ∨ tb w i) ∧ Ss s.h s.n s1.h s1.n r w ∧
      ∀ (k : K) (W : World) (a : Act) (K' : Act → World → Prop) (Q : Exit → Act → World → Prop), s.f.m = a.tmps.size → (∀ y ∈ o.op.operands.toList, VX k (evo s.f y) (a.eval y)) → (∀ j w t, o.guard = some (j, w) → (ops[j]?).bind (·.dst) = some t → VX k (fget s.f t) (a.tmps.getD t undef)) →
        HR k s.h W r → (∀ i, s.n ≤ i → i < s1.n → k i = none) → (∀ u W' k', Sd s.h s.n s1.h s1.n r w k W k' W' → VX k' v u → K' (a.put o.dst u) W') →
        if Region.wanted o (yielded ops a.tmps) = true then o.wp P a W K' Q else K' (a.put o.dst undef) W := by
  rcases e with ⟨hw, x, hx, rfl⟩ | ⟨hw, rfl⟩
  · have ho := s_op hcf nn hx
    refine ⟨x.r, x.w, x.v, rfl, rfl, fun i => tb_or, fun i => tb_or, ho.ss, fun k W a K' Q _ hop hg H hnew hk => ?_⟩
    rw [want_of hw hg, if_pos rfl]
    exact ho.ok k W a K' Q hop H hnew hk
  · refine ⟨0, 0, undef, rfl, rfl, fun i => ⟨Or.inl, fun h => h.resolve_right tb_zero⟩, fun i => ⟨Or.inl, fun h => h.resolve_right tb_zero⟩, Ss.refl _ _, fun k W a K' Q _ hop hg H hnew hk => ?_⟩
    rw [want_of hw hg, if_neg (by simp)]
    exact hk undef W k (Sd.refl _ _ _ _) undef_vx
/-- One behind the other. -/
theorem list_ok {P : Program} {cf : Nat → List Value → HT → Nat → Option R5} {ops : Array Oper} (hcf : Cs P cf) : ∀ (l : List Oper) (s s' : RL), (∀ i, s.n ≤ i → hget s.h i = none) → opsL P cf ops l s = some s' →
    ∃ r w, (∀ i, tb s'.r i ↔ tb s.r i ∨ tb r i) ∧ (∀ i, tb s'.w i ↔ tb s.w i ∨ tb w i) ∧ Ss s.h s.n s'.h s'.n r w ∧
      ∀ (k : K) (W : World) (a : Act) (Q : Exit → Act → World → Prop), FR k s.f a → HR k s.h W r → (∀ i, s.n ≤ i → i < s'.n → k i = none) → (∀ k' W' a', Sd s.h s.n s'.h s'.n r w k W k' W' → FR k' s'.f a' → Q .normal a' W') → wpList P ops Q l a W
  | [], s, s', nn, e => by
    cases e
    exact ⟨0, 0, fun i => ⟨Or.inl, fun h => h.resolve_right tb_zero⟩, fun i => ⟨Or.inl, fun h => h.resolve_right tb_zero⟩, Ss.refl _ _, fun k W a Q hf _ _ hk => wpList_nil (hk k W a (Sd.refl _ _ _ _) hf)⟩
  | o :: l, s, s', nn, e => by
    obtain ⟨s1, h1, e⟩ := opsL_step e
    obtain ⟨r1, w1, v, _, hf1, hr1, hw1, ss1, ok1⟩ := step_ok hcf nn h1
    obtain ⟨r2, w2, hr2, hw2, ss2, ok2⟩ := list_ok hcf l s1 s' (ss1.nn nn) e
    refine ⟨Nat.lor r1 r2, Nat.lor w1 w2, fun i => by rw [hr2, hr1, tb_or, or_assoc], fun i => by rw [hw2, hw1, tb_or, or_assoc], ss1.trans ss2, fun k W a Q hf H hnew hk => ?_⟩
    refine wpList_step fun K hK => ?_
    refine ok1 k W a K Q hf.m (fun y _ => hf.ev y) (fun j w t _ _ => hf.get t) (H.sub fun i hi => tb_or.2 (Or.inl hi)) (fun i h1 h2 => hnew i h1 (Nat.lt_of_lt_of_le h2 ss2.le)) (fun u W' k' hd hv => hK _ _ ?_)
    have H2 := Sd.next ss1 hd nn H
    refine ok2 k' W' _ Q (by rw [hf1]; exact (hf.mono hd.ext).put o.dst hv) (H2.sub fun i hi => tb_or.2 (Or.inr hi)) (fun i h1 h2 => by rw [hd.dom i (Or.inr h1)]; exact hnew i (Nat.le_trans ss1.le h1) h2) (fun k2 W2 a2 hd2 hf2 => hk k2 W2 a2 (Sd.trans ss1 hd ss2 hd2 nn H) hf2)
end E
end Go.Proofs.YtfmfeipeeedfpaaGreat
namespace Go.Proofs.YtfmfeipeeedfpaaGreat
namespace E
open Go.CheckFast (force force_eq)
section
variable {P : Program} {ops : Array Oper} {Q : Exit → Act → World → Prop}
theorem count_set : ∀ (l : List Bool) (i : Nat), l[i]? = some false → (l.set i true).count false + 1 = l.count false
  | [], _, h => by cases h
  | b :: l, 0, h => by simp at h; subst h; simp
  | b :: l, i + 1, h => by
    have := count_set l i (by simpa using h)
    simp only [List.set_cons_succ, List.count_cons]
    omega
theorem edgesBack_spec (h : edgesBack ops = true) {i : Nat} {o : Oper} (ho : ops[i]? = some o) : ∀ e ∈ o.after, Region.binds .any e = true → e.on < i := by
  intro e he hb
  have h1 := List.all_eq_true.1 h i (List.mem_range.2 (Array.getElem?_eq_some_iff.1 ho).1)
  simp only [ho] at h1
  have h2 := Array.all_eq_true_iff_forall_mem.1 h1 e he
  simpa [hb] using h2
theorem all_listed (hb : edgesBack ops = true) {listed : Array Bool} (hr : Region.ready .any ops listed = []) : ∀ i, i < ops.size → listed.getD i true = true := by
  intro i
  induction i using Nat.strongRecOn with
  | ind i ih =>
    intro hi
    cases hl : listed.getD i true with
    | true => rfl
    | false =>
      have hm : i ∈ Region.ready .any ops listed := mem_ready.2 ⟨hl, ops[i], by simp [hi], fun e he hbd => by
        have hlt := edgesBack_spec hb (i := i) (o := ops[i]) (by simp [hi]) e he hbd
        have h1 := ih e.on hlt (Nat.lt_trans hlt hi)
        have hsz : i < listed.size := by
          rcases Nat.lt_or_ge i listed.size with h' | h'
          · exact h'
          · simp [Array.getElem?_eq_none h'] at hl
        have : e.on < listed.size := Nat.lt_trans hlt hsz
        simpa [this] using h1⟩
      rw [hr] at hm; cases hm
/-- An invariant over what has come up. -/
theorem wpAny_inv (I : Array Bool → Act → World → Prop) (hb : edgesBack ops = true)
    (hstep : ∀ listed a w i o, I listed a w → ops[i]? = some o → listed.getD i true = false → (∀ e ∈ o.after, Region.binds .any e = true → listed.getD e.on false = true) → wpOp P ops Q i (I (listed.setIfInBounds i true)) a w)
    (hend : ∀ listed a w, I listed a w → (∀ i, i < ops.size → listed.getD i true = true) → Q .normal a w) :
    ∀ (fuel : Nat) (listed : Array Bool) (a : Act) (w : World), listed.toList.count false ≤ fuel → I listed a w → wpAny P .any ops Q fuel listed a w := by
  intro fuel
  induction fuel with
  | zero =>
    intro listed a w hc hI
    have hr : Region.ready .any ops listed = [] := by
      rw [List.eq_nil_iff_forall_not_mem]
      intro i hi
      obtain ⟨h0, _⟩ := mem_ready.1 hi
      have : false ∈ listed.toList := by
        rcases Nat.lt_or_ge i listed.size with h' | h'
        · simp [h'] at h0; rw [← h0]; simp
        · simp [Array.getElem?_eq_none h'] at h0
      have := List.count_pos_iff.2 this
      omega
    exact ⟨hr, hend _ _ _ hI (all_listed hb hr)⟩
  | succ fuel ih =>
    intro listed a w hc hI
    refine ⟨fun hr => hend _ _ _ hI (all_listed hb hr), fun i hi => ?_⟩
    obtain ⟨h0, o, ho, hall⟩ := mem_ready.1 hi
    refine wpOp_mono (fun a' w' h' => ih _ a' w' ?_ h') (hstep _ _ _ _ _ hI ho h0 hall)
    have h1 : listed.toList[i]? = some false := by
      rcases Nat.lt_or_ge i listed.size with h' | h'
      · simp [h'] at h0; simp [h', h0]
      · simp [Array.getElem?_eq_none h'] at h0
    have := count_set _ _ h1
    simp only [Array.toList_setIfInBounds]
    omega
end
/-! Who waits for whom. -/
theorem fold_bit (A : Array Nat) (i : Nat) : ∀ (l : List Edge) (s : Nat), (l.foldl (fun s e => if Region.binds .any e then s ||| 2 ^ e.on ||| A.getD e.on 0 else s) s).testBit i = true →
    s.testBit i = true ∨ ∃ e ∈ l, Region.binds .any e = true ∧ (e.on = i ∨ (A.getD e.on 0).testBit i = true)
  | [], s, h => Or.inl h
  | e :: l, s, h => by
    rw [List.foldl_cons] at h
    rcases fold_bit A i l _ h with h | ⟨e', h1, h2⟩
    · by_cases hb : Region.binds .any e = true
      · rw [if_pos hb, Nat.testBit_or, Nat.testBit_or] at h
        simp only [Bool.or_eq_true] at h
        rcases h with (h | h) | h
        · exact Or.inl h
        · rw [Nat.testBit_two_pow] at h
          exact Or.inr ⟨e, by simp, hb, Or.inl (by simpa using h)⟩
        · exact Or.inr ⟨e, by simp, hb, Or.inr h⟩
      · rw [if_neg hb] at h; exact Or.inl h
    · exact Or.inr ⟨e', by simp [h1], h2⟩
def BP (L : List Oper) (A : Array Nat) : Prop := ∀ j i, (A.getD j 0).testBit i = true → ∃ o, L[j]? = some o ∧ ∃ e ∈ o.after, Region.binds .any e = true ∧ (e.on = i ∨ (e.on < j ∧ (A.getD e.on 0).testBit i = true))
theorem before_go (L : List Oper) : ∀ (l : List Oper) (A : Array Nat), L = L.take A.size ++ l → A.size ≤ L.length → BP L A →
    BP L (l.foldl (fun acc o => acc.push (o.after.foldl (fun s e => if Region.binds .any e then s ||| 2 ^ e.on ||| acc.getD e.on 0 else s) 0)) A)
  | [], A, _, _, h => h
  | o :: l, A, hL, hle, h => by
    rw [List.foldl_cons]
    have hlen : A.size < L.length := by
      have := congrArg List.length hL
      simp at this
      omega
    have ho : L[A.size]? = some o := by rw [hL, List.getElem?_append_right (by simp; omega)]; simp [Nat.min_eq_left hle]
    refine before_go L l _ ?_ (by simp; omega) ?_
    · rw [Array.size_push, List.take_add_one, ho]
      simp only [Option.toList_some, List.append_assoc, List.singleton_append]
      exact hL
    · intro j i hb
      rcases Nat.lt_trichotomy j A.size with hj | hj | hj
      · have e1 : ∀ x m, m < A.size → (A.push x).getD m 0 = A.getD m 0 := fun x m hm => by
          simp only [Array.getD_eq_getD_getElem?, Array.getElem?_push, if_neg (show ¬ m = A.size by omega)]
        rw [e1 _ j hj] at hb
        obtain ⟨o', h1, e, h2, h3, h4⟩ := h j i hb
        refine ⟨o', h1, e, h2, h3, h4.imp id (fun ⟨a, b⟩ => ⟨a, by rw [e1 _ _ (by omega)]; exact b⟩)⟩
      · subst hj
        have e2 : ∀ x, (A.push x).getD A.size 0 = x := fun x => by simp
        rw [e2, ← Array.foldl_toList] at hb
        rcases fold_bit A i _ _ hb with h0 | ⟨e, h1, h2, h3⟩
        · simp at h0
        · refine ⟨o, ho, e, by simpa using h1, h2, h3.imp id (fun h5 => ?_)⟩
          have h6 : e.on < A.size := by
            rcases Nat.lt_or_ge e.on A.size with h' | h'
            · exact h'
            · simp [Array.getD_eq_getD_getElem?, Array.getElem?_eq_none h'] at h5
          refine ⟨h6, ?_⟩
          simp only [Array.getD_eq_getD_getElem?, Array.getElem?_push, if_neg (show ¬ e.on = A.size by omega)]
          simpa [Array.getD_eq_getD_getElem?] using h5
      · exfalso
        rw [Array.getD_eq_getD_getElem?, Array.getElem?_eq_none (by simp; omega)] at hb
        simp at hb
theorem before_bp (ops : Array Oper) : BP ops.toList (Region.before ops) := by
  unfold Region.before
  rw [← Array.foldl_toList]
  exact before_go ops.toList ops.toList #[] (by simp) (by simp) (fun j i h => by simp at h)
/-- What an operation waits for, by however many steps, has come up. -/
theorem waits {ops : Array Oper} {listed : Array Bool} (hs : ∀ j o, ops[j]? = some o → listed.getD j false = true → ∀ e ∈ o.after, Region.binds .any e = true → listed.getD e.on false = true) :
    ∀ (j : Nat) (o : Oper), ops[j]? = some o → (∀ e ∈ o.after, Region.binds .any e = true → listed.getD e.on false = true) → ∀ i, ((bef ops).getD j 0).testBit i = true → listed.getD i false = true := by
  intro j
  induction j using Nat.strongRecOn with
  | ind j ih =>
    intro o ho hall i hb
    have hb' : ((Region.before ops).getD j 0).testBit i = true := by
      have : (bef ops).getD j 0 = (Region.before ops).getD j 0 := by
        unfold bef
        rw [Go.CheckFast.beforeF_eq]
        simp [List.getD_eq_getElem?_getD, Array.getD_eq_getD_getElem?]
      rw [← this]; exact hb
    obtain ⟨o', h1, e, h2, h3, h4⟩ := before_bp ops j i hb'
    have : o' = o := by rw [Array.getElem?_toList, ho] at h1; cases h1; rfl
    subst this
    rcases h4 with h4 | ⟨h4, h5⟩
    · rw [← h4]; exact hall e h2 h3
    · have hel := hall e h2 h3
      have hes : e.on < ops.size := by have := (Array.getElem?_eq_some_iff.1 ho).1; omega
      refine ih e.on h4 ops[e.on] (by simp [hes]) (hs e.on _ (by simp [hes]) hel) i ?_
      unfold bef
      rw [Go.CheckFast.beforeF_eq]
      simpa [List.getD_eq_getElem?_getD, Array.getD_eq_getD_getElem?] using h5
/-! Not at odds. -/
def dl (f : Nat → Nat × Nat) : Nat → List (Nat × Nat)
  | 0 => []
  | i + 1 => f i :: dl f i
theorem odds_spec {f : Nat → Nat × Nat} {b r w : Nat} : ∀ {j : Nat}, odds b r w j (dl f j) = true → ∀ i, i < j → b.testBit i = true ∨ (Nat.land w (Nat.lor (f i).1 (f i).2) = 0 ∧ Nat.land (f i).2 r = 0)
  | 0, _, i, hi => by omega
  | j + 1, h, i, hi => by
    simp only [dl, odds, Nat.pred_succ] at h
    obtain ⟨h1, h2⟩ : (b.testBit j || (Nat.beq (Nat.land w (Nat.lor (f j).1 (f j).2)) 0 && Nat.beq (Nat.land (f j).2 r) 0)) = true ∧ odds b r w j (dl f j) = true := by
      revert h
      cases (b.testBit j || (Nat.beq (Nat.land w (Nat.lor (f j).1 (f j).2)) 0 && Nat.beq (Nat.land (f j).2 r) 0)) <;> intro h <;> first | cases h | exact ⟨rfl, h⟩
    by_cases e : i = j
    · subst e
      simp only [Bool.or_eq_true, Bool.and_eq_true, Nat.beq_eq] at h1
      exact h1
    · exact odds_spec h2 i (by omega)
theorem drawn_spec {f : Nat → Nat × Nat} {bs : List Nat} : ∀ {n : Nat}, drawn bs n (dl f n) = true → ∀ i j, i < j → j < n → (bs.getD j 0).testBit i = true ∨ (Nat.land (f j).2 (Nat.lor (f i).1 (f i).2) = 0 ∧ Nat.land (f i).2 (f j).1 = 0)
  | 0, _, i, j, _, hj => by omega
  | n + 1, h, i, j, hi, hj => by
    simp only [dl, drawn, Nat.pred_succ] at h
    obtain ⟨h1, h2⟩ : odds (bs.getD n 0) (f n).1 (f n).2 n (dl f n) = true ∧ drawn bs n (dl f n) = true := by
      revert h
      cases odds (bs.getD n 0) (f n).1 (f n).2 n (dl f n) <;> intro h <;> first | cases h | exact ⟨rfl, h⟩
    by_cases e : j = n
    · subst e
      exact odds_spec h1 i hi
    · exact drawn_spec h2 i j hi (by omega)
theorem land_zero {a b i : Nat} (h : Nat.land a b = 0) (ha : tb a i) (hb : tb b i) : False := by
  have : (a &&& b).testBit i = true := by rw [Nat.testBit_and, ha, hb]; rfl
  rw [show a &&& b = Nat.land a b from rfl, h] at this
  simp at this
/-- Of two that are at odds at a place one waits for the other. -/
theorem order {ops : Array Oper} {listed : Array Bool} {f : Nat → Nat × Nat} (hd : drawn (bef ops) ops.size (dl f ops.size) = true)
    (hs : ∀ j o, ops[j]? = some o → listed.getD j false = true → ∀ e ∈ o.after, Region.binds .any e = true → listed.getD e.on false = true)
    {i : Nat} {o : Oper} (ho : ops[i]? = some o) (hu : ¬ listed.getD i false = true) (hall : ∀ e ∈ o.after, Region.binds .any e = true → listed.getD e.on false = true)
    {m : Nat} (hm : tb (f i).1 m ∨ tb (f i).2 m) : ∀ j, j < ops.size → tb (f j).2 m → (listed.getD j false = true ↔ j < i) := by
  intro j hj hw
  have hi := (Array.getElem?_eq_some_iff.1 ho).1
  rcases Nat.lt_trichotomy j i with h | h | h
  · refine ⟨fun _ => h, fun _ => ?_⟩
    rcases drawn_spec hd j i h hi with h1 | ⟨h1, h2⟩
    · exact waits hs i o ho hall j h1
    · rcases hm with hm | hm
      · exact (land_zero h2 hw hm).elim
      · exact (land_zero h1 hm (tb_or.2 (Or.inr hw))).elim
  · subst h
    exact ⟨fun h => absurd h hu, fun h => absurd h (by omega)⟩
  · refine ⟨fun hl => ?_, fun h' => absurd h' (by omega)⟩
    exfalso
    rcases drawn_spec hd i j h hj with h1 | ⟨h1, h2⟩
    · exact hu (waits hs j ops[j] (by simp [hj]) (hs j _ (by simp [hj]) hl) i h1)
    · exact land_zero h1 hw (tb_or.2 hm)
theorem opsL_states {P : Program} {cf : Nat → List Value → HT → Nat → Option R5} {ops : Array Oper} : ∀ (l : List Oper) (s s' : RL), opsL P cf ops l s = some s' → ∃ st : Nat → RL, st 0 = s ∧ st l.length = s' ∧ ∀ i o, l[i]? = some o → StepR P cf ops (st i) o (st (i + 1))
  | [], s, s', e => by cases e; exact ⟨fun _ => s, rfl, rfl, fun i o h => by cases h⟩
  | o :: l, s, s', e => by
    obtain ⟨s1, h1, e⟩ := opsL_step e
    obtain ⟨st, h2, h3, h4⟩ := opsL_states l s1 s' e
    refine ⟨fun i => match i with | 0 => s | i + 1 => st i, rfl, h3, fun i o' h => ?_⟩
    cases i with
    | zero => simp at h; subst h; show StepR P cf ops s o (st 0); rw [h2]; exact h1
    | succ i => exact h4 i o' (by simpa using h)
end E
end Go.Proofs.YtfmfeipeeedfpaaGreat
namespace Go.Proofs.YtfmfeipeeedfpaaGreat
namespace E
open Go.CheckFast (force force_eq)
/-- Among those that touch a place just those ahead of a cut have come up. -/
def Cn (N : Nat) (L : Nat → Prop) (wr : Nat → Prop) (c : Nat) : Prop := ∀ j, j < N → wr j → (L j ↔ j < c)
def wt (ops : Array Oper) (t j : Nat) : Prop := ∃ o, ops[j]? = some o ∧ o.dst = some t
structure Dt (P : Program) (ops : Array Oper) (st : Nat → RL) (r w : Nat → Nat) (v : Nat → Value) (i : Nat) (o : Oper) : Prop where
  l : (st (i + 1)).l = (r i, w i) :: (st i).l
  f : (st (i + 1)).f = put (st i).f o.dst (v i)
  mr : ∀ j, tb (st (i + 1)).r j ↔ tb (st i).r j ∨ tb (r i) j
  mw : ∀ j, tb (st (i + 1)).w j ↔ tb (st i).w j ∨ tb (w i) j
  ss : Ss (st i).h (st i).n (st (i + 1)).h (st (i + 1)).n (r i) (w i)
  ok : ∀ (k : K) (W : World) (a : Act) (K' : Act → World → Prop) (Q : Exit → Act → World → Prop), (st i).f.m = a.tmps.size → (∀ y ∈ o.op.operands.toList, VX k (evo (st i).f y) (a.eval y)) → (∀ j w t, o.guard = some (j, w) → (ops[j]?).bind (·.dst) = some t → VX k (fget (st i).f t) (a.tmps.getD t undef)) →
    HR k (st i).h W (r i) → (∀ m, (st i).n ≤ m → m < (st (i + 1)).n → k m = none) → (∀ u W' k', Sd (st i).h (st i).n (st (i + 1)).h (st (i + 1)).n (r i) (w i) k W k' W' → VX k' (v i) u → K' (a.put o.dst u) W') →
    if Region.wanted o (yielded ops a.tmps) = true then o.wp P a W K' Q else K' (a.put o.dst undef) W
/-- What holds while some have come up. -/
structure Iv (ops : Array Oper) (st : Nat → RL) (w : Nat → Nat) (RR WW : Nat → Prop) (k0 : K) (W0 : World) (listed : Array Bool) (a : Act) (W : World) (k : K) : Prop where
  sh : ∀ j o, ops[j]? = some o → listed.getD j false = true → ∀ e ∈ o.after, Region.binds .any e = true → listed.getD e.on false = true
  m : (st 0).f.m = a.tmps.size
  df : a.defers = []
  fr : ∀ t c, c ≤ ops.size → Cn ops.size (fun j => listed.getD j false = true) (wt ops t) c → VX k (fget (st c).f t) (a.tmps.getD t undef)
  hp : ∀ i c, c ≤ ops.size → RR i → Cn ops.size (fun j => listed.getD j false = true) (fun j => tb (w j) i) c → Rp k (st c).h W i
  inj : ∀ i i' c c', c ≤ ops.size → c' ≤ ops.size → RR i → RR i' → Cn ops.size (fun j => listed.getD j false = true) (fun j => tb (w j) i) c → Cn ops.size (fun j => listed.getD j false = true) (fun j => tb (w j) i') c' →
    live (st c).h i → live (st c').h i' → i ≠ i' → ∀ b z b' z', k i = some (b, z) → k i' = some (b', z') → b ≠ b'
  ext : ∀ i p, k0 i = some p → k i = some p
  dom : ∀ i, i < (st 0).n ∨ (st ops.size).n ≤ i → k i = k0 i
  new : ∀ j, j < ops.size → ¬ listed.getD j false = true → ∀ i, (st j).n ≤ i → i < (st (j + 1)).n → k i = none
  frm : ∀ b, b < W0.heap.size → (∀ j z, WW j → live (st 0).h j → k0 j ≠ some (b, z)) → W.heap[b]? = W0.heap[b]?
  fresh : ∀ i c b z, c ≤ ops.size → RR i → Cn ops.size (fun j => listed.getD j false = true) (fun j => tb (w j) i) c → (st 0).n ≤ i → i < (st ops.size).n → live (st c).h i → k i = some (b, z) →
    W0.heap.size ≤ b ∨ ∃ j z', WW j ∧ j < (st 0).n ∧ live (st 0).h j ∧ (∀ c', c' ≤ ops.size → Cn ops.size (fun j => listed.getD j false = true) (fun i => tb (w i) j) c' → ¬ live (st c').h j) ∧ k0 j = some (b, z')
  size : W0.heap.size ≤ W.heap.size
  os : W.os = W0.os
  tape : Tp W W0
  output : W.output = W0.output
  fz : ∀ x, W.frozen? x = W0.frozen? x
section
variable {P : Program} {ops : Array Oper} {st : Nat → RL} {r w : Nat → Nat} {v : Nat → Value}
theorem op_at {i : Nat} (hi : i < ops.size) : ops[i]? = some ops[i] := by simp [hi]
theorem st_n (D : ∀ i o, ops[i]? = some o → Dt P ops st r w v i o) : ∀ {i j : Nat}, i ≤ j → j ≤ ops.size → (st i).n ≤ (st j).n := by
  intro i j hij
  induction hij with
  | refl => intro _; exact Nat.le_refl _
  | step h ih => intro hj; exact Nat.le_trans (ih (by omega)) (D _ _ (op_at (by omega))).ss.le
theorem st_nn (D : ∀ i o, ops[i]? = some o → Dt P ops st r w v i o) (nn : ∀ i, (st 0).n ≤ i → hget (st 0).h i = none) : ∀ j, j ≤ ops.size → ∀ i, (st j).n ≤ i → hget (st j).h i = none := by
  intro j
  induction j with
  | zero => intro _; exact nn
  | succ j ih => intro hj; exact (D j _ (op_at (by omega))).ss.nn (ih (by omega))
theorem st_h (D : ∀ i o, ops[i]? = some o → Dt P ops st r w v i o) {m : Nat} : ∀ {c d : Nat}, c ≤ d → d ≤ ops.size → (∀ j, c ≤ j → j < d → ¬ tb (w j) m) → hget (st d).h m = hget (st c).h m := by
  intro c d hcd
  induction hcd with
  | refl => intro _ _; rfl
  | @step d h ih =>
    intro hd hj
    rw [(D d _ (op_at (by omega))).ss.same m (hj d h (by omega))]
    exact ih (by omega) (fun j h1 h2 => hj j h1 (by omega))
theorem st_m (D : ∀ i o, ops[i]? = some o → Dt P ops st r w v i o) : ∀ c, c ≤ ops.size → (st c).f.m = (st 0).f.m := by
  intro c
  induction c with
  | zero => intro _; rfl
  | succ c ih => intro hc; rw [(D c _ (op_at (by omega))).f, put_m]; exact ih (by omega)
theorem st_f (D : ∀ i o, ops[i]? = some o → Dt P ops st r w v i o) (hle : (st 0).f.m ≤ 256) {t : Nat} : ∀ {c d : Nat}, c ≤ d → d ≤ ops.size → (∀ j, c ≤ j → j < d → ¬ wt ops t j) → fget (st d).f t = fget (st c).f t := by
  intro c d hcd
  induction hcd with
  | refl => intro _ _; rfl
  | @step d h ih =>
    intro hd hj
    have ho := op_at (ops := ops) (i := d) (by omega)
    have hn := hj d h (by omega)
    rw [(D d _ ho).f]
    have : fget (put (st d).f ops[d].dst (v d)) t = fget (st d).f t := by
      cases e : ops[d].dst with
      | none => rfl
      | some s => exact fget_ne _ (by rw [st_m D d (by omega)]; exact hle) (fun e' => hn ⟨_, ho, by rw [e, e']⟩)
    rw [this]
    exact ih (by omega) (fun j h1 h2 => hj j h1 (by omega))
theorem st_back (D : ∀ i o, ops[i]? = some o → Dt P ops st r w v i o) {m : Nat} (hm : m < (st 0).n) : ∀ c, c ≤ ops.size → live (st c).h m → live (st 0).h m := by
  intro c
  induction c with
  | zero => intro _ h; exact h
  | succ c ih => intro hc h; exact ih (by omega) ((D c _ (op_at (by omega))).ss.back m (Nat.lt_of_lt_of_le hm (st_n D (Nat.zero_le c) (by omega))) h)
theorem Cn.same {N i c : Nat} {L L' : Nat → Prop} {wr : Nat → Prop} (hL : ∀ j, j ≠ i → (L' j ↔ L j)) (hi : ¬ wr i) (h : Cn N L' wr c) : Cn N L wr c := fun j hj hw => by
  rw [← hL j (fun e => hi (e ▸ hw))]; exact h j hj hw
theorem put_other {a : Act} {d : Option Tmp} {u : Value} {t : Nat} (h : d ≠ some t) : (a.put d u).tmps.getD t undef = a.tmps.getD t undef := by
  cases d with
  | none => rfl
  | some s => simp only [Act.put, Array.getD_eq_getD_getElem?, Array.getElem?_setIfInBounds_ne (fun e => h (by rw [e]) : s ≠ t)]
theorem wt_tb {o : Oper} {j t : Nat} (ho : ops[j]? = some o) : wt ops t j ↔ tb (setT o) t := by
  constructor
  · rintro ⟨o', h1, h2⟩
    rw [ho] at h1; cases h1
    unfold setT; rw [h2]; exact tb_bit.2 rfl
  · intro h
    unfold setT at h
    split at h
    · rename_i s hs; exact ⟨o, ho, by rw [hs, tb_bit.1 h]⟩
    · exact absurd h tb_zero
theorem look_op {o : Oper} {t : Nat} (h : .tmp t ∈ o.op.operands.toList) : tb (lookT ops o) t := by
  unfold lookT
  refine tb_or.2 (Or.inl ?_)
  have : ∀ (l : List Operand) (s : Nat), (tb s t ∨ .tmp t ∈ l) → tb (l.foldl (fun m x => Nat.lor m (tmpOf x)) s) t := by
    intro l
    induction l with
    | nil => intro s h; rcases h with h | h
             · exact h
             · cases h
    | cons x l ih =>
      intro s h
      rw [List.foldl_cons]
      refine ih _ ?_
      rcases h with h | h
      · exact Or.inl (tb_or.2 (Or.inl h))
      · rcases List.mem_cons.1 h with h | h
        · subst h; exact Or.inl (tb_or.2 (Or.inr (tb_bit.2 rfl)))
        · exact Or.inr h
  exact this _ 0 (Or.inr h)
theorem look_guard {o : Oper} {t j : Nat} {b : Bool} (hg : o.guard = some (j, b)) (h : (ops[j]?).bind (·.dst) = some t) : tb (lookT ops o) t := by
  unfold lookT
  refine tb_or.2 (Or.inr ?_)
  rw [hg]
  simp only [h]
  exact tb_bit.2 rfl
theorem dl_ops (ops : Array Oper) (g : Oper → Nat × Nat) (d : Oper) : ops.toList.reverse.map g = dl (fun i => g (ops.getD i d)) ops.size := by
  have : ∀ (n : Nat), n ≤ ops.size → ((ops.toList.take n).reverse.map g) = dl (fun i => g (ops.getD i d)) n := by
    intro n
    induction n with
    | zero => intro _; rfl
    | succ n ih =>
      intro hn
      have h1 : ops.toList.take (n + 1) = ops.toList.take n ++ [ops.getD n d] := by
        rw [List.take_add_one]
        have : ops.toList[n]? = some (ops.getD n d) := by
          have hlt : n < ops.size := by omega
          simp [hlt]
        rw [this]; rfl
      rw [h1, List.reverse_append, List.reverse_singleton, List.map_append, ih (by omega)]
      rfl
  have h := this ops.size (Nat.le_refl _)
  rw [List.take_of_length_le (by simp)] at h
  exact h
end
end E
end Go.Proofs.YtfmfeipeeedfpaaGreat
namespace Go.Proofs.YtfmfeipeeedfpaaGreat
namespace E
open Go.CheckFast (force force_eq)
section
variable {P : Program} {ops : Array Oper} {st : Nat → RL} {r w : Nat → Nat} {v : Nat → Value} {RR WW : Nat → Prop} {k0 : K} {W0 : World}
theorem Iv.step (D : ∀ i o, ops[i]? = some o → Dt P ops st r w v i o) (nn : ∀ i, (st 0).n ≤ i → hget (st 0).h i = none) (hle : (st 0).f.m ≤ 256)
    (hdh : drawn (bef ops) ops.size (dl (fun i => (r i, w i)) ops.size) = true) (hdt : drawn (bef ops) ops.size (dl (fun i => (lookT ops (ops.getD i default), setT (ops.getD i default))) ops.size) = true)
    (hRr : ∀ j, j < ops.size → ∀ i, tb (r j) i → RR i) (hRw : ∀ j, j < ops.size → ∀ i, tb (w j) i → RR i) (hWw : ∀ j, j < ops.size → ∀ i, tb (w j) i → WW i)
    {listed : Array Bool} {a : Act} {W : World} {k : K} (I : Iv ops st w RR WW k0 W0 listed a W k) (hsz : listed.size = ops.size) {i : Nat} {o : Oper} (ho : ops[i]? = some o) (hu : listed.getD i true = false)
    (hall : ∀ e ∈ o.after, Region.binds .any e = true → listed.getD e.on false = true) (Q : Exit → Act → World → Prop) (K' : Act → World → Prop)
    (hK : ∀ a' W' k', Iv ops st w RR WW k0 W0 (listed.setIfInBounds i true) a' W' k' → K' a' W') :
    if Region.wanted o (yielded ops a.tmps) = true then o.wp P a W K' Q else K' (a.put o.dst undef) W := by
  have hi := (Array.getElem?_eq_some_iff.1 ho).1
  have hil : i < listed.size := by omega
  have hu' : ¬ listed.getD i false = true := by simp [hil] at hu ⊢; exact hu
  have hgd : ops.getD i default = o := by simp [hi] at ho ⊢; exact ho
  have hL : ∀ j, j ≠ i → ((listed.setIfInBounds i true).getD j false = true ↔ listed.getD j false = true) := fun j hj => by rw [getD_set_ne false (Ne.symm hj)]
  have hLi : (listed.setIfInBounds i true).getD i false = true := by simp [hil]
  have nni := st_nn D nn
  have d := D i o ho
  -- cuts at the operation itself
  have ch : ∀ m, (tb (r i) m ∨ tb (w i) m) → Cn ops.size (fun j => listed.getD j false = true) (fun j => tb (w j) m) i := fun m hm j hj hw => order hdh I.sh ho hu' hall (m := m) hm j hj hw
  have ct : ∀ t, (tb (lookT ops o) t ∨ wt ops t i) → Cn ops.size (fun j => listed.getD j false = true) (wt ops t) i := fun t ht j hj hw => by
    refine order hdt I.sh ho hu' hall (m := t) ?_ j hj ?_
    · rw [hgd]; exact ht.imp id (wt_tb ho).1
    · have : ops.getD j default = ops[j] := by simp [hj]
      rw [this]; exact (wt_tb (op_at hj)).1 hw
  -- a place that the operation writes, at a cut behind it
  have wcut : ∀ (wr : Nat → Prop) c, wr i → Cn ops.size (fun j => listed.getD j false = true) wr i → Cn ops.size (fun j => (listed.setIfInBounds i true).getD j false = true) wr c → i < c ∧ ∀ j, i + 1 ≤ j → j < c → j < ops.size → ¬ wr j := by
    intro wr c hwi h1 h2
    refine ⟨(h2 i hi hwi).1 hLi, fun j hj hjc hjs hw => ?_⟩
    have h3 : (listed.setIfInBounds i true).getD j false = true := (h2 j hjs hw).2 hjc
    rw [hL j (by omega)] at h3
    have := (h1 j hjs hw).1 h3
    omega
  have hsame : ∀ m c, c ≤ ops.size → tb (w i) m → Cn ops.size (fun j => (listed.setIfInBounds i true).getD j false = true) (fun j => tb (w j) m) c → hget (st c).h m = hget (st (i + 1)).h m := fun m c hc hm h => by
    obtain ⟨h1, h2⟩ := wcut (fun j => tb (w j) m) c hm (ch m (Or.inr hm)) h
    exact st_h D h1 hc (fun j a b => h2 j a b (by omega))
  have hold : ∀ m c, ¬ tb (w i) m → Cn ops.size (fun j => (listed.setIfInBounds i true).getD j false = true) (fun j => tb (w j) m) c → Cn ops.size (fun j => listed.getD j false = true) (fun j => tb (w j) m) c := fun m c hm h => Cn.same hL hm h
  refine d.ok k W a K' Q (by rw [st_m D i (by omega)]; exact I.m) (fun y hy => ev_of y fun t ht => ?_) (fun j b t hg ht => ?_) ⟨fun m hm => ?_, fun m m' hm hm' => ?_⟩ (fun m h1 h2 => I.new i hi hu' m h1 h2) (fun u W' k' hd hv => hK _ _ k' ?_)
  · subst ht; exact I.fr t i (by omega) (ct t (Or.inl (look_op hy)))
  · exact I.fr t i (by omega) (ct t (Or.inl (look_guard hg ht)))
  · exact I.hp m i (by omega) (hRr i hi m hm) (ch m (Or.inl hm))
  · exact I.inj m m' i i (by omega) (by omega) (hRr i hi m hm) (hRr i hi m' hm') (ch m (Or.inl hm)) (ch m' (Or.inl hm'))
  -- what lived there and was not written
  have hkk : ∀ m c, c ≤ ops.size → RR m → ¬ tb (w i) m → Cn ops.size (fun j => listed.getD j false = true) (fun j => tb (w j) m) c → live (st c).h m → ∀ b z, k' m = some (b, z) → k m = some (b, z) ∧ b < W.heap.size := fun m c hc hR hm h hl b z hk => by
    obtain ⟨b', z', e1, e2⟩ := (I.hp m c hc hR h).lt hl
    have := hd.ext m _ e1
    rw [hk] at this; cases this
    exact ⟨e1, e2⟩
  have hlo : ∀ m, live (st i).h m → m < (st i).n := fun m hl => by
    rcases Nat.lt_or_ge m (st i).n with h' | h'
    · exact h'
    · exact absurd hl (not_live (nni i (by omega) m h'))
  have hlo1 : ∀ m, live (st (i + 1)).h m → m < (st (i + 1)).n := fun m hl => by
    rcases Nat.lt_or_ge m (st (i + 1)).n with h' | h'
    · exact h'
    · exact absurd hl (not_live (nni (i + 1) (by omega) m h'))
  have hmix : ∀ m m' c c', c ≤ ops.size → c' ≤ ops.size → RR m → RR m' → ¬ tb (w i) m → tb (w i) m' → Cn ops.size (fun j => (listed.setIfInBounds i true).getD j false = true) (fun j => tb (w j) m) c → Cn ops.size (fun j => (listed.setIfInBounds i true).getD j false = true) (fun j => tb (w j) m') c' →
      live (st c).h m → live (st c').h m' → m ≠ m' → ∀ b z b' z', k' m = some (b, z) → k' m' = some (b', z') → b ≠ b' := by
    intro m m' c c' hc hc' hR hR' hm hm' h h' hl hl' hne b z b' z' ek ek'
    have h0 := hold m c hm h
    obtain ⟨km, hb⟩ := hkk m c hc hR hm h0 hl b z ek
    have hl1 : live (st (i + 1)).h m' := by obtain ⟨cs, e⟩ := hl'; exact ⟨cs, by rw [← hsame m' c' hc' hm' h']; exact e⟩
    rcases Nat.lt_or_ge m' (st i).n with hn | hn
    · have hl0 := d.ss.back m' hn hl1
      rw [hd.dom m' (Or.inl hn)] at ek'
      exact I.inj m m' c i hc (by omega) hR hR' h0 (ch m' (Or.inr hm')) hl hl0 hne b z b' z' km ek'
    · rcases hd.fresh m' b' z' hn (hlo1 m' hl1) hl1 ek' with hB | ⟨j, zj, j1, j2, j3, _, j5⟩
      · omega
      · exact I.inj m j c i hc (by omega) hR (hRw i hi j j1) h0 (ch j (Or.inr j1)) hl j3 (fun e => hm (e ▸ j1)) b z b' zj km j5
  -- what was let go stays so
  have hdead : ∀ j, j < (st 0).n → (∀ c', c' ≤ ops.size → Cn ops.size (fun j => listed.getD j false = true) (fun i => tb (w i) j) c' → ¬ live (st c').h j) → ∀ c', c' ≤ ops.size → Cn ops.size (fun j => (listed.setIfInBounds i true).getD j false = true) (fun i => tb (w i) j) c' → ¬ live (st c').h j := by
    intro j hj h c' hc' hcn hl
    by_cases hw : tb (w i) j
    · have hl1 : live (st (i + 1)).h j := by obtain ⟨cs, e⟩ := hl; exact ⟨cs, by rw [← hsame j c' hc' hw hcn]; exact e⟩
      exact h i (by omega) (ch j (Or.inr hw)) (d.ss.back j (Nat.lt_of_lt_of_le hj (st_n D (Nat.zero_le i) (by omega))) hl1)
    · exact h c' hc' (hold j c' hw hcn) hl
  have hfresh : ∀ m b z, (st 0).n ≤ m → m < (st i).n → (tb (r i) m ∨ tb (w i) m) → live (st i).h m → k m = some (b, z) → W0.heap.size ≤ b ∨ ∃ j z', WW j ∧ j < (st 0).n ∧ live (st 0).h j ∧ (∀ c', c' ≤ ops.size → Cn ops.size (fun j => (listed.setIfInBounds i true).getD j false = true) (fun i => tb (w i) j) c' → ¬ live (st c').h j) ∧ k0 j = some (b, z') := by
    intro m b z h1 h2 h3 h4 h5
    rcases I.fresh m i b z (by omega) (h3.elim (hRr i hi m) (hRw i hi m)) (ch m h3) h1 (Nat.lt_of_lt_of_le h2 (st_n D (by omega) (Nat.le_refl _))) h4 h5 with h | ⟨j, z', a1, a2, a3, a4, a5⟩
    · exact Or.inl h
    · exact Or.inr ⟨j, z', a1, a2, a3, hdead j a2 a4, a5⟩
  refine ⟨?_, ?_, ?_, ?_, ?_, ?_, fun m p hp => hd.ext m p (I.ext m p hp), ?_, ?_, ?_, ?_, Nat.le_trans I.size hd.size, hd.os.trans I.os, hd.tape.trans I.tape, hd.output.trans I.output, fun x => (hd.fz x).trans (I.fz x)⟩
  · intro j oj hoj hlj e he hb
    by_cases hji : j = i
    · subst hji
      rw [ho] at hoj; cases hoj
      exact getD_set_true (hall e he hb)
    · rw [hL j hji] at hlj
      exact getD_set_true (I.sh j oj hoj hlj e he hb)
  · rw [put_sz]; exact I.m
  · rw [put_df]; exact I.df
  · intro t c hc hcn
    by_cases hw : wt ops t i
    · obtain ⟨h1, h2⟩ := wcut (wt ops t) c hw (ct t (Or.inr hw)) hcn
      rw [st_f D hle h1 hc (fun j a b => h2 j a b (by omega)), d.f]
      exact put_get (by rw [st_m D i (by omega)]; exact I.m) (by rw [st_m D i (by omega)]; exact hle) hv t ((I.fr t i (by omega) (ct t (Or.inr hw))).mono hd.ext)
    · rw [put_other (fun e => hw ⟨o, ho, e⟩)]
      exact (I.fr t c hc (Cn.same hL hw hcn)).mono hd.ext
  · intro m c hc hR hcn
    by_cases hw : tb (w i) m
    · intro cs hcs
      rw [hsame m c hc hw hcn] at hcs
      exact hd.rep.rep m (tb_or.2 (Or.inr hw)) cs hcs
    · intro cs hcs
      have h0 := hold m c hw hcn
      refine (I.hp m c hc hR h0 cs hcs).mono (hd.ext m) (fun b z e1 hb => ?_) (fun us => LX.mono hd.ext)
      refine hd.frm b hb (fun j z hj hl hk => ?_)
      exact I.inj m j c i hc (by omega) hR (hRw i hi j hj) h0 (ch j (Or.inr hj)) ⟨cs, hcs⟩ hl (fun e => hw (e ▸ hj)) _ _ _ _ e1 hk rfl
  · intro m m' c c' hc hc' hR hR' hcn hcn' hl hl' hne b z b' z' ek ek'
    by_cases hw : tb (w i) m <;> by_cases hw' : tb (w i) m'
    · have e1 := hsame m c hc hw hcn
      have e2 := hsame m' c' hc' hw' hcn'
      obtain ⟨cs, e⟩ := hl
      obtain ⟨cs', e'⟩ := hl'
      exact hd.rep.inj m m' (tb_or.2 (Or.inr hw)) (tb_or.2 (Or.inr hw')) ⟨cs, by rw [← e1]; exact e⟩ ⟨cs', by rw [← e2]; exact e'⟩ hne b z b' z' ek ek'
    · exact fun e => hmix m' m c' c hc' hc hR' hR hw' hw hcn' hcn hl' hl (Ne.symm hne) b' z' b z ek' ek e.symm
    · exact hmix m m' c c' hc hc' hR hR' hw hw' hcn hcn' hl hl' hne b z b' z' ek ek'
    · have h0 := hold m c hw hcn
      have h0' := hold m' c' hw' hcn'
      exact I.inj m m' c c' hc hc' hR hR' h0 h0' hl hl' hne b z b' z' (hkk m c hc hR hw h0 hl b z ek).1 (hkk m' c' hc' hR' hw' h0' hl' b' z' ek').1
  · intro m hm
    have h1 := st_n D (Nat.zero_le i) (by omega)
    have h2 := st_n D (show i + 1 ≤ ops.size by omega) (Nat.le_refl _)
    rw [hd.dom m (by omega)]
    exact I.dom m hm
  · intro j hj hnl m h1 h2
    by_cases hji : j = i
    · subst hji; exact absurd hLi hnl
    · rw [hL j hji] at hnl
      have : k' m = k m := by
        rcases Nat.lt_or_ge j i with h | h
        · exact hd.dom m (Or.inl (Nat.lt_of_lt_of_le h2 (st_n D h (by omega))))
        · exact hd.dom m (Or.inr (Nat.le_trans (st_n D (show i + 1 ≤ j by omega) (by omega)) h1))
      rw [this]
      exact I.new j hj hnl m h1 h2
  · intro b hb hj
    rw [hd.frm b (Nat.lt_of_lt_of_le hb I.size) (fun j z hw hl hk => ?_)]
    · exact I.frm b hb hj
    · rcases Nat.lt_or_ge j (st 0).n with hjn | hjn
      · have hin := st_n D (Nat.zero_le i) (by omega)
        exact hj j z (hWw i hi j hw) (st_back D hjn i (by omega) hl) (by rw [← I.dom j (Or.inl hjn)]; exact hk)
      · rcases hfresh j b z hjn (hlo j hl) (Or.inr hw) hl hk with h' | ⟨j0, z0, a1, a2, a3, _, a5⟩
        · omega
        · exact hj j0 z0 a1 a3 a5
  · intro m c b z hc hR hcn hm1 hm2 hl hk
    by_cases hw : tb (w i) m
    · have hl1 : live (st (i + 1)).h m := by obtain ⟨cs, e⟩ := hl; exact ⟨cs, by rw [← hsame m c hc hw hcn]; exact e⟩
      rcases Nat.lt_or_ge m (st i).n with hn | hn
      · rw [hd.dom m (Or.inl hn)] at hk
        exact hfresh m b z hm1 hn (Or.inr hw) (d.ss.back m hn hl1) hk
      · rcases hd.fresh m b z hn (hlo1 m hl1) hl1 hk with hB | ⟨j, zj, j1, j2, j3, j4, j5⟩
        · exact Or.inl (Nat.le_trans I.size hB)
        · rcases Nat.lt_or_ge j (st 0).n with hjn | hjn
          · refine Or.inr ⟨j, zj, hWw i hi j j1, hjn, st_back D hjn i (by omega) j3, fun c' hc' hcn' hl' => ?_, by rw [← I.dom j (Or.inl hjn)]; exact j5⟩
            obtain ⟨cs, e⟩ := hl'
            exact j4 ⟨cs, by rw [← hsame j c' hc' j1 hcn']; exact e⟩
          · exact hfresh j b zj hjn j2 (Or.inr j1) j3 j5
    · have h0 := hold m c hw hcn
      rcases I.fresh m c b z hc hR h0 hm1 hm2 hl (hkk m c hc hR hw h0 hl b z hk).1 with h | ⟨j, z', a1, a2, a3, a4, a5⟩
      · exact Or.inl h
      · exact Or.inr ⟨j, z', a1, a2, a3, hdead j a2 a4, a5⟩
theorem draw_ok {cf : Nat → List Value → HT → Nat → Option R5} (hcf : Cs P cf) (hmo : P.follows .mixedOrders = true) {s s' : RL} (nn : ∀ i, s.n ≤ i → hget s.h i = none) (hl : s.l = []) (hr0 : s.r = 0) (hw0 : s.w = 0)
    (e : opsL P cf ops ops.toList s = some s') (hdk : drawOk ops = true) (hdr : drawn (bef ops) ops.size s'.l = true) :
    Ss s.h s.n s'.h s'.n s'.r s'.w ∧
      ∀ (k : K) (W : World) (a : Act) (Q : Exit → Act → World → Prop) (id : Nat), FR k s.f a → HR k s.h W s'.r → (∀ i, s.n ≤ i → i < s'.n → k i = none) → (∀ k' W' a', Sd s.h s.n s'.h s'.n s'.r s'.w k W k' W' → FR k' s'.f a' → Q .normal a' W') → (Code.region id ops true).wp P Q a W := by
  obtain ⟨r1, w1, h1, h2, ss, _⟩ := list_ok hcf _ _ _ nn e
  have ss' : Ss s.h s.n s'.h s'.n s'.r s'.w := ss.congr (fun i => by rw [h1, hr0]; exact ⟨Or.inr, fun h => h.resolve_left tb_zero⟩) (fun i => by rw [h2, hw0]; exact ⟨Or.inr, fun h => h.resolve_left tb_zero⟩)
  refine ⟨ss', ?_⟩
  obtain ⟨st, e0, eN, hst⟩ := opsL_states _ _ _ e
  rw [show ops.toList.length = ops.size by simp] at eN
  -- what each operation does
  have nnst : ∀ i, i ≤ ops.size → ∀ m, (st i).n ≤ m → hget (st i).h m = none := by
    intro i
    induction i with
    | zero => intro _; rw [e0]; exact nn
    | succ i ih =>
      intro hi
      obtain ⟨_, _, _, _, _, _, _, hs, _⟩ := step_ok hcf (ih (by omega)) (hst i ops[i] (by rw [Array.getElem?_toList]; exact op_at (by omega)))
      exact hs.nn (ih (by omega))
  have ex : ∀ i, ∃ q : Nat × Nat × Value, ∀ o, ops[i]? = some o → Dt P ops st (fun _ => q.1) (fun _ => q.2.1) (fun _ => q.2.2) i o := by
    intro i
    cases ho : ops[i]? with
    | none => exact ⟨(0, 0, undef), fun o h => by cases h⟩
    | some o =>
      obtain ⟨r, w, v, a1, a2, a3, a4, a5, a6⟩ := step_ok hcf (nnst i (Nat.le_of_lt (Array.getElem?_eq_some_iff.1 ho).1)) (hst i o (by rw [Array.getElem?_toList]; exact ho))
      refine ⟨(r, w, v), fun o' h => ?_⟩
      cases h
      exact ⟨a1, a2, a3, a4, a5, a6⟩
  let q : Nat → Nat × Nat × Value := fun i => Classical.choose (ex i)
  have D : ∀ i o, ops[i]? = some o → Dt P ops st (fun i => (q i).1) (fun i => (q i).2.1) (fun i => (q i).2.2) i o := fun i o ho => by
    have := Classical.choose_spec (ex i) o ho
    exact ⟨this.l, this.f, this.mr, this.mw, this.ss, this.ok⟩
  generalize hqr : (fun i => (q i).1) = r at D
  generalize hqw : (fun i => (q i).2.1) = w at D
  generalize hqv : (fun i => (q i).2.2) = v at D
  have hdl : ∀ i, i ≤ ops.size → (st i).l = dl (fun i => (r i, w i)) i := by
    intro i
    induction i with
    | zero => intro _; rw [e0, hl]; rfl
    | succ i ih => intro hi; rw [(D i _ (op_at (by omega))).l, ih (by omega)]; rfl
  have hmr : ∀ i, i ≤ ops.size → ∀ m, tb (st i).r m ↔ ∃ j, j < i ∧ tb (r j) m := by
    intro i
    induction i with
    | zero => intro _ m; rw [e0, hr0]; exact ⟨fun h => absurd h tb_zero, fun ⟨j, h, _⟩ => absurd h (by omega)⟩
    | succ i ih =>
      intro hi m
      rw [(D i _ (op_at (by omega))).mr, ih (by omega)]
      constructor
      · rintro (⟨j, a, b⟩ | h)
        · exact ⟨j, by omega, b⟩
        · exact ⟨i, by omega, h⟩
      · rintro ⟨j, a, b⟩
        by_cases hji : j = i
        · subst hji; exact Or.inr b
        · exact Or.inl ⟨j, by omega, b⟩
  have hmw : ∀ i, i ≤ ops.size → ∀ m, tb (st i).w m ↔ ∃ j, j < i ∧ tb (w j) m := by
    intro i
    induction i with
    | zero => intro _ m; rw [e0, hw0]; exact ⟨fun h => absurd h tb_zero, fun ⟨j, h, _⟩ => absurd h (by omega)⟩
    | succ i ih =>
      intro hi m
      rw [(D i _ (op_at (by omega))).mw, ih (by omega)]
      constructor
      · rintro (⟨j, a, b⟩ | h)
        · exact ⟨j, by omega, b⟩
        · exact ⟨i, by omega, h⟩
      · rintro ⟨j, a, b⟩
        by_cases hji : j = i
        · subst hji; exact Or.inr b
        · exact Or.inl ⟨j, by omega, b⟩
  have hR := hmr ops.size (Nat.le_refl _)
  have hW := hmw ops.size (Nat.le_refl _)
  rw [eN] at hR hW
  unfold drawOk at hdk
  simp only [Bool.and_eq_true] at hdk
  obtain ⟨hedge, hdt⟩ := hdk
  rw [dl_ops ops _ default] at hdt
  have hdh : drawn (bef ops) ops.size (dl (fun i => (r i, w i)) ops.size) = true := by rw [← hdl ops.size (Nat.le_refl _), eN]; exact hdr
  intro k W a Q id hf H hnew hk
  have hle : (st 0).f.m ≤ 256 := by rw [e0]; exact hf.le
  have nn0 : ∀ i, (st 0).n ≤ i → hget (st 0).h i = none := by rw [e0]; exact nn
  refine wp_region_any hmo ?_
  refine wpAny_inv (fun listed a' W' => listed.size = ops.size ∧ ∃ k', Iv ops st w (fun i => tb s'.r i ∨ tb s'.w i) (fun i => tb s'.w i) k { W with drawn := W.drawn + 1 } listed a' W' k') hedge ?_ ?_ _ _ _ _ ?_ ⟨by simp, k, ?_⟩
  · rintro listed a' W' i o ⟨hsz, k', I⟩ ho hu hall
    refine wpOp_step ho fun K hK => ?_
    refine I.step D nn0 hle hdh hdt (fun j hj m hm => Or.inl ((hR m).2 ⟨j, hj, hm⟩)) (fun j hj m hm => Or.inr ((hW m).2 ⟨j, hj, hm⟩)) (fun j hj m hm => (hW m).2 ⟨j, hj, hm⟩) hsz ho hu hall Q K (fun a2 W2 k2 I2 => hK _ _ ⟨by simpa using hsz, k2, I2⟩)
  · rintro listed a' W' ⟨hsz, k', I⟩ hall
    have hc : ∀ wr : Nat → Prop, Cn ops.size (fun j => listed.getD j false = true) wr ops.size := fun wr j hj _ => ⟨fun _ => hj, fun _ => by
      have := hall j hj
      have h2 : j < listed.size := by omega
      simpa [h2] using this⟩
    have hfr := fun t => I.fr t ops.size (Nat.le_refl _) (hc _)
    have hhp := fun i hi => I.hp i ops.size (Nat.le_refl _) hi (hc _)
    rw [eN] at hfr hhp
    refine hk k' W' a' ⟨I.ext, ?_, ⟨fun i hi => hhp i (tb_or.1 hi), fun i j hi hj li lj hne => ?_⟩, ?_, ?_, I.size, I.os, ⟨I.tape.1, Nat.le_trans (Nat.le_succ _) I.tape.2⟩, I.output, I.fz⟩ ⟨?_, ?_, hfr, I.df⟩
    · have := I.dom; rw [e0, eN] at this; exact this
    · exact I.inj i j ops.size ops.size (Nat.le_refl _) (Nat.le_refl _) (tb_or.1 hi) (tb_or.1 hj) (hc _) (hc _) (by rw [eN]; exact li) (by rw [eN]; exact lj) hne
    · have := I.frm; rw [e0] at this; exact this
    · intro i b z h1 h2 h3 h4
      by_cases hwi : tb s'.w i
      · rcases I.fresh i ops.size b z (Nat.le_refl _) (Or.inr hwi) (hc _) (by rw [e0]; exact h1) (by rw [eN]; exact h2) (by rw [eN]; exact h3) h4 with h | ⟨j, z', a1, a2, a3, a4, a5⟩
        · exact Or.inl h
        · rw [e0] at a2 a3
          refine Or.inr ⟨j, z', a1, a2, a3, ?_, a5⟩
          have := a4 ops.size (Nat.le_refl _) (hc _)
          rw [eN] at this; exact this
      · obtain ⟨cs, h3⟩ := h3
        rw [ss'.same i hwi, nn i h1] at h3
        cases h3
    · have := st_m D ops.size (Nat.le_refl _)
      rw [eN, e0] at this
      rw [this, ← e0]; exact I.m
    · have := st_m D ops.size (Nat.le_refl _)
      rw [eN, e0] at this
      rw [this]; exact hf.le
  · simp
  · have hz : ∀ j, ¬ (Array.replicate ops.size false).getD j false = true := fun j => by
      rcases Nat.lt_or_ge j ops.size with h | h <;> simp [h]
    have hcn : ∀ wr c, c ≤ ops.size → Cn ops.size (fun j => (Array.replicate ops.size false).getD j false = true) wr c → ∀ j, 0 ≤ j → j < c → ¬ wr j := fun wr c hc h j _ hj hw => hz j ((h j (by omega) hw).2 hj)
    have hh : ∀ i c, c ≤ ops.size → Cn ops.size (fun j => (Array.replicate ops.size false).getD j false = true) (fun j => tb (w j) i) c → hget (st c).h i = hget s.h i := fun i c hc h => by
      rw [st_h D (Nat.zero_le c) hc (hcn _ c hc h), e0]
    -- what is written and was there was read
    have hrd : ∀ i c, c ≤ ops.size → (tb s'.r i ∨ tb s'.w i) → live s.h i → tb s'.r i := fun i c _ h hl => by
      rcases h with h | h
      · exact h
      · refine ss'.old i h ?_
        rcases Nat.lt_or_ge i s.n with h' | h'
        · exact h'
        · exact absurd hl (not_live (nn i h'))
    refine ⟨fun j o _ h => absurd h (hz j), by rw [e0]; exact hf.m, hf.df, fun t c hc h => ?_, fun i c hc hi h cs hcs => ?_, fun i i' c c' hc hc' hi hi' h h' hl hl' hne => ?_, fun _ _ h => h, fun _ _ => rfl, fun j hj _ i h1 h2 => ?_, fun _ _ _ => rfl, fun i c b z hc hi h h1 h2 hl => ?_, Nat.le_refl _, rfl, ⟨rfl, Nat.le_refl _⟩, rfl, fun _ => rfl⟩
    · rw [st_f D hle (Nat.zero_le c) hc (hcn _ c hc h), e0]; exact hf.get t
    · rw [hh i c hc h] at hcs
      exact H.rep i (hrd i c hc hi ⟨cs, hcs⟩) cs hcs
    · obtain ⟨cs, hl⟩ := hl
      obtain ⟨cs', hl'⟩ := hl'
      rw [hh i c hc h] at hl
      rw [hh i' c' hc' h'] at hl'
      exact H.inj i i' (hrd i c hc hi ⟨cs, hl⟩) (hrd i' c' hc' hi' ⟨cs', hl'⟩) ⟨cs, hl⟩ ⟨cs', hl'⟩ hne
    · have a1 := st_n D (Nat.zero_le j) (by omega)
      have a2 := st_n D (show j + 1 ≤ ops.size by omega) (Nat.le_refl _)
      rw [e0] at a1; rw [eN] at a2
      exact hnew i (by omega) (by omega)
    · obtain ⟨cs, hl⟩ := hl
      rw [hh i c hc h, nn i (by rw [e0] at h1; exact h1)] at hl
      cases hl
end
end E
end Go.Proofs.YtfmfeipeeedfpaaGreat

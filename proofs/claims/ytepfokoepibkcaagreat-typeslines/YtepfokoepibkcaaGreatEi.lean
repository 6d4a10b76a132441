/-
  Frames; a region's operations one behind the other.
-/
import Derived.Test.YtepfokoepibkcaaGreatEh
namespace Go.Proofs.YtepfokoepibkcaaGreat
namespace E
open Go.CheckFast (force force_eq)
/-- A frame that was reckoned against one of the run. -/
structure FR (k : K) (f : FT) (a : Act) : Prop where
  m : f.m = a.tmps.size
  le : f.m ≤ 256
  get : ∀ t, VX k (fget f t) (a.tmps.getD t undef)
  df : a.defers = []
theorem ev_of {k : K} {f : FT} {a : Act} (y : Operand) (h : ∀ t, y = .tmp t → VX k (fget f t) (a.tmps.getD t undef)) : VX k (evo f y) (a.eval y) := by
  cases y with
  | tmp t => exact h t rfl
  | const v =>
    show VX k (bif cok v then v else unk) v
    cases hc : cok v with
    | true => exact cok_vx hc
    | false => exact unk_vx
  | global g => exact unk_vx
  | func g => exact VX.func (cs := []) (us := []) rfl
theorem FR.ev {k : K} {f : FT} {a : Act} (h : FR k f a) (y : Operand) : VX k (evo f y) (a.eval y) := ev_of y fun t _ => h.get t
theorem FR.mono {k k' : K} {f : FT} {a : Act} (h : FR k f a) (e : ∀ i p, k i = some p → k' i = some p) : FR k' f a := ⟨h.m, h.le, fun t => (h.get t).mono e, h.df⟩
theorem put_m (f : FT) (d : Option Tmp) (v : Value) : (put f d v).m = f.m := by
  cases d with
  | none => rfl
  | some t => exact fput_m f t v
theorem put_sz (a : Act) (d : Option Tmp) (u : Value) : (a.put d u).tmps.size = a.tmps.size := by
  cases d with
  | none => rfl
  | some t => simp [Act.put]
theorem put_df (a : Act) (d : Option Tmp) (u : Value) : (a.put d u).defers = a.defers := by
  cases d with
  | none => rfl
  | some t => rfl
/-- One slot after it was written. -/
theorem put_get {k : K} {f : FT} {a : Act} {d : Option Tmp} {v u : Value} (hm : f.m = a.tmps.size) (hle : f.m ≤ 256) (hv : VX k v u) (t : Nat) (h : VX k (fget f t) (a.tmps.getD t undef)) : VX k (fget (put f d v) t) ((a.put d u).tmps.getD t undef) := by
  cases d with
  | none => exact h
  | some s =>
    simp only [put, Act.put]
    by_cases e : s = t
    · subst e
      by_cases hs : s < f.m
      · rw [fget_same v hle hs]
        have : s < a.tmps.size := hm ▸ hs
        simpa [this] using hv
      · have h1 : fput f s v = f := by unfold fput; rw [blt_f hs]; rfl
        rw [h1]
        have : ¬ s < a.tmps.size := hm ▸ hs
        simpa [this] using h
    · rw [fget_ne v hle e]
      have : (a.tmps.setIfInBounds s u).getD t undef = a.tmps.getD t undef := by
        simp [Array.getD_eq_getD_getElem?, Array.getElem?_setIfInBounds_ne e]
      rw [this]
      exact h
theorem FR.put {k : K} {f : FT} {a : Act} {v u : Value} (h : FR k f a) (d : Option Tmp) (hv : VX k v u) : FR k (E.put f d v) (a.put d u) :=
  ⟨by rw [put_m, put_sz]; exact h.m, by rw [put_m]; exact h.le, fun t => put_get h.m h.le hv t (h.get t), by rw [put_df]; exact h.df⟩
theorem want_of {k : K} {f : FT} {a : Act} {ops : Array Oper} {o : Oper} {b : Bool} (e : want f ops o.guard = some b)
    (h : ∀ j w t, o.guard = some (j, w) → (ops[j]?).bind (·.dst) = some t → VX k (fget f t) (a.tmps.getD t undef)) : Region.wanted o (yielded ops a.tmps) = b := by
  unfold want at e
  unfold Region.wanted
  split at e
  · rename_i hg; cases e; rw [hg]
  · rename_i j w hg
    rw [hg]
    simp only
    split at e
    · rename_i t ht
      have h1 := h j w t hg ht
      unfold yielded
      rw [ht]
      simp only [Option.bind_some]
      split at e
      · rename_i c hc
        cases e
        rw [hc] at h1
        have h2 := h1.bool_inv
        rw [Array.getD_eq_getD_getElem?] at h2
        cases h3 : a.tmps[t]? with
        | none => rw [h3] at h2; cases h2
        | some u => rw [h3] at h2; simp at h2; subst h2; cases c <;> cases w <;> rfl
      · rename_i vs hc
        cases e
        rw [hc] at h1
        obtain ⟨us, h2, _⟩ := h1.tuple_inv
        rw [Array.getD_eq_getD_getElem?] at h2
        cases h3 : a.tmps[t]? with
        | none => cases w <;> rfl
        | some u => rw [h3] at h2; simp at h2; subst h2; cases w <;> rfl
      · cases e
    · cases e
/-- One operation of a region. -/
def StepR (P : Program) (cf : Nat → List Value → HT → Nat → Option R5) (ops : Array Oper) (s : RL) (o : Oper) (s1 : RL) : Prop :=
  (want s.f ops o.guard = some true ∧ ∃ x, op1 P cf o.op s.f s.h s.n = some x ∧ s1 = ⟨put s.f o.dst x.v, x.h, x.n, Nat.lor s.r x.r, Nat.lor s.w x.w, (x.r, x.w) :: s.l⟩) ∨
  (want s.f ops o.guard = some false ∧ s1 = ⟨put s.f o.dst undef, s.h, s.n, s.r, s.w, (0, 0) :: s.l⟩)
theorem opsL_step {P : Program} {cf : Nat → List Value → HT → Nat → Option R5} {ops : Array Oper} {o : Oper} {rest : List Oper} {s s' : RL} (e : opsL P cf ops (o :: rest) s = some s') : ∃ s1, StepR P cf ops s o s1 ∧ opsL P cf ops rest s1 = some s' := by
  simp only [opsL] at e
  obtain ⟨b, hb, e⟩ := bind_some e
  cases b with
  | true =>
    obtain ⟨x, hx, e⟩ := bind_some (x := op1 P cf o.op s.f s.h s.n) e
    rw [force_eq, force_eq, force_eq] at e
    exact ⟨_, Or.inl ⟨hb, x, hx, rfl⟩, e⟩
  | false => exact ⟨_, Or.inr ⟨hb, rfl⟩, e⟩
theorem Ss.congr {h h' : HT} {n n' r w r' w' : Nat} (s : Ss h n h' n' r w) (hr : ∀ i, tb r i ↔ tb r' i) (hw : ∀ i, tb w i ↔ tb w' i) : Ss h n h' n' r' w' :=
  ⟨s.le, s.nn, fun i hi => s.same i (fun h => hi ((hw i).1 h)), fun i hi hn => (hr i).1 (s.old i ((hw i).2 hi) hn), fun i hi => s.lt i ((hw i).2 hi), s.back⟩
theorem Sd.congr {h h' : HT} {n n' r w r' w' : Nat} {k k' : K} {W W' : World} (d : Sd h n h' n' r w k W k' W') (hr : ∀ i, tb r i ↔ tb r' i) (hw : ∀ i, tb w i ↔ tb w' i) : Sd h n h' n' r' w' k W k' W' :=
  ⟨d.ext, d.dom, d.rep.sub (fun i hi => by rw [tb_or] at hi ⊢; exact hi.imp (hr i).2 (hw i).2), fun b hb hj => d.frm b hb (fun j z hj' => hj j z ((hw j).1 hj')),
    fun i b z h1 h2 h3 h4 => (d.fresh i b z h1 h2 h3 h4).imp id (fun ⟨j, z', a, b⟩ => ⟨j, z', (hw j).1 a, b⟩), d.size, d.os, d.tape, d.output, d.fz⟩
/-- What is said of a step. -/
theorem step_ok {P : Program} {cf : Nat → List Value → HT → Nat → Option R5} {ops : Array Oper} {o : Oper} {s s1 : RL} (hcf : Cs P cf) (nn : ∀ i, s.n ≤ i → hget s.h i = none) (e : StepR P cf ops s o s1) :
    ∃ r w v, s1.l = (r, w) :: s.l ∧ s1.f = put s.f o.dst v ∧ (∀ i, tb s1.r i ↔ tb s.r i ∨ tb r i) ∧ (∀ i, tb s1.w i ↔ tb s.w i ∨ tb w i) ∧ Ss s.h s.n s1.h s1.n r w ∧
      ∀ (k : K) (W : World) (a : Act) (K' : Act → World → Prop) (Q : Exit → Act → World → Prop), s.f.m = a.tmps.size → (∀ y ∈ o.op.operands.toList, VX k (evo s.f y) (a.eval y)) → (∀ j w t, o.guard = some (j, w) → (ops[j]?).bind (·.dst) = some t → VX k (fget s.f t) (a.tmps.getD t undef)) →
        HR k s.h W r → (∀ i, s.n ≤ i → i < s1.n → k i = none) → (∀ u W' k', Sd s.h s.n s1.h s1.n r w k W k' W' → VX k' v u → K' (a.put o.dst u) W') →
        if Region.wanted o (yielded ops a.tmps) = true then o.wp P a W K' Q else K' (a.put o.dst undef) W := by
  rcases e with ⟨hw, x, hx, rfl⟩ | ⟨hw, rfl⟩
  · have ho := s_op hcf nn hx
    refine ⟨x.r, x.w, x.v, rfl, rfl, fun i => tb_or, fun i => tb_or, ho.ss, fun k W a K' Q _ hop hg H hnew hk => ?_⟩
    rw [want_of hw hg, if_pos rfl]
    exact ho.ok k W a K' Q hop H hnew hk
  · refine ⟨0, 0, undef, rfl, rfl, fun i => ⟨Or.inl, fun h => h.resolve_right tb_zero⟩, fun i => ⟨Or.inl, fun h => h.resolve_right tb_zero⟩, Ss.refl _ _, fun k W a K' Q _ hop hg H hnew hk => ?_⟩
    rw [want_of hw hg, if_neg (by simp)]
    exact hk undef W k (Sd.refl _ _ _ _) undef_vx
/-- One behind the other. -/
theorem list_ok {P : Program} {cf : Nat → List Value → HT → Nat → Option R5} {ops : Array Oper} (hcf : Cs P cf) : ∀ (l : List Oper) (s s' : RL), (∀ i, s.n ≤ i → hget s.h i = none) → opsL P cf ops l s = some s' →
    ∃ r w, (∀ i, tb s'.r i ↔ tb s.r i ∨ tb r i) ∧ (∀ i, tb s'.w i ↔ tb s.w i ∨ tb w i) ∧ Ss s.h s.n s'.h s'.n r w ∧
      ∀ (k : K) (W : World) (a : Act) (Q : Exit → Act → World → Prop), FR k s.f a → HR k s.h W r → (∀ i, s.n ≤ i → i < s'.n → k i = none) → (∀ k' W' a', Sd s.h s.n s'.h s'.n r w k W k' W' → FR k' s'.f a' → Q .normal a' W') → wpList P ops Q l a W
  | [], s, s', nn, e => by
    cases e
    exact ⟨0, 0, fun i => ⟨Or.inl, fun h => h.resolve_right tb_zero⟩, fun i => ⟨Or.inl, fun h => h.resolve_right tb_zero⟩, Ss.refl _ _, fun k W a Q hf _ _ hk => wpList_nil (hk k W a (Sd.refl _ _ _ _) hf)⟩
  | o :: l, s, s', nn, e => by
    obtain ⟨s1, h1, e⟩ := opsL_step e
    obtain ⟨r1, w1, v, _, hf1, hr1, hw1, ss1, ok1⟩ := step_ok hcf nn h1
    obtain ⟨r2, w2, hr2, hw2, ss2, ok2⟩ := list_ok hcf l s1 s' (ss1.nn nn) e
    refine ⟨Nat.lor r1 r2, Nat.lor w1 w2, fun i => by rw [hr2, hr1, tb_or, or_assoc], fun i => by rw [hw2, hw1, tb_or, or_assoc], ss1.trans ss2, fun k W a Q hf H hnew hk => ?_⟩
    refine wpList_step fun K hK => ?_
    refine ok1 k W a K Q hf.m (fun y _ => hf.ev y) (fun j w t _ _ => hf.get t) (H.sub fun i hi => tb_or.2 (Or.inl hi)) (fun i h1 h2 => hnew i h1 (Nat.lt_of_lt_of_le h2 ss2.le)) (fun u W' k' hd hv => hK _ _ ?_)
    have H2 := Sd.next ss1 hd nn H
    refine ok2 k' W' _ Q (by rw [hf1]; exact (hf.mono hd.ext).put o.dst hv) (H2.sub fun i hi => tb_or.2 (Or.inr hi)) (fun i h1 h2 => by rw [hd.dom i (Or.inr h1)]; exact hnew i (Nat.le_trans ss1.le h1) h2) (fun k2 W2 a2 hd2 hf2 => hk k2 W2 a2 (Sd.trans ss1 hd ss2 hd2 nn H) hf2)
end E
end Go.Proofs.YtepfokoepibkcaaGreat

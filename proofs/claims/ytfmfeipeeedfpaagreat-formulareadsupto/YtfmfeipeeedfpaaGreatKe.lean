/-
  Calls whose answers are known. Code, calls: what was reckoned of a closed call is what each run of it does.
-/
import Derived.Test.YtfmfeipeeedfpaaGreatKd
import Derived.Scope
namespace Go.Proofs.YtfmfeipeeedfpaaGreat
namespace E
open Go.CheckFast (force force_eq)
theorem beqL_some {a b : ByteArray} (h : beqL a.data.toList b.data.toList = true) : a = b := by
  rw [beqL_eq] at h
  apply ByteArray.ext
  apply Array.ext'
  simpa using h
theorem aeq_eq {v u : Value} (h : aeq v u = true) : v = u := by
  unfold aeq at h
  split at h <;> (try split at h) <;> first
    | (cases h; done)
    | rfl
    | (simp only [Bool.and_eq_true, Nat.beq_eq] at h; obtain ⟨h1, h2⟩ := h; subst h1; subst h2; rfl)
    | (simp only [Bool.and_eq_true, Nat.beq_eq] at h; obtain ⟨⟨⟨h1, h2⟩, h3⟩, h4⟩ := h; subst h1; subst h2; subst h3; subst h4; rfl)
    | (rw [beqL_some h])
    | (simp only [Bool.and_eq_true, keq, decide_eq_true_eq] at h; obtain ⟨h1, h2⟩ := h; rw [ieq_eq] at h2; rw [h1, eq_of_beq h2])
    | (rw [eq_of_beq h])
theorem leq_eq : ∀ {l m : List Value}, leq l m = true → l = m
  | [], [], _ => rfl
  | [], _ :: _, h => by cases h
  | _ :: _, [], h => by cases h
  | v :: x, u :: y, h => by
    simp only [leq] at h
    cases ha : aeq v u with
    | false => rw [ha] at h; cases h
    | true => rw [ha] at h; rw [aeq_eq ha, leq_eq h]
theorem veq1_eq {v u : Value} (h : veq1 v u = true) : v = u := by
  unfold veq1 at h
  split at h
  · split at h
    · congr 1; exact Array.ext' (leq_eq h)
    · cases h
  · exact aeq_eq h
theorem leq1_eq : ∀ {l m : List Value}, leq1 l m = true → l = m
  | [], [], _ => rfl
  | [], _ :: _, h => by cases h
  | _ :: _, [], h => by cases h
  | v :: x, u :: y, h => by
    simp only [leq1] at h
    cases ha : veq1 v u with
    | false => rw [ha] at h; cases h
    | true => rw [ha] at h; rw [veq1_eq ha, leq1_eq h]
theorem veq2_eq {v u : Value} (h : veq2 v u = true) : v = u := by
  unfold veq2 at h
  split at h
  · split at h
    · congr 1; exact Array.ext' (leq1_eq h)
    · cases h
  · exact veq1_eq h
/-! Other numbers for blocks. -/
section
variable {k k' : K} {g : Nat → Nat}
theorem r0 (hg : ∀ i p, k (g i) = some p → k' i = some p) {v u : Value} (ha : at0 v = true) (h : VX k (s0 g v) u) : VX k' v u := by
  cases v with
  | pointer a => cases a with
    | none => exact VX.of0 (h.v0 trivial)
    | some a => obtain ⟨h1, b, z, h2, h3⟩ := h.ptr_inv; exact VX.of0 ⟨h1, b, z, hg _ _ h2, h3⟩
  | slice a n c => cases a with
    | none => exact VX.of0 h.nilslc_inv
    | some a => obtain ⟨h1, b, z, c, h2, h3⟩ := h.slc_inv; exact VX.of0 ⟨h1, b, z, c, hg _ _ h2, h3⟩
  | agg _ => cases ha
  | tuple _ => cases ha
  | func _ _ _ => cases ha
  | iface _ _ => cases ha
  | chan _ => cases ha
  | map _ => cases ha
  | _ => exact VX.of0 (h.v0 trivial)
theorem rL (hg : ∀ i p, k (g i) = some p → k' i = some p) : ∀ {l m : List Value}, l.all at0 = true → LR (VX k) (sL g l) m → LR (VX k') l m
  | [], _, _, h => h
  | v :: l, _, ha, ⟨y, ys, e, h1, h2⟩ => by
    simp only [List.all_cons, Bool.and_eq_true] at ha
    exact ⟨y, ys, e, r0 hg ha.1 h1, rL hg ha.2 h2⟩
theorem r1 (hg : ∀ i p, k (g i) = some p → k' i = some p) {v u : Value} (ha : at1 v = true) (h : VX k (s1 g v) u) : VX k' v u := by
  cases v with
  | agg cs =>
    obtain ⟨us, e, h1⟩ := h.agg_inv
    rw [e]
    have := VX.agg (rL hg ha (by simpa using h1))
    simpa using this
  | _ => exact r0 hg ha h
theorem rM (hg : ∀ i p, k (g i) = some p → k' i = some p) : ∀ {l m : List Value}, l.all at1 = true → LR (VX k) (sM g l) m → LR (VX k') l m
  | [], _, _, h => h
  | v :: l, _, ha, ⟨y, ys, e, h1, h2⟩ => by
    simp only [List.all_cons, Bool.and_eq_true] at ha
    exact ⟨y, ys, e, r1 hg ha.1 h1, rM hg ha.2 h2⟩
theorem r2 (hg : ∀ i p, k (g i) = some p → k' i = some p) {v u : Value} (ha : at2 v = true) (h : VX k (s2 g v) u) : VX k' v u := by
  cases v with
  | tuple cs =>
    obtain ⟨us, e, h1⟩ := h.tuple_inv
    rw [e]
    have := VX.tuple (rM hg ha (by simpa using h1))
    simpa using this
  | _ => exact r1 hg ha h
theorem t0 (hg : ∀ i p, k' i = some p → k (g i) = some p) {v u : Value} (ha : at0 v = true) (h : VX k' v u) : VX k (s0 g v) u := by
  cases v with
  | pointer a => cases a with
    | none => exact VX.of0 (h.v0 trivial)
    | some a => obtain ⟨h1, b, z, h2, h3⟩ := h.ptr_inv; exact VX.of0 ⟨h1, b, z, hg _ _ h2, h3⟩
  | slice a n c => cases a with
    | none => exact VX.of0 h.nilslc_inv
    | some a => obtain ⟨h1, b, z, c, h2, h3⟩ := h.slc_inv; exact VX.of0 ⟨h1, b, z, c, hg _ _ h2, h3⟩
  | agg _ => cases ha
  | tuple _ => cases ha
  | func _ _ _ => cases ha
  | iface _ _ => cases ha
  | chan _ => cases ha
  | map _ => cases ha
  | _ => exact VX.of0 (h.v0 trivial)
theorem tL (hg : ∀ i p, k' i = some p → k (g i) = some p) : ∀ {l m : List Value}, l.all at0 = true → LR (VX k') l m → LR (VX k) (sL g l) m
  | [], _, _, h => h
  | v :: l, _, ha, ⟨y, ys, e, h1, h2⟩ => by
    simp only [List.all_cons, Bool.and_eq_true] at ha
    exact ⟨y, ys, e, t0 hg ha.1 h1, tL hg ha.2 h2⟩
theorem t1 (hg : ∀ i p, k' i = some p → k (g i) = some p) {v u : Value} (ha : at1 v = true) (h : VX k' v u) : VX k (s1 g v) u := by
  cases v with
  | agg cs =>
    obtain ⟨us, e, h1⟩ := h.agg_inv
    rw [e]
    exact VX.agg (tL hg ha h1)
  | _ => have hh := fun p => t0 hg p h; exact hh ha
theorem tM (hg : ∀ i p, k' i = some p → k (g i) = some p) : ∀ {l m : List Value}, l.all at1 = true → LR (VX k') l m → LR (VX k) (sM g l) m
  | [], _, _, h => h
  | v :: l, _, ha, ⟨y, ys, e, h1, h2⟩ => by
    simp only [List.all_cons, Bool.and_eq_true] at ha
    exact ⟨y, ys, e, t1 hg ha.1 h1, tM hg ha.2 h2⟩
theorem t2 (hg : ∀ i p, k' i = some p → k (g i) = some p) {v u : Value} (ha : at2 v = true) (h : VX k' v u) : VX k (s2 g v) u := by
  cases v with
  | tuple cs =>
    obtain ⟨us, e, h1⟩ := h.tuple_inv
    rw [e]
    exact VX.tuple (tM hg ha h1)
  | _ => have hh := fun p => t1 hg p h; exact hh ha
end
/-- An entry tells what each such call does. -/
structure EnOk (P : Program) (e : En) : Prop where
  wv : at2 e.v = true
  wb : ∀ b ∈ e.bs, b.all at0 = true
  wa : e.args.all flat1 = true
  enter : ∀ args w, (callFunc e.f args).run P w = .ok (.enter e.f args) w
  ok : ∀ W, Calls P e.f e.args.toArray W fun r W' => ∃ u k', r = .returned u ∧ VX k' e.v u ∧ (∀ i, e.bs.length ≤ i → k' i = none) ∧
    (∀ i cs, e.bs[i]? = some cs → RB k' W' i cs ∧ ∀ b z, k' i = some (b, z) → W.heap.size ≤ b) ∧
    (∀ i j b z b' z', i ≠ j → k' i = some (b, z) → k' j = some (b', z') → b ≠ b') ∧ (∀ b, b < W.heap.size → W'.heap[b]? = W.heap[b]?) ∧ W.heap.size ≤ W'.heap.size ∧ W'.os = W.os ∧ Tp W' W ∧ W'.output = W.output ∧ ∀ a, W'.frozen? a = W.frozen? a
theorem tb_bits : ∀ {m n i : Nat}, tb (bits n m) i ↔ n ≤ i ∧ i < n + m
  | 0, n, i => by simp only [bits]; exact ⟨fun h => absurd h tb_zero, fun h => by omega⟩
  | m + 1, n, i => by
    simp only [bits, tb_or, tb_bit, tb_bits (m := m)]
    omega
theorem lays_get {n : Nat} : ∀ (l : List (List Value)) (i : Nat) (h : HT) (j : Nat), i + l.length ≤ 4096 → hget (lays n l i h) j = if i ≤ j ∧ j < i + l.length then (l[j - i]?).map (sL (Nat.add n)) else hget h j
  | [], i, h, j, _ => by rw [lays, if_neg (by simp only [List.length_nil]; omega)]
  | b :: l, i, h, j, hl => by
    simp only [List.length_cons] at hl ⊢
    rw [lays, lays_get l (Nat.succ i) _ j (by omega)]
    by_cases e : i = j
    · subst e
      rw [if_neg (by omega), if_pos (by omega), hget_same _ (by omega)]
      simp
    · rw [hget_ne _ (by omega) e]
      by_cases h1 : i ≤ j ∧ j < i + (l.length + 1)
      · rw [if_pos (by omega), if_pos h1, show j - i = (j - Nat.succ i) + 1 by omega, List.getElem?_cons_succ]
      · rw [if_neg (by omega), if_neg h1]
theorem find_some {f : Nat} {args : List Value} : ∀ {l : List En} {e : En}, find f args l = some e → e ∈ l ∧ f = e.f ∧ args = e.args
  | [], _, h => by cases h
  | x :: l, e, h => by
    simp only [find] at h
    cases hc : (Nat.beq f x.f && leq args x.args) with
    | false =>
      rw [hc] at h
      obtain ⟨h1, h2⟩ := find_some (l := l) h
      exact ⟨by simp [h1], h2⟩
    | true =>
      rw [hc] at h
      cases h
      simp only [Bool.and_eq_true, Nat.beq_eq] at hc
      exact ⟨by simp, hc.1, leq_eq hc.2⟩
theorem known_ok {P : Program} {e : En} (he : EnOk P e) {h : HT} {n : Nat} {x : R5} (hx : known e h n = some x) : Ss h n x.h x.n x.r x.w ∧ (∀ args w, (callFunc e.f args).run P w = .ok (.enter e.f args) w) ∧
    ∀ (k : K) (W : World) (us : List Value), LR (VX k) e.args us → HR k h W x.r → (∀ i, n ≤ i → i < x.n → k i = none) → Calls P e.f us.toArray W fun r W' => ∃ u k', r = .returned u ∧ Sd h n x.h x.n x.r x.w k W k' W' ∧ VX k' x.v u := by
  obtain ⟨hle, hx⟩ := bif_some hx
  rw [Nat.ble_eq] at hle
  cases hx
  have hg := fun j => lays_get (n := n) e.bs n h j hle
  refine ⟨⟨Nat.le_add_right _ _, fun nn i hi => ?_, fun i hi => ?_, fun i hi hn => ?_, fun i hi => (tb_bits.1 hi).2, fun i hi ⟨cs, hl⟩ => ?_⟩, he.enter, fun k W us hus H hnew => ?_⟩
  · have hi' : n + e.bs.length ≤ i := hi
    rw [hg, if_neg (by omega)]; exact nn i (by omega)
  · rw [hg, if_neg (fun h => hi (tb_bits.2 h))]
  · have := (tb_bits.1 hi).1; omega
  · rw [hg, if_neg (by omega)] at hl; exact ⟨cs, hl⟩
  · have hue := flatL_eq hus he.wa
    subst hue
    refine (he.ok W).mono ?_
    rintro r W' ⟨u, k', rfl, a1, a2, a3, a4, a5, a6, a7, a8, a9, a10⟩
    let k2 : K := fun i => if n ≤ i ∧ i < n + e.bs.length then k' (i - n) else k i
    have hin : ∀ i, n ≤ i → i < n + e.bs.length → k2 i = k' (i - n) := fun i h1 h2 => if_pos ⟨h1, h2⟩
    have hout : ∀ i, ¬ (n ≤ i ∧ i < n + e.bs.length) → k2 i = k i := fun i h => if_neg h
    have hk2 : ∀ i p, k' i = some p → k2 (Nat.add n i) = some p := fun i p hp => by
      have hi : i < e.bs.length := by
        rcases Nat.lt_or_ge i e.bs.length with h' | h'
        · exact h'
        · rw [a2 i h'] at hp; cases hp
      show k2 (n + i) = some p
      rw [hin (n + i) (by omega) (by omega), show n + i - n = i by omega]; exact hp
    refine ⟨u, k2, rfl, ⟨fun i p hp => ?_, fun i hi => hout i (by simp only at hi; omega), ⟨fun i hi cs hcs => ?_, fun i j hi hj _ _ hne b z b' z' hb hb' => ?_⟩, fun b hb _ => a5 b hb, fun i b z h1 h2 _ hk => Or.inl ?_, a6, a7, a8, a9, a10⟩, t2 hk2 he.wv a1⟩
    · rw [hout i (fun h => by rw [hnew i h.1 h.2] at hp; cases hp)]; exact hp
    · have hi' := tb_bits.1 ((tb_or.1 hi).resolve_left tb_zero)
      rw [hg, if_pos hi'] at hcs
      cases hb : e.bs[i - n]? with
      | none => rw [hb] at hcs; cases hcs
      | some c =>
        rw [hb] at hcs
        cases hcs
        exact (a3 (i - n) c hb).1.mono (fun p hp => by rw [hin i hi'.1 hi'.2]; exact hp) (fun _ _ _ _ => rfl) (fun us => tL hk2 (he.wb c (List.mem_of_getElem? hb)))
    · have hi' := tb_bits.1 ((tb_or.1 hi).resolve_left tb_zero)
      have hj' := tb_bits.1 ((tb_or.1 hj).resolve_left tb_zero)
      rw [hin i hi'.1 hi'.2] at hb
      rw [hin j hj'.1 hj'.2] at hb'
      exact a4 (i - n) (j - n) b z b' z' (by omega) hb hb'
    · rw [hin i h1 h2] at hk
      cases hb : e.bs[i - n]? with
      | none => rw [a2 (i - n) (by rw [List.getElem?_eq_none_iff] at hb; exact hb)] at hk; cases hk
      | some c =>
        exact (a3 (i - n) c hb).2 _ _ hk
end E
end Go.Proofs.YtfmfeipeeedfpaaGreat
namespace Go.Proofs.YtfmfeipeeedfpaaGreat
namespace E
open Go.CheckFast (force force_eq)
section
variable {P : Program}
/-- What is said of code. -/
def Rn (P : Program) (rn : Code → FT → HT → Nat → Option RC) : Prop := ∀ c f h n x, (∀ i, n ≤ i → hget h i = none) → rn c f h n = some x → Ss h n x.h x.n x.r x.w ∧
  ∀ (k : K) (W : World) (a : Act) (Q : Exit → Act → World → Prop), FR k f a → HR k h W x.r → (∀ i, n ≤ i → i < x.n → k i = none) → (∀ k' W' a', Sd h n x.h x.n x.r x.w k W k' W' → FR k' x.f a' → Q x.e a' W') → c.wp P Q a W
theorem args_m : ∀ (l : List Value) (f : FT) (i : Nat), (args' f i l).m = f.m
  | [], _, _ => rfl
  | v :: l, f, i => by rw [args', args_m l, fput_m]
theorem args_get : ∀ (l : List Value) (f : FT) (i t : Nat), f.m ≤ 256 → i + l.length ≤ f.m → fget (args' f i l) t = if i ≤ t then (l[t - i]?).getD (fget f t) else fget f t
  | [], f, i, t, _, _ => by simp [args']
  | v :: l, f, i, t, hm, hl => by
    simp only [List.length_cons] at hl
    rw [args', args_get l (fput f i v) (i + 1) t (by rw [fput_m]; exact hm) (by rw [fput_m]; omega)]
    by_cases e : i = t
    · subst e
      rw [if_neg (by omega), if_pos (Nat.le_refl _), fget_same v hm (by omega)]
      simp
    · rw [fget_ne v hm e]
      by_cases h : i ≤ t
      · rw [if_pos (by omega), if_pos h, show t - i = (t - (i + 1)) + 1 by omega, List.getElem?_cons_succ]
      · rw [if_neg (by omega), if_neg h]
theorem LR.get' {R : Value → Value → Prop} : ∀ {l m : List Value} (i : Nat) (d : Value), LR R l m → R d d → R ((l[i]?).getD d) ((m[i]?).getD d)
  | [], _, i, d, e, h => by rw [e]; simpa using h
  | x :: xs, _, 0, d, ⟨y, ys, e, r, _⟩, h => by rw [e]; simpa using r
  | x :: xs, _, i + 1, d, ⟨y, ys, e, _, q⟩, h => by rw [e]; simpa using q.get' i d h
theorem args_fr {k : K} {vs us : List Value} {m : Nat} (h : LR (VX k) vs us) (hm : m ≤ 256) (hl : vs.length ≤ m) : FR k (args' ⟨m, fe5, fe8⟩ 0 vs) { tmps := us.toArray ++ Array.replicate (m - us.toArray.size) undef, defers := [] } := by
  have hlen := h.len
  refine ⟨by rw [args_m]; simp; omega, by rw [args_m]; exact hm, fun t => ?_, rfl⟩
  rw [args_get vs _ 0 t hm (by simpa using hl), if_pos (Nat.zero_le _), fget_new, Nat.sub_zero]
  have : (us.toArray ++ Array.replicate (m - us.toArray.size) undef).getD t undef = (us[t]?).getD undef := by
    rw [Array.getD_eq_getD_getElem?]
    by_cases ht : t < us.length
    · rw [Array.getElem?_append_left (by simpa using ht)]; simp
    · rw [Array.getElem?_append_right (by simpa using ht)]
      rw [List.getElem?_eq_none (by omega)]
      by_cases h2 : t - us.toArray.size < m - us.toArray.size
      · rw [Array.getElem?_replicate, if_pos h2]; rfl
      · rw [Array.getElem?_replicate, if_neg h2]
  rw [this]
  exact h.get' t undef undef_vx
def resF (tmps : Array Value) (x : ResultVar) : Sem Value := match x with
  | .tmp t => pure (tmps.getD t undef)
  | .cell b t => do loadVar t (← asAddr (tmps.getD b undef))
theorem res_ok {k : K} {f : FT} {a : Act} {h : HT} {W : World} (hf : FR k f a) : ∀ (l : List ResultVar) (y : List Value × Nat), res P f h l = some y → HR k h W y.2 →
    ∃ us, LR (VX k) y.1 us ∧ (l.mapM (resF a.tmps)).run P W = .ok us W
  | [], y, e, _ => by cases e; exact ⟨[], rfl, rfl⟩
  | x :: l, y, e, H => by
    simp only [res] at e
    obtain ⟨y', h1, e⟩ := bind_some e
    cases x with
    | tmp t =>
      cases e
      obtain ⟨us, h2, h3⟩ := res_ok hf l y' h1 H
      exact ⟨_, ⟨_, us, rfl, hf.get t, h2⟩, by rw [List.mapM_cons]; simp only [resF, Sem.run_bind, Sem.run_pure, Result.andThen_ok, h3]⟩
    | cell b t =>
      obtain ⟨z, h4, e⟩ := bind_some e
      cases e
      obtain ⟨us, h2, h3⟩ := res_ok hf l y' h1 (H.sub fun i hi => tb_or.2 (Or.inl hi))
      obtain ⟨p, q, hv, h5⟩ := onP_some h4
      obtain ⟨_, _, hr, _, h6⟩ := ld_ok h5
      have h7 := hf.get b
      have hv' : fget f b = .pointer (some ⟨p, q, none⟩) := hv
      rw [hv'] at h7
      obtain ⟨_, b', zz, hk, h8⟩ := h7.ptr_inv
      obtain ⟨u, h9, h10⟩ := h6 k W b' zz (H.sub fun i hi => tb_or.2 (Or.inr (by rw [hr]; exact hi))) hk
      refine ⟨u :: us, ⟨u, us, rfl, h9, h2⟩, ?_⟩
      rw [List.mapM_cons]
      simp only [resF, Sem.run_bind, Sem.run_pure, Result.andThen_ok, h8, asAddr, h10, h3]
theorem results_run {k : K} {f : FT} {a : Act} {h : HT} {W : World} {fn : Func} (hf : FR k f a) {y : List Value × Nat} (e : res P f h fn.results.toList = some y) (H : HR k h W y.2) : ∃ u, VX k (single y.1) u ∧ (results fn a.tmps).run P W = .ok u W := by
  obtain ⟨us, h1, h2⟩ := res_ok (P := P) hf _ y e H
  refine ⟨if us.length = 1 then us.headD undef else .tuple us.toArray, ?_, ?_⟩
  · obtain ⟨vs, m⟩ := y
    simp only at h1 ⊢
    cases vs with
    | nil => rw [h1]; exact VX.tuple (cs := []) (us := []) rfl
    | cons v vs =>
      obtain ⟨u, us', rfl, r1, r2⟩ := h1
      cases vs with
      | nil => rw [r2]; exact r1
      | cons v' vs' =>
        have hl := r2.len
        rw [if_neg (by intro h0; simp only [List.length_cons] at h0 hl; omega)]
        exact VX.tuple ⟨u, us', rfl, r1, r2⟩
  · have e1 : results fn a.tmps = (do
        let vs ← fn.results.mapM (resF a.tmps)
        pure (if h : vs.size = 1 then vs[0] else .tuple vs)) := rfl
    rw [e1, Array.mapM_eq_mapM_toList]
    simp only [map_eq_pure_bind, Sem.run_bind, h2, Result.andThen_ok, Sem.run_pure]
    congr 1
    by_cases hl : us.length = 1
    · rw [if_pos hl, dif_pos (by simpa using hl)]
      cases us with
      | nil => cases hl
      | cons u us => simp
    · rw [if_neg hl, dif_neg (by simpa using hl)]
theorem call0_ok {rn : Code → FT → HT → Nat → Option RC} (hrn : Rn P rn) {f : Nat} {vs : List Value} {h : HT} {n : Nat} {x : R5} (nn : ∀ i, n ≤ i → hget h i = none) (e : call0 P rn f vs h n = some x) : Ss h n x.h x.n x.r x.w ∧ (∀ args w, (callFunc f args).run P w = .ok (.enter f args) w) ∧
    ∀ (k : K) (W : World) (us : List Value), LR (VX k) vs us → HR k h W x.r → (∀ i, n ≤ i → i < x.n → k i = none) → Calls P f us.toArray W fun e W' => ∃ u k', e = .returned u ∧ Sd h n x.h x.n x.r x.w k W k' W' ∧ VX k' x.v u := by
  unfold call0 at e
  split at e
  · rename_i fn hfn
    split at e
    · rename_i c hc
      obtain ⟨hok, e⟩ := bif_some e
      unfold fnok at hok
      simp only [Bool.and_eq_true, Nat.ble_eq, Bool.not_eq_true'] at hok
      obtain ⟨⟨o1, o2⟩, o3⟩ := hok
      unfold callB at e
      obtain ⟨y, hy, e⟩ := bind_some e
      obtain ⟨z, hz, e⟩ := bind_some e
      obtain ⟨he, e⟩ := bif_some e
      cases e
      obtain ⟨ss, ok⟩ := hrn _ _ _ _ _ nn hy
      have ssr : Ss h n y.h y.n (Nat.lor y.r z.2) y.w := (ss.trans (Ss.read y.h y.n z.2)).congr (fun _ => Iff.rfl) (fun i => ⟨fun h => (tb_or.1 h).resolve_right tb_zero, fun h => tb_or.2 (Or.inl h)⟩)
      refine ⟨ssr, fun args w => ?_, fun k W us hvs H hnew => ?_⟩
      · have hb : fn.body.isNone = false := by rw [hc]; rfl
        simp only [callFunc, Sem.run_bind, program, Sem.run, Result.andThen_ok, hfn]
        rw [if_neg (by rw [o3]; simp), hb]
        simp
      · refine calls_of_wp hfn hc ?_
        refine ok k W _ _ (args_fr hvs o2 o1) (H.sub fun i hi => tb_or.2 (Or.inl hi)) hnew (fun k' W' a' hd hf => ?_)
        have H2 := Sd.next ss hd nn H
        have H3 : HR k' y.h W' z.2 := H2.sub fun i hi => tb_or.2 (Or.inr hi)
        obtain ⟨u, h1, h2⟩ := results_run hf hz H3
        have hd' : Sd h n y.h y.n (Nat.lor y.r z.2) y.w k W k' W' := (Sd.trans ss hd (Ss.read y.h y.n z.2) (Sd.read H3) nn H).congr (fun _ => Iff.rfl) (fun i => ⟨fun h => (tb_or.1 h).resolve_right tb_zero, fun h => tb_or.2 (Or.inl h)⟩)
        cases hye : y.e with
        | normal => exact ⟨hf.df, u, h2, u, k', rfl, hd', h1⟩
        | ret => exact ⟨hf.df, u, h2, u, k', rfl, hd', h1⟩
        | _ => rw [hye] at he; cases he
    · cases e
  · cases e
structure TbOk (P : Program) (t : Tb) : Prop where
  l : ∀ e ∈ t.l, EnOk P e
  x : ∀ f vs v, t.x f vs = some v → vs.all flat1 = true ∧ (∀ k : K, VX k v v) ∧ ∀ w, (callFunc f vs.toArray).run P w = .ok (.value v) w
theorem call_ok {tb' : Tb} {rn : Code → FT → HT → Nat → Option RC} (ht : TbOk P tb') (hrn : Rn P rn) : Cs P (call P tb' rn) := by
  intro f vs h n x nn e
  unfold call at e
  split at e
  · rename_i v hv
    cases e
    obtain ⟨h1, h2, h3⟩ := ht.x f vs v hv
    exact ⟨Ss.refl h n, fun k W us hus _ _ => Or.inr ⟨v, by rw [flatL_eq hus h1]; exact h3 W, v, k, rfl, Sd.refl h n k W, h2 k⟩⟩
  · split at e
    · rename_i en hfd
      obtain ⟨h1, rfl, rfl⟩ := find_some hfd
      obtain ⟨a1, a2, a3⟩ := known_ok (ht.l en h1) e
      exact ⟨a1, fun k W us hus H hn => Or.inl ⟨a2 _ _, a3 k W us hus H hn⟩⟩
    · obtain ⟨a1, a2, a3⟩ := call0_ok hrn nn e
      exact ⟨a1, fun k W us hus H hn => Or.inl ⟨a2 _ _, a3 k W us hus H hn⟩⟩
/-- One thing behind another. -/
theorem then_ok {f : FT} {h : HT} {n : Nat} {x y z : RC} {a b : Code} (nn : ∀ i, n ≤ i → hget h i = none)
    (sa : Ss h n x.h x.n x.r x.w) (oka : ∀ (k : K) (W : World) (a' : Act) (Q : Exit → Act → World → Prop), FR k f a' → HR k h W x.r → (∀ i, n ≤ i → i < x.n → k i = none) → (∀ k' W' a', Sd h n x.h x.n x.r x.w k W k' W' → FR k' x.f a' → Q x.e a' W') → a.wp P Q a' W)
    (sb : Ss x.h x.n y.h y.n y.r y.w) (hz : z = ⟨y.e, y.f, y.h, y.n, Nat.lor x.r y.r, Nat.lor x.w y.w⟩) (he : x.e = .normal)
    {T : (Exit → Act → World → Prop) → Act → World → Prop} (okb : ∀ (k : K) (W : World) (a' : Act) (Q : Exit → Act → World → Prop), FR k x.f a' → HR k x.h W y.r → (∀ i, x.n ≤ i → i < y.n → k i = none) → (∀ k' W' a', Sd x.h x.n y.h y.n y.r y.w k W k' W' → FR k' y.f a' → Q y.e a' W') → T Q a' W) :
    Ss h n z.h z.n z.r z.w ∧ ∀ (k : K) (W : World) (a' : Act) (Q : Exit → Act → World → Prop), FR k f a' → HR k h W z.r → (∀ i, n ≤ i → i < z.n → k i = none) → (∀ k' W' a', Sd h n z.h z.n z.r z.w k W k' W' → FR k' z.f a' → Q z.e a' W') → a.wp P (Exit.then (T Q) Q) a' W := by
  have _ := b
  subst hz
  refine ⟨sa.trans sb, fun k W a' Q hf H hnew hk => ?_⟩
  refine oka k W a' _ hf (H.sub fun i hi => tb_or.2 (Or.inl hi)) (fun i h1 h2 => hnew i h1 (Nat.lt_of_lt_of_le h2 sb.le)) (fun k1 W1 a1 hd hf1 => ?_)
  rw [he]
  have H2 := Sd.next sa hd nn H
  refine okb k1 W1 a1 Q hf1 (H2.sub fun i hi => tb_or.2 (Or.inr hi)) (fun i h1 h2 => by rw [hd.dom i (Or.inr h1)]; exact hnew i (Nat.le_trans sa.le h1) h2) (fun k2 W2 a2 hd2 hf2 => hk k2 W2 a2 (Sd.trans sa hd sb hd2 nn H) hf2)
theorem thenC_some {x : Option RC} {g : FT → HT → Nat → Option RC} {z : RC} (e : thenC x g = some z) : ∃ y, x = some y ∧ ((y.e ≠ .normal ∧ z = y) ∨ (y.e = .normal ∧ ∃ u, g y.f y.h y.n = some u ∧ z = ⟨u.e, u.f, u.h, u.n, Nat.lor y.r u.r, Nat.lor y.w u.w⟩)) := by
  obtain ⟨y, hy, e⟩ := bind_some e
  refine ⟨y, hy, ?_⟩
  cases he : y.e with
  | normal =>
    rw [he] at e
    obtain ⟨u, hu, e⟩ := bind_some (x := g y.f y.h y.n) e
    rw [force_eq, force_eq] at e
    cases e
    exact Or.inr ⟨rfl, u, hu, rfl⟩
  | _ => rw [he] at e; cases e; exact Or.inl ⟨by simp, rfl⟩
/-- A run of a piece of a scope's code, within the scope. -/
def SW (P : Program) (c d : Code) (Q : Exit → Act → World → Prop) (a : Act) (w : World) : Prop :=
  ∀ (b : Frame) (k : List Item) (cs : List Frame), ∃ e a' w', Q e a' w' ∧ Arrives P (lone (b.at a (.code d :: .inScope c :: k)) cs w) b k cs e a' w'
theorem sw_in {c : Code} {Q : Exit → Act → World → Prop} {a : Act} {w : World} (h : SW P c c Q a w) : (Code.scope c).wp P Q a w := fun b k cs => by
  obtain ⟨e, a', w', hq, harr⟩ := h b k cs
  exact ⟨e, a', w', hq, .of_steps (.one step_scope) harr⟩
/-- As Q, but for a goto to one label. -/
def toL (l : Nat) (J : Act → World → Prop) (Q : Exit → Act → World → Prop) : Exit → Act → World → Prop
  | .goto l', a, w => l' = l ∧ J a w
  | e, a, w => Q e a w
theorem sw_go {c d r : Code} {l : Nat} {Q : Exit → Act → World → Prop} {a : Act} {w : World} (hf : findLabel c l = some r) (h : d.wp P (toL l (SW P c r Q) Q) a w) : SW P c d Q a w := fun b k cs => by
  obtain ⟨e, a₁, w₁, hq, harr⟩ := h b (.inScope c :: k) cs
  cases e with
  | normal => exact ⟨.normal, a₁, w₁, hq, Steps.trans harr (.one step_inScope)⟩
  | exit id => exact ⟨.exit id, a₁, w₁, hq, fun k' hk => harr k' (by simp [exitTo, hk])⟩
  | goto l' =>
    obtain ⟨rfl, hJ⟩ := hq
    obtain ⟨e₂, a₂, w₂, hq₂, harr₂⟩ := hJ b k cs
    exact ⟨e₂, a₂, w₂, hq₂, .of_steps (harr _ (by simp [gotoIn, hf])) harr₂⟩
  | ret => exact ⟨_, a₁, w₁, hq, harr⟩
  | panic ch => exact ⟨_, a₁, w₁, hq, harr⟩
  | outgrown => exact ⟨_, a₁, w₁, hq, harr⟩
def noG (Q : Exit → Act → World → Prop) : Exit → Act → World → Prop
  | .goto _, _, _ => False
  | e, a, w => Q e a w
theorem sw_no {c d : Code} {Q : Exit → Act → World → Prop} {a : Act} {w : World} (h : d.wp P (noG Q) a w) : SW P c d Q a w := fun b k cs => by
  obtain ⟨e, a₁, w₁, hq, harr⟩ := h b (.inScope c :: k) cs
  cases e with
  | normal => exact ⟨.normal, a₁, w₁, hq, Steps.trans harr (.one step_inScope)⟩
  | exit id => exact ⟨.exit id, a₁, w₁, hq, fun k' hk => harr k' (by simp [exitTo, hk])⟩
  | goto l' => exact absurd hq id
  | ret => exact ⟨_, a₁, w₁, hq, harr⟩
  | panic ch => exact ⟨_, a₁, w₁, hq, harr⟩
  | outgrown => exact ⟨_, a₁, w₁, hq, harr⟩
theorem jumps_ok {rn : Code → FT → HT → Nat → Option RC} (hrn : Rn P rn) (c : Code) : ∀ (m : Nat) (d : Code) f h n x, (∀ i, n ≤ i → hget h i = none) → jumps rn c m (rn d f h n) = some x → Ss h n x.h x.n x.r x.w ∧
    ∀ (k : K) (W : World) (a : Act) (Q : Exit → Act → World → Prop), FR k f a → HR k h W x.r → (∀ i, n ≤ i → i < x.n → k i = none) → (∀ k' W' a', Sd h n x.h x.n x.r x.w k W k' W' → FR k' x.f a' → Q x.e a' W') → SW P c d Q a W := by
  intro m
  induction m with
  | zero => intro d f h n x _ e; cases e
  | succ m ih =>
    intro d f h n x nn e
    obtain ⟨y, hy, e⟩ := bind_some (show (rn d f h n).bind _ = some x from e)
    obtain ⟨sa, oka⟩ := hrn _ _ _ _ _ nn hy
    cases hye : y.e with
    | goto l =>
      rw [hye] at e
      have e : (match findLabel c l with
        | some r => orC (jumps rn c m (rn r y.f y.h y.n)) y.r y.w
        | none => none) = some x := e
      cases hfl : findLabel c l with
      | none => rw [hfl] at e; cases e
      | some r =>
        rw [hfl] at e
        obtain ⟨u, hu, e⟩ := bind_some (show (jumps rn c m (rn r y.f y.h y.n)).bind _ = some x from e)
        rw [force_eq, force_eq] at e
        cases e
        obtain ⟨sb, okb⟩ := ih r y.f y.h y.n u (sa.nn nn) hu
        refine ⟨sa.trans sb, fun k W a Q hf H hnew hk => sw_go hfl ?_⟩
        refine oka k W a _ hf (H.sub fun i hi => tb_or.2 (Or.inl hi)) (fun i h1 h2 => hnew i h1 (Nat.lt_of_lt_of_le h2 sb.le)) (fun k1 W1 a1 hd hf1 => ?_)
        rw [hye]
        have H2 := Sd.next sa hd nn H
        exact ⟨rfl, okb k1 W1 a1 Q hf1 (H2.sub fun i hi => tb_or.2 (Or.inr hi)) (fun i h1 h2 => by rw [hd.dom i (Or.inr h1)]; exact hnew i (Nat.le_trans sa.le h1) h2) (fun k2 W2 a2 hd2 hf2 => hk k2 W2 a2 (Sd.trans sa hd sb hd2 nn H) hf2)⟩
    | _ =>
      rw [hye] at e
      cases e
      refine ⟨sa, fun k W a Q hf H hnew hk => sw_no (oka k W a _ hf H hnew fun k' W' a' hd hf' => ?_)⟩
      have := hk k' W' a' hd hf'
      rw [hye] at this ⊢
      exact this
theorem run_ok {tb' : Tb} (ht : TbOk P tb') (hmo : P.follows .mixedOrders = true) : ∀ fuel, Rn P (run P tb' fuel) ∧ ∀ c f h n x, (∀ i, n ≤ i → hget h i = none) → run P tb' fuel (.loop c) f h n = some x → Ss h n x.h x.n x.r x.w ∧
    ∀ (k : K) (W : World) (a : Act) (Q : Exit → Act → World → Prop), FR k f a → HR k h W x.r → (∀ i, n ≤ i → i < x.n → k i = none) → (∀ k' W' a', Sd h n x.h x.n x.r x.w k W k' W' → FR k' x.f a' → Q x.e a' W') → Code.rounds P c Q fuel a W := by
  intro fuel
  induction fuel with
  | zero => exact ⟨fun c f h n x _ e => (by cases e), fun c f h n x _ e => (by cases e)⟩
  | succ fuel ih =>
    obtain ⟨ih1, ih2⟩ := ih
    have lp : ∀ c f h n x, (∀ i, n ≤ i → hget h i = none) → run P tb' (fuel + 1) (.loop c) f h n = some x → Ss h n x.h x.n x.r x.w ∧
        ∀ (k : K) (W : World) (a : Act) (Q : Exit → Act → World → Prop), FR k f a → HR k h W x.r → (∀ i, n ≤ i → i < x.n → k i = none) → (∀ k' W' a', Sd h n x.h x.n x.r x.w k W k' W' → FR k' x.f a' → Q x.e a' W') → Code.rounds P c Q (fuel + 1) a W := by
      intro c f h n x nn e
      obtain ⟨y, hy, e'⟩ := thenC_some (show thenC (run P tb' fuel c f h n) (run P tb' fuel (.loop c)) = some x from e)
      obtain ⟨sa, oka⟩ := ih1 _ _ _ _ _ nn hy
      rcases e' with ⟨he, rfl⟩ | ⟨he, u, hu, hx⟩
      · refine ⟨sa, fun k W a Q hf H hnew hk => ?_⟩
        refine oka k W a _ hf H hnew (fun k' W' a' hd hf' => ?_)
        have := hk k' W' a' hd hf'
        cases hxe : x.e with
        | normal => exact absurd hxe he
        | _ => rw [hxe] at this; exact this
      · obtain ⟨sb, okb⟩ := ih2 _ _ _ _ _ (sa.nn nn) hu
        exact then_ok (b := .skip) nn sa oka sb hx he (T := fun Q => Code.rounds P c Q fuel) okb
    refine ⟨fun c f h n x nn e => ?_, lp⟩
    cases c with
    | skip => cases e; exact ⟨Ss.refl _ _, fun k W a Q hf _ _ hk => wp_skip (hk k W a (Sd.refl _ _ _ _) hf)⟩
    | label l => cases e; exact ⟨Ss.refl _ _, fun k W a Q hf _ _ hk => wp_label (hk k W a (Sd.refl _ _ _ _) hf)⟩
    | ret => cases e; exact ⟨Ss.refl _ _, fun k W a Q hf _ _ hk => wp_ret (hk k W a (Sd.refl _ _ _ _) hf)⟩
    | exit i => cases e; exact ⟨Ss.refl _ _, fun k W a Q hf _ _ hk => wp_exit (hk k W a (Sd.refl _ _ _ _) hf)⟩
    | seq c1 c2 =>
      obtain ⟨y, hy, e'⟩ := thenC_some (show thenC (run P tb' fuel c1 f h n) (run P tb' fuel c2) = some x from e)
      obtain ⟨sa, oka⟩ := ih1 _ _ _ _ _ nn hy
      rcases e' with ⟨he, rfl⟩ | ⟨he, u, hu, hx⟩
      · refine ⟨sa, fun k W a Q hf H hnew hk => wp_seq ?_⟩
        refine oka k W a _ hf H hnew (fun k' W' a' hd hf' => ?_)
        have := hk k' W' a' hd hf'
        cases hxe : x.e with
        | normal => exact absurd hxe he
        | _ => rw [hxe] at this; exact this
      · obtain ⟨sb, okb⟩ := ih1 _ _ _ _ _ (sa.nn nn) hu
        obtain ⟨s1, s2⟩ := then_ok (b := c2) nn sa oka sb hx he (T := fun Q => c2.wp P Q) okb
        exact ⟨s1, fun k W a Q hf H hnew hk => wp_seq (s2 k W a Q hf H hnew hk)⟩
    | cond c c1 c2 =>
      obtain ⟨t, ht, e'⟩ := onB_some (show onB (evo f c) (run P tb' fuel c1 f h n) (run P tb' fuel c2 f h n) = some x from e)
      have hc : ∀ (k : K) (a : Act), FR k f a → a.eval c = .bool t := fun k a hf => by
        have := hf.ev c; rw [ht] at this; exact this.bool_inv
      cases t with
      | true =>
        obtain ⟨sa, oka⟩ := ih1 _ _ _ _ _ nn e'
        exact ⟨sa, fun k W a Q hf H hnew hk => wp_cond_true (hc k a hf) (oka k W a Q hf H hnew hk)⟩
      | false =>
        obtain ⟨sa, oka⟩ := ih1 _ _ _ _ _ nn e'
        exact ⟨sa, fun k W a Q hf H hnew hk => wp_cond_false (hc k a hf) (oka k W a Q hf H hnew hk)⟩
    | block id c =>
      obtain ⟨y, hy, e'⟩ := bind_some (show (run P tb' fuel c f h n).bind (fun x => some ⟨outE id x.e, x.f, x.h, x.n, x.r, x.w⟩) = some x from e)
      cases e'
      obtain ⟨sa, oka⟩ := ih1 _ _ _ _ _ nn hy
      refine ⟨sa, fun k W a Q hf H hnew hk => wp_block (oka k W a _ hf H hnew fun k' W' a' hd hf' => ?_)⟩
      have := hk k' W' a' hd hf'
      cases hye : y.e with
      | exit i =>
        rw [hye] at this
        show if i = id then Q .normal a' W' else Q (.exit i) a' W'
        by_cases hid : i = id
        · have hb : Nat.beq i id = true := by rw [Nat.beq_eq]; exact hid
          simp only [outE, hb, cond_true] at this
          rw [if_pos hid]; exact this
        · have hb : Nat.beq i id = false := by rw [← Bool.not_eq_true, Nat.beq_eq]; exact hid
          simp only [outE, hb, cond_false] at this
          rw [if_neg hid]; exact this
      | _ => rw [hye] at this; exact this
    | loop c =>
      obtain ⟨s1, s2⟩ := lp c f h n x nn e
      exact ⟨s1, fun k W a Q hf H hnew hk => wp_loop_rounds (fuel + 1) (s2 k W a Q hf H hnew hk)⟩
    | region id ops draw =>
      obtain ⟨s, hs, e'⟩ := bind_some (show (opsL P (call P tb' (run P tb' fuel)) ops ops.toList ⟨f, h, n, 0, 0, []⟩).bind (fun s => bif !draw || (drawOk ops && drawn (bef ops) ops.size s.l) then some ⟨.normal, s.f, s.h, s.n, s.r, s.w⟩ else none) = some x from e)
      obtain ⟨hd, e'⟩ := bif_some e'
      cases e'
      have hcf := call_ok ht ih1
      cases draw with
      | false =>
        obtain ⟨r, w, h1, h2, ss, ok⟩ := list_ok hcf _ _ _ nn hs
        have hr : ∀ i, tb r i ↔ tb s.r i := fun i => by rw [h1]; exact ⟨Or.inr, fun h => h.resolve_left tb_zero⟩
        have hw : ∀ i, tb w i ↔ tb s.w i := fun i => by rw [h2]; exact ⟨Or.inr, fun h => h.resolve_left tb_zero⟩
        refine ⟨ss.congr hr hw, fun k W a Q hf H hnew hk => wp_region_list (ok k W a Q hf (H.sub fun i hi => (hr i).1 hi) hnew fun k' W' a' hd' hf' => hk k' W' a' (hd'.congr hr hw) hf')⟩
      | true =>
        simp only [Bool.not_true, Bool.false_or, Bool.and_eq_true] at hd
        obtain ⟨s1, s2⟩ := draw_ok hcf hmo nn rfl rfl rfl hs hd.1 hd.2
        exact ⟨s1, fun k W a Q hf H hnew hk => s2 k W a Q id hf H hnew hk⟩
    | rangeFunc _ _ _ _ => cases e
    | scope c =>
      obtain ⟨s1, s2⟩ := jumps_ok ih1 c 100000 c f h n x nn (show jumps (run P tb' fuel) c 100000 (run P tb' fuel c f h n) = some x from e)
      exact ⟨s1, fun k W a Q hf H hnew hk => sw_in (s2 k W a Q hf H hnew hk)⟩
    | goto l => cases e; exact ⟨Ss.refl _ _, fun k W a Q hf _ _ hk => wp_goto (hk k W a (Sd.refl _ _ _ _) hf)⟩
    | refuse _ => cases e
/-- What a call of such values comes to, in whatever world. -/
theorem closed {tb' : Tb} (ht : TbOk P tb') (hmo : P.follows .mixedOrders = true) {fuel f : Nat} {args : List Value} (ha : args.all cok1 = true) {x : R5} (e : call0 P (run P tb' fuel) f args he12 0 = some x) (W : World) :
    (∀ a w, (callFunc f a).run P w = .ok (.enter f a) w) ∧ Calls P f args.toArray W fun r W' => ∃ u k', r = .returned u ∧ Sd he12 0 x.h x.n x.r x.w (fun _ => none) W k' W' ∧ VX k' x.v u := by
  obtain ⟨_, h2, h3⟩ := call0_ok (run_ok ht hmo fuel).1 (fun i _ => hget_new i) e
  refine ⟨h2, h3 _ W args (cokL_vx ha) ⟨fun i _ cs h => ?_, fun i j _ _ hi => ?_⟩ (fun _ _ _ => rfl)⟩
  · rw [hget_new] at h; cases h
  · exact absurd hi (not_live (hget_new i))
theorem ok_true {x : Option R5} (h : isTrue x = true) : ∃ y, x = some y ∧ y.v = .bool true := by
  unfold isTrue at h
  split at h
  · rename_i y
    split at h
    · rename_i b hb; subst h; exact ⟨y, rfl, hb⟩
    · cases h
  · cases h
theorem apartL_spec : ∀ {l : List Nat}, apartL l = true → ∀ (i j a : Nat), l[i]? = some a → l[j]? = some a → i = j
  | [], _, _, _, _, h, _ => by cases h
  | x :: l, h, i, j, a, hi, hj => by
    simp only [apartL] at h
    cases hc : l.any (Nat.beq x) with
    | true => rw [hc] at h; cases h
    | false =>
      rw [hc] at h
      have hx : ∀ y ∈ l, x ≠ y := fun y hy e => by
        have := List.any_eq_false.1 hc y hy
        rw [Nat.beq_eq] at this
        exact this e
      cases i with
      | zero => cases j with
        | zero => rfl
        | succ j => simp at hi hj; subst hi; exact absurd rfl (hx x (List.mem_of_getElem? hj))
      | succ i => cases j with
        | zero => simp at hi hj; subst hj; exact absurd rfl (hx x (List.mem_of_getElem? hi))
        | succ j => simp at hi hj; rw [apartL_spec h i j a hi hj]
theorem blocksOk_spec {h : HT} {g : Nat → Nat} : ∀ {is : List Nat} {bs : List (List Value)}, blocksOk h g is bs = true → is.length = bs.length ∧ ∀ (j i : Nat) (b : List Value), is[j]? = some i → bs[j]? = some b → hget h i = some (sL g b)
  | [], [], _ => ⟨rfl, fun j i b h => by cases h⟩
  | [], _ :: _, e => by cases e
  | _ :: _, [], e => by cases e
  | i :: is, b :: bs, e => by
    simp only [blocksOk] at e
    cases hc : hget h i with
    | none => rw [hc] at e; cases e
    | some cs =>
      rw [hc] at e
      simp only at e
      cases hl : leq cs (sL g b) with
      | false => rw [hl] at e; cases e
      | true =>
        rw [hl] at e
        obtain ⟨h1, h2⟩ := blocksOk_spec (is := is) (bs := bs) e
        refine ⟨by simp [h1], fun j i' b' hi hb => ?_⟩
        cases j with
        | zero => simp at hi hb; subst hi; subst hb; rw [hc, leq_eq hl]
        | succ j => exact h2 j i' b' (by simpa using hi) (by simpa using hb)
/-- An entry out of a run. -/
theorem entry {tb' : Tb} (ht : TbOk P tb') (hmo : P.follows .mixedOrders = true) {fuel : Nat} {ids : List Nat} {e : En} (h : entOk (call0 P (run P tb' fuel) e.f e.args he12 0) ids e = true) : EnOk P e := by
  unfold entOk at h
  split at h
  · rename_i x hx
    cases h1 : veq2 x.v (s2 (ix ids) e.v) with
    | false => rw [h1] at h; cases h
    | true =>
      rw [h1] at h
      cases h2 : (apartL ids && Nat.ble x.n 4096 && at2 e.v && e.bs.all (·.all at0) && e.args.all flat1) with
      | false => rw [h2] at h; cases h
      | true =>
        rw [h2] at h
        simp only [Bool.and_eq_true, Nat.ble_eq] at h2
        obtain ⟨⟨⟨⟨c1, c2⟩, c3⟩, c4⟩, c5⟩ := h2
        obtain ⟨l1, l2⟩ := blocksOk_spec h
        have hv := veq2_eq h1
        have hfl : e.args.all cok1 = true := by
          rw [List.all_eq_true] at c5 ⊢
          intro v hv
          have := c5 v hv
          cases v <;> first | rfl | cases this
        have cl := fun W => closed (fuel := fuel) ht hmo hfl hx W
        refine ⟨c3, fun b hb => List.all_eq_true.1 c4 b hb, c5, (cl default).1, fun W => (cl W).2.mono ?_⟩
        rintro r W' ⟨u, k', rfl, hd, hvx⟩
        have hnx : ∀ i, x.n ≤ i → k' i = none := fun i hi => hd.dom i (Or.inr hi)
        have hg : ∀ i p, k' (ix ids i) = some p → (fun i => k' (ix ids i)) i = some p := fun i p h => h
        have hlive : ∀ (j i : Nat) (b : List Value), ids[j]? = some i → e.bs[j]? = some b → tb (Nat.lor x.r x.w) i ∧ live x.h i := fun j i b hi hb => by
          have h3 := l2 j i b hi hb
          refine ⟨tb_or.2 (Or.inr ?_), ⟨_, h3⟩⟩
          refine Classical.byContradiction fun hn => ?_
          have h4 := (call0_ok (run_ok ht hmo fuel).1 (fun i _ => hget_new i) hx).1.same i hn
          rw [h3, hget_new] at h4
          cases h4
        have hix : ∀ (j i : Nat), ids[j]? = some i → ix ids j = i := fun j i h => by unfold ix; rw [h]; rfl
        have hnone : ∀ i, e.bs.length ≤ i → k' (ix ids i) = none := fun i hi => by
          have : ix ids i = 4096 := by unfold ix; rw [List.getElem?_eq_none (by omega)]; rfl
          rw [this]; exact hnx 4096 c2
        have hgi : ∀ i : Nat, i < e.bs.length → ∃ a b, ids[i]? = some a ∧ e.bs[i]? = some b := fun i hi => ⟨ids[i], e.bs[i], by simp [l1, hi], by simp [hi]⟩
        have hsm : ∀ i p, k' (ix ids i) = some p → i < e.bs.length := fun i p hp => by
          rcases Nat.lt_or_ge i e.bs.length with h' | h'
          · exact h'
          · rw [hnone i h'] at hp; cases hp
        refine ⟨u, fun i => k' (ix ids i), rfl, r2 hg c3 (by rw [← hv]; exact hvx), hnone, fun i cs hcs => ?_, fun i j b z b' z' hne hb hb' => ?_, fun b hb => hd.frm b hb (fun j z _ hl => absurd hl (not_live (hget_new j))), hd.size, hd.os, hd.tape, hd.output, hd.fz⟩
        · have hi : i < e.bs.length := (List.getElem?_eq_some_iff.1 hcs).1
          obtain ⟨a, b0, ha, hb0⟩ := hgi i hi
          obtain ⟨ht1, hl1⟩ := hlive i a cs ha hcs
          refine ⟨(hd.rep.rep a ht1 _ (l2 i a cs ha hcs)).mono (fun p hp => by show k' (ix ids i) = _; rw [hix i a ha]; exact hp) (fun _ _ _ _ => rfl) (fun us => rL hg (List.all_eq_true.1 c4 cs (List.mem_of_getElem? hcs))), fun b z e1 => ?_⟩
          have e1 : k' a = some (b, z) := by rw [← hix i a ha]; exact e1
          have han : a < x.n := by
            rcases Nat.lt_or_ge a x.n with h' | h'
            · exact h'
            · rw [hnx a h'] at e1; cases e1
          rcases hd.fresh a b _ (Nat.zero_le _) han hl1 e1 with h' | ⟨j, _, _, h', _⟩
          · exact h'
          · omega
        · have hi := hsm i _ hb
          have hj := hsm j _ hb'
          obtain ⟨a1, b1, ha1, hb1⟩ := hgi i hi
          obtain ⟨a2, b2, ha2, hb2⟩ := hgi j hj
          obtain ⟨t1, l1'⟩ := hlive i a1 b1 ha1 hb1
          obtain ⟨t2, l2'⟩ := hlive j a2 b2 ha2 hb2
          have hb3 : k' a1 = some (b, z) := by rw [← hix i a1 ha1]; exact hb
          have hb4 : k' a2 = some (b', z') := by rw [← hix j a2 ha2]; exact hb'
          exact hd.rep.inj a1 a2 t1 t2 l1' l2' (fun e => hne (apartL_spec c1 i j a1 ha1 (by rw [e]; exact ha2))) b z b' z' hb3 hb4
  · cases h
end
end E
end Go.Proofs.YtfmfeipeeedfpaaGreat

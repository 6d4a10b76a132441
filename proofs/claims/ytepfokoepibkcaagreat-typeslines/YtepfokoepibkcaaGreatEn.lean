/-
  Calls whose answers are known.
-/
import Derived.Test.YtepfokoepibkcaaGreatEl
namespace Go.Proofs.YtepfokoepibkcaaGreat
namespace E
open Go.CheckFast (force force_eq)
theorem beqL_some {a b : ByteArray} (h : beqL a.data.toList b.data.toList = true) : a = b := by
  rw [beqL_eq] at h
  apply ByteArray.ext
  apply Array.ext'
  simpa using h
theorem aeq_eq {v u : Value} (h : aeq v u = true) : v = u := by
  unfold aeq at h
  split at h <;> (try split at h) <;> first
    | (cases h; done)
    | rfl
    | (simp only [Bool.and_eq_true, Nat.beq_eq] at h; obtain ⟨h1, h2⟩ := h; subst h1; subst h2; rfl)
    | (simp only [Bool.and_eq_true, Nat.beq_eq] at h; obtain ⟨⟨⟨h1, h2⟩, h3⟩, h4⟩ := h; subst h1; subst h2; subst h3; subst h4; rfl)
    | (rw [beqL_some h])
    | (simp only [Bool.and_eq_true, keq, decide_eq_true_eq] at h; obtain ⟨h1, h2⟩ := h; rw [ieq_eq] at h2; rw [h1, eq_of_beq h2])
    | (rw [eq_of_beq h])
theorem leq_eq : ∀ {l m : List Value}, leq l m = true → l = m
  | [], [], _ => rfl
  | [], _ :: _, h => by cases h
  | _ :: _, [], h => by cases h
  | v :: x, u :: y, h => by
    simp only [leq] at h
    cases ha : aeq v u with
    | false => rw [ha] at h; cases h
    | true => rw [ha] at h; rw [aeq_eq ha, leq_eq h]
theorem veq1_eq {v u : Value} (h : veq1 v u = true) : v = u := by
  unfold veq1 at h
  split at h
  · split at h
    · congr 1; exact Array.ext' (leq_eq h)
    · cases h
  · exact aeq_eq h
theorem leq1_eq : ∀ {l m : List Value}, leq1 l m = true → l = m
  | [], [], _ => rfl
  | [], _ :: _, h => by cases h
  | _ :: _, [], h => by cases h
  | v :: x, u :: y, h => by
    simp only [leq1] at h
    cases ha : veq1 v u with
    | false => rw [ha] at h; cases h
    | true => rw [ha] at h; rw [veq1_eq ha, leq1_eq h]
theorem veq2_eq {v u : Value} (h : veq2 v u = true) : v = u := by
  unfold veq2 at h
  split at h
  · split at h
    · congr 1; exact Array.ext' (leq1_eq h)
    · cases h
  · exact veq1_eq h
/-! Other numbers for blocks. -/
section
variable {k k' : K} {g : Nat → Nat}
theorem r0 (hg : ∀ i p, k (g i) = some p → k' i = some p) {v u : Value} (ha : at0 v = true) (h : VX k (s0 g v) u) : VX k' v u := by
  cases v with
  | pointer a => cases a with
    | none => exact VX.of0 (h.v0 trivial)
    | some a => obtain ⟨h1, b, z, h2, h3⟩ := h.ptr_inv; exact VX.of0 ⟨h1, b, z, hg _ _ h2, h3⟩
  | slice a n c => cases a with
    | none => exact VX.of0 h.nilslc_inv
    | some a => obtain ⟨h1, b, z, c, h2, h3⟩ := h.slc_inv; exact VX.of0 ⟨h1, b, z, c, hg _ _ h2, h3⟩
  | agg _ => cases ha
  | tuple _ => cases ha
  | func _ _ _ => cases ha
  | iface _ _ => cases ha
  | chan _ => cases ha
  | map _ => cases ha
  | _ => exact VX.of0 (h.v0 trivial)
theorem rL (hg : ∀ i p, k (g i) = some p → k' i = some p) : ∀ {l m : List Value}, l.all at0 = true → LR (VX k) (sL g l) m → LR (VX k') l m
  | [], _, _, h => h
  | v :: l, _, ha, ⟨y, ys, e, h1, h2⟩ => by
    simp only [List.all_cons, Bool.and_eq_true] at ha
    exact ⟨y, ys, e, r0 hg ha.1 h1, rL hg ha.2 h2⟩
theorem r1 (hg : ∀ i p, k (g i) = some p → k' i = some p) {v u : Value} (ha : at1 v = true) (h : VX k (s1 g v) u) : VX k' v u := by
  cases v with
  | agg cs =>
    obtain ⟨us, e, h1⟩ := h.agg_inv
    rw [e]
    have := VX.agg (rL hg ha (by simpa using h1))
    simpa using this
  | _ => exact r0 hg ha h
theorem rM (hg : ∀ i p, k (g i) = some p → k' i = some p) : ∀ {l m : List Value}, l.all at1 = true → LR (VX k) (sM g l) m → LR (VX k') l m
  | [], _, _, h => h
  | v :: l, _, ha, ⟨y, ys, e, h1, h2⟩ => by
    simp only [List.all_cons, Bool.and_eq_true] at ha
    exact ⟨y, ys, e, r1 hg ha.1 h1, rM hg ha.2 h2⟩
theorem r2 (hg : ∀ i p, k (g i) = some p → k' i = some p) {v u : Value} (ha : at2 v = true) (h : VX k (s2 g v) u) : VX k' v u := by
  cases v with
  | tuple cs =>
    obtain ⟨us, e, h1⟩ := h.tuple_inv
    rw [e]
    have := VX.tuple (rM hg ha (by simpa using h1))
    simpa using this
  | _ => exact r1 hg ha h
theorem t0 (hg : ∀ i p, k' i = some p → k (g i) = some p) {v u : Value} (ha : at0 v = true) (h : VX k' v u) : VX k (s0 g v) u := by
  cases v with
  | pointer a => cases a with
    | none => exact VX.of0 (h.v0 trivial)
    | some a => obtain ⟨h1, b, z, h2, h3⟩ := h.ptr_inv; exact VX.of0 ⟨h1, b, z, hg _ _ h2, h3⟩
  | slice a n c => cases a with
    | none => exact VX.of0 h.nilslc_inv
    | some a => obtain ⟨h1, b, z, c, h2, h3⟩ := h.slc_inv; exact VX.of0 ⟨h1, b, z, c, hg _ _ h2, h3⟩
  | agg _ => cases ha
  | tuple _ => cases ha
  | func _ _ _ => cases ha
  | iface _ _ => cases ha
  | chan _ => cases ha
  | map _ => cases ha
  | _ => exact VX.of0 (h.v0 trivial)
theorem tL (hg : ∀ i p, k' i = some p → k (g i) = some p) : ∀ {l m : List Value}, l.all at0 = true → LR (VX k') l m → LR (VX k) (sL g l) m
  | [], _, _, h => h
  | v :: l, _, ha, ⟨y, ys, e, h1, h2⟩ => by
    simp only [List.all_cons, Bool.and_eq_true] at ha
    exact ⟨y, ys, e, t0 hg ha.1 h1, tL hg ha.2 h2⟩
theorem t1 (hg : ∀ i p, k' i = some p → k (g i) = some p) {v u : Value} (ha : at1 v = true) (h : VX k' v u) : VX k (s1 g v) u := by
  cases v with
  | agg cs =>
    obtain ⟨us, e, h1⟩ := h.agg_inv
    rw [e]
    exact VX.agg (tL hg ha h1)
  | _ => have hh := fun p => t0 hg p h; exact hh ha
theorem tM (hg : ∀ i p, k' i = some p → k (g i) = some p) : ∀ {l m : List Value}, l.all at1 = true → LR (VX k') l m → LR (VX k) (sM g l) m
  | [], _, _, h => h
  | v :: l, _, ha, ⟨y, ys, e, h1, h2⟩ => by
    simp only [List.all_cons, Bool.and_eq_true] at ha
    exact ⟨y, ys, e, t1 hg ha.1 h1, tM hg ha.2 h2⟩
theorem t2 (hg : ∀ i p, k' i = some p → k (g i) = some p) {v u : Value} (ha : at2 v = true) (h : VX k' v u) : VX k (s2 g v) u := by
  cases v with
  | tuple cs =>
    obtain ⟨us, e, h1⟩ := h.tuple_inv
    rw [e]
    exact VX.tuple (tM hg ha h1)
  | _ => have hh := fun p => t1 hg p h; exact hh ha
end
/-- An entry tells what each such call does. -/
structure EnOk (P : Program) (e : En) : Prop where
  wv : at2 e.v = true
  wb : ∀ b ∈ e.bs, b.all at0 = true
  wa : e.args.all flat1 = true
  enter : ∀ args w, (callFunc e.f args).run P w = .ok (.enter e.f args) w
  ok : ∀ W, Calls P e.f e.args.toArray W fun r W' => ∃ u k', r = .returned u ∧ VX k' e.v u ∧ (∀ i, e.bs.length ≤ i → k' i = none) ∧
    (∀ i cs, e.bs[i]? = some cs → ∃ b us sp ty, k' i = some (b, us.length + sp.length) ∧ W'.heap[b]? = some (.cells (us ++ sp).toArray ty (0, 0)) ∧ LR (VX k') cs us ∧ W.heap.size ≤ b) ∧
    (∀ i j b z b' z', i ≠ j → k' i = some (b, z) → k' j = some (b', z') → b ≠ b') ∧ (∀ b, b < W.heap.size → W'.heap[b]? = W.heap[b]?) ∧ W.heap.size ≤ W'.heap.size ∧ W'.os = W.os ∧ W'.tape = W.tape ∧ W'.output = W.output ∧ ∀ a, W'.frozen? a = W.frozen? a
theorem tb_bits : ∀ {m n i : Nat}, tb (bits n m) i ↔ n ≤ i ∧ i < n + m
  | 0, n, i => by simp only [bits]; exact ⟨fun h => absurd h tb_zero, fun h => by omega⟩
  | m + 1, n, i => by
    simp only [bits, tb_or, tb_bit, tb_bits (m := m)]
    omega
theorem lays_get {n : Nat} : ∀ (l : List (List Value)) (i : Nat) (h : HT) (j : Nat), i + l.length ≤ 4096 → hget (lays n l i h) j = if i ≤ j ∧ j < i + l.length then (l[j - i]?).map (sL (Nat.add n)) else hget h j
  | [], i, h, j, _ => by rw [lays, if_neg (by simp only [List.length_nil]; omega)]
  | b :: l, i, h, j, hl => by
    simp only [List.length_cons] at hl ⊢
    rw [lays, lays_get l (Nat.succ i) _ j (by omega)]
    by_cases e : i = j
    · subst e
      rw [if_neg (by omega), if_pos (by omega), hget_same _ (by omega)]
      simp
    · rw [hget_ne _ (by omega) e]
      by_cases h1 : i ≤ j ∧ j < i + (l.length + 1)
      · rw [if_pos (by omega), if_pos h1, show j - i = (j - Nat.succ i) + 1 by omega, List.getElem?_cons_succ]
      · rw [if_neg (by omega), if_neg h1]
theorem find_some {f : Nat} {args : List Value} : ∀ {l : List En} {e : En}, find f args l = some e → e ∈ l ∧ f = e.f ∧ args = e.args
  | [], _, h => by cases h
  | x :: l, e, h => by
    simp only [find] at h
    cases hc : (Nat.beq f x.f && leq args x.args) with
    | false =>
      rw [hc] at h
      obtain ⟨h1, h2⟩ := find_some (l := l) h
      exact ⟨by simp [h1], h2⟩
    | true =>
      rw [hc] at h
      cases h
      simp only [Bool.and_eq_true, Nat.beq_eq] at hc
      exact ⟨by simp, hc.1, leq_eq hc.2⟩
theorem known_ok {P : Program} {e : En} (he : EnOk P e) {h : HT} {n : Nat} {x : R5} (hx : known e h n = some x) : Ss h n x.h x.n x.r x.w ∧ (∀ args w, (callFunc e.f args).run P w = .ok (.enter e.f args) w) ∧
    ∀ (k : K) (W : World) (us : List Value), LR (VX k) e.args us → HR k h W x.r → (∀ i, n ≤ i → i < x.n → k i = none) → Calls P e.f us.toArray W fun r W' => ∃ u k', r = .returned u ∧ Sd h n x.h x.n x.r x.w k W k' W' ∧ VX k' x.v u := by
  obtain ⟨hle, hx⟩ := bif_some hx
  rw [Nat.ble_eq] at hle
  cases hx
  have hg := fun j => lays_get (n := n) e.bs n h j hle
  refine ⟨⟨Nat.le_add_right _ _, fun nn i hi => ?_, fun i hi => ?_, fun i hi hn => ?_, fun i hi => (tb_bits.1 hi).2, fun i hi ⟨cs, hl⟩ => ?_⟩, he.enter, fun k W us hus H hnew => ?_⟩
  · have hi' : n + e.bs.length ≤ i := hi
    rw [hg, if_neg (by omega)]; exact nn i (by omega)
  · rw [hg, if_neg (fun h => hi (tb_bits.2 h))]
  · have := (tb_bits.1 hi).1; omega
  · rw [hg, if_neg (by omega)] at hl; exact ⟨cs, hl⟩
  · have hue := flatL_eq hus he.wa
    subst hue
    refine (he.ok W).mono ?_
    rintro r W' ⟨u, k', rfl, a1, a2, a3, a4, a5, a6, a7, a8, a9, a10⟩
    let k2 : K := fun i => if n ≤ i ∧ i < n + e.bs.length then k' (i - n) else k i
    have hin : ∀ i, n ≤ i → i < n + e.bs.length → k2 i = k' (i - n) := fun i h1 h2 => if_pos ⟨h1, h2⟩
    have hout : ∀ i, ¬ (n ≤ i ∧ i < n + e.bs.length) → k2 i = k i := fun i h => if_neg h
    have hk2 : ∀ i p, k' i = some p → k2 (Nat.add n i) = some p := fun i p hp => by
      have hi : i < e.bs.length := by
        rcases Nat.lt_or_ge i e.bs.length with h' | h'
        · exact h'
        · rw [a2 i h'] at hp; cases hp
      show k2 (n + i) = some p
      rw [hin (n + i) (by omega) (by omega), show n + i - n = i by omega]; exact hp
    refine ⟨u, k2, rfl, ⟨fun i p hp => ?_, fun i hi => hout i (by simp only at hi; omega), ⟨fun i hi cs hcs => ?_, fun i j hi hj _ _ hne b z b' z' hb hb' => ?_⟩, fun b hb _ => a5 b hb, fun i b z h1 h2 _ hk => Or.inl ?_, a6, a7, a8, a9, a10⟩, t2 hk2 he.wv a1⟩
    · rw [hout i (fun h => by rw [hnew i h.1 h.2] at hp; cases hp)]; exact hp
    · have hi' := tb_bits.1 ((tb_or.1 hi).resolve_left tb_zero)
      rw [hg, if_pos hi'] at hcs
      cases hb : e.bs[i - n]? with
      | none => rw [hb] at hcs; cases hcs
      | some c =>
        rw [hb] at hcs
        cases hcs
        obtain ⟨b, us, sp, ty, b1, b2, b3, b4⟩ := a3 (i - n) c hb
        exact ⟨b, us, sp, ty, by rw [hin i hi'.1 hi'.2]; exact b1, b2, tL hk2 (he.wb c (List.mem_of_getElem? hb)) b3⟩
    · have hi' := tb_bits.1 ((tb_or.1 hi).resolve_left tb_zero)
      have hj' := tb_bits.1 ((tb_or.1 hj).resolve_left tb_zero)
      rw [hin i hi'.1 hi'.2] at hb
      rw [hin j hj'.1 hj'.2] at hb'
      exact a4 (i - n) (j - n) b z b' z' (by omega) hb hb'
    · rw [hin i h1 h2] at hk
      cases hb : e.bs[i - n]? with
      | none => rw [a2 (i - n) (by rw [List.getElem?_eq_none_iff] at hb; exact hb)] at hk; cases hk
      | some c =>
        obtain ⟨b2, us, sp, ty, b3, _, _, b4⟩ := a3 (i - n) c hb
        rw [b3] at hk; cases hk; exact b4
end E
end Go.Proofs.YtepfokoepibkcaaGreat

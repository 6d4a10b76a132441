/-
  A region that draws its order comes to what was reckoned in one order.
-/
import Derived.Test.YtepfokoepibkcaaGreatEj
namespace Go.Proofs.YtepfokoepibkcaaGreat
namespace E
open Go.CheckFast (force force_eq)
/-- Among those that touch a place just those ahead of a cut have come up. -/
def Cn (N : Nat) (L : Nat → Prop) (wr : Nat → Prop) (c : Nat) : Prop := ∀ j, j < N → wr j → (L j ↔ j < c)
def wt (ops : Array Oper) (t j : Nat) : Prop := ∃ o, ops[j]? = some o ∧ o.dst = some t
structure Dt (P : Program) (ops : Array Oper) (st : Nat → RL) (r w : Nat → Nat) (v : Nat → Value) (i : Nat) (o : Oper) : Prop where
  l : (st (i + 1)).l = (r i, w i) :: (st i).l
  f : (st (i + 1)).f = put (st i).f o.dst (v i)
  mr : ∀ j, tb (st (i + 1)).r j ↔ tb (st i).r j ∨ tb (r i) j
  mw : ∀ j, tb (st (i + 1)).w j ↔ tb (st i).w j ∨ tb (w i) j
  ss : Ss (st i).h (st i).n (st (i + 1)).h (st (i + 1)).n (r i) (w i)
  ok : ∀ (k : K) (W : World) (a : Act) (K' : Act → World → Prop) (Q : Exit → Act → World → Prop), (st i).f.m = a.tmps.size → (∀ y ∈ o.op.operands.toList, VX k (evo (st i).f y) (a.eval y)) → (∀ j w t, o.guard = some (j, w) → (ops[j]?).bind (·.dst) = some t → VX k (fget (st i).f t) (a.tmps.getD t undef)) →
    HR k (st i).h W (r i) → (∀ m, (st i).n ≤ m → m < (st (i + 1)).n → k m = none) → (∀ u W' k', Sd (st i).h (st i).n (st (i + 1)).h (st (i + 1)).n (r i) (w i) k W k' W' → VX k' (v i) u → K' (a.put o.dst u) W') →
    if Region.wanted o (yielded ops a.tmps) = true then o.wp P a W K' Q else K' (a.put o.dst undef) W
/-- What holds while some have come up. -/
structure Iv (ops : Array Oper) (st : Nat → RL) (w : Nat → Nat) (RR WW : Nat → Prop) (k0 : K) (W0 : World) (listed : Array Bool) (a : Act) (W : World) (k : K) : Prop where
  sh : ∀ j o, ops[j]? = some o → listed.getD j false = true → ∀ e ∈ o.after, Region.binds .any e = true → listed.getD e.on false = true
  m : (st 0).f.m = a.tmps.size
  df : a.defers = []
  fr : ∀ t c, c ≤ ops.size → Cn ops.size (fun j => listed.getD j false = true) (wt ops t) c → VX k (fget (st c).f t) (a.tmps.getD t undef)
  hp : ∀ i c, c ≤ ops.size → RR i → Cn ops.size (fun j => listed.getD j false = true) (fun j => tb (w j) i) c → Rp k (st c).h W i
  inj : ∀ i i' c c', c ≤ ops.size → c' ≤ ops.size → RR i → RR i' → Cn ops.size (fun j => listed.getD j false = true) (fun j => tb (w j) i) c → Cn ops.size (fun j => listed.getD j false = true) (fun j => tb (w j) i') c' →
    live (st c).h i → live (st c').h i' → i ≠ i' → ∀ b z b' z', k i = some (b, z) → k i' = some (b', z') → b ≠ b'
  ext : ∀ i p, k0 i = some p → k i = some p
  dom : ∀ i, i < (st 0).n ∨ (st ops.size).n ≤ i → k i = k0 i
  new : ∀ j, j < ops.size → ¬ listed.getD j false = true → ∀ i, (st j).n ≤ i → i < (st (j + 1)).n → k i = none
  frm : ∀ b, b < W0.heap.size → (∀ j z, WW j → live (st 0).h j → k0 j ≠ some (b, z)) → W.heap[b]? = W0.heap[b]?
  fresh : ∀ i c b z, c ≤ ops.size → RR i → Cn ops.size (fun j => listed.getD j false = true) (fun j => tb (w j) i) c → (st 0).n ≤ i → i < (st ops.size).n → live (st c).h i → k i = some (b, z) →
    W0.heap.size ≤ b ∨ ∃ j z', WW j ∧ j < (st 0).n ∧ live (st 0).h j ∧ (∀ c', c' ≤ ops.size → Cn ops.size (fun j => listed.getD j false = true) (fun i => tb (w i) j) c' → ¬ live (st c').h j) ∧ k0 j = some (b, z')
  size : W0.heap.size ≤ W.heap.size
  os : W.os = W0.os
  tape : W.tape = W0.tape
  output : W.output = W0.output
  fz : ∀ x, W.frozen? x = W0.frozen? x
section
variable {P : Program} {ops : Array Oper} {st : Nat → RL} {r w : Nat → Nat} {v : Nat → Value}
theorem op_at {i : Nat} (hi : i < ops.size) : ops[i]? = some ops[i] := by simp [hi]
theorem st_n (D : ∀ i o, ops[i]? = some o → Dt P ops st r w v i o) : ∀ {i j : Nat}, i ≤ j → j ≤ ops.size → (st i).n ≤ (st j).n := by
  intro i j hij
  induction hij with
  | refl => intro _; exact Nat.le_refl _
  | step h ih => intro hj; exact Nat.le_trans (ih (by omega)) (D _ _ (op_at (by omega))).ss.le
theorem st_nn (D : ∀ i o, ops[i]? = some o → Dt P ops st r w v i o) (nn : ∀ i, (st 0).n ≤ i → hget (st 0).h i = none) : ∀ j, j ≤ ops.size → ∀ i, (st j).n ≤ i → hget (st j).h i = none := by
  intro j
  induction j with
  | zero => intro _; exact nn
  | succ j ih => intro hj; exact (D j _ (op_at (by omega))).ss.nn (ih (by omega))
theorem st_h (D : ∀ i o, ops[i]? = some o → Dt P ops st r w v i o) {m : Nat} : ∀ {c d : Nat}, c ≤ d → d ≤ ops.size → (∀ j, c ≤ j → j < d → ¬ tb (w j) m) → hget (st d).h m = hget (st c).h m := by
  intro c d hcd
  induction hcd with
  | refl => intro _ _; rfl
  | @step d h ih =>
    intro hd hj
    rw [(D d _ (op_at (by omega))).ss.same m (hj d h (by omega))]
    exact ih (by omega) (fun j h1 h2 => hj j h1 (by omega))
theorem st_m (D : ∀ i o, ops[i]? = some o → Dt P ops st r w v i o) : ∀ c, c ≤ ops.size → (st c).f.m = (st 0).f.m := by
  intro c
  induction c with
  | zero => intro _; rfl
  | succ c ih => intro hc; rw [(D c _ (op_at (by omega))).f, put_m]; exact ih (by omega)
theorem st_f (D : ∀ i o, ops[i]? = some o → Dt P ops st r w v i o) (hle : (st 0).f.m ≤ 256) {t : Nat} : ∀ {c d : Nat}, c ≤ d → d ≤ ops.size → (∀ j, c ≤ j → j < d → ¬ wt ops t j) → fget (st d).f t = fget (st c).f t := by
  intro c d hcd
  induction hcd with
  | refl => intro _ _; rfl
  | @step d h ih =>
    intro hd hj
    have ho := op_at (ops := ops) (i := d) (by omega)
    have hn := hj d h (by omega)
    rw [(D d _ ho).f]
    have : fget (put (st d).f ops[d].dst (v d)) t = fget (st d).f t := by
      cases e : ops[d].dst with
      | none => rfl
      | some s => exact fget_ne _ (by rw [st_m D d (by omega)]; exact hle) (fun e' => hn ⟨_, ho, by rw [e, e']⟩)
    rw [this]
    exact ih (by omega) (fun j h1 h2 => hj j h1 (by omega))
theorem st_back (D : ∀ i o, ops[i]? = some o → Dt P ops st r w v i o) {m : Nat} (hm : m < (st 0).n) : ∀ c, c ≤ ops.size → live (st c).h m → live (st 0).h m := by
  intro c
  induction c with
  | zero => intro _ h; exact h
  | succ c ih => intro hc h; exact ih (by omega) ((D c _ (op_at (by omega))).ss.back m (Nat.lt_of_lt_of_le hm (st_n D (Nat.zero_le c) (by omega))) h)
theorem Cn.same {N i c : Nat} {L L' : Nat → Prop} {wr : Nat → Prop} (hL : ∀ j, j ≠ i → (L' j ↔ L j)) (hi : ¬ wr i) (h : Cn N L' wr c) : Cn N L wr c := fun j hj hw => by
  rw [← hL j (fun e => hi (e ▸ hw))]; exact h j hj hw
theorem put_other {a : Act} {d : Option Tmp} {u : Value} {t : Nat} (h : d ≠ some t) : (a.put d u).tmps.getD t undef = a.tmps.getD t undef := by
  cases d with
  | none => rfl
  | some s => simp only [Act.put, Array.getD_eq_getD_getElem?, Array.getElem?_setIfInBounds_ne (fun e => h (by rw [e]) : s ≠ t)]
theorem wt_tb {o : Oper} {j t : Nat} (ho : ops[j]? = some o) : wt ops t j ↔ tb (setT o) t := by
  constructor
  · rintro ⟨o', h1, h2⟩
    rw [ho] at h1; cases h1
    unfold setT; rw [h2]; exact tb_bit.2 rfl
  · intro h
    unfold setT at h
    split at h
    · rename_i s hs; exact ⟨o, ho, by rw [hs, tb_bit.1 h]⟩
    · exact absurd h tb_zero
theorem look_op {o : Oper} {t : Nat} (h : .tmp t ∈ o.op.operands.toList) : tb (lookT ops o) t := by
  unfold lookT
  refine tb_or.2 (Or.inl ?_)
  have : ∀ (l : List Operand) (s : Nat), (tb s t ∨ .tmp t ∈ l) → tb (l.foldl (fun m x => Nat.lor m (tmpOf x)) s) t := by
    intro l
    induction l with
    | nil => intro s h; rcases h with h | h
             · exact h
             · cases h
    | cons x l ih =>
      intro s h
      rw [List.foldl_cons]
      refine ih _ ?_
      rcases h with h | h
      · exact Or.inl (tb_or.2 (Or.inl h))
      · rcases List.mem_cons.1 h with h | h
        · subst h; exact Or.inl (tb_or.2 (Or.inr (tb_bit.2 rfl)))
        · exact Or.inr h
  exact this _ 0 (Or.inr h)
theorem look_guard {o : Oper} {t j : Nat} {b : Bool} (hg : o.guard = some (j, b)) (h : (ops[j]?).bind (·.dst) = some t) : tb (lookT ops o) t := by
  unfold lookT
  refine tb_or.2 (Or.inr ?_)
  rw [hg]
  simp only [h]
  exact tb_bit.2 rfl
theorem dl_ops (ops : Array Oper) (g : Oper → Nat × Nat) (d : Oper) : ops.toList.reverse.map g = dl (fun i => g (ops.getD i d)) ops.size := by
  have : ∀ (n : Nat), n ≤ ops.size → ((ops.toList.take n).reverse.map g) = dl (fun i => g (ops.getD i d)) n := by
    intro n
    induction n with
    | zero => intro _; rfl
    | succ n ih =>
      intro hn
      have h1 : ops.toList.take (n + 1) = ops.toList.take n ++ [ops.getD n d] := by
        rw [List.take_add_one]
        have : ops.toList[n]? = some (ops.getD n d) := by
          have hlt : n < ops.size := by omega
          simp [hlt]
        rw [this]; rfl
      rw [h1, List.reverse_append, List.reverse_singleton, List.map_append, ih (by omega)]
      rfl
  have h := this ops.size (Nat.le_refl _)
  rw [List.take_of_length_le (by simp)] at h
  exact h
end
end E
end Go.Proofs.YtepfokoepibkcaaGreat

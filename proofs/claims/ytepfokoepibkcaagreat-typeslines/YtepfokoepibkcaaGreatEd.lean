/-
  Each operation, reckoned, is what the run does: those that only make values.
-/
import Derived.Test.YtepfokoepibkcaaGreatEc
import Derived.Deep.AppendSrc
import Derived.Deep.MidRow
import Derived.Great.BuildSlice
namespace Go.Proofs.YtepfokoepibkcaaGreat
namespace E
open Go.CheckFast (force force_eq)
theorem bind_some {α β : Type} {x : Option α} {f : α → Option β} {b : β} (h : x.bind f = some b) : ∃ a, x = some a ∧ f a = some b := by
  cases x with
  | none => cases h
  | some a => exact ⟨a, rfl, h⟩
theorem bif_some {β : Type} {c : Bool} {x : Option β} {b : β} (h : (bif c then x else none) = some b) : c = true ∧ x = some b := by
  cases c with
  | false => cases h
  | true => exact ⟨rfl, h⟩
theorem force_some {β : Type} {n : Nat} {f : Nat → Option β} {b : β} (h : force n f = some b) : f n = some b := by rw [force_eq] at h; exact h
theorem onI_some {α : Type} {v : Value} {f : IntKind → Int → Option α} {x : α} (h : onI v f = some x) : ∃ a b, v = .int a b ∧ f a b = some x := by
  cases v <;> first | exact ⟨_, _, rfl, h⟩ | cases h
theorem onP_some {α : Type} {v : Value} {f : Nat → Nat → Option α} {x : α} (h : onP v f = some x) : ∃ b o, v = .pointer (some ⟨b, o, none⟩) ∧ f b o = some x := by
  unfold onP at h
  split at h
  · exact ⟨_, _, rfl, h⟩
  · cases h
theorem onS_some {α : Type} {v : Value} {f : Nat → Nat → Nat → Nat → Option α} {x : α} (h : onS v f = some x) : ∃ b o n e, v = .slice (some ⟨b, o, none⟩) n e ∧ f b o n e = some x := by
  unfold onS at h
  split at h
  · exact ⟨_, _, _, _, rfl, h⟩
  · cases h
theorem onB_some {α : Type} {v : Value} {y z : Option α} {x : α} (h : onB v y z = some x) : ∃ t, v = .bool t ∧ (bif t then y else z) = some x := by
  unfold onB at h
  split at h
  · exact ⟨true, rfl, h⟩
  · exact ⟨false, rfl, h⟩
  · cases h
theorem onT_some {α : Type} {v : Value} {f : List Value → Option α} {x : α} (h : onT v f = some x) : ∃ vs, v = .tuple vs ∧ f vs.toList = some x := by
  cases v <;> first | exact ⟨_, rfl, h⟩ | cases h
theorem onStr_some {α : Type} {v : Value} {f : ByteArray → Option α} {x : α} (h : onStr v f = some x) : ∃ s, v = .string s ∧ f s = some x := by
  cases v <;> first | exact ⟨_, rfl, h⟩ | cases h
theorem pr_run {P : Program} {α : Type} : ∀ (s : Sem α) (v : α), pr P s = some v → ∀ w, s.run P w = .ok v w := by
  intro s
  induction s with
  | pure a => intro v h w; cases h; rfl
  | program k ih => intro v h w; exact ih P v h w
  | mark m k ih => intro v h w; exact ih v h w
  | _ => intro v h; cases h
theorem nth_get : ∀ (i : Nat) (l : List Value), nth i l = l[i]?
  | 0, [] => rfl
  | 0, _ :: _ => rfl
  | i + 1, [] => rfl
  | i + 1, _ :: l => by simp only [nth, nth_get i l, List.getElem?_cons_succ]
theorem LR.get {R : Value → Value → Prop} : ∀ {l m : List Value} {i : Nat} {v : Value}, LR R l m → l[i]? = some v → ∃ u, m[i]? = some u ∧ R v u
  | [], _, _, _, _, h => by cases h
  | x :: xs, _, 0, v, ⟨y, ys, e, r, _⟩, h => by subst e; simp at h; subst h; exact ⟨y, by simp, r⟩
  | x :: xs, _, i + 1, v, ⟨y, ys, e, _, q⟩, h => by subst e; simp at h; obtain ⟨u, h1, h2⟩ := LR.get q h; exact ⟨u, by simpa using h1, h2⟩
theorem LR.len {R : Value → Value → Prop} : ∀ {l m : List Value}, LR R l m → m.length = l.length
  | [], _, e => by rw [e]
  | x :: xs, _, ⟨y, ys, e, _, q⟩ => by rw [e]; simp [q.len]
theorem LR.app {R : Value → Value → Prop} : ∀ {l m l' m' : List Value}, LR R l m → LR R l' m' → LR R (l ++ l') (m ++ m')
  | [], _, _, _, e, h => by rw [e]; exact h
  | x :: xs, _, _, _, ⟨y, ys, e, r, q⟩, h => ⟨y, ys ++ _, by rw [e]; rfl, r, q.app h⟩
theorem LR.drop {R : Value → Value → Prop} : ∀ {l m : List Value} (n : Nat), LR R l m → LR R (l.drop n) (m.drop n)
  | l, m, 0, h => h
  | [], _, n + 1, e => by rw [e]; rfl
  | x :: xs, _, n + 1, ⟨y, ys, e, _, q⟩ => by rw [e]; exact q.drop n
theorem LR.take {R : Value → Value → Prop} : ∀ {l m : List Value} (n : Nat), LR R l m → LR R (l.take n) (m.take n)
  | l, m, 0, h => by simp [LR]
  | [], _, n + 1, e => by rw [e]; rfl
  | x :: xs, _, n + 1, ⟨y, ys, e, r, q⟩ => by rw [e]; exact ⟨y, ys.take n, rfl, r, q.take n⟩
theorem szOf_info {P : Program} {t n : Nat} (h : szOf P t = some n) : ∃ i, P.info? t = some i ∧ i.size = n := by
  unfold szOf at h
  cases e : P.info? t with
  | none => rw [e] at h; cases h
  | some i => rw [e] at h; exact ⟨i, rfl, by simpa using h⟩
theorem zeroOf_info {P : Program} {t : Nat} {z : Value} (h : zeroOf P t = some z) : ∃ i, P.info? t = some i ∧ i.zero = some z := by
  unfold zeroOf at h
  cases e : P.info? t with
  | none => rw [e] at h; cases h
  | some i => rw [e] at h; exact ⟨i, rfl, by simpa using h⟩
/-- What is said of an operation. -/
structure Oo (P : Program) (o : Oper) (fr : FT) (h : HT) (n : Nat) (x : R5) : Prop where
  ss : Ss h n x.h x.n x.r x.w
  ok : ∀ (k : K) (W : World) (a : Act) (K' : Act → World → Prop) (Q : Exit → Act → World → Prop), (∀ y ∈ o.op.operands.toList, VX k (evo fr y) (a.eval y)) → HR k h W x.r → (∀ i, n ≤ i → i < x.n → k i = none) →
    (∀ u W' k', Sd h n x.h x.n x.r x.w k W k' W' → VX k' x.v u → K' (a.put o.dst u) W') → o.wp P a W K' Q
theorem Oo.val {P : Program} {o : Oper} {fr : FT} {h : HT} {n : Nat} {x : R5} {v : Value} (hx : val h n v = some x)
    (hr : ∀ (k : K) (W : World) (a : Act), (∀ y ∈ o.op.operands.toList, VX k (evo fr y) (a.eval y)) → ∃ u, VX k v u ∧ (execOp a.eval o).run P W = .ok (.value u) W) : Oo P o fr h n x := by
  unfold E.val at hx
  cases hx
  refine ⟨Ss.refl h n, fun k W a K' Q ho _ _ hk => ?_⟩
  obtain ⟨u, h1, h2⟩ := hr k W a ho
  unfold Oper.wp
  rw [h2, Oper.upon_value]
  exact hk u W k (Sd.refl h n k W) h1
section
variable {P : Program} {o : Oper} {fr : FT} {h : HT} {n : Nat} {x : R5}
theorem s_move {y : Operand} (ho : o.op = .move y ∨ o.op = .assign y) (e : oMove y fr h n = some x) : Oo P o fr h n x :=
  Oo.val e fun k W a hop => ⟨a.eval y, hop y (by rcases ho with ho | ho <;> simp [ho, Op.operands]), by rcases ho with ho | ho <;> simp [execOp, ho]⟩
theorem s_pick {c y z : Operand} (ho : o.op = .pick c y z) (e : oPick c y z fr h n = some x) : Oo P o fr h n x := by
  obtain ⟨t, hc, e⟩ := onB_some e
  have key : ∀ (k : K) (W : World) (a : Act), (∀ y ∈ o.op.operands.toList, VX k (evo fr y) (a.eval y)) → (execOp a.eval o).run P W = .ok (.value (bif t then a.eval y else a.eval z)) W := by
    intro k W a hop
    have h1 := hop c (by simp [ho, Op.operands])
    rw [hc] at h1
    have h2 := h1.bool_inv
    cases t <;> simp [execOp, ho, h2, asBool]
  cases t with
  | true => exact Oo.val e fun k W a hop => ⟨a.eval y, hop y (by simp [ho, Op.operands]), key k W a hop⟩
  | false => exact Oo.val e fun k W a hop => ⟨a.eval z, hop z (by simp [ho, Op.operands]), key k W a hop⟩
theorem s_ext {y : Operand} {i : Nat} (ho : o.op = .extract y i) (e : oExt y i fr h n = some x) : Oo P o fr h n x := by
  obtain ⟨vs, hv, e⟩ := onT_some e
  obtain ⟨v, h1, e⟩ := bind_some e
  refine Oo.val e fun k W a hop => ?_
  have h2 := hop y (by simp [ho, Op.operands])
  rw [hv] at h2
  obtain ⟨us, h3, h4⟩ := h2.tuple_inv
  rw [nth_get] at h1
  obtain ⟨u, h5, h6⟩ := h4.get h1
  exact ⟨u, h6, by simp [execOp, ho, h3, Instr.extract, h5]⟩
theorem s_nil {y : Operand} (ho : o.op = .nilCheck y) (e : oNil y fr h n = some x) : Oo P o fr h n x := by
  obtain ⟨b, f, hv, e⟩ := onP_some e
  refine Oo.val e fun k W a hop => ?_
  have h2 := hop y (by simp [ho, Op.operands])
  rw [hv] at h2
  obtain ⟨_, b', z, _, h3⟩ := h2.ptr_inv
  exact ⟨a.eval y, h2, by simp [execOp, ho, h3]⟩
theorem s_field {t : TypeId} {y : Operand} {f : Nat} (ho : o.op = .fieldAddr t y f) (e : oField P t y f fr h n = some x) : Oo P o fr h n x := by
  obtain ⟨d, hd, e⟩ := bind_some e
  obtain ⟨b, q, hv, e⟩ := onP_some e
  refine Oo.val (force_some e) fun k W a hop => ?_
  have h2 := hop y (by simp [ho, Op.operands])
  rw [hv] at h2
  obtain ⟨_, b', z, hk, h3⟩ := h2.ptr_inv
  refine ⟨.pointer (some ⟨b', q + d, none⟩), VX.of0 ⟨rfl, b', z, hk, rfl⟩, ?_⟩
  unfold fOff at hd
  split at hd
  · rename_i fs hu
    split at hd
    · rename_i fd hf
      split at hd
      · rename_i m hs
        cases hd
        obtain ⟨i, hi, hsz⟩ := szOf_info hs
        have hf' : fs[f]? = some fd := by simpa using hf
        have hne : ¬ i.size = 0 := by omega
        simp [execOp, ho, h3, Instr.fieldAt, run_underlying hu, hf', Instr.sureAddr, fieldPlace, sizeOf, typeInfo, hi, hne, Addr.add_mid]
      · cases hd
    · cases hd
  · cases hd
theorem idx_some {i : Int} {m j : Nat} (e : idx i m = some j) : i = (j : Int) ∧ j < m := by
  cases i with
  | ofNat a =>
    obtain ⟨h1, h2⟩ := bif_some e
    cases h2
    rw [Nat.blt_eq] at h1
    exact ⟨rfl, h1⟩
  | negSucc a => cases e
theorem s_indA {t : TypeId} {y ix : Operand} (ho : o.op = .indexAddr t y ix) (e : oIndA P t y ix fr h n = some x) : Oo P o fr h n x := by
  unfold oIndA at e
  split at e
  · rename_i e' hu
    obtain ⟨m, hm, e⟩ := bind_some e
    obtain ⟨b, q, len, es, hv, e⟩ := onS_some e
    obtain ⟨ki, i, hi, e⟩ := onI_some e
    obtain ⟨j, hj, e⟩ := bind_some e
    obtain ⟨hj1, hj2⟩ := idx_some hj
    refine Oo.val (force_some e) fun k W a hop => ?_
    have h2 := hop y (by simp [ho, Op.operands])
    have h2' := hop ix (by simp [ho, Op.operands])
    rw [hv] at h2; rw [hi] at h2'
    obtain ⟨_, b', z, c, hk, h3, _⟩ := h2.slc_inv
    have h4 := h2'.int_inv
    obtain ⟨inf, hinf, hsz⟩ := szOf_info hm
    refine ⟨.pointer (some ⟨b', q + j * m, none⟩), VX.of0 ⟨rfl, b', z, hk, rfl⟩, ?_⟩
    have hb : (0 : Int) ≤ (j : Int) ∧ (j : Int) < (len : Int) := by omega
    simp [execOp, ho, h3, h4, hj1, Instr.indexAt, asIntOf, run_underlying hu, sizeOf, typeInfo, hinf, hsz, Addr.add_mid, hj2]
  · rename_i len e' hu
    obtain ⟨m, hm, e⟩ := bind_some e
    obtain ⟨b, q, hv, e⟩ := onP_some e
    obtain ⟨ki, i, hi, e⟩ := onI_some e
    obtain ⟨j, hj, e⟩ := bind_some e
    obtain ⟨hj1, hj2⟩ := idx_some hj
    refine Oo.val (force_some e) fun k W a hop => ?_
    have h2 := hop y (by simp [ho, Op.operands])
    have h2' := hop ix (by simp [ho, Op.operands])
    rw [hv] at h2; rw [hi] at h2'
    obtain ⟨_, b', z, hk, h3⟩ := h2.ptr_inv
    have h4 := h2'.int_inv
    obtain ⟨inf, hinf, hsz⟩ := szOf_info hm
    refine ⟨.pointer (some ⟨b', q + j * m, none⟩), VX.of0 ⟨rfl, b', z, hk, rfl⟩, ?_⟩
    simp [execOp, ho, h3, h4, hj1, Instr.indexAt, asIntOf, Instr.sureAddr, run_underlying hu, sizeOf, typeInfo, hinf, hsz, Addr.add_mid, hj2]
  · cases e
theorem nthB_get : ∀ (i : Nat) (l : List UInt8), nthB i l = l[i]?
  | 0, [] => rfl
  | 0, _ :: _ => rfl
  | i + 1, [] => rfl
  | i + 1, _ :: l => by simp only [nthB, nthB_get i l, List.getElem?_cons_succ]
theorem isStr_some {t : TypeId} (e : isStr P t = true) : P.underlying t = some .string := by
  unfold isStr at e
  split at e
  · assumption
  · cases e
theorem s_ind {t : TypeId} {y ix : Operand} (ho : o.op = .index t y ix) (e : oInd P t y ix fr h n = some x) : Oo P o fr h n x := by
  obtain ⟨hs, e⟩ := bif_some e
  have hu := isStr_some hs
  obtain ⟨s, hv, e⟩ := onStr_some e
  obtain ⟨ki, i, hi, e⟩ := onI_some e
  cases i with
  | negSucc m => cases e
  | ofNat m =>
    obtain ⟨b, hb, e⟩ := bind_some e
    rw [nthB_get] at hb
    refine Oo.val (force_some e) fun k W a hop => ?_
    have h2 := hop y (by simp [ho, Op.operands])
    have h2' := hop ix (by simp [ho, Op.operands])
    rw [hv] at h2; rw [hi] at h2'
    have h3 := h2.str_inv
    have h4 := h2'.int_inv
    refine ⟨_, VX.of0 rfl, ?_⟩
    have hb' : s.data[m]? = some b := by simpa using hb
    have hb2 : s[m]? = some b := by
      obtain ⟨h5, h6⟩ := Array.getElem?_eq_some_iff.1 hb'
      have h7 : m < s.size := h5
      rw [getElem?_pos s m h7]
      exact congrArg some h6
    simp [execOp, ho, h3, h4, Instr.index, asIntOf, run_underlying hu, hb2]
theorem s_func {fn : Fn} {first captured : Array Operand} (ho : o.op = .makeFunc fn first captured) (e : oFunc fn first captured fr h n = some x) : Oo P o fr h n x := by
  unfold oFunc at e
  split at e
  · rename_i f
    split at e
    · rename_i hf
      refine Oo.val e fun k W a hop => ?_
      have hfe : first = #[] := by simpa using hf
      subst hfe
      have key : ∀ l : List Operand, (∀ y ∈ l, VX k (evo fr y) (a.eval y)) → LR (VX k) (evl fr l) (l.map a.eval) := by
        intro l
        induction l with
        | nil => intro _; rfl
        | cons y l ih => intro hl; exact ⟨_, _, rfl, hl y (by simp), ih (fun y hy => hl y (by simp [hy]))⟩
      refine ⟨_, VX.func (key captured.toList (fun y hy => hop y (by rw [ho]; simpa [Op.operands] using hy))), ?_⟩
      have : captured.map a.eval = (captured.toList.map a.eval).toArray := Array.ext' (by simp)
      simp [execOp, ho, Instr.makeFunc, this]
    · cases e
  · cases e
end
end E
end Go.Proofs.YtepfokoepibkcaaGreat

/-
  Each operation, reckoned, is what the run does: those that only make values. Slices; arguments. Operations that read, write and make blocks.
-/
import Derived.Test.YtfmfeipeeedfpaaGreatLa
import Derived.Deep.AppendSrc
import Derived.Deep.MidRow
import Derived.Great.BuildSlice
import Derived.Laws.Strings
import Derived.KernelRfl
import Derived.Laws.BytesString
namespace Go.Proofs.YtfmfeipeeedfpaaGreat
namespace S
open Go.CheckFast (force force_eq)
theorem bind_some {α β : Type} {x : Option α} {f : α → Option β} {b : β} (h : x.bind f = some b) : ∃ a, x = some a ∧ f a = some b := by
  cases x with
  | none => cases h
  | some a => exact ⟨a, rfl, h⟩
theorem bif_some {β : Type} {c : Bool} {x : Option β} {b : β} (h : (bif c then x else none) = some b) : c = true ∧ x = some b := by
  cases c with
  | false => cases h
  | true => exact ⟨rfl, h⟩
theorem force_some {β : Type} {n : Nat} {f : Nat → Option β} {b : β} (h : force n f = some b) : f n = some b := by rw [force_eq] at h; exact h
theorem onI_some {α : Type} {v : Value} {f : IntKind → Int → Option α} {x : α} (h : onI v f = some x) : ∃ a b, v = .int a b ∧ f a b = some x := by
  cases v <;> first | exact ⟨_, _, rfl, h⟩ | cases h
theorem onP_some {α : Type} {v : Value} {f : Nat → Nat → Option α} {x : α} (h : onP v f = some x) : ∃ b o, v = .pointer (some ⟨b, o, none⟩) ∧ f b o = some x := by
  unfold onP at h
  split at h
  · exact ⟨_, _, rfl, h⟩
  · cases h
theorem onS_some {α : Type} {v : Value} {f : Nat → Nat → Nat → Nat → Option α} {x : α} (h : onS v f = some x) : ∃ b o n e, v = .slice (some ⟨b, o, none⟩) n e ∧ f b o n e = some x := by
  unfold onS at h
  split at h
  · exact ⟨_, _, _, _, rfl, h⟩
  · cases h
theorem onB_some {α : Type} {v : Value} {y z : Option α} {x : α} (h : onB v y z = some x) : ∃ t, v = .bool t ∧ (bif t then y else z) = some x := by
  unfold onB at h
  split at h
  · exact ⟨true, rfl, h⟩
  · exact ⟨false, rfl, h⟩
  · cases h
theorem onT_some {α : Type} {v : Value} {f : List Value → Option α} {x : α} (h : onT v f = some x) : ∃ vs, v = .tuple vs ∧ f vs.toList = some x := by
  cases v <;> first | exact ⟨_, rfl, h⟩ | cases h
theorem onStr_some {α : Type} {v : Value} {f : ByteArray → Option α} {x : α} (h : onStr v f = some x) : ∃ s, v = .string s ∧ f s = some x := by
  cases v <;> first | exact ⟨_, rfl, h⟩ | cases h
theorem nth_get : ∀ (i : Nat) (l : List Value), nth i l = l[i]?
  | 0, [] => rfl
  | 0, _ :: _ => rfl
  | i + 1, [] => rfl
  | i + 1, _ :: l => by simp only [nth, nth_get i l, List.getElem?_cons_succ]
theorem LR.get {R : Value → Value → Prop} : ∀ {l m : List Value} {i : Nat} {v : Value}, LR R l m → l[i]? = some v → ∃ u, m[i]? = some u ∧ R v u
  | [], _, _, _, _, h => by cases h
  | x :: xs, _, 0, v, ⟨y, ys, e, r, _⟩, h => by subst e; simp at h; subst h; exact ⟨y, by simp, r⟩
  | x :: xs, _, i + 1, v, ⟨y, ys, e, _, q⟩, h => by subst e; simp at h; obtain ⟨u, h1, h2⟩ := LR.get q h; exact ⟨u, by simpa using h1, h2⟩
theorem LR.len {R : Value → Value → Prop} : ∀ {l m : List Value}, LR R l m → m.length = l.length
  | [], _, e => by rw [e]
  | x :: xs, _, ⟨y, ys, e, _, q⟩ => by rw [e]; simp [q.len]
theorem LR.app {R : Value → Value → Prop} : ∀ {l m l' m' : List Value}, LR R l m → LR R l' m' → LR R (l ++ l') (m ++ m')
  | [], _, _, _, e, h => by rw [e]; exact h
  | x :: xs, _, _, _, ⟨y, ys, e, r, q⟩, h => ⟨y, ys ++ _, by rw [e]; rfl, r, q.app h⟩
theorem LR.drop {R : Value → Value → Prop} : ∀ {l m : List Value} (n : Nat), LR R l m → LR R (l.drop n) (m.drop n)
  | l, m, 0, h => h
  | [], _, n + 1, e => by rw [e]; rfl
  | x :: xs, _, n + 1, ⟨y, ys, e, _, q⟩ => by rw [e]; exact q.drop n
theorem LR.take {R : Value → Value → Prop} : ∀ {l m : List Value} (n : Nat), LR R l m → LR R (l.take n) (m.take n)
  | l, m, 0, h => by simp [LR]
  | [], _, n + 1, e => by rw [e]; rfl
  | x :: xs, _, n + 1, ⟨y, ys, e, r, q⟩ => by rw [e]; exact ⟨y, ys.take n, rfl, r, q.take n⟩
theorem szOf_info {P : Program} {t n : Nat} (h : szOf P t = some n) : ∃ i, P.info? t = some i ∧ i.size = n := by
  unfold szOf at h
  cases e : P.info? t with
  | none => rw [e] at h; cases h
  | some i => rw [e] at h; exact ⟨i, rfl, by simpa using h⟩
theorem zeroOf_info {P : Program} {t : Nat} {z : Value} (h : zeroOf P t = some z) : ∃ i, P.info? t = some i ∧ i.zero = some z := by
  unfold zeroOf at h
  cases e : P.info? t with
  | none => rw [e] at h; cases h
  | some i => rw [e] at h; exact ⟨i, rfl, by simpa using h⟩
/-- What is said of an operation. -/
structure Oo (P : Program) (o : Oper) (fr : FT) (h : HT) (n : Nat) (x : R5) : Prop where
  ss : Ss h n x.h x.n x.r x.w
  ok : ∀ (k : K) (W : World) (a : Act) (K' : Act → World → Prop) (Q : Exit → Act → World → Prop), (∀ y ∈ o.op.operands.toList, VX k (evo fr y) (a.eval y)) → HR k h W x.r → (∀ i, n ≤ i → i < x.n → k i = none) →
    (∀ u W' k', Sd h n x.h x.n x.r x.w k W k' W' → VX k' x.v u → K' (a.put o.dst u) W') → o.wp P a W K' Q
theorem Oo.val {P : Program} {o : Oper} {fr : FT} {h : HT} {n : Nat} {x : R5} {v : Value} (hx : val h n v = some x)
    (hr : ∀ (k : K) (W : World) (a : Act), (∀ y ∈ o.op.operands.toList, VX k (evo fr y) (a.eval y)) → ∃ u, VX k v u ∧ (execOp a.eval o).run P W = .ok (.value u) W) : Oo P o fr h n x := by
  unfold S.val at hx
  cases hx
  refine ⟨Ss.refl h n, fun k W a K' Q ho _ _ hk => ?_⟩
  obtain ⟨u, h1, h2⟩ := hr k W a ho
  unfold Oper.wp
  rw [h2, Oper.upon_value]
  exact hk u W k (Sd.refl h n k W) h1
section
variable {P : Program} {o : Oper} {fr : FT} {h : HT} {n : Nat} {x : R5}
theorem s_move {y : Operand} (ho : o.op = .move y ∨ o.op = .assign y) (e : oMove y fr h n = some x) : Oo P o fr h n x :=
  Oo.val e fun k W a hop => ⟨a.eval y, hop y (by rcases ho with ho | ho <;> simp [ho, Op.operands]), by rcases ho with ho | ho <;> simp [execOp, ho]⟩
theorem s_pick {c y z : Operand} (ho : o.op = .pick c y z) (t : Bool) (hc : ∀ k u, VX k (evo fr c) u → u = .bool t) : Oo P o fr h n ⟨evo fr (bif t then y else z), h, n, 0, 0⟩ := by
  have key : ∀ (k : K) (W : World) (a : Act), (∀ y ∈ o.op.operands.toList, VX k (evo fr y) (a.eval y)) → (execOp a.eval o).run P W = .ok (.value (bif t then a.eval y else a.eval z)) W := by
    intro k W a hop
    have h2 := hc k _ (hop c (by simp [ho, Op.operands]))
    cases t <;> simp [execOp, ho, h2, asBool]
  cases t with
  | true => exact Oo.val rfl fun k W a hop => ⟨a.eval y, hop y (by simp [ho, Op.operands]), key k W a hop⟩
  | false => exact Oo.val rfl fun k W a hop => ⟨a.eval z, hop z (by simp [ho, Op.operands]), key k W a hop⟩
theorem s_ext {y : Operand} {i : Nat} (ho : o.op = .extract y i) (e : oExt y i fr h n = some x) : Oo P o fr h n x := by
  obtain ⟨vs, hv, e⟩ := onT_some e
  obtain ⟨v, h1, e⟩ := bind_some e
  refine Oo.val e fun k W a hop => ?_
  have h2 := hop y (by simp [ho, Op.operands])
  rw [hv] at h2
  obtain ⟨us, h3, h4⟩ := h2.tuple_inv
  rw [nth_get] at h1
  obtain ⟨u, h5, h6⟩ := h4.get h1
  exact ⟨u, h6, by simp [execOp, ho, h3, Instr.extract, h5]⟩
theorem s_nil {y : Operand} (ho : o.op = .nilCheck y) (e : oNil y fr h n = some x) : Oo P o fr h n x := by
  obtain ⟨b, f, hv, e⟩ := onP_some e
  refine Oo.val e fun k W a hop => ?_
  have h2 := hop y (by simp [ho, Op.operands])
  rw [hv] at h2
  obtain ⟨_, b', z, _, h3⟩ := h2.ptr_inv
  exact ⟨a.eval y, h2, by simp [execOp, ho, h3]⟩
theorem s_field {t : TypeId} {y : Operand} {f : Nat} (ho : o.op = .fieldAddr t y f) (e : oField P t y f fr h n = some x) : Oo P o fr h n x := by
  obtain ⟨d, hd, e⟩ := bind_some e
  obtain ⟨b, q, hv, e⟩ := onP_some e
  refine Oo.val (force_some e) fun k W a hop => ?_
  have h2 := hop y (by simp [ho, Op.operands])
  rw [hv] at h2
  obtain ⟨_, b', z, hk, h3⟩ := h2.ptr_inv
  refine ⟨.pointer (some ⟨b', q + d, none⟩), VX.of0 ⟨trivial, b', z, hk, rfl⟩, ?_⟩
  unfold fOff at hd
  split at hd
  · rename_i fs hu
    split at hd
    · rename_i fd hf
      split at hd
      · rename_i m hs
        cases hd
        obtain ⟨i, hi, hsz⟩ := szOf_info hs
        have hf' : fs[f]? = some fd := by simpa using hf
        have hne : ¬ i.size = 0 := by omega
        simp [execOp, ho, h3, Instr.fieldAt, run_underlying hu, hf', Instr.sureAddr, fieldPlace, sizeOf, typeInfo, hi, hne, Addr.add_mid]
      · cases hd
    · cases hd
  · cases hd
theorem idx_some {i : Int} {m j : Nat} (e : idx i m = some j) : i = (j : Int) ∧ j < m := by
  cases i with
  | ofNat a =>
    obtain ⟨h1, h2⟩ := bif_some e
    cases h2
    rw [Nat.blt_eq] at h1
    exact ⟨rfl, h1⟩
  | negSucc a => cases e
theorem s_indA {t : TypeId} {y ix : Operand} (ho : o.op = .indexAddr t y ix) (e : oIndA P t y ix fr h n = some x) : Oo P o fr h n x := by
  unfold oIndA at e
  split at e
  · rename_i e' hu
    obtain ⟨m, hm, e⟩ := bind_some e
    obtain ⟨b, q, len, es, hv, e⟩ := onS_some e
    obtain ⟨ki, i, hi, e⟩ := onI_some e
    obtain ⟨j, hj, e⟩ := bind_some e
    obtain ⟨hj1, hj2⟩ := idx_some hj
    refine Oo.val (force_some e) fun k W a hop => ?_
    have h2 := hop y (by simp [ho, Op.operands])
    have h2' := hop ix (by simp [ho, Op.operands])
    rw [hv] at h2; rw [hi] at h2'
    obtain ⟨_, b', z, c, hk, h3, _⟩ := h2.slc_inv
    have h4 := h2'.int_inv
    obtain ⟨inf, hinf, hsz⟩ := szOf_info hm
    refine ⟨.pointer (some ⟨b', q + j * m, none⟩), VX.of0 ⟨trivial, b', z, hk, rfl⟩, ?_⟩
    have hb : (0 : Int) ≤ (j : Int) ∧ (j : Int) < (len : Int) := by omega
    simp [execOp, ho, h3, h4, hj1, Instr.indexAt, asIntOf, run_underlying hu, sizeOf, typeInfo, hinf, hsz, Addr.add_mid, hj2]
  · rename_i len e' hu
    obtain ⟨m, hm, e⟩ := bind_some e
    obtain ⟨b, q, hv, e⟩ := onP_some e
    obtain ⟨ki, i, hi, e⟩ := onI_some e
    obtain ⟨j, hj, e⟩ := bind_some e
    obtain ⟨hj1, hj2⟩ := idx_some hj
    refine Oo.val (force_some e) fun k W a hop => ?_
    have h2 := hop y (by simp [ho, Op.operands])
    have h2' := hop ix (by simp [ho, Op.operands])
    rw [hv] at h2; rw [hi] at h2'
    obtain ⟨_, b', z, hk, h3⟩ := h2.ptr_inv
    have h4 := h2'.int_inv
    obtain ⟨inf, hinf, hsz⟩ := szOf_info hm
    refine ⟨.pointer (some ⟨b', q + j * m, none⟩), VX.of0 ⟨trivial, b', z, hk, rfl⟩, ?_⟩
    simp [execOp, ho, h3, h4, hj1, Instr.indexAt, asIntOf, Instr.sureAddr, run_underlying hu, sizeOf, typeInfo, hinf, hsz, Addr.add_mid, hj2]
  · cases e
theorem nthB_get : ∀ (i : Nat) (l : List UInt8), nthB i l = l[i]?
  | 0, [] => rfl
  | 0, _ :: _ => rfl
  | i + 1, [] => rfl
  | i + 1, _ :: l => by simp only [nthB, nthB_get i l, List.getElem?_cons_succ]
theorem isStr_some {t : TypeId} (e : isStr P t = true) : P.underlying t = some .string := by
  unfold isStr at e
  split at e
  · assumption
  · cases e
theorem s_ind {t : TypeId} {y ix : Operand} (ho : o.op = .index t y ix) (e : oInd P t y ix fr h n = some x) : Oo P o fr h n x := by
  obtain ⟨hs, e⟩ := bif_some e
  have hu := isStr_some hs
  obtain ⟨s, hv, e⟩ := onStr_some e
  obtain ⟨ki, i, hi, e⟩ := onI_some e
  cases i with
  | negSucc m => cases e
  | ofNat m =>
    obtain ⟨b, hb, e⟩ := bind_some e
    rw [nthB_get] at hb
    refine Oo.val (force_some e) fun k W a hop => ?_
    have h2 := hop y (by simp [ho, Op.operands])
    have h2' := hop ix (by simp [ho, Op.operands])
    rw [hv] at h2; rw [hi] at h2'
    have h3 := h2.str_inv
    have h4 := h2'.int_inv
    refine ⟨_, VX.of0 rfl, ?_⟩
    have hb' : s.data[m]? = some b := by simpa using hb
    have hb2 : s[m]? = some b := by
      obtain ⟨h5, h6⟩ := Array.getElem?_eq_some_iff.1 hb'
      have h7 : m < s.size := h5
      rw [getElem?_pos s m h7]
      exact congrArg some h6
    simp [execOp, ho, h3, h4, Instr.index, asIntOf, run_underlying hu, hb2]
theorem s_func {fn : Fn} {first captured : Array Operand} (ho : o.op = .makeFunc fn first captured) (e : oFunc fn first captured fr h n = some x) : Oo P o fr h n x := by
  unfold oFunc at e
  split at e
  · rename_i f
    split at e
    · rename_i hf
      refine Oo.val e fun k W a hop => ?_
      have hfe : first = #[] := by simpa using hf
      subst hfe
      have key : ∀ l : List Operand, (∀ y ∈ l, VX k (evo fr y) (a.eval y)) → LR (VX k) (evl fr l) (l.map a.eval) := by
        intro l
        induction l with
        | nil => intro _; rfl
        | cons y l ih => intro hl; exact ⟨_, _, rfl, hl y (by simp), ih (fun y hy => hl y (by simp [hy]))⟩
      refine ⟨_, VX.func (key captured.toList (fun y hy => hop y (by rw [ho]; simpa [Op.operands] using hy))), ?_⟩
      have : captured.map a.eval = (captured.toList.map a.eval).toArray := Array.ext' (by simp)
      simp [execOp, ho, Instr.makeFunc, this]
    · cases e
  · cases e
end
end S
end Go.Proofs.YtfmfeipeeedfpaaGreat
namespace Go.Proofs.YtfmfeipeeedfpaaGreat
namespace S
open Go.CheckFast (force force_eq)
section
variable {P : Program} {o : Oper} {fr : FT} {h : HT} {n : Nat} {x : R5}
theorem lo_some {v : Option Value} {d m j : Nat} (e : lo v d m = some j) (hd : d ≤ m) : j ≤ m ∧ ((v = none ∧ j = d) ∨ ∃ k, v = some (.int k (j : Int))) := by
  cases v with
  | none => cases e; exact ⟨hd, Or.inl ⟨rfl, rfl⟩⟩
  | some v =>
    obtain ⟨k, i, hv, e⟩ := onI_some e
    obtain ⟨h1, h2⟩ := idx_some e
    exact ⟨by omega, Or.inr ⟨k, by rw [hv, h1]⟩⟩
theorem opt_map {k : K} {a : Act} {l : Option Operand} (hl : ∀ y ∈ l.toArray.toList, VX k (evo fr y) (a.eval y)) {j : Nat} {ki : IntKind} (e : l.map (evo fr) = some (.int ki (j : Int))) : l.map a.eval = some (.int ki (j : Int)) := by
  cases l with
  | none => cases e
  | some y =>
    simp only [Option.map_some, Option.some.injEq] at e ⊢
    have := hl y (by simp)
    rw [e] at this
    exact this.int_inv
theorem sliceB_run {k : IntKind} {j y : Nat} {c : BoundsCode} (hj : j ≤ y) (w : World) : (Instr.sliceBound (.int k (j : Int)) y c).run P w = .ok j w := by
  have h1 : (j : Int) ≤ (y : Int) := by omega
  simp [Instr.sliceBound, asIntOf, h1]
theorem s_slice {t : TypeId} {y : Operand} {l hi m : Option Operand} (ho : o.op = .slice t y l hi m) (e : oSlice P t y l hi m fr h n = some x) : Oo P o fr h n x := by
  obtain ⟨hm, e2⟩ := bif_some e
  clear e
  have hm' : m = none := by simpa using hm
  subst hm'
  have e := e2
  have bl : ∀ (k : K) (a : Act), (∀ y ∈ o.op.operands.toList, VX k (evo fr y) (a.eval y)) → (∀ y ∈ l.toArray.toList, VX k (evo fr y) (a.eval y)) ∧ (∀ y ∈ hi.toArray.toList, VX k (evo fr y) (a.eval y)) := by
    intro k a hop
    rw [ho] at hop
    constructor
    · intro y hy; exact hop y (by simp only [Op.operands, Array.toList_append, List.mem_append]; exact Or.inl (Or.inl (Or.inr hy)))
    · intro y hy; exact hop y (by simp only [Op.operands, Array.toList_append, List.mem_append]; exact Or.inl (Or.inr hy))
  have bounds : ∀ (isS : Bool) (len cap p q : Nat) (a : Act) (W : World), p ≤ q → q ≤ len → len ≤ cap → ((l.map a.eval = none ∧ p = 0) ∨ ∃ k, l.map a.eval = some (.int k (p : Int))) → ((hi.map a.eval = none ∧ q = len) ∨ ∃ k, hi.map a.eval = some (.int k (q : Int))) →
      (Instr.sliceBounds isS len cap (l.map a.eval) (hi.map a.eval) none).run P W = .ok (p, q, cap) W := by
    intro isS len cap p q a W hpq hql hlc hl hh
    unfold Instr.sliceBounds
    rcases hl with ⟨hl, rfl⟩ | ⟨kl, hl⟩ <;> rcases hh with ⟨hh, rfl⟩ | ⟨kh, hh⟩ <;> rw [hl, hh]
    · simp
    · simp [sliceB_run (show q ≤ cap by omega)]
    · simp [sliceB_run hpq]
    · simp [sliceB_run (show q ≤ cap by omega), sliceB_run hpq]
  unfold oSlV at e
  split at e
  · rename_i s hv
    obtain ⟨hs, e⟩ := bif_some e
    have hu := isStr_some hs
    obtain ⟨q, hq, e⟩ := bind_some e
    obtain ⟨p, hp, e⟩ := bind_some e
    obtain ⟨hq1, hq2⟩ := lo_some hq (Nat.le_refl _)
    obtain ⟨hp1, hp2⟩ := lo_some hp (Nat.zero_le _)
    refine Oo.val e fun k W a hop => ⟨_, VX.of0 rfl, ?_⟩
    have h2 := hop y (by simp [ho, Op.operands])
    rw [hv] at h2
    have h3 := h2.str_inv
    have hb := bl k a hop
    have hsz : s.data.toList.length = s.size := by rw [Array.length_toList]; rfl
    rw [hsz] at hq1 hq2
    have hL : (l.map a.eval = none ∧ p = 0) ∨ ∃ k, l.map a.eval = some (.int k (p : Int)) := by
      rcases hp2 with ⟨h, h'⟩ | ⟨kk, h⟩
      · exact Or.inl ⟨by cases l <;> simp_all, h'⟩
      · exact Or.inr ⟨kk, opt_map hb.1 h⟩
    have hH : (hi.map a.eval = none ∧ q = s.size) ∨ ∃ k, hi.map a.eval = some (.int k (q : Int)) := by
      rcases hq2 with ⟨h, h'⟩ | ⟨kk, h⟩
      · exact Or.inl ⟨by cases hi <;> simp_all, h'⟩
      · exact Or.inr ⟨kk, opt_map hb.2 h⟩
    have hB := bounds false s.size s.size p q a W hp1 hq1 (Nat.le_refl _) hL hH
    have hx : (⟨((s.data.toList.drop p).take (q - p)).toArray⟩ : ByteArray) = s.extract p q := by
      apply ByteArray.ext
      apply Array.ext'
      simp [ByteArray.data_extract, Array.toList_extract, List.extract]
    have hm0 : (Option.map a.eval (none : Option Operand)) = none := rfl
    simp only [execOp, ho, h3, Instr.sliceAt, Instr.slice, Sem.run_bind, run_underlying hu, Result.andThen_ok, hm0, Sem.run_pure, hx]
    simp [hB]
  · rename_i b f len es hv
    split at e
    · rename_i e' hu
      obtain ⟨sz, hsz, e⟩ := bind_some e
      obtain ⟨q, hq, e⟩ := bind_some e
      obtain ⟨p, hp, e⟩ := bind_some e
      obtain ⟨hc, e⟩ := bif_some e
      simp only [Bool.and_eq_true, Nat.beq_eq, Nat.blt_eq] at hc
      obtain ⟨hq1, hq2⟩ := lo_some hq (Nat.le_refl _)
      obtain ⟨hp1, hp2⟩ := lo_some hp (Nat.zero_le _)
      refine Oo.val (force_some (force_some e)) fun k W a hop => ?_
      have h2 := hop y (by simp [ho, Op.operands])
      rw [hv] at h2
      obtain ⟨_, b', z, cap, hk, h3, hcap, hfit⟩ := h2.slc_inv
      have hb := bl k a hop
      have hL : (l.map a.eval = none ∧ p = 0) ∨ ∃ k, l.map a.eval = some (.int k (p : Int)) := by
        rcases hp2 with ⟨h, h'⟩ | ⟨kk, h⟩
        · exact Or.inl ⟨by cases l <;> simp_all, h'⟩
        · exact Or.inr ⟨kk, opt_map hb.1 h⟩
      have hH : (hi.map a.eval = none ∧ q = len) ∨ ∃ k, hi.map a.eval = some (.int k (q : Int)) := by
        rcases hq2 with ⟨h, h'⟩ | ⟨kk, h⟩
        · exact Or.inl ⟨by cases hi <;> simp_all, h'⟩
        · exact Or.inr ⟨kk, opt_map hb.2 h⟩
      have hB := bounds true len cap p q a W hp1 hq1 hcap hL hH
      obtain ⟨inf, hinf, hsi⟩ := szOf_info hsz
      refine ⟨.slice (some ⟨b', f + p * sz, none⟩) (q - p) (cap - p), VX.of0 ⟨trivial, b', z, cap - p, hk, rfl, by show q - p ≤ cap - p; omega, ?_⟩, ?_⟩
      · have hes := hc.1
        subst hes
        show f + p * sz + (cap - p) * sz ≤ z
        have : p * sz + (cap - p) * sz = cap * sz := by rw [← Nat.add_mul]; congr 1; omega
        have hfit' : f + cap * sz ≤ z := hfit
        omega
      · have hne : ¬ cap = p := by omega
        have hm0 : (Option.map a.eval (none : Option Operand)) = none := rfl
        simp only [execOp, ho, h3, Instr.sliceAt, Instr.slice, Sem.run_bind, run_underlying hu, Result.andThen_ok, hm0, hB, Sem.run_pure]
        simp [sizeOf, typeInfo, hinf, hsi, hne, Addr.add_mid]
    · cases e
  · cases e
theorem evl_rel {k : K} {a : Act} : ∀ l : List Operand, (∀ y ∈ l, VX k (evo fr y) (a.eval y)) → LR (VX k) (evl fr l) (l.map a.eval)
  | [], _ => rfl
  | y :: l, hl => ⟨_, _, rfl, hl y (by simp), evl_rel l (fun y hy => hl y (by simp [hy]))⟩
end
end S
end Go.Proofs.YtfmfeipeeedfpaaGreat
namespace Go.Proofs.YtfmfeipeeedfpaaGreat
namespace S
open Go.CheckFast (force force_eq)
theorem drop'_eq : ∀ (n : Nat) (l : List Value), drop' n l = l.drop n
  | 0, _ => rfl
  | _ + 1, [] => rfl
  | n + 1, _ :: l => by simp only [drop', drop'_eq n l, List.drop_succ_cons]
theorem take'_some : ∀ {n : Nat} {l r : List Value}, take' n l = some r → r = l.take n ∧ r.length = n
  | 0, _, _, e => by cases e; exact ⟨by simp, rfl⟩
  | n + 1, [], _, e => by cases e
  | n + 1, x :: l, r, e => by
    simp only [take'] at e
    cases h : take' n l with
    | none => rw [h] at e; cases e
    | some r' =>
      rw [h] at e
      cases e
      obtain ⟨h1, h2⟩ := take'_some h
      exact ⟨by rw [h1]; rfl, by simp [h2]⟩
theorem lay'_some : ∀ {us l r : List Value}, lay' us l = some r → r = us ++ l.drop us.length ∧ us.length ≤ l.length
  | [], _, _, e => by cases e; exact ⟨rfl, Nat.zero_le _⟩
  | u :: us, [], _, e => by cases e
  | u :: us, x :: l, r, e => by
    simp only [lay'] at e
    cases h : lay' us l with
    | none => rw [h] at e; cases e
    | some r' =>
      rw [h] at e
      cases e
      obtain ⟨h1, h2⟩ := lay'_some h
      exact ⟨by rw [h1]; rfl, by simpa using h2⟩
theorem over_some : ∀ {n : Nat} {us l r : List Value}, over n us l = some r → r = l.take n ++ us ++ l.drop (n + us.length) ∧ n + us.length ≤ l.length
  | 0, _, _, _, e => by
    obtain ⟨h1, h2⟩ := lay'_some e
    exact ⟨by simpa using h1, by omega⟩
  | n + 1, _, [], _, e => by cases e
  | n + 1, us, x :: l, r, e => by
    simp only [over] at e
    cases h : over n us l with
    | none => rw [h] at e; cases e
    | some r' =>
      rw [h] at e
      cases e
      obtain ⟨h1, h2⟩ := over_some h
      refine ⟨?_, by simp; omega⟩
      rw [h1, show n + 1 + us.length = (n + us.length) + 1 by omega]
      rfl
theorem allOne_mem : ∀ {l : List Value}, allOne l = true → ∀ v ∈ l, one v = true
  | [], _, _, h => by cases h
  | x :: l, e, v, h => by
    simp only [allOne] at e
    obtain ⟨h1, h2⟩ : one x = true ∧ allOne l = true := by cases hx : one x <;> rw [hx] at e <;> first | cases e | exact ⟨rfl, e⟩
    rcases List.mem_cons.1 h with rfl | h
    · exact h1
    · exact allOne_mem h2 v h
theorem one_rel {k : K} {v u : Value} (h : VX k v u) (h1 : one v = true) : u.oneCell' = true ∧ u.cells = #[u] := by
  cases v with
  | agg _ => cases h1
  | tuple _ => cases h1
  | chan _ => cases h1
  | func f a c => obtain ⟨a', c', e, _⟩ := h.func_inv; rw [e]; exact ⟨rfl, rfl⟩
  | pointer a => cases a with
    | none => rw [show u = .pointer none from h.v0 trivial]; exact ⟨rfl, rfl⟩
    | some a => obtain ⟨_, b, z, _, e⟩ := h.ptr_inv; rw [e]; exact ⟨rfl, rfl⟩
  | slice a n c => cases a with
    | none => rw [h.nilslc_inv]; exact ⟨rfl, rfl⟩
    | some a => obtain ⟨_, b, z, c, _, e, _⟩ := h.slc_inv; rw [e]; exact ⟨rfl, rfl⟩
  | map a => cases a with
    | none => rw [show u = .map none from h.v0 trivial]; exact ⟨rfl, rfl⟩
    | some a => obtain ⟨b, _, e⟩ := h.map_inv; rw [e]; exact ⟨rfl, rfl⟩
  | iface t v =>
    rw [h.raw_inv]
    cases v <;> first | exact ⟨rfl, rfl⟩ | cases h1
  | bool b => rw [h.bool_inv]; exact ⟨rfl, rfl⟩
  | int a b => rw [h.int_inv]; exact ⟨rfl, rfl⟩
  | string b => rw [h.str_inv]; exact ⟨rfl, rfl⟩
  | float a b => obtain ⟨p, c, e⟩ := h.emp_inv; rw [e]; exact ⟨rfl, rfl⟩
  | complex a b c => rw [h.lit_inv]; exact ⟨rfl, rfl⟩
  | nilFunc => rw [show u = .nilFunc from h.v0 trivial]; exact ⟨rfl, rfl⟩
  | nilIface => rw [show u = .nilIface from h.v0 trivial]; exact ⟨rfl, rfl⟩
theorem ones_rel {k : K} : ∀ {l m : List Value}, LR (VX k) l m → allOne l = true → ∀ u ∈ m, u.oneCell' = true
  | [], _, e, _, u, hu => by rw [e] at hu; cases hu
  | x :: xs, _, ⟨y, ys, e, r, q⟩, ho, u, hu => by
    subst e
    simp only [allOne] at ho
    obtain ⟨h1, h2⟩ : one x = true ∧ allOne xs = true := by cases hx : one x <;> rw [hx] at ho <;> first | cases ho | exact ⟨rfl, ho⟩
    rcases List.mem_cons.1 hu with rfl | hu
    · exact (one_rel r h1).1
    · exact ones_rel q h2 u hu
theorem cells_rel {k : K} {v u : Value} (h : VX k v u) (ho : allOne v.cells.toList = true) : LR (VX k) v.cells.toList u.cells.toList ∧ ∀ c ∈ u.cells.toList, c.oneCell' = true := by
  have key : (∀ cs, v ≠ .agg cs) → LR (VX k) v.cells.toList u.cells.toList := fun hv => by
    have hc : v.cells = #[v] := by cases v <;> first | rfl | exact absurd rfl (hv _)
    rw [hc] at ho ⊢
    have h1 : one v = true := allOne_mem ho v (by simp)
    rw [(one_rel h h1).2]
    exact ⟨u, [], rfl, h, rfl⟩
  have h2 : LR (VX k) v.cells.toList u.cells.toList := by
    cases v with
    | agg cs => obtain ⟨us, e, l⟩ := h.agg_inv; rw [e]; simpa [Value.cells] using l
    | _ => exact key (fun cs => by simp)
  exact ⟨h2, ones_rel h2 ho⟩
theorem zok_rel {k : K} {z : Value} (h : zok z = true) : LR (VX k) z.cells.toList z.cells.toList := cokL_vx h
/-! A block of the world. -/
theorem cell_of {W : World} {b : Nat} {cs : List Value} {ty : TypeId} (h : W.heap[b]? = some (.cells cs.toArray ty (0, 0))) (o : Nat) : W.cell? ⟨b, o, none⟩ = cs[o]? := by
  simp [World.cell?, h]
theorem fz_of {W : World} {b : Nat} {cs : List Value} {ty : TypeId} (h : W.heap[b]? = some (.cells cs.toArray ty (0, 0))) (o : Nat) : W.frozen? ⟨b, o, none⟩ = false := by
  simp [World.frozen?, h]
theorem heap_setCells_other {W : World} {b c : Nat} (hc : c ≠ b) : ∀ (l : List Value) (o : Nat), (W.setCells b o l).heap[c]? = W.heap[c]? := by
  intro l
  induction l generalizing W with
  | nil => intro o; rfl
  | cons v l ih =>
    intro o
    rw [World.setCells, ih]
    simp only [World.setCell, Array.getElem?_modify]
    rw [if_neg (Ne.symm hc)]
theorem heap_setCells {b : Nat} {ty : TypeId} : ∀ (l : List Value) (o : Nat) (W : World) (cs : List Value), W.heap[b]? = some (.cells cs.toArray ty (0, 0)) → o + l.length ≤ cs.length →
    (W.setCells b o l).heap[b]? = some (.cells (cs.take o ++ l ++ cs.drop (o + l.length)).toArray ty (0, 0))
  | [], o, W, cs, h, _ => by simpa [World.setCells] using h
  | v :: l, o, W, cs, h, hl => by
    have h1 : (W.setCell ⟨b, o, none⟩ v).heap[b]? = some (.cells (cs.set o v).toArray ty (0, 0)) := by
      simp [World.setCell, Array.getElem?_modify, h]
    rw [World.setCells, heap_setCells l (o + 1) _ (cs.set o v) h1 (by simp at hl ⊢; omega)]
    have ho : o < cs.length := by simp at hl; omega
    have e1 : (cs.set o v).take (o + 1) = cs.take o ++ [v] := by
      rw [List.take_add_one, List.take_set_of_le (Nat.le_refl _)]
      simp [ho]
    have e2 : (cs.set o v).drop (o + 1 + l.length) = cs.drop (o + (v :: l).length) := by
      rw [List.drop_set_of_lt (by omega)]
      congr 1
      simp; omega
    rw [e1, e2]
    simp
theorem size_setCells (b : Nat) : ∀ (l : List Value) (o : Nat) (W : World), (W.setCells b o l).heap.size = W.heap.size
  | [], _, _ => rfl
  | v :: r, o, W => by rw [World.setCells, size_setCells b r]; simp [World.setCell]
theorem rest_setCells (b : Nat) : ∀ (l : List Value) (o : Nat) (W : World), (W.setCells b o l).os = W.os ∧ Tp (W.setCells b o l) W ∧ (W.setCells b o l).output = W.output
  | [], _, _ => ⟨rfl, ⟨rfl, Nat.le_refl _⟩, rfl⟩
  | v :: r, o, W => by rw [World.setCells]; exact rest_setCells b r (o + 1) _
/-! What reads, writes and makes. -/
theorem Ss.read (h : HT) (n r : Nat) : Ss h n h n r 0 := ⟨Nat.le_refl _, fun h => h, fun _ _ => rfl, fun _ h => absurd h tb_zero, fun _ h => absurd h tb_zero, fun _ _ h => h⟩
theorem Sd.read {h : HT} {n r : Nat} {k : K} {W : World} (H : HR k h W r) : Sd h n h n r 0 k W k W :=
  ⟨fun _ _ h => h, fun _ _ => rfl, H.sub (fun i hi => (tb_or.1 hi).resolve_right tb_zero), fun _ _ _ => rfl, fun _ _ _ h1 h2 => absurd h2 (by omega), fun _ _ h => h, Nat.le_refl _, rfl, ⟨rfl, Nat.le_refl _⟩, rfl⟩
/-- A new number for a block, new or one that was let go. -/
def upk (k : K) (n B Z : Nat) : K := fun i => if i = n then some (B, Z) else k i
section
variable {h h' : HT} {n r w : Nat} {cs : List Value}
theorem Ss.new (hn : tb w n) (hd : ∀ i, i ≠ n → hget h' i = hget h i ∨ (tb w i ∧ hget h' i = none)) (hw : ∀ i, tb w i → i = n ∨ (tb r i ∧ i < n)) : Ss h n h' (n + 1) r w where
  le := Nat.le_succ n
  nn := fun nn i hi => by
    rcases hd i (by omega) with e | e
    · rw [e]; exact nn i (by omega)
    · exact e.2
  same := fun i hi => by
    rcases hd i (fun e => hi (e ▸ hn)) with e | e
    · exact e
    · exact absurd e.1 hi
  old := fun i hi hlt => by
    rcases hw i hi with e | e
    · omega
    · exact e.1
  lt := fun i hi => by
    rcases hw i hi with e | e
    · omega
    · omega
  back := fun i hi ⟨cs, hl⟩ => by
    rcases hd i (by omega) with e | e
    · exact ⟨cs, by rw [← e]; exact hl⟩
    · rw [e.2] at hl; cases hl
theorem Sd.new {k : K} {W W' : World} {B : Nat} {us sp : List Value} {ty : TypeId} (nn : ∀ i, n ≤ i → hget h i = none) (hcs : hget h' n = some cs)
    (hd : ∀ i, i ≠ n → hget h' i = hget h i ∨ (tb w i ∧ hget h' i = none)) (hw : ∀ i, tb w i → i = n ∨ (tb r i ∧ i < n)) (hk : k n = none) (H : HR k h W r)
    (hB : W.heap.size ≤ B ∨ ∃ j z', tb w j ∧ j < n ∧ live h j ∧ ¬ live h' j ∧ k j = some (B, z')) (hW : W'.heap[B]? = some (.cells (us ++ sp).toArray ty (0, 0))) (hl : LR (VX k) cs us)
    (hf : ∀ b, b ≠ B → b < W.heap.size → W'.heap[b]? = W.heap[b]?) (hz : W.heap.size ≤ W'.heap.size) (h1 : W'.os = W.os) (h2 : Tp W' W) (h3 : W'.output = W.output) :
    Sd h n h' (n + 1) r w k W (upk k n B (us.length + sp.length + 1)) W' := by
  have hext : ∀ i p, k i = some p → upk k n B (us.length + sp.length + 1) i = some p := fun i p hp => by
    unfold upk
    rw [if_neg (fun e => by rw [e, hk] at hp; cases hp)]
    exact hp
  have hne : ∀ i, i ≠ n → upk k n B (us.length + sp.length + 1) i = k i := fun i hi => if_neg hi
  have hself : upk k n B (us.length + sp.length + 1) n = some (B, us.length + sp.length + 1) := if_pos rfl
  -- old ones that live
  have old : ∀ i, i ≠ n → tb (Nat.lor r w) i → live h' i → tb r i ∧ live h i ∧ hget h' i = hget h i := fun i hi ht ⟨c, hl⟩ => by
    rcases hd i hi with e | e
    · refine ⟨?_, ⟨c, by rw [← e]; exact hl⟩, e⟩
      rcases tb_or.1 ht with ht | ht
      · exact ht
      · rcases hw i ht with e | e
        · exact absurd e hi
        · exact e.1
    · rw [e.2] at hl; cases hl
  have apart : ∀ i, i ≠ n → tb (Nat.lor r w) i → live h' i → ∀ b z, k i = some (b, z) → b ≠ B := fun i hi ht hl b z hb e => by
    obtain ⟨a1, a2, a3⟩ := old i hi ht hl
    rcases hB with hB | ⟨j, z', b1, b2, b3, b4, b5⟩
    · obtain ⟨b', z'', e1, e2⟩ := (H.rep i a1).lt a2
      rw [hb] at e1; cases e1
      omega
    · have hj : tb r j := by
        rcases hw j b1 with e | e
        · omega
        · exact e.1
      exact H.inj i j a1 hj a2 b3 (fun e => b4 (e ▸ hl)) b z B z' hb b5 e
  refine ⟨hext, fun i hi => hne i (by omega), ⟨fun i ht c hc => ?_, fun i j hi hj li lj hij b z b' z' ki kj => ?_⟩, fun b hb hj => ?_, fun i b z hi hi2 hl hki => ?_, fun D hD hdj i b z hki hDb => ?_, hz, h1, h2, h3⟩
  · by_cases e : i = n
    · subst e
      rw [hcs] at hc; cases hc
      exact Or.inl ⟨B, us, sp, ty, hself, hW, LX.mono hext hl⟩
    · obtain ⟨a1, a2, a3⟩ := old i e ht ⟨c, hc⟩
      rw [a3] at hc
      refine (H.rep i a1 c hc).mono (hext i) (fun b z e1 hb => ?_) (fun us => LX.mono hext)
      exact hf b (apart i e ht ⟨c, by rw [a3]; exact hc⟩ b _ e1) hb
  · by_cases e : i = n
    · subst e
      rw [hself] at ki; cases ki
      rw [hne j (Ne.symm hij)] at kj
      exact fun e => apart j (Ne.symm hij) hj lj b' z' kj e.symm
    · rw [hne i e] at ki
      by_cases e' : j = n
      · subst e'
        rw [hself] at kj; cases kj
        exact apart i e hi li b z ki
      · rw [hne j e'] at kj
        obtain ⟨a1, a2, _⟩ := old i e hi li
        obtain ⟨c1, c2, _⟩ := old j e' hj lj
        exact H.inj i j a1 c1 a2 c2 hij b z b' z' ki kj
  · refine hf b (fun e => ?_) hb
    rcases hB with hB | ⟨j, z', b1, b2, b3, b4, b5⟩
    · omega
    · exact hj j z' b1 b3 (by rw [e]; exact b5)
  · have : i = n := by omega
    subst this
    rw [hself] at hki; cases hki
    exact hB
  · by_cases e : i = n
    · subst e
      rw [hself] at hki; cases hki
      rcases hB with hB | ⟨j, z', _, _, _, _, b5⟩
      · have := hD _ hDb; omega
      · exact hdj j _ _ b5 hDb
    · rw [hne i e] at hki; exact hdj i b z hki hDb
end
/-- Other cells in a block that lives. -/
theorem Sd.write {h : HT} {n i : Nat} {k : K} {W W' : World} {cs cs' : List Value} {B Z : Nat} {us sp : List Value} {ty : TypeId} (hi : i < 4096) (hcs : hget h i = some cs) (hk : k i = some (B, Z + 1))
    (hW : W'.heap[B]? = some (.cells (us ++ sp).toArray ty (0, 0))) (hZ : us.length + sp.length = Z) (hl : LR (VX k) cs' us)
    (hf : ∀ b, b ≠ B → b < W.heap.size → W'.heap[b]? = W.heap[b]?) (hz : W.heap.size ≤ W'.heap.size) (h1 : W'.os = W.os) (h2 : Tp W' W) (h3 : W'.output = W.output) :
    Sd h n (hs12 h i (some cs')) n (bit i) (bit i) k W k W' := by
  refine ⟨fun _ _ h => h, fun _ _ => rfl, ⟨fun j hj c hc => ?_, fun a b ha hb _ _ hab => ?_⟩, fun b hb hj => hf b (fun e => hj i (Z + 1) (tb_bit.2 rfl) ⟨cs, hcs⟩ (by rw [e]; exact hk)) hb, fun _ _ _ h1 h2 => absurd h2 (by omega), fun _ _ h => h, hz, h1, h2, h3⟩
  · have : i = j := by rcases tb_or.1 hj with h | h <;> exact tb_bit.1 h
    subst this
    rw [hget_same _ hi] at hc
    cases hc
    exact Or.inl ⟨B, us, sp, ty, by rw [hk, hZ], hW, hl⟩
  · have e1 : i = a := by rcases tb_or.1 ha with h | h <;> exact tb_bit.1 h
    have e2 : i = b := by rcases tb_or.1 hb with h | h <;> exact tb_bit.1 h
    exact absurd (e1.symm.trans e2) hab
theorem Ss.write {h : HT} {n i : Nat} {cs cs' : List Value} (nn : ∀ i, n ≤ i → hget h i = none) (hi : i < 4096) (hcs : hget h i = some cs) : Ss h n (hs12 h i (some cs')) n (bit i) (bit i) := by
  have hin : i < n := by
    rcases Nat.lt_or_ge i n with h' | h'
    · exact h'
    · rw [nn i h'] at hcs; cases hcs
  refine ⟨Nat.le_refl _, fun nn j hj => ?_, fun j hj => hget_ne _ hi (fun e => hj (tb_bit.2 e)), fun j hj _ => hj, fun j hj => by rw [← tb_bit.1 hj]; exact hin, fun j hj hl => ?_⟩
  · rw [hget_ne _ hi (by omega)]; exact nn j hj
  · by_cases e : i = j
    · subst e; exact ⟨cs, hcs⟩
    · obtain ⟨c, hc⟩ := hl
      rw [hget_ne _ hi e] at hc; exact ⟨c, hc⟩
section
variable {h h' : HT} {n r w : Nat} {cs : List Value}
/-- A new map. -/
theorem Sd.newM {k : K} {W W' : World} {B : Nat} {es : Array MapEntry} (hcs : hget h' n = some cs)
    (hd : ∀ i, i ≠ n → hget h' i = hget h i) (hk : k n = none) (hB : W.heap.size ≤ B) (hW : MapAt W' B es) (hl : LR (VX k) cs (kvs es))
    (hf : ∀ b, b < W.heap.size → W'.heap[b]? = W.heap[b]?) (hz : W.heap.size ≤ W'.heap.size) (h1 : W'.os = W.os) (h2 : Tp W' W) (h3 : W'.output = W.output) :
    Sd h n h' (n + 1) 0 (bit n) k W (upk k n B 0) W' := by
  have hext : ∀ i p, k i = some p → upk k n B 0 i = some p := fun i p hp => by
    unfold upk
    rw [if_neg (fun e => by rw [e, hk] at hp; cases hp)]
    exact hp
  have hne : ∀ i, i ≠ n → upk k n B 0 i = k i := fun i hi => if_neg hi
  have hself : upk k n B 0 n = some (B, 0) := if_pos rfl
  have one : ∀ i, tb (Nat.lor 0 (bit n)) i → i = n := fun i hi => by
    rcases tb_or.1 hi with h | h
    · exact absurd h tb_zero
    · exact (tb_bit.1 h).symm
  refine ⟨hext, fun i hi => hne i (by omega), ⟨fun i ht c' hc => ?_, fun i j hi hj _ _ hij => absurd ((one i hi).trans (one j hj).symm) hij⟩, fun b hb _ => hf b hb, fun i b z hi hi2 hl hki => ?_, fun D hD hdj i b z hki hDb => ?_, hz, h1, h2, h3⟩
  · have := one i ht
    subst this
    rw [hcs] at hc; cases hc
    exact Or.inr ⟨B, es, hself, hW, LX.mono hext hl⟩
  · have : i = n := by omega
    subst this
    rw [hself] at hki; cases hki
    exact Or.inl hB
  · by_cases e : i = n
    · subst e
      rw [hself] at hki; cases hki
      have := hD _ hDb; omega
    · rw [hne i e] at hki; exact hdj i b z hki hDb
end
/-- Other entries in a map that lives. -/
theorem Sd.writeM {h : HT} {n i : Nat} {k : K} {W W' : World} {cs cs' : List Value} {B : Nat} {es : Array MapEntry} (hi : i < 4096) (hcs : hget h i = some cs) (hk : k i = some (B, 0))
    (hW : MapAt W' B es) (hl : LR (VX k) cs' (kvs es))
    (hf : ∀ b, b ≠ B → b < W.heap.size → W'.heap[b]? = W.heap[b]?) (hz : W.heap.size ≤ W'.heap.size) (h1 : W'.os = W.os) (h2 : Tp W' W) (h3 : W'.output = W.output) :
    Sd h n (hs12 h i (some cs')) n (bit i) (bit i) k W k W' := by
  refine ⟨fun _ _ h => h, fun _ _ => rfl, ⟨fun j hj c' hc => ?_, fun a b ha hb _ _ hab => ?_⟩, fun b hb hj => hf b (fun e => hj i 0 (tb_bit.2 rfl) ⟨cs, hcs⟩ (by rw [e]; exact hk)) hb, fun _ _ _ h1 h2 => absurd h2 (by omega), fun _ _ h => h, hz, h1, h2, h3⟩
  · have : i = j := by rcases tb_or.1 hj with h | h <;> exact tb_bit.1 h
    subst this
    rw [hget_same _ hi] at hc
    cases hc
    exact Or.inr ⟨B, es, hk, hW, hl⟩
  · have e1 : i = a := by rcases tb_or.1 ha with h | h <;> exact tb_bit.1 h
    have e2 : i = b := by rcases tb_or.1 hb with h | h <;> exact tb_bit.1 h
    exact absurd (e1.symm.trans e2) hab
end S
end Go.Proofs.YtfmfeipeeedfpaaGreat

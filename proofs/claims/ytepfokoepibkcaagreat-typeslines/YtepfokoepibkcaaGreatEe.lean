/-
  Operators, conversions, parts of texts and slices, lengths.
-/
import Derived.Test.YtepfokoepibkcaaGreatEd
import Derived.Laws.Strings
import Derived.KernelRfl
namespace Go.Proofs.YtepfokoepibkcaaGreat
namespace E
open Go.CheckFast (force force_eq)
theorem forceI_eq {α : Type} (i : Int) (k : Int → α) : forceI i k = k i := by cases i <;> simp only [forceI, force_eq]
theorem ieq_eq (a b : Int) : ieq a b = (a == b) := by
  cases a <;> cases b <;> simp only [ieq]
  · rename_i m n
    by_cases h : m = n
    · subst h; simp
    · rw [show Nat.beq m n = false from by rw [← Bool.not_eq_true, Nat.beq_eq]; exact h]
      symm; simp; omega
  · symm; simp
  · symm; simp
  · rename_i m n
    by_cases h : m = n
    · subst h; simp
    · rw [show Nat.beq m n = false from by rw [← Bool.not_eq_true, Nat.beq_eq]; exact h]
      symm; simp; omega
theorem ilt_eq (a b : Int) : ilt a b = decide (a < b) := by
  cases a <;> cases b <;> simp only [ilt]
  · rename_i m n
    by_cases h : m < n
    · rw [blt_t h]; symm; simp; omega
    · rw [blt_f h]; symm; simp; omega
  · symm; simp; omega
  · symm; simp; omega
  · rename_i m n
    by_cases h : n < m
    · rw [blt_t h]; symm; simp; omega
    · rw [blt_f h]; symm; simp; omega
theorem inR_spec {i : Int} (h : inR i = true) : -9223372036854775808 ≤ i ∧ i < 9223372036854775808 := by
  cases i with
  | ofNat m =>
    simp only [inR, Nat.blt_eq] at h
    exact ⟨by show (_ : Int) ≤ (m : Int); omega, by show (m : Int) < _; omega⟩
  | negSucc m =>
    simp only [inR, Nat.blt_eq] at h
    omega
theorem wrap64 {i : Int} (h : inR i = true) : IntKind.i64.wrap i = i := by
  have := inR_spec h
  have e : IntKind.i64.wrap i = if (true && decide (i % (18446744073709551616 : Int) ≥ (9223372036854775808 : Int))) = true then i % (18446744073709551616 : Int) - 18446744073709551616 else i % (18446744073709551616 : Int) := by kernel_rfl
  rw [e]
  simp only [Bool.true_and, decide_eq_true_eq]
  split <;> omega
theorem beqL_eq : ∀ a b : List UInt8, beqL a b = (a == b)
  | [], [] => rfl
  | [], _ :: _ => rfl
  | _ :: _, [] => rfl
  | x :: a, y :: b => by
    simp only [beqL, beqL_eq a b]
    by_cases h : x = y
    · subst h; simp
    · have : Nat.beq x.toNat y.toNat = false := by
        rw [← Bool.not_eq_true, Nat.beq_eq]
        exact fun e => h (UInt8.toNat_inj.1 e)
      rw [this]
      simp [h]
section
variable {P : Program}
theorem eqg_int (op : BinOp) (t : TypeId) (x y : Operand) (k k' : IntKind) (a b : Int) (w : World) : (eqGuard op t x y (.int k a) (.int k' b)).run P w = .ok () w := by
  cases op <;> rfl
theorem eqg_str (op : BinOp) (t : TypeId) (x y : Operand) (a b : ByteArray) (w : World) : (eqGuard op t x y (.string a) (.string b)).run P w = .ok () w := by
  cases op <;> rfl
theorem bin_t (op : BinOp) (t : TypeId) (k k' : IntKind) (a b : Int) : binOp op t (.int k a) (.int k' b) = binOp op 0 (.int k a) (.int k' b) := by
  cases op <;> rfl
theorem bin_ts (op : BinOp) (t : TypeId) (a b : ByteArray) : binOp op t (.string a) (.string b) = Op.stringOp op a b := by
  cases op <;> rfl
theorem slow_run {op : BinOp} {k k' : IntKind} {a b : Int} {v : Value} (e : slow P op k a k' b = some v) : flat1 v = true ∧ ∀ w, (binOp op 0 (.int k a) (.int k' b)).run P w = .ok v w := by
  obtain ⟨u, h1, e⟩ := bind_some e
  obtain ⟨h2, e⟩ := bif_some e
  cases e
  exact ⟨h2, pr_run _ _ h1⟩
theorem i64_run {op : BinOp} {a b r : Int} {v : Value} (hop : Op.intArith op .i64 a b = pure (.int .i64 (IntKind.i64.wrap r))) (e : i64 P op a b r = some v) : flat1 v = true ∧ ∀ w, (Op.intArith op .i64 a b).run P w = .ok v w := by
  unfold i64 at e
  rw [forceI_eq] at e
  cases hr : inR r with
  | true =>
    rw [hr] at e
    cases e
    exact ⟨rfl, fun w => by rw [hop, wrap64 hr]; rfl⟩
  | false =>
    rw [hr] at e
    have e' : pr P (Op.intArith op .i64 a b) = some v := e
    refine ⟨?_, pr_run _ _ e'⟩
    rw [hop] at e'
    cases e'
    rfl
theorem wrapu (m : Nat) : IntKind.u64.wrap (m : Int) = ((m % 18446744073709551616 : Nat) : Int) := by
  have e : IntKind.u64.wrap (m : Int) = (m : Int) % (18446744073709551616 : Int) := by kernel_rfl
  rw [e]
  simp
theorem bini_run {op : BinOp} {k : IntKind} {a b : Int} {v : Value} (hs : isSh op = false) (e : bini P op k a b = some v) : flat1 v = true ∧ ∀ w, (binOp op 0 (.int k a) (.int k b)).run P w = .ok v w := by
  cases op with
  | eql => cases e; exact ⟨rfl, fun w => by rw [ieq_eq]; simp [binOp, Op.intCmp]⟩
  | neq => cases e; exact ⟨rfl, fun w => by rw [ieq_eq]; simp [binOp, Op.intCmp, bne]⟩
  | lss => cases e; exact ⟨rfl, fun w => by rw [ilt_eq]; simp [binOp, Op.intCmp]⟩
  | leq => cases e; exact ⟨rfl, fun w => by rw [ilt_eq]; simp [binOp, Op.intCmp]; by_cases h : b < a <;> simp [h] <;> omega⟩
  | gtr => cases e; exact ⟨rfl, fun w => by rw [ilt_eq]; simp [binOp, Op.intCmp]⟩
  | geq => cases e; exact ⟨rfl, fun w => by rw [ilt_eq]; simp [binOp, Op.intCmp]; by_cases h : a < b <;> simp [h] <;> omega⟩
  | add =>
    cases k with
    | i64 => have := i64_run (op := .add) rfl e; simpa [binOp] using this
    | u64 =>
      cases a <;> cases b <;> first
        | exact slow_run e
        | (have e' : u64 (_ + _) = some v := e
           unfold u64 at e'
           have := force_some e'
           cases this
           refine ⟨rfl, fun w => ?_⟩
           rename_i m n
           have := wrapu (m + n)
           rw [Int.natCast_add] at this
           simp [binOp, Op.intArith]
           exact this)
    | _ => exact slow_run e
  | sub =>
    cases k with
    | i64 => have := i64_run (op := .sub) rfl e; simpa [binOp] using this
    | u64 => exact slow_run e
    | _ => exact slow_run e
  | mul =>
    cases k with
    | i64 => have := i64_run (op := .mul) rfl e; simpa [binOp] using this
    | u64 =>
      cases a <;> cases b <;> first
        | exact slow_run e
        | (have e' : u64 (_ * _) = some v := e
           unfold u64 at e'
           have := force_some e'
           cases this
           refine ⟨rfl, fun w => ?_⟩
           rename_i m n
           have := wrapu (m * n)
           rw [Int.natCast_mul] at this
           simp [binOp, Op.intArith]
           exact this)
    | _ => exact slow_run e
  | shl => cases hs
  | shr => cases hs
  | _ => cases k <;> exact slow_run e
theorem bins_run {op : BinOp} {a b : ByteArray} {v : Value} (e : bins P op a b = some v) : flat1 v = true ∧ ∀ w, (Op.stringOp op a b).run P w = .ok v w := by
  cases op with
  | eql => cases e; exact ⟨rfl, fun w => by rw [beqL_eq]; simp [Op.stringOp, ByteArray.toList_eq]⟩
  | neq => cases e; exact ⟨rfl, fun w => by rw [beqL_eq]; simp [Op.stringOp, ByteArray.toList_eq]⟩
  | _ =>
    simp only [bins] at e
    obtain ⟨u, h1, e⟩ := bind_some e
    obtain ⟨h2, e⟩ := bif_some e
    cases e
    exact ⟨h2, pr_run _ _ h1⟩
theorem binV_run {op : BinOp} {t : TypeId} {x y : Operand} {p q v : Value} (e : oBinV P op t x y p q = some v) : flat p = true ∧ flat q = true ∧ flat1 v = true ∧ ∀ w, (do eqGuard op t x y p q; binOp op t p q : Sem Value).run P w = .ok v w := by
  unfold oBinV at e
  split at e
  · rename_i k a
    obtain ⟨k', b, hq, e2⟩ := onI_some e
    clear e
    subst hq
    have e := e2
    refine ⟨rfl, rfl, ?_⟩
    cases hs : isSh op with
    | true =>
      rw [hs] at e
      obtain ⟨h1, h2⟩ := slow_run e
      exact ⟨h1, fun w => by rw [Sem.run_bind, eqg_int, bin_t]; exact h2 w⟩
    | false =>
      rw [hs] at e
      obtain ⟨hk, e3⟩ := bif_some (c := keq k k') (x := bini P op k a b) e
      clear e e2
      have hk' : k = k' := of_decide_eq_true hk
      subst hk'
      obtain ⟨h1, h2⟩ := bini_run hs e3
      exact ⟨h1, fun w => by rw [Sem.run_bind, eqg_int, bin_t]; exact h2 w⟩
  · rename_i a
    unfold oBinS at e
    split at e
    · rename_i b
      obtain ⟨h1, h2⟩ := bins_run e
      exact ⟨rfl, rfl, h1, fun w => by rw [Sem.run_bind, eqg_str, bin_ts]; exact h2 w⟩
    · cases e
  · obtain ⟨h1, e⟩ := bif_some e
    simp only [Bool.and_eq_true] at h1
    obtain ⟨u, h2, e⟩ := bind_some e
    obtain ⟨h3, e⟩ := bif_some e
    cases e
    exact ⟨h1.1, h1.2, h3, pr_run _ _ h2⟩
end
section
variable {P : Program} {o : Oper} {fr : FT} {h : HT} {n : Nat} {x : R5}
theorem s_bin {op : BinOp} {t t' : TypeId} {y z : Operand} (ho : o.op = .binOp op t y z t') (e : oBin P op t y z fr h n = some x) : Oo P o fr h n x := by
  obtain ⟨v, hv, e⟩ := bind_some e
  obtain ⟨h1, h2, h3, h4⟩ := binV_run hv
  refine Oo.val e fun k W a hop => ⟨v, flat1_vx h3, ?_⟩
  have e1 := flat_eq (hop y (by simp [ho, Op.operands])) h1
  have e2 := flat_eq (hop z (by simp [ho, Op.operands])) h2
  have h5 := h4 W
  simp only [execOp, ho, e1, e2]
  rw [Sem.run_bind, h5]
  rfl
theorem s_un {op : UnOp} {t : TypeId} {y : Operand} (ho : o.op = .unOp op t y) (e : oUn P op y fr h n = some x) : Oo P o fr h n x := by
  obtain ⟨v, hv, e⟩ := bind_some e
  obtain ⟨h1, hv⟩ := bif_some hv
  obtain ⟨u, h2, hv⟩ := bind_some hv
  obtain ⟨h3, hv⟩ := bif_some hv
  cases hv
  refine Oo.val e fun k W a hop => ⟨v, flat1_vx h3, ?_⟩
  have e1 := flat1_eq (hop y (by simp [ho, Op.operands])) h1
  simp only [execOp, ho, e1]
  rw [Sem.run_bind, pr_run _ _ h2]
  rfl
theorem lo_some {v : Option Value} {d m j : Nat} (e : lo v d m = some j) (hd : d ≤ m) : j ≤ m ∧ ((v = none ∧ j = d) ∨ ∃ k, v = some (.int k (j : Int))) := by
  cases v with
  | none => cases e; exact ⟨hd, Or.inl ⟨rfl, rfl⟩⟩
  | some v =>
    obtain ⟨k, i, hv, e⟩ := onI_some e
    obtain ⟨h1, h2⟩ := idx_some e
    exact ⟨by omega, Or.inr ⟨k, by rw [hv, h1]⟩⟩
theorem opt_map {k : K} {a : Act} {l : Option Operand} (hl : ∀ y ∈ l.toArray.toList, VX k (evo fr y) (a.eval y)) {j : Nat} {ki : IntKind} (e : l.map (evo fr) = some (.int ki (j : Int))) : l.map a.eval = some (.int ki (j : Int)) := by
  cases l with
  | none => cases e
  | some y =>
    simp only [Option.map_some, Option.some.injEq] at e ⊢
    have := hl y (by simp)
    rw [e] at this
    exact this.int_inv
theorem sliceB_run {k : IntKind} {j y : Nat} {c : BoundsCode} (hj : j ≤ y) (w : World) : (Instr.sliceBound (.int k (j : Int)) y c).run P w = .ok j w := by
  have h1 : (j : Int) ≤ (y : Int) := by omega
  simp [Instr.sliceBound, asIntOf, h1]
theorem s_slice {t : TypeId} {y : Operand} {l hi m : Option Operand} (ho : o.op = .slice t y l hi m) (e : oSlice P t y l hi m fr h n = some x) : Oo P o fr h n x := by
  obtain ⟨hm, e2⟩ := bif_some e
  clear e
  have hm' : m = none := by simpa using hm
  subst hm'
  have e := e2
  have bl : ∀ (k : K) (a : Act), (∀ y ∈ o.op.operands.toList, VX k (evo fr y) (a.eval y)) → (∀ y ∈ l.toArray.toList, VX k (evo fr y) (a.eval y)) ∧ (∀ y ∈ hi.toArray.toList, VX k (evo fr y) (a.eval y)) := by
    intro k a hop
    rw [ho] at hop
    constructor
    · intro y hy; exact hop y (by simp only [Op.operands, Array.toList_append, List.mem_append]; exact Or.inl (Or.inl (Or.inr hy)))
    · intro y hy; exact hop y (by simp only [Op.operands, Array.toList_append, List.mem_append]; exact Or.inl (Or.inr hy))
  have bounds : ∀ (isS : Bool) (len cap p q : Nat) (a : Act) (W : World), p ≤ q → q ≤ len → len ≤ cap → ((l.map a.eval = none ∧ p = 0) ∨ ∃ k, l.map a.eval = some (.int k (p : Int))) → ((hi.map a.eval = none ∧ q = len) ∨ ∃ k, hi.map a.eval = some (.int k (q : Int))) →
      (Instr.sliceBounds isS len cap (l.map a.eval) (hi.map a.eval) none).run P W = .ok (p, q, cap) W := by
    intro isS len cap p q a W hpq hql hlc hl hh
    unfold Instr.sliceBounds
    rcases hl with ⟨hl, rfl⟩ | ⟨kl, hl⟩ <;> rcases hh with ⟨hh, rfl⟩ | ⟨kh, hh⟩ <;> rw [hl, hh]
    · simp
    · simp [sliceB_run (show q ≤ cap by omega)]
    · simp [sliceB_run hpq]
    · simp [sliceB_run (show q ≤ cap by omega), sliceB_run hpq]
  unfold oSlV at e
  split at e
  · rename_i s hv
    obtain ⟨hs, e⟩ := bif_some e
    have hu := isStr_some hs
    obtain ⟨q, hq, e⟩ := bind_some e
    obtain ⟨p, hp, e⟩ := bind_some e
    obtain ⟨hq1, hq2⟩ := lo_some hq (Nat.le_refl _)
    obtain ⟨hp1, hp2⟩ := lo_some hp (Nat.zero_le _)
    refine Oo.val e fun k W a hop => ⟨_, VX.of0 rfl, ?_⟩
    have h2 := hop y (by simp [ho, Op.operands])
    rw [hv] at h2
    have h3 := h2.str_inv
    have hb := bl k a hop
    have hsz : s.data.toList.length = s.size := by rw [Array.length_toList]; rfl
    rw [hsz] at hq1 hq2
    have hL : (l.map a.eval = none ∧ p = 0) ∨ ∃ k, l.map a.eval = some (.int k (p : Int)) := by
      rcases hp2 with ⟨h, h'⟩ | ⟨kk, h⟩
      · exact Or.inl ⟨by cases l <;> simp_all, h'⟩
      · exact Or.inr ⟨kk, opt_map hb.1 h⟩
    have hH : (hi.map a.eval = none ∧ q = s.size) ∨ ∃ k, hi.map a.eval = some (.int k (q : Int)) := by
      rcases hq2 with ⟨h, h'⟩ | ⟨kk, h⟩
      · exact Or.inl ⟨by cases hi <;> simp_all, h'⟩
      · exact Or.inr ⟨kk, opt_map hb.2 h⟩
    have hB := bounds false s.size s.size p q a W hp1 hq1 (Nat.le_refl _) hL hH
    have hx : (⟨((s.data.toList.drop p).take (q - p)).toArray⟩ : ByteArray) = s.extract p q := by
      apply ByteArray.ext
      apply Array.ext'
      simp [ByteArray.data_extract, Array.toList_extract, List.extract]
    have hm0 : (Option.map a.eval (none : Option Operand)) = none := rfl
    simp only [execOp, ho, h3, Instr.sliceAt, Instr.slice, Sem.run_bind, run_underlying hu, Result.andThen_ok, hm0, Sem.run_pure, hx]
    simp [hB]
  · rename_i b f len es hv
    split at e
    · rename_i e' hu
      obtain ⟨sz, hsz, e⟩ := bind_some e
      obtain ⟨q, hq, e⟩ := bind_some e
      obtain ⟨p, hp, e⟩ := bind_some e
      obtain ⟨hc, e⟩ := bif_some e
      simp only [Bool.and_eq_true, Nat.beq_eq, Nat.blt_eq] at hc
      obtain ⟨hq1, hq2⟩ := lo_some hq (Nat.le_refl _)
      obtain ⟨hp1, hp2⟩ := lo_some hp (Nat.zero_le _)
      refine Oo.val (force_some (force_some e)) fun k W a hop => ?_
      have h2 := hop y (by simp [ho, Op.operands])
      rw [hv] at h2
      obtain ⟨_, b', z, cap, hk, h3, hcap, hfit⟩ := h2.slc_inv
      have hb := bl k a hop
      have hL : (l.map a.eval = none ∧ p = 0) ∨ ∃ k, l.map a.eval = some (.int k (p : Int)) := by
        rcases hp2 with ⟨h, h'⟩ | ⟨kk, h⟩
        · exact Or.inl ⟨by cases l <;> simp_all, h'⟩
        · exact Or.inr ⟨kk, opt_map hb.1 h⟩
      have hH : (hi.map a.eval = none ∧ q = len) ∨ ∃ k, hi.map a.eval = some (.int k (q : Int)) := by
        rcases hq2 with ⟨h, h'⟩ | ⟨kk, h⟩
        · exact Or.inl ⟨by cases hi <;> simp_all, h'⟩
        · exact Or.inr ⟨kk, opt_map hb.2 h⟩
      have hB := bounds true len cap p q a W hp1 hq1 hcap hL hH
      obtain ⟨inf, hinf, hsi⟩ := szOf_info hsz
      refine ⟨.slice (some ⟨b', f + p * sz, none⟩) (q - p) (cap - p), VX.of0 ⟨rfl, b', z, cap - p, hk, rfl, by show q - p ≤ cap - p; omega, ?_⟩, ?_⟩
      · have hes := hc.1
        subst hes
        show f + p * sz + (cap - p) * sz ≤ z
        have : p * sz + (cap - p) * sz = cap * sz := by rw [← Nat.add_mul]; congr 1; omega
        have hfit' : f + cap * sz ≤ z := hfit
        omega
      · have hne : ¬ cap = p := by omega
        have hm0 : (Option.map a.eval (none : Option Operand)) = none := rfl
        simp only [execOp, ho, h3, Instr.sliceAt, Instr.slice, Sem.run_bind, run_underlying hu, Result.andThen_ok, hm0, hB, Sem.run_pure]
        simp [sizeOf, typeInfo, hinf, hsi, hne, Addr.add_mid]
    · cases e
  · cases e
theorem evl_rel {k : K} {a : Act} : ∀ l : List Operand, (∀ y ∈ l, VX k (evo fr y) (a.eval y)) → LR (VX k) (evl fr l) (l.map a.eval)
  | [], _ => rfl
  | y :: l, hl => ⟨_, _, rfl, hl y (by simp), evl_rel l (fun y hy => hl y (by simp [hy]))⟩
theorem s_len {ts : Array TypeId} {xs : Array Operand} (ho : o.op = .call { callee := .builtin .len, args := xs, argTypes := ts }) (e : oLen P ts.toList (evl fr xs.toList) h n = some x) : Oo P o fr h n x := by
  unfold oLen at e
  split at e
  · rename_i t ts' hts
    split at e
    · rename_i v vs hvs
      have hr : ∀ (k : K) (a : Act), (∀ y ∈ o.op.operands.toList, VX k (evo fr y) (a.eval y)) → ∃ u, VX k v u ∧ (xs.map a.eval)[0]? = some u := by
        intro k a hop
        have h1 := evl_rel (fr := fr) (k := k) (a := a) xs.toList (fun y hy => hop y (by rw [ho]; simpa [Op.operands, Call.operands] using hy))
        rw [hvs] at h1
        obtain ⟨u, us, h2, h3, _⟩ := h1
        refine ⟨u, h3, ?_⟩
        have : (xs.map a.eval).toList = u :: us := by rw [Array.toList_map]; exact h2
        rw [← Array.getElem?_toList, this]; rfl
      have ht : ts[0]? = some t := by rw [← Array.getElem?_toList, hts]; rfl
      split at e
      · rename_i hu
        obtain ⟨s, hv, e⟩ := onStr_some e
        refine Oo.val (force_some e) fun k W a hop => ⟨_, VX.of0 rfl, ?_⟩
        obtain ⟨u, h1, h2⟩ := hr k a hop
        rw [hv] at h1
        have h3 := h1.str_inv
        subst h3
        have hsz : s.data.toList.length = s.size := by rw [Array.length_toList]; rfl
        simp [execOp, ho, resolve, invoke, builtin, Builtin.len_, ht, h2, run_underlying hu, goInt, hsz]
      · rename_i e' hu
        split at e
        · rename_i p m c
          refine Oo.val e fun k W a hop => ⟨_, VX.of0 rfl, ?_⟩
          obtain ⟨u, h1, h2⟩ := hr k a hop
          have h3 : ∃ p' c', u = .slice p' m c' := by
            cases p with
            | none => exact ⟨_, _, h1.nilslc_inv⟩
            | some p => obtain ⟨_, b', z, cap, _, h3, _⟩ := h1.slc_inv; exact ⟨_, _, h3⟩
          obtain ⟨p', c', h3⟩ := h3
          subst h3
          simp [execOp, ho, resolve, invoke, builtin, Builtin.len_, ht, h2, run_underlying hu, goInt]
        · cases e
      · cases e
    · cases e
  · cases e
end
end E
end Go.Proofs.YtepfokoepibkcaaGreat

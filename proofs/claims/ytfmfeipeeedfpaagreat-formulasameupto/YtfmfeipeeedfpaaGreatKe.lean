/-
  Operators, conversions, parts of texts and slices, lengths. Operations that read, write and make blocks. Loads, stores, new blocks, slices, appends: each is what the run does. Appends, bytes as a text, calls; every operation. Frames; a region's operations one behind the other. A region that draws its order: where no two that don't wait for each other are at odds, each order comes to the same. A region that draws its order comes to what was reckoned in one order. One more comes up; all have come up. Calls whose answers are known. Code, calls: what was reckoned of a closed call is what each run of it does. Calls that the model stands in for; live. What live answers. The law FormulaStays. What came in, cut: numbers, values, tables, columns, expressions, items, what is handed in to evaluate in.
-/
import Derived.Test.YtfmfeipeeedfpaaGreatKd
import Derived.Laws.Strings
import Derived.KernelRfl
import Derived.Laws.BytesString
import Derived.Laws.MakeOwn
import Derived.MapKept
import Derived.Scope
import Derived.Laws.Externs
import Derived.Test.YtfmfeipeeedfpaaGreatRows
import Derived.ProofKit
import Derived.OpenShut
import Derived.ChangeArms
import Derived.Deep.Slices
import Derived.Deep.MidRow
import Derived.ReadAgain
import Derived.WideKeyArgs
import Derived.WideKeyElems2
import Derived.JoinedCond
import Derived.Carry
import Derived.ChangeMaps5
import Derived.SizedLaws
namespace Go.Proofs.YtfmfeipeeedfpaaGreat
namespace E
open Go.CheckFast (force force_eq)
theorem forceI_eq {α : Type} (i : Int) (k : Int → α) : forceI i k = k i := by cases i <;> simp only [forceI, force_eq]
theorem ieq_eq (a b : Int) : ieq a b = (a == b) := by
  cases a <;> cases b <;> simp only [ieq]
  · rename_i m n
    by_cases h : m = n
    · subst h; simp
    · rw [show Nat.beq m n = false from by rw [← Bool.not_eq_true, Nat.beq_eq]; exact h]
      symm; simp; omega
  · symm; simp
  · symm; simp
  · rename_i m n
    by_cases h : m = n
    · subst h; simp
    · rw [show Nat.beq m n = false from by rw [← Bool.not_eq_true, Nat.beq_eq]; exact h]
      symm; simp; omega
theorem ilt_eq (a b : Int) : ilt a b = decide (a < b) := by
  cases a <;> cases b <;> simp only [ilt]
  · rename_i m n
    by_cases h : m < n
    · rw [blt_t h]; symm; simp; omega
    · rw [blt_f h]; symm; simp; omega
  · symm; simp; omega
  · symm; simp; omega
  · rename_i m n
    by_cases h : n < m
    · rw [blt_t h]; symm; simp; omega
    · rw [blt_f h]; symm; simp; omega
theorem inR_spec {i : Int} (h : inR i = true) : -9223372036854775808 ≤ i ∧ i < 9223372036854775808 := by
  cases i with
  | ofNat m =>
    simp only [inR, Nat.blt_eq] at h
    exact ⟨by show (_ : Int) ≤ (m : Int); omega, by show (m : Int) < _; omega⟩
  | negSucc m =>
    simp only [inR, Nat.blt_eq] at h
    omega
theorem wrap64 {i : Int} (h : inR i = true) : IntKind.i64.wrap i = i := by
  have := inR_spec h
  have e : IntKind.i64.wrap i = if (true && decide (i % (18446744073709551616 : Int) ≥ (9223372036854775808 : Int))) = true then i % (18446744073709551616 : Int) - 18446744073709551616 else i % (18446744073709551616 : Int) := by kernel_rfl
  rw [e]
  simp only [Bool.true_and, decide_eq_true_eq]
  split <;> omega
theorem beqL_eq : ∀ a b : List UInt8, beqL a b = (a == b)
  | [], [] => rfl
  | [], _ :: _ => rfl
  | _ :: _, [] => rfl
  | x :: a, y :: b => by
    simp only [beqL, beqL_eq a b]
    by_cases h : x = y
    · subst h; simp
    · have : Nat.beq x.toNat y.toNat = false := by
        rw [← Bool.not_eq_true, Nat.beq_eq]
        exact fun e => h (UInt8.toNat_inj.1 e)
      rw [this]
      simp [h]
section
variable {P : Program}
theorem eqg_int (op : BinOp) (t : TypeId) (x y : Operand) (k k' : IntKind) (a b : Int) (w : World) : (eqGuard op t x y (.int k a) (.int k' b)).run P w = .ok () w := by
  cases op <;> rfl
theorem eqg_str (op : BinOp) (t : TypeId) (x y : Operand) (a b : ByteArray) (w : World) : (eqGuard op t x y (.string a) (.string b)).run P w = .ok () w := by
  cases op <;> rfl
theorem bin_t (op : BinOp) (t : TypeId) (k k' : IntKind) (a b : Int) : binOp op t (.int k a) (.int k' b) = binOp op 0 (.int k a) (.int k' b) := by
  cases op <;> rfl
theorem bin_ts (op : BinOp) (t : TypeId) (a b : ByteArray) : binOp op t (.string a) (.string b) = Op.stringOp op a b := by
  cases op <;> rfl
theorem slow_run {op : BinOp} {k k' : IntKind} {a b : Int} {v : Value} (e : slow P op k a k' b = some v) : flat1 v = true ∧ ∀ w, (binOp op 0 (.int k a) (.int k' b)).run P w = .ok v w := by
  obtain ⟨u, h1, e⟩ := bind_some e
  obtain ⟨h2, e⟩ := bif_some e
  cases e
  exact ⟨h2, pr_run _ _ h1⟩
theorem i64_run {op : BinOp} {a b r : Int} {v : Value} (hop : Op.intArith op .i64 a b = pure (.int .i64 (IntKind.i64.wrap r))) (e : i64 P op a b r = some v) : flat1 v = true ∧ ∀ w, (Op.intArith op .i64 a b).run P w = .ok v w := by
  unfold i64 at e
  rw [forceI_eq] at e
  cases hr : inR r with
  | true =>
    rw [hr] at e
    cases e
    exact ⟨rfl, fun w => by rw [hop, wrap64 hr]; rfl⟩
  | false =>
    rw [hr] at e
    have e' : pr P (Op.intArith op .i64 a b) = some v := e
    refine ⟨?_, pr_run _ _ e'⟩
    rw [hop] at e'
    cases e'
    rfl
theorem wrapu (m : Nat) : IntKind.u64.wrap (m : Int) = ((m % 18446744073709551616 : Nat) : Int) := by
  have e : IntKind.u64.wrap (m : Int) = (m : Int) % (18446744073709551616 : Int) := by kernel_rfl
  rw [e]
  simp
theorem bini_run {op : BinOp} {k : IntKind} {a b : Int} {v : Value} (hs : isSh op = false) (e : bini P op k a b = some v) : flat1 v = true ∧ ∀ w, (binOp op 0 (.int k a) (.int k b)).run P w = .ok v w := by
  cases op with
  | eql => cases e; exact ⟨rfl, fun w => by rw [ieq_eq]; simp [binOp, Op.intCmp]⟩
  | neq => cases e; exact ⟨rfl, fun w => by rw [ieq_eq]; simp [binOp, Op.intCmp, bne]⟩
  | lss => cases e; exact ⟨rfl, fun w => by rw [ilt_eq]; simp [binOp, Op.intCmp]⟩
  | leq => cases e; exact ⟨rfl, fun w => by rw [ilt_eq]; simp [binOp, Op.intCmp]; by_cases h : b < a <;> simp [h] <;> omega⟩
  | gtr => cases e; exact ⟨rfl, fun w => by rw [ilt_eq]; simp [binOp, Op.intCmp]⟩
  | geq => cases e; exact ⟨rfl, fun w => by rw [ilt_eq]; simp [binOp, Op.intCmp]; by_cases h : a < b <;> simp [h] <;> omega⟩
  | add =>
    cases k with
    | i64 => have := i64_run (op := .add) rfl e; simpa [binOp] using this
    | u64 =>
      cases a <;> cases b <;> first
        | exact slow_run e
        | (have e' : u64 (_ + _) = some v := e
           unfold u64 at e'
           have := force_some e'
           cases this
           refine ⟨rfl, fun w => ?_⟩
           rename_i m n
           have := wrapu (m + n)
           rw [Int.natCast_add] at this
           simp [binOp, Op.intArith]
           exact this)
    | _ => exact slow_run e
  | sub =>
    cases k with
    | i64 => have := i64_run (op := .sub) rfl e; simpa [binOp] using this
    | u64 => exact slow_run e
    | _ => exact slow_run e
  | mul =>
    cases k with
    | i64 => have := i64_run (op := .mul) rfl e; simpa [binOp] using this
    | u64 =>
      cases a <;> cases b <;> first
        | exact slow_run e
        | (have e' : u64 (_ * _) = some v := e
           unfold u64 at e'
           have := force_some e'
           cases this
           refine ⟨rfl, fun w => ?_⟩
           rename_i m n
           have := wrapu (m * n)
           rw [Int.natCast_mul] at this
           simp [binOp, Op.intArith]
           exact this)
    | _ => exact slow_run e
  | shl => cases hs
  | shr => cases hs
  | _ => cases k <;> exact slow_run e
theorem bins_run {op : BinOp} {a b : ByteArray} {v : Value} (e : bins P op a b = some v) : flat1 v = true ∧ ∀ w, (Op.stringOp op a b).run P w = .ok v w := by
  cases op with
  | eql => cases e; exact ⟨rfl, fun w => by rw [beqL_eq]; simp [Op.stringOp, ByteArray.toList_eq]⟩
  | neq => cases e; exact ⟨rfl, fun w => by rw [beqL_eq]; simp [Op.stringOp, ByteArray.toList_eq]⟩
  | _ =>
    simp only [bins] at e
    obtain ⟨u, h1, e⟩ := bind_some e
    obtain ⟨h2, e⟩ := bif_some e
    cases e
    exact ⟨h2, pr_run _ _ h1⟩
theorem binV_run {op : BinOp} {t : TypeId} {x y : Operand} {p q v : Value} (e : oBinV P op t x y p q = some v) : flat p = true ∧ flat q = true ∧ flat1 v = true ∧ ∀ w, (do eqGuard op t x y p q; binOp op t p q : Sem Value).run P w = .ok v w := by
  unfold oBinV at e
  split at e
  · rename_i k a
    obtain ⟨k', b, hq, e2⟩ := onI_some e
    clear e
    subst hq
    have e := e2
    refine ⟨rfl, rfl, ?_⟩
    cases hs : isSh op with
    | true =>
      rw [hs] at e
      obtain ⟨h1, h2⟩ := slow_run e
      exact ⟨h1, fun w => by rw [Sem.run_bind, eqg_int, bin_t]; exact h2 w⟩
    | false =>
      rw [hs] at e
      obtain ⟨hk, e3⟩ := bif_some (c := keq k k') (x := bini P op k a b) e
      clear e e2
      have hk' : k = k' := of_decide_eq_true hk
      subst hk'
      obtain ⟨h1, h2⟩ := bini_run hs e3
      exact ⟨h1, fun w => by rw [Sem.run_bind, eqg_int, bin_t]; exact h2 w⟩
  · rename_i a
    unfold oBinS at e
    split at e
    · rename_i b
      obtain ⟨h1, h2⟩ := bins_run e
      exact ⟨rfl, rfl, h1, fun w => by rw [Sem.run_bind, eqg_str, bin_ts]; exact h2 w⟩
    · cases e
  · obtain ⟨h1, e⟩ := bif_some e
    simp only [Bool.and_eq_true] at h1
    obtain ⟨u, h2, e⟩ := bind_some e
    obtain ⟨h3, e⟩ := bif_some e
    cases e
    exact ⟨h1.1, h1.2, h3, pr_run _ _ h2⟩
end
section
variable {P : Program} {o : Oper} {fr : FT} {h : HT} {n : Nat} {x : R5}
theorem s_bin {op : BinOp} {t t' : TypeId} {y z : Operand} (ho : o.op = .binOp op t y z t') (e : oBin P op t y z fr h n = some x) : Oo P o fr h n x := by
  obtain ⟨v, hv, e⟩ := bind_some e
  obtain ⟨h1, h2, h3, h4⟩ := binV_run hv
  refine Oo.val e fun k W a hop => ⟨v, flat1_vx h3, ?_⟩
  have e1 := flat_eq (hop y (by simp [ho, Op.operands])) h1
  have e2 := flat_eq (hop z (by simp [ho, Op.operands])) h2
  have h5 := h4 W
  simp only [execOp, ho, e1, e2]
  rw [Sem.run_bind, h5]
  rfl
theorem s_un {op : UnOp} {t : TypeId} {y : Operand} (ho : o.op = .unOp op t y) (e : oUn P op y fr h n = some x) : Oo P o fr h n x := by
  obtain ⟨v, hv, e⟩ := bind_some e
  obtain ⟨h1, hv⟩ := bif_some hv
  obtain ⟨u, h2, hv⟩ := bind_some hv
  obtain ⟨h3, hv⟩ := bif_some hv
  cases hv
  refine Oo.val e fun k W a hop => ⟨v, flat1_vx h3, ?_⟩
  have e1 := flat1_eq (hop y (by simp [ho, Op.operands])) h1
  simp only [execOp, ho, e1]
  rw [Sem.run_bind, pr_run _ _ h2]
  rfl
theorem lo_some {v : Option Value} {d m j : Nat} (e : lo v d m = some j) (hd : d ≤ m) : j ≤ m ∧ ((v = none ∧ j = d) ∨ ∃ k, v = some (.int k (j : Int))) := by
  cases v with
  | none => cases e; exact ⟨hd, Or.inl ⟨rfl, rfl⟩⟩
  | some v =>
    obtain ⟨k, i, hv, e⟩ := onI_some e
    obtain ⟨h1, h2⟩ := idx_some e
    exact ⟨by omega, Or.inr ⟨k, by rw [hv, h1]⟩⟩
theorem opt_map {k : K} {a : Act} {l : Option Operand} (hl : ∀ y ∈ l.toArray.toList, VX k (evo fr y) (a.eval y)) {j : Nat} {ki : IntKind} (e : l.map (evo fr) = some (.int ki (j : Int))) : l.map a.eval = some (.int ki (j : Int)) := by
  cases l with
  | none => cases e
  | some y =>
    simp only [Option.map_some, Option.some.injEq] at e ⊢
    have := hl y (by simp)
    rw [e] at this
    exact this.int_inv
theorem sliceB_run {k : IntKind} {j y : Nat} {c : BoundsCode} (hj : j ≤ y) (w : World) : (Instr.sliceBound (.int k (j : Int)) y c).run P w = .ok j w := by
  have h1 : (j : Int) ≤ (y : Int) := by omega
  simp [Instr.sliceBound, asIntOf, h1]
theorem s_slice {t : TypeId} {y : Operand} {l hi m : Option Operand} (ho : o.op = .slice t y l hi m) (e : oSlice P t y l hi m fr h n = some x) : Oo P o fr h n x := by
  obtain ⟨hm, e2⟩ := bif_some e
  clear e
  have hm' : m = none := by simpa using hm
  subst hm'
  have e := e2
  have bl : ∀ (k : K) (a : Act), (∀ y ∈ o.op.operands.toList, VX k (evo fr y) (a.eval y)) → (∀ y ∈ l.toArray.toList, VX k (evo fr y) (a.eval y)) ∧ (∀ y ∈ hi.toArray.toList, VX k (evo fr y) (a.eval y)) := by
    intro k a hop
    rw [ho] at hop
    constructor
    · intro y hy; exact hop y (by simp only [Op.operands, Array.toList_append, List.mem_append]; exact Or.inl (Or.inl (Or.inr hy)))
    · intro y hy; exact hop y (by simp only [Op.operands, Array.toList_append, List.mem_append]; exact Or.inl (Or.inr hy))
  have bounds : ∀ (isS : Bool) (len cap p q : Nat) (a : Act) (W : World), p ≤ q → q ≤ len → len ≤ cap → ((l.map a.eval = none ∧ p = 0) ∨ ∃ k, l.map a.eval = some (.int k (p : Int))) → ((hi.map a.eval = none ∧ q = len) ∨ ∃ k, hi.map a.eval = some (.int k (q : Int))) →
      (Instr.sliceBounds isS len cap (l.map a.eval) (hi.map a.eval) none).run P W = .ok (p, q, cap) W := by
    intro isS len cap p q a W hpq hql hlc hl hh
    unfold Instr.sliceBounds
    rcases hl with ⟨hl, rfl⟩ | ⟨kl, hl⟩ <;> rcases hh with ⟨hh, rfl⟩ | ⟨kh, hh⟩ <;> rw [hl, hh]
    · simp
    · simp [sliceB_run (show q ≤ cap by omega)]
    · simp [sliceB_run hpq]
    · simp [sliceB_run (show q ≤ cap by omega), sliceB_run hpq]
  unfold oSlV at e
  split at e
  · rename_i s hv
    obtain ⟨hs, e⟩ := bif_some e
    have hu := isStr_some hs
    obtain ⟨q, hq, e⟩ := bind_some e
    obtain ⟨p, hp, e⟩ := bind_some e
    obtain ⟨hq1, hq2⟩ := lo_some hq (Nat.le_refl _)
    obtain ⟨hp1, hp2⟩ := lo_some hp (Nat.zero_le _)
    refine Oo.val e fun k W a hop => ⟨_, VX.of0 rfl, ?_⟩
    have h2 := hop y (by simp [ho, Op.operands])
    rw [hv] at h2
    have h3 := h2.str_inv
    have hb := bl k a hop
    have hsz : s.data.toList.length = s.size := by rw [Array.length_toList]; rfl
    rw [hsz] at hq1 hq2
    have hL : (l.map a.eval = none ∧ p = 0) ∨ ∃ k, l.map a.eval = some (.int k (p : Int)) := by
      rcases hp2 with ⟨h, h'⟩ | ⟨kk, h⟩
      · exact Or.inl ⟨by cases l <;> simp_all, h'⟩
      · exact Or.inr ⟨kk, opt_map hb.1 h⟩
    have hH : (hi.map a.eval = none ∧ q = s.size) ∨ ∃ k, hi.map a.eval = some (.int k (q : Int)) := by
      rcases hq2 with ⟨h, h'⟩ | ⟨kk, h⟩
      · exact Or.inl ⟨by cases hi <;> simp_all, h'⟩
      · exact Or.inr ⟨kk, opt_map hb.2 h⟩
    have hB := bounds false s.size s.size p q a W hp1 hq1 (Nat.le_refl _) hL hH
    have hx : (⟨((s.data.toList.drop p).take (q - p)).toArray⟩ : ByteArray) = s.extract p q := by
      apply ByteArray.ext
      apply Array.ext'
      simp [ByteArray.data_extract, Array.toList_extract, List.extract]
    have hm0 : (Option.map a.eval (none : Option Operand)) = none := rfl
    simp only [execOp, ho, h3, Instr.sliceAt, Instr.slice, Sem.run_bind, run_underlying hu, Result.andThen_ok, hm0, Sem.run_pure, hx]
    simp [hB]
  · rename_i b f len es hv
    split at e
    · rename_i e' hu
      obtain ⟨sz, hsz, e⟩ := bind_some e
      obtain ⟨q, hq, e⟩ := bind_some e
      obtain ⟨p, hp, e⟩ := bind_some e
      obtain ⟨hc, e⟩ := bif_some e
      simp only [Bool.and_eq_true, Nat.beq_eq, Nat.blt_eq] at hc
      obtain ⟨hq1, hq2⟩ := lo_some hq (Nat.le_refl _)
      obtain ⟨hp1, hp2⟩ := lo_some hp (Nat.zero_le _)
      refine Oo.val (force_some (force_some e)) fun k W a hop => ?_
      have h2 := hop y (by simp [ho, Op.operands])
      rw [hv] at h2
      obtain ⟨_, b', z, cap, hk, h3, hcap, hfit⟩ := h2.slc_inv
      have hb := bl k a hop
      have hL : (l.map a.eval = none ∧ p = 0) ∨ ∃ k, l.map a.eval = some (.int k (p : Int)) := by
        rcases hp2 with ⟨h, h'⟩ | ⟨kk, h⟩
        · exact Or.inl ⟨by cases l <;> simp_all, h'⟩
        · exact Or.inr ⟨kk, opt_map hb.1 h⟩
      have hH : (hi.map a.eval = none ∧ q = len) ∨ ∃ k, hi.map a.eval = some (.int k (q : Int)) := by
        rcases hq2 with ⟨h, h'⟩ | ⟨kk, h⟩
        · exact Or.inl ⟨by cases hi <;> simp_all, h'⟩
        · exact Or.inr ⟨kk, opt_map hb.2 h⟩
      have hB := bounds true len cap p q a W hp1 hq1 hcap hL hH
      obtain ⟨inf, hinf, hsi⟩ := szOf_info hsz
      refine ⟨.slice (some ⟨b', f + p * sz, none⟩) (q - p) (cap - p), VX.of0 ⟨rfl, b', z, cap - p, hk, rfl, by show q - p ≤ cap - p; omega, ?_⟩, ?_⟩
      · have hes := hc.1
        subst hes
        show f + p * sz + (cap - p) * sz ≤ z
        have : p * sz + (cap - p) * sz = cap * sz := by rw [← Nat.add_mul]; congr 1; omega
        have hfit' : f + cap * sz ≤ z := hfit
        omega
      · have hne : ¬ cap = p := by omega
        have hm0 : (Option.map a.eval (none : Option Operand)) = none := rfl
        simp only [execOp, ho, h3, Instr.sliceAt, Instr.slice, Sem.run_bind, run_underlying hu, Result.andThen_ok, hm0, hB, Sem.run_pure]
        simp [sizeOf, typeInfo, hinf, hsi, hne, Addr.add_mid]
    · cases e
  · cases e
theorem evl_rel {k : K} {a : Act} : ∀ l : List Operand, (∀ y ∈ l, VX k (evo fr y) (a.eval y)) → LR (VX k) (evl fr l) (l.map a.eval)
  | [], _ => rfl
  | y :: l, hl => ⟨_, _, rfl, hl y (by simp), evl_rel l (fun y hy => hl y (by simp [hy]))⟩
theorem s_len {ts : Array TypeId} {xs : Array Operand} (ho : o.op = .call { callee := .builtin .len, args := xs, argTypes := ts }) (e : oLen P ts.toList (evl fr xs.toList) h n = some x) : Oo P o fr h n x := by
  unfold oLen at e
  split at e
  · rename_i t ts' hts
    split at e
    · rename_i v vs hvs
      have hr : ∀ (k : K) (a : Act), (∀ y ∈ o.op.operands.toList, VX k (evo fr y) (a.eval y)) → ∃ u, VX k v u ∧ (xs.map a.eval)[0]? = some u := by
        intro k a hop
        have h1 := evl_rel (fr := fr) (k := k) (a := a) xs.toList (fun y hy => hop y (by rw [ho]; simpa [Op.operands, Call.operands] using hy))
        rw [hvs] at h1
        obtain ⟨u, us, h2, h3, _⟩ := h1
        refine ⟨u, h3, ?_⟩
        have : (xs.map a.eval).toList = u :: us := by rw [Array.toList_map]; exact h2
        rw [← Array.getElem?_toList, this]; rfl
      have ht : ts[0]? = some t := by rw [← Array.getElem?_toList, hts]; rfl
      split at e
      · rename_i hu
        obtain ⟨s, hv, e⟩ := onStr_some e
        refine Oo.val (force_some e) fun k W a hop => ⟨_, VX.of0 rfl, ?_⟩
        obtain ⟨u, h1, h2⟩ := hr k a hop
        rw [hv] at h1
        have h3 := h1.str_inv
        subst h3
        have hsz : s.data.toList.length = s.size := by rw [Array.length_toList]; rfl
        simp [execOp, ho, resolve, invoke, builtin, Builtin.len_, ht, h2, run_underlying hu, goInt, hsz]
      · rename_i e' hu
        split at e
        · rename_i p m c
          refine Oo.val e fun k W a hop => ⟨_, VX.of0 rfl, ?_⟩
          obtain ⟨u, h1, h2⟩ := hr k a hop
          have h3 : ∃ p' c', u = .slice p' m c' := by
            cases p with
            | none => exact ⟨_, _, h1.nilslc_inv⟩
            | some p => obtain ⟨_, b', z, cap, _, h3, _⟩ := h1.slc_inv; exact ⟨_, _, h3⟩
          obtain ⟨p', c', h3⟩ := h3
          subst h3
          simp [execOp, ho, resolve, invoke, builtin, Builtin.len_, ht, h2, run_underlying hu, goInt]
        · cases e
      · cases e
    · cases e
  · cases e
end
end E
end Go.Proofs.YtfmfeipeeedfpaaGreat
namespace Go.Proofs.YtfmfeipeeedfpaaGreat
namespace E
open Go.CheckFast (force force_eq)
theorem drop'_eq : ∀ (n : Nat) (l : List Value), drop' n l = l.drop n
  | 0, _ => rfl
  | _ + 1, [] => rfl
  | n + 1, _ :: l => by simp only [drop', drop'_eq n l, List.drop_succ_cons]
theorem take'_some : ∀ {n : Nat} {l r : List Value}, take' n l = some r → r = l.take n ∧ r.length = n
  | 0, _, _, e => by cases e; exact ⟨by simp, rfl⟩
  | n + 1, [], _, e => by cases e
  | n + 1, x :: l, r, e => by
    simp only [take'] at e
    cases h : take' n l with
    | none => rw [h] at e; cases e
    | some r' =>
      rw [h] at e
      cases e
      obtain ⟨h1, h2⟩ := take'_some h
      exact ⟨by rw [h1]; rfl, by simp [h2]⟩
theorem lay'_some : ∀ {us l r : List Value}, lay' us l = some r → r = us ++ l.drop us.length ∧ us.length ≤ l.length
  | [], _, _, e => by cases e; exact ⟨rfl, Nat.zero_le _⟩
  | u :: us, [], _, e => by cases e
  | u :: us, x :: l, r, e => by
    simp only [lay'] at e
    cases h : lay' us l with
    | none => rw [h] at e; cases e
    | some r' =>
      rw [h] at e
      cases e
      obtain ⟨h1, h2⟩ := lay'_some h
      exact ⟨by rw [h1]; rfl, by simpa using h2⟩
theorem over_some : ∀ {n : Nat} {us l r : List Value}, over n us l = some r → r = l.take n ++ us ++ l.drop (n + us.length) ∧ n + us.length ≤ l.length
  | 0, _, _, _, e => by
    obtain ⟨h1, h2⟩ := lay'_some e
    exact ⟨by simpa using h1, by omega⟩
  | n + 1, _, [], _, e => by cases e
  | n + 1, us, x :: l, r, e => by
    simp only [over] at e
    cases h : over n us l with
    | none => rw [h] at e; cases e
    | some r' =>
      rw [h] at e
      cases e
      obtain ⟨h1, h2⟩ := over_some h
      refine ⟨?_, by simp; omega⟩
      rw [h1, show n + 1 + us.length = (n + us.length) + 1 by omega]
      rfl
theorem allOne_mem : ∀ {l : List Value}, allOne l = true → ∀ v ∈ l, one v = true
  | [], _, _, h => by cases h
  | x :: l, e, v, h => by
    simp only [allOne] at e
    obtain ⟨h1, h2⟩ : one x = true ∧ allOne l = true := by cases hx : one x <;> rw [hx] at e <;> first | cases e | exact ⟨rfl, e⟩
    rcases List.mem_cons.1 h with rfl | h
    · exact h1
    · exact allOne_mem h2 v h
theorem one_rel {k : K} {v u : Value} (h : VX k v u) (h1 : one v = true) : u.oneCell' = true ∧ u.cells = #[u] := by
  cases v with
  | agg _ => cases h1
  | tuple _ => cases h1
  | chan _ => cases h1
  | func f a c => obtain ⟨a', c', e, _⟩ := h.func_inv; rw [e]; exact ⟨rfl, rfl⟩
  | pointer a => cases a with
    | none => rw [show u = .pointer none from h.v0 trivial]; exact ⟨rfl, rfl⟩
    | some a => obtain ⟨_, b, z, _, e⟩ := h.ptr_inv; rw [e]; exact ⟨rfl, rfl⟩
  | slice a n c => cases a with
    | none => rw [h.nilslc_inv]; exact ⟨rfl, rfl⟩
    | some a => obtain ⟨_, b, z, c, _, e, _⟩ := h.slc_inv; rw [e]; exact ⟨rfl, rfl⟩
  | map a => cases a with
    | none => rw [show u = .map none from h.v0 trivial]; exact ⟨rfl, rfl⟩
    | some a => obtain ⟨b, _, e⟩ := h.map_inv; rw [e]; exact ⟨rfl, rfl⟩
  | iface t v => exact (h.v0 trivial : False).elim
  | bool b => rw [h.bool_inv]; exact ⟨rfl, rfl⟩
  | int a b => rw [h.int_inv]; exact ⟨rfl, rfl⟩
  | string b => rw [h.str_inv]; exact ⟨rfl, rfl⟩
  | float a b => rw [show u = .float a b from h.v0 trivial]; exact ⟨rfl, rfl⟩
  | complex a b c => rw [show u = .complex a b c from h.v0 trivial]; exact ⟨rfl, rfl⟩
  | nilFunc => rw [show u = .nilFunc from h.v0 trivial]; exact ⟨rfl, rfl⟩
  | nilIface => rw [show u = .nilIface from h.v0 trivial]; exact ⟨rfl, rfl⟩
theorem ones_rel {k : K} : ∀ {l m : List Value}, LR (VX k) l m → allOne l = true → ∀ u ∈ m, u.oneCell' = true
  | [], _, e, _, u, hu => by rw [e] at hu; cases hu
  | x :: xs, _, ⟨y, ys, e, r, q⟩, ho, u, hu => by
    subst e
    simp only [allOne] at ho
    obtain ⟨h1, h2⟩ : one x = true ∧ allOne xs = true := by cases hx : one x <;> rw [hx] at ho <;> first | cases ho | exact ⟨rfl, ho⟩
    rcases List.mem_cons.1 hu with rfl | hu
    · exact (one_rel r h1).1
    · exact ones_rel q h2 u hu
theorem cells_rel {k : K} {v u : Value} (h : VX k v u) (ho : allOne v.cells.toList = true) : LR (VX k) v.cells.toList u.cells.toList ∧ ∀ c ∈ u.cells.toList, c.oneCell' = true := by
  have key : (∀ cs, v ≠ .agg cs) → LR (VX k) v.cells.toList u.cells.toList := fun hv => by
    have hc : v.cells = #[v] := by cases v <;> first | rfl | exact absurd rfl (hv _)
    rw [hc] at ho ⊢
    have h1 : one v = true := allOne_mem ho v (by simp)
    rw [(one_rel h h1).2]
    exact ⟨u, [], rfl, h, rfl⟩
  have h2 : LR (VX k) v.cells.toList u.cells.toList := by
    cases v with
    | agg cs => obtain ⟨us, e, l⟩ := h.agg_inv; rw [e]; simpa [Value.cells] using l
    | _ => exact key (fun cs => by simp)
  exact ⟨h2, ones_rel h2 ho⟩
theorem zok_rel {k : K} {z : Value} (h : zok z = true) : LR (VX k) z.cells.toList z.cells.toList := cokL_vx h
/-! A block of the world. -/
theorem cell_of {W : World} {b : Nat} {cs : List Value} {ty : TypeId} (h : W.heap[b]? = some (.cells cs.toArray ty (0, 0))) (o : Nat) : W.cell? ⟨b, o, none⟩ = cs[o]? := by
  simp [World.cell?, h]
theorem fz_of {W : World} {b : Nat} {cs : List Value} {ty : TypeId} (h : W.heap[b]? = some (.cells cs.toArray ty (0, 0))) (o : Nat) : W.frozen? ⟨b, o, none⟩ = false := by
  simp [World.frozen?, h]
theorem heap_setCells_other {W : World} {b c : Nat} (hc : c ≠ b) : ∀ (l : List Value) (o : Nat), (W.setCells b o l).heap[c]? = W.heap[c]? := by
  intro l
  induction l generalizing W with
  | nil => intro o; rfl
  | cons v l ih =>
    intro o
    rw [World.setCells, ih]
    simp only [World.setCell, Array.getElem?_modify]
    rw [if_neg (Ne.symm hc)]
theorem heap_setCells {b : Nat} {ty : TypeId} : ∀ (l : List Value) (o : Nat) (W : World) (cs : List Value), W.heap[b]? = some (.cells cs.toArray ty (0, 0)) → o + l.length ≤ cs.length →
    (W.setCells b o l).heap[b]? = some (.cells (cs.take o ++ l ++ cs.drop (o + l.length)).toArray ty (0, 0))
  | [], o, W, cs, h, _ => by simpa [World.setCells] using h
  | v :: l, o, W, cs, h, hl => by
    have h1 : (W.setCell ⟨b, o, none⟩ v).heap[b]? = some (.cells (cs.set o v).toArray ty (0, 0)) := by
      simp [World.setCell, Array.getElem?_modify, h]
    rw [World.setCells, heap_setCells l (o + 1) _ (cs.set o v) h1 (by simp at hl ⊢; omega)]
    have ho : o < cs.length := by simp at hl; omega
    have e1 : (cs.set o v).take (o + 1) = cs.take o ++ [v] := by
      rw [List.take_add_one, List.take_set_of_le (Nat.le_refl _)]
      simp [ho]
    have e2 : (cs.set o v).drop (o + 1 + l.length) = cs.drop (o + (v :: l).length) := by
      rw [List.drop_set_of_lt (by omega)]
      congr 1
      simp; omega
    rw [e1, e2]
    simp
theorem size_setCells (b : Nat) : ∀ (l : List Value) (o : Nat) (W : World), (W.setCells b o l).heap.size = W.heap.size
  | [], _, _ => rfl
  | v :: r, o, W => by rw [World.setCells, size_setCells b r]; simp [World.setCell]
theorem rest_setCells (b : Nat) : ∀ (l : List Value) (o : Nat) (W : World), (W.setCells b o l).os = W.os ∧ Tp (W.setCells b o l) W ∧ (W.setCells b o l).output = W.output
  | [], _, _ => ⟨rfl, ⟨rfl, Nat.le_refl _⟩, rfl⟩
  | v :: r, o, W => by rw [World.setCells]; exact rest_setCells b r (o + 1) _
/-! What reads, writes and makes. -/
theorem Ss.read (h : HT) (n r : Nat) : Ss h n h n r 0 := ⟨Nat.le_refl _, fun h => h, fun _ _ => rfl, fun _ h => absurd h tb_zero, fun _ h => absurd h tb_zero, fun _ _ h => h⟩
theorem Sd.read {h : HT} {n r : Nat} {k : K} {W : World} (H : HR k h W r) : Sd h n h n r 0 k W k W :=
  ⟨fun _ _ h => h, fun _ _ => rfl, H.sub (fun i hi => (tb_or.1 hi).resolve_right tb_zero), fun _ _ _ => rfl, fun _ _ _ h1 h2 => absurd h2 (by omega), Nat.le_refl _, rfl, ⟨rfl, Nat.le_refl _⟩, rfl, fun _ => rfl⟩
/-- A new number for a block, new or one that was let go. -/
def upk (k : K) (n B Z : Nat) : K := fun i => if i = n then some (B, Z) else k i
section
variable {h h' : HT} {n r w : Nat} {cs : List Value}
theorem Ss.new (hn : tb w n) (hd : ∀ i, i ≠ n → hget h' i = hget h i ∨ (tb w i ∧ hget h' i = none)) (hw : ∀ i, tb w i → i = n ∨ (tb r i ∧ i < n)) : Ss h n h' (n + 1) r w where
  le := Nat.le_succ n
  nn := fun nn i hi => by
    rcases hd i (by omega) with e | e
    · rw [e]; exact nn i (by omega)
    · exact e.2
  same := fun i hi => by
    rcases hd i (fun e => hi (e ▸ hn)) with e | e
    · exact e
    · exact absurd e.1 hi
  old := fun i hi hlt => by
    rcases hw i hi with e | e
    · omega
    · exact e.1
  lt := fun i hi => by
    rcases hw i hi with e | e
    · omega
    · omega
  back := fun i hi ⟨cs, hl⟩ => by
    rcases hd i (by omega) with e | e
    · exact ⟨cs, by rw [← e]; exact hl⟩
    · rw [e.2] at hl; cases hl
theorem Sd.new {k : K} {W W' : World} {B : Nat} {us sp : List Value} {ty : TypeId} (nn : ∀ i, n ≤ i → hget h i = none) (hcs : hget h' n = some cs)
    (hd : ∀ i, i ≠ n → hget h' i = hget h i ∨ (tb w i ∧ hget h' i = none)) (hw : ∀ i, tb w i → i = n ∨ (tb r i ∧ i < n)) (hk : k n = none) (H : HR k h W r)
    (hB : W.heap.size ≤ B ∨ ∃ j z', tb w j ∧ j < n ∧ live h j ∧ ¬ live h' j ∧ k j = some (B, z')) (hW : W'.heap[B]? = some (.cells (us ++ sp).toArray ty (0, 0))) (hl : LR (VX k) cs us)
    (hf : ∀ b, b ≠ B → b < W.heap.size → W'.heap[b]? = W.heap[b]?) (hz : W.heap.size ≤ W'.heap.size) (h1 : W'.os = W.os) (h2 : Tp W' W) (h3 : W'.output = W.output) (h4 : ∀ a, W'.frozen? a = W.frozen? a) :
    Sd h n h' (n + 1) r w k W (upk k n B (us.length + sp.length + 1)) W' := by
  have hext : ∀ i p, k i = some p → upk k n B (us.length + sp.length + 1) i = some p := fun i p hp => by
    unfold upk
    rw [if_neg (fun e => by rw [e, hk] at hp; cases hp)]
    exact hp
  have hne : ∀ i, i ≠ n → upk k n B (us.length + sp.length + 1) i = k i := fun i hi => if_neg hi
  have hself : upk k n B (us.length + sp.length + 1) n = some (B, us.length + sp.length + 1) := if_pos rfl
  -- old ones that live
  have old : ∀ i, i ≠ n → tb (Nat.lor r w) i → live h' i → tb r i ∧ live h i ∧ hget h' i = hget h i := fun i hi ht ⟨c, hl⟩ => by
    rcases hd i hi with e | e
    · refine ⟨?_, ⟨c, by rw [← e]; exact hl⟩, e⟩
      rcases tb_or.1 ht with ht | ht
      · exact ht
      · rcases hw i ht with e | e
        · exact absurd e hi
        · exact e.1
    · rw [e.2] at hl; cases hl
  have apart : ∀ i, i ≠ n → tb (Nat.lor r w) i → live h' i → ∀ b z, k i = some (b, z) → b ≠ B := fun i hi ht hl b z hb e => by
    obtain ⟨a1, a2, a3⟩ := old i hi ht hl
    rcases hB with hB | ⟨j, z', b1, b2, b3, b4, b5⟩
    · obtain ⟨b', z'', e1, e2⟩ := (H.rep i a1).lt a2
      rw [hb] at e1; cases e1
      omega
    · have hj : tb r j := by
        rcases hw j b1 with e | e
        · omega
        · exact e.1
      exact H.inj i j a1 hj a2 b3 (fun e => b4 (e ▸ hl)) b z B z' hb b5 e
  refine ⟨hext, fun i hi => hne i (by omega), ⟨fun i ht c hc => ?_, fun i j hi hj li lj hij b z b' z' ki kj => ?_⟩, fun b hb hj => ?_, fun i b z hi hi2 hl hki => ?_, hz, h1, h2, h3, h4⟩
  · by_cases e : i = n
    · subst e
      rw [hcs] at hc; cases hc
      exact Or.inl ⟨B, us, sp, ty, hself, hW, LX.mono hext hl⟩
    · obtain ⟨a1, a2, a3⟩ := old i e ht ⟨c, hc⟩
      rw [a3] at hc
      refine (H.rep i a1 c hc).mono (hext i) (fun b z e1 hb => ?_) (fun us => LX.mono hext)
      exact hf b (apart i e ht ⟨c, by rw [a3]; exact hc⟩ b _ e1) hb
  · by_cases e : i = n
    · subst e
      rw [hself] at ki; cases ki
      rw [hne j (Ne.symm hij)] at kj
      exact fun e => apart j (Ne.symm hij) hj lj b' z' kj e.symm
    · rw [hne i e] at ki
      by_cases e' : j = n
      · subst e'
        rw [hself] at kj; cases kj
        exact apart i e hi li b z ki
      · rw [hne j e'] at kj
        obtain ⟨a1, a2, _⟩ := old i e hi li
        obtain ⟨c1, c2, _⟩ := old j e' hj lj
        exact H.inj i j a1 c1 a2 c2 hij b z b' z' ki kj
  · refine hf b (fun e => ?_) hb
    rcases hB with hB | ⟨j, z', b1, b2, b3, b4, b5⟩
    · omega
    · exact hj j z' b1 b3 (by rw [e]; exact b5)
  · have : i = n := by omega
    subst this
    rw [hself] at hki; cases hki
    exact hB
end
/-- Other cells in a block that lives. -/
theorem Sd.write {h : HT} {n i : Nat} {k : K} {W W' : World} {cs cs' : List Value} {B Z : Nat} {us sp : List Value} {ty : TypeId} (hi : i < 4096) (hcs : hget h i = some cs) (hk : k i = some (B, Z + 1))
    (hW : W'.heap[B]? = some (.cells (us ++ sp).toArray ty (0, 0))) (hZ : us.length + sp.length = Z) (hl : LR (VX k) cs' us)
    (hf : ∀ b, b ≠ B → b < W.heap.size → W'.heap[b]? = W.heap[b]?) (hz : W.heap.size ≤ W'.heap.size) (h1 : W'.os = W.os) (h2 : Tp W' W) (h3 : W'.output = W.output) (h4 : ∀ a, W'.frozen? a = W.frozen? a) :
    Sd h n (hs12 h i (some cs')) n (bit i) (bit i) k W k W' := by
  refine ⟨fun _ _ h => h, fun _ _ => rfl, ⟨fun j hj c hc => ?_, fun a b ha hb _ _ hab => ?_⟩, fun b hb hj => hf b (fun e => hj i (Z + 1) (tb_bit.2 rfl) ⟨cs, hcs⟩ (by rw [e]; exact hk)) hb, fun _ _ _ h1 h2 => absurd h2 (by omega), hz, h1, h2, h3, h4⟩
  · have : i = j := by rcases tb_or.1 hj with h | h <;> exact tb_bit.1 h
    subst this
    rw [hget_same _ hi] at hc
    cases hc
    exact Or.inl ⟨B, us, sp, ty, by rw [hk, hZ], hW, hl⟩
  · have e1 : i = a := by rcases tb_or.1 ha with h | h <;> exact tb_bit.1 h
    have e2 : i = b := by rcases tb_or.1 hb with h | h <;> exact tb_bit.1 h
    exact absurd (e1.symm.trans e2) hab
theorem Ss.write {h : HT} {n i : Nat} {cs cs' : List Value} (nn : ∀ i, n ≤ i → hget h i = none) (hi : i < 4096) (hcs : hget h i = some cs) : Ss h n (hs12 h i (some cs')) n (bit i) (bit i) := by
  have hin : i < n := by
    rcases Nat.lt_or_ge i n with h' | h'
    · exact h'
    · rw [nn i h'] at hcs; cases hcs
  refine ⟨Nat.le_refl _, fun nn j hj => ?_, fun j hj => hget_ne _ hi (fun e => hj (tb_bit.2 e)), fun j hj _ => hj, fun j hj => by rw [← tb_bit.1 hj]; exact hin, fun j hj hl => ?_⟩
  · rw [hget_ne _ hi (by omega)]; exact nn j hj
  · by_cases e : i = j
    · subst e; exact ⟨cs, hcs⟩
    · obtain ⟨c, hc⟩ := hl
      rw [hget_ne _ hi e] at hc; exact ⟨c, hc⟩
section
variable {h h' : HT} {n r w : Nat} {cs : List Value}
/-- A new map. -/
theorem Sd.newM {k : K} {W W' : World} {B : Nat} {es : Array MapEntry} (hcs : hget h' n = some cs)
    (hd : ∀ i, i ≠ n → hget h' i = hget h i) (hk : k n = none) (hB : W.heap.size ≤ B) (hW : MapAt W' B es) (hl : LR (VX k) cs (kvs es))
    (hf : ∀ b, b < W.heap.size → W'.heap[b]? = W.heap[b]?) (hz : W.heap.size ≤ W'.heap.size) (h1 : W'.os = W.os) (h2 : Tp W' W) (h3 : W'.output = W.output) (h4 : ∀ a, W'.frozen? a = W.frozen? a) :
    Sd h n h' (n + 1) 0 (bit n) k W (upk k n B 0) W' := by
  have hext : ∀ i p, k i = some p → upk k n B 0 i = some p := fun i p hp => by
    unfold upk
    rw [if_neg (fun e => by rw [e, hk] at hp; cases hp)]
    exact hp
  have hne : ∀ i, i ≠ n → upk k n B 0 i = k i := fun i hi => if_neg hi
  have hself : upk k n B 0 n = some (B, 0) := if_pos rfl
  have one : ∀ i, tb (Nat.lor 0 (bit n)) i → i = n := fun i hi => by
    rcases tb_or.1 hi with h | h
    · exact absurd h tb_zero
    · exact (tb_bit.1 h).symm
  refine ⟨hext, fun i hi => hne i (by omega), ⟨fun i ht c' hc => ?_, fun i j hi hj _ _ hij => absurd ((one i hi).trans (one j hj).symm) hij⟩, fun b hb _ => hf b hb, fun i b z hi hi2 hl hki => ?_, hz, h1, h2, h3, h4⟩
  · have := one i ht
    subst this
    rw [hcs] at hc; cases hc
    exact Or.inr ⟨B, es, hself, hW, LX.mono hext hl⟩
  · have : i = n := by omega
    subst this
    rw [hself] at hki; cases hki
    exact Or.inl hB
end
/-- Other entries in a map that lives. -/
theorem Sd.writeM {h : HT} {n i : Nat} {k : K} {W W' : World} {cs cs' : List Value} {B : Nat} {es : Array MapEntry} (hi : i < 4096) (hcs : hget h i = some cs) (hk : k i = some (B, 0))
    (hW : MapAt W' B es) (hl : LR (VX k) cs' (kvs es))
    (hf : ∀ b, b ≠ B → b < W.heap.size → W'.heap[b]? = W.heap[b]?) (hz : W.heap.size ≤ W'.heap.size) (h1 : W'.os = W.os) (h2 : Tp W' W) (h3 : W'.output = W.output) (h4 : ∀ a, W'.frozen? a = W.frozen? a) :
    Sd h n (hs12 h i (some cs')) n (bit i) (bit i) k W k W' := by
  refine ⟨fun _ _ h => h, fun _ _ => rfl, ⟨fun j hj c' hc => ?_, fun a b ha hb _ _ hab => ?_⟩, fun b hb hj => hf b (fun e => hj i 0 (tb_bit.2 rfl) ⟨cs, hcs⟩ (by rw [e]; exact hk)) hb, fun _ _ _ h1 h2 => absurd h2 (by omega), hz, h1, h2, h3, h4⟩
  · have : i = j := by rcases tb_or.1 hj with h | h <;> exact tb_bit.1 h
    subst this
    rw [hget_same _ hi] at hc
    cases hc
    exact Or.inr ⟨B, es, hk, hW, hl⟩
  · have e1 : i = a := by rcases tb_or.1 ha with h | h <;> exact tb_bit.1 h
    have e2 : i = b := by rcases tb_or.1 hb with h | h <;> exact tb_bit.1 h
    exact absurd (e1.symm.trans e2) hab
end E
end Go.Proofs.YtfmfeipeeedfpaaGreat
namespace Go.Proofs.YtfmfeipeeedfpaaGreat
namespace E
open Go.CheckFast (force force_eq)
section
variable {P : Program} {o : Oper} {fr : FT} {h : HT} {n : Nat} {x : R5}
theorem isRow_some {t : TypeId} {b : Bool} (e : isRow P t = some b) : ∃ d, P.underlying t = some d ∧ d.isRow = b := by
  unfold isRow at e
  split at e
  · rename_i hu; cases e; exact ⟨_, hu, rfl⟩
  · rename_i hu; cases e; exact ⟨_, hu, rfl⟩
  · rename_i d h1 h2 hu
    cases e
    refine ⟨d, hu, ?_⟩
    cases d <;> first | rfl | exact (h1 _ rfl).elim | exact (h2 _ _ rfl).elim
  · cases e
/-- What a load yields. -/
theorem ld_ok {t : TypeId} {b q : Nat} (e : oLd P t h n b q = some x) : x.h = h ∧ x.n = n ∧ x.r = bit b ∧ x.w = 0 ∧
    ∀ (k : K) (W : World) (b' z : Nat), HR k h W (bit b) → k b = some (b', z + 1) → ∃ u, VX k x.v u ∧ (loadVar t ⟨b', q, none⟩).run P W = .ok u W := by
  obtain ⟨cs, hcs, e⟩ := bind_some e
  obtain ⟨row, hrow, e⟩ := bind_some e
  obtain ⟨d, hu, hd⟩ := isRow_some hrow
  have rep : ∀ (k : K) (W : World) (b' z : Nat), HR k h W (bit b) → k b = some (b', z + 1) → ∃ us sp ty, W.heap[b']? = some (.cells (us ++ sp).toArray ty (0, 0)) ∧ LR (VX k) cs us := by
    intro k W b' z H hk
    obtain ⟨b2, us, sp, ty, e1, e2, e3⟩ := (H.rep b (tb_bit.2 rfl) cs hcs).cel hk
    rw [hk] at e1; cases e1
    exact ⟨us, sp, ty, e2, e3⟩
  cases row with
  | true =>
    obtain ⟨m, hm, e⟩ := bind_some (x := szOf P t) e
    obtain ⟨vs, hvs, e⟩ := bind_some e
    cases e
    refine ⟨rfl, rfl, rfl, rfl, fun k W b' z H hk => ?_⟩
    obtain ⟨us, sp, ty, e2, e3⟩ := rep k W b' z H hk
    obtain ⟨h1, h2⟩ := take'_some hvs
    rw [drop'_eq] at h1
    have h3 : LR (VX k) vs ((us.drop q).take m) := by rw [h1]; exact (e3.drop q).take m
    refine ⟨_, VX.agg h3, run_loadVar_mid W b' q t _ d (fun j v hv => ?_) hu hd ?_⟩
    · rw [cell_of e2, List.getElem?_append_left]
      · rw [List.getElem?_take] at hv
        split at hv
        · rw [List.getElem?_drop] at hv; exact hv
        · cases hv
      · rw [List.getElem?_take] at hv
        split at hv
        · rw [List.getElem?_drop] at hv; exact (List.getElem?_eq_some_iff.1 hv).1
        · cases hv
    · obtain ⟨i, hi, hs⟩ := szOf_info hm
      rw [hi]
      simp only [Option.map_some, Option.some.injEq]
      rw [hs, h3.len, h2]
  | false =>
    obtain ⟨v, hv, e⟩ := bind_some (x := nth q cs) e
    cases e
    refine ⟨rfl, rfl, rfl, rfl, fun k W b' z H hk => ?_⟩
    obtain ⟨us, sp, ty, e2, e3⟩ := rep k W b' z H hk
    rw [nth_get] at hv
    obtain ⟨u, h1, h2⟩ := e3.get hv
    refine ⟨u, h2, ?_⟩
    have hagg : (isAgg t).run P W = .ok false W := by
      unfold isAgg
      rw [Sem.run_bind, run_underlying hu W]
      cases d <;> simp_all
    have hc : W.cell? ⟨b', q, none⟩ = some u := by rw [cell_of e2, List.getElem?_append_left (List.getElem?_eq_some_iff.1 h1).1]; exact h1
    simp [loadVar, Sem.run_bind, hagg, hc]
theorem onA_some {α : Type} {v : Value} {f : List Value → Option α} {y : α} (e : onA v f = some y) : ∃ cs : Array Value, v = .agg cs ∧ f cs.toList = some y := by
  unfold onA at e
  split at e
  · exact ⟨_, rfl, e⟩
  · cases e
theorem part_ok {t : TypeId} {cs : List Value} {off : Nat} {v : Value} (e : oPart P t cs off = some v) {k : K} {us : List Value} (hl : LR (VX k) cs us) (W : World) : ∃ u, VX k v u ∧ (part t us.toArray off).run P W = .ok u W := by
  unfold oPart at e
  obtain ⟨row, hrow, e⟩ := bind_some e
  obtain ⟨d, hu, hd⟩ := isRow_some hrow
  have hagg : (isAgg t).run P W = .ok row W := by
    unfold isAgg
    rw [Sem.run_bind, run_underlying hu W]
    subst hd
    cases d <;> rfl
  cases row with
  | true =>
    obtain ⟨m, hm, e⟩ := bind_some (x := szOf P t) e
    obtain ⟨vs, hvs, e⟩ := bind_some e
    cases e
    obtain ⟨h1, h2⟩ := take'_some hvs
    rw [drop'_eq] at h1
    have h3 : LR (VX k) vs ((us.drop off).take m) := by rw [h1]; exact (hl.drop off).take m
    obtain ⟨i, hi, hs⟩ := szOf_info hm
    refine ⟨_, VX.agg h3, ?_⟩
    simp [part, Sem.run_bind, hagg, sizeOf, typeInfo, hi, hs]
  | false =>
    have e : nth off cs = some v := e
    rw [nth_get] at e
    obtain ⟨u, h1, h2⟩ := hl.get e
    refine ⟨u, h2, ?_⟩
    have h3 : us.toArray[off]? = some u := by simpa using h1
    simp only [part, Sem.run_bind, hagg, Result.andThen_ok, h3]
    rfl
theorem s_indV {t : TypeId} {y ix : Operand} (ho : o.op = .index t y ix) (e : oIndV P t y ix fr h n = some x) : Oo P o fr h n x := by
  unfold oIndV at e
  split at e
  · rename_i len e' hu
    obtain ⟨cs, hv, e⟩ := onA_some e
    obtain ⟨ki, i, hi, e⟩ := onI_some e
    obtain ⟨j, hj, e⟩ := bind_some e
    obtain ⟨m, hm, e⟩ := bind_some e
    obtain ⟨v, hp, e⟩ := bind_some e
    obtain ⟨hj1, hj2⟩ := idx_some hj
    refine Oo.val e fun k W a hop => ?_
    have h2 := hop y (by simp [ho, Op.operands])
    have h2' := hop ix (by simp [ho, Op.operands])
    rw [hv] at h2; rw [hi] at h2'
    obtain ⟨us, h3, h5⟩ := h2.agg_inv
    have h4 := h2'.int_inv
    obtain ⟨u, h6, h7⟩ := part_ok hp h5 W
    obtain ⟨inf, hinf, hsz⟩ := szOf_info hm
    refine ⟨u, h6, ?_⟩
    have h8 : (part e' us.toArray (j * m)).run P W = .ok u W := h7
    simp [execOp, ho, h3, h4, hj1, Instr.index, asIntOf, run_underlying hu, sizeOf, typeInfo, hinf, hsz, hj2, h8]
  · cases e
theorem s_ind2 {t : TypeId} {y ix : Operand} (ho : o.op = .index t y ix) (e : oInd2 P t y ix fr h n = some x) : Oo P o fr h n x := by
  unfold oInd2 at e
  cases hs : isStr P t with
  | true => rw [hs] at e; exact s_ind ho e
  | false => rw [hs] at e; exact s_indV ho e
theorem s_fieldV {s : TypeId} {y : Operand} {f : Nat} (ho : o.op = .field s y f) (e : oFieldV P s y f fr h n = some x) : Oo P o fr h n x := by
  unfold oFieldV at e
  split at e
  · rename_i fs hu
    split at e
    · rename_i fd hfd
      obtain ⟨cs, hv, e⟩ := onA_some e
      obtain ⟨v, hp, e⟩ := bind_some e
      refine Oo.val e fun k W a hop => ?_
      have h2 := hop y (by simp [ho, Op.operands])
      rw [hv] at h2
      obtain ⟨us, h3, h5⟩ := h2.agg_inv
      obtain ⟨u, h6, h7⟩ := part_ok hp h5 W
      refine ⟨u, h6, ?_⟩
      have hfd' : fs[f]? = some fd := by simpa using hfd
      simp [execOp, ho, h3, Instr.field, run_underlying hu, hfd', asAgg, h7]
    · cases e
  · cases e
theorem s_load {t : TypeId} {y : Operand} (ho : o.op = .load t y) (e : oLoad P t y fr h n = some x) : Oo P o fr h n x := by
  obtain ⟨b, q, hv, e⟩ := onP_some e
  obtain ⟨v, hh, nn, r, w⟩ := x
  obtain ⟨h1, h2, h3, h4, h5⟩ := ld_ok e
  simp only at h1 h2 h3 h4 h5
  subst h1 h2 h3 h4
  refine ⟨Ss.read _ _ _, fun k W a K' Q hop H _ hk => ?_⟩
  have h6 := hop y (by simp [ho, Op.operands])
  rw [hv] at h6
  obtain ⟨_, b', z, hkb, h7⟩ := h6.ptr_inv
  obtain ⟨u, h8, h9⟩ := h5 k W b' z H hkb
  unfold Oper.wp
  have : (execOp a.eval o).run P W = .ok (.value u) W := by simp [execOp, ho, h7, Instr.loadAt, Instr.sureAddr, h9]
  rw [this, Oper.upon_value]
  exact hk u W k (Sd.read H) h8
theorem s_store {t : TypeId} {y z : Operand} (ho : o.op = .store t y z) (nn : ∀ i, n ≤ i → hget h i = none) (e : oStore P t y z fr h n = some x) : Oo P o fr h n x := by
  obtain ⟨b, q, hv, e⟩ := onP_some e
  obtain ⟨cs, hcs, e⟩ := bind_some e
  obtain ⟨m, hm, e⟩ := bind_some e
  obtain ⟨hc, e⟩ := bif_some e
  simp only [Bool.and_eq_true, Nat.beq_eq] at hc
  obtain ⟨cs', hov, e⟩ := bind_some e
  cases e
  obtain ⟨h1, h2⟩ := over_some hov
  have hb := hget_lt hcs
  refine ⟨Ss.write nn hb hcs, fun k W a K' Q hop H _ hk => ?_⟩
  have h6 := hop y (by simp [ho, Op.operands])
  have h6' := hop z (by simp [ho, Op.operands])
  rw [hv] at h6
  obtain ⟨_, b', zz, hkb, h7⟩ := h6.ptr_inv
  obtain ⟨b2, us, sp, ty, e1, e2, e3⟩ := (H.rep b (tb_bit.2 rfl) cs hcs).cel hkb
  have hbb : b2 = b' ∧ us.length + sp.length = zz := by
    have hkb' : k b = some (b', zz + 1) := hkb
    rw [hkb'] at e1; cases e1; exact ⟨rfl, rfl⟩
  obtain ⟨rfl, hzz⟩ := hbb
  obtain ⟨r1, r2⟩ := cells_rel h6' hc.2
  have hlen := r1.len
  have hus := e3.len
  have hfit : q + (a.eval z).cells.toList.length ≤ us.length := by rw [hlen, hus]; exact h2
  have hst := run_storeCells_cells (P := P) b2 q (a.eval z).cells.toList 0 W (fun j hj => by
      rw [cell_of e2, List.getElem?_append_left (by omega), List.getElem?_eq_getElem (by omega)]; rfl) (fun j hj => fz_of e2 _) r2
  simp only [Nat.add_zero] at hst
  obtain ⟨i, hi, hs⟩ := szOf_info hm
  have hsz : (a.eval z).cells.size = i.size := by rw [hs, ← hc.1, ← hlen]; simp
  have hrun : (execOp a.eval o).run P W = .ok .skip (W.setCells b2 q (a.eval z).cells.toList) := by
    simp [execOp, ho, h7, Instr.storeAt, Instr.sureAddr, storeVar, sizeOf, typeInfo, hi, hsz, hst]
  unfold Oper.wp
  rw [hrun, Oper.upon_skip]
  have hset := heap_setCells (b := b2) (ty := ty) (a.eval z).cells.toList q W (us ++ sp) e2 (by simp; omega)
  have hshape : (us ++ sp).take q ++ (a.eval z).cells.toList ++ (us ++ sp).drop (q + (a.eval z).cells.toList.length) = (us.take q ++ (a.eval z).cells.toList ++ us.drop (q + (a.eval z).cells.toList.length)) ++ sp := by
    rw [List.take_append_of_le_length (by omega), List.drop_append_of_le_length hfit]
    simp
  rw [hshape] at hset
  refine hk undef _ k (Sd.write hb hcs hkb hset ?_ ?_ (fun c hc _ => heap_setCells_other hc _ _) ?_ (rest_setCells _ _ _ _).1 (rest_setCells _ _ _ _).2.1 (rest_setCells _ _ _ _).2.2 (fun a => World.frozen?_setCells _ _ _ _ _)) undef_vx
  · rw [← hzz]
    simp
    omega
  · rw [h1, ← hlen]
    exact ((e3.take q).app r1).app (e3.drop _)
  · rw [size_setCells]; exact Nat.le_refl _
/-- A block more: what the run does. -/
theorem alloc_ok {h' : HT} {r w : Nat} {cs us sp : List Value} {v : Value} {ty : TypeId} {k : K} {W W' : World} (hn4 : n < 4096) (nn : ∀ i, n ≤ i → hget h i = none) (hcs : hget h' n = some cs) (hwn : tb w n)
    (hd : ∀ i, i ≠ n → hget h' i = hget h i ∨ (tb w i ∧ hget h' i = none)) (hw : ∀ i, tb w i → i = n ∨ (tb r i ∧ i < n)) (hk : k n = none) (H : HR k h W r) (hl : LR (VX k) cs us)
    (hW : W'.heap = W.heap.push (.cells (us ++ sp).toArray ty (0, 0))) (h1 : W'.os = W.os) (h2 : Tp W' W) (h3 : W'.output = W.output) :
    Sd h n h' (n + 1) r w k W (upk k n W.heap.size (us.length + sp.length + 1)) W' := by
  have _ := hn4; have _ := hwn; have _ := v
  refine Sd.new (ty := ty) nn hcs hd hw hk H (Or.inl (Nat.le_refl _)) (by rw [hW]; simp) hl (fun b _ hb => by rw [hW, Array.getElem?_push, if_neg (by omega)]) (by rw [hW]; simp) h1 h2 h3 (fun a => ?_)
  unfold World.frozen?
  rw [hW, Array.getElem?_push]
  by_cases e : a.block = W.heap.size
  · rw [if_pos e, e]
    simp
  · rw [if_neg e]
theorem oNew_some {v : Value} {cs : List Value} {r w : Nat} {g : HT} (e : oNew g n v cs r w = some x) : n < 4096 ∧ x = ⟨v, hs12 g n (some cs), n + 1, r, Nat.lor w (bit n)⟩ := by
  obtain ⟨h1, e⟩ := bif_some e
  rw [Nat.blt_eq] at h1
  cases e
  exact ⟨h1, rfl⟩
theorem tb_n {w n : Nat} : tb (Nat.lor w (bit n)) n := tb_or.2 (Or.inr (tb_bit.2 rfl))
theorem tb_0n {n i : Nat} (h : tb (Nat.lor 0 (bit n)) i) : i = n := by
  rcases tb_or.1 h with h | h
  · exact absurd h tb_zero
  · exact (tb_bit.1 h).symm
/-- A block more, nothing let go. -/
theorem new_ok {v : Value} {cs : List Value} {r : Nat} (nn : ∀ i, n ≤ i → hget h i = none) (e : oNew h n v cs r 0 = some x)
    (hr : ∀ (k : K) (W : World) (a : Act), (∀ y ∈ o.op.operands.toList, VX k (evo fr y) (a.eval y)) → HR k h W r → ∃ us sp ty u W', LR (VX k) cs us ∧ (execOp a.eval o).run P W = .ok (.value u) W' ∧ W'.heap = W.heap.push (.cells (us ++ sp).toArray ty (0, 0)) ∧ W'.os = W.os ∧ Tp W' W ∧ W'.output = W.output ∧
      ∀ k' : K, (∀ i p, k i = some p → k' i = some p) → k' n = some (W.heap.size, us.length + sp.length + 1) → VX k' v u) : Oo P o fr h n x := by
  obtain ⟨hn, rfl⟩ := oNew_some e
  have hcs : hget (hs12 h n (some cs)) n = some cs := hget_same _ hn
  have hd : ∀ i, i ≠ n → hget (hs12 h n (some cs)) i = hget h i ∨ (tb (Nat.lor 0 (bit n)) i ∧ hget (hs12 h n (some cs)) i = none) := fun i hi => Or.inl (hget_ne _ hn (Ne.symm hi))
  have hw : ∀ i, tb (Nat.lor 0 (bit n)) i → i = n ∨ (tb r i ∧ i < n) := fun i hi => Or.inl (tb_0n hi)
  refine ⟨Ss.new tb_n hd hw, fun k W a K' Q hop H hnew hk => ?_⟩
  have hkn : k n = none := hnew n (Nat.le_refl _) (Nat.lt_succ_self _)
  obtain ⟨us, sp, ty, u, W', h1, h2, h3, h4, h5, h6, h7⟩ := hr k W a hop H
  have d := alloc_ok (v := v) hn nn hcs tb_n hd hw hkn H h1 h3 h4 h5 h6
  unfold Oper.wp
  rw [h2, Oper.upon_value]
  exact hk u W' _ d (h7 _ d.ext (if_pos rfl))
theorem s_alloc {t : TypeId} (ho : o.op = .alloc t) (nn : ∀ i, n ≤ i → hget h i = none) (e : oAlloc P t fr h n = some x) : Oo P o fr h n x := by
  obtain ⟨z, hz, e⟩ := bind_some e
  obtain ⟨hzo, e⟩ := bif_some e
  obtain ⟨i, hi, hzi⟩ := zeroOf_info hz
  refine new_ok nn e fun k W a _ _ => ⟨z.cells.toList, [], t, .pointer (some ⟨W.heap.size, 0, none⟩), W.alloc (.cells z.cells t), zok_rel hzo, ?_, by show W.heap.push _ = _; simp, rfl, ⟨rfl, Nat.le_refl _⟩, rfl, fun k' _ hk' => VX.of0 ⟨rfl, _, _, hk', rfl⟩⟩
  simp [execOp, ho, Instr.alloc, zeroValue, typeInfo, hi, hzi, newVar, newRow]
theorem s_box {t : TypeId} {y : Operand} (ho : o.op = .box t y) (nn : ∀ i, n ≤ i → hget h i = none) (e : oBox y fr h n = some x) : Oo P o fr h n x := by
  obtain ⟨hone, e⟩ := bif_some e
  refine new_ok nn e fun k W a hop _ => ?_
  have h1 := hop y (by simp [ho, Op.operands])
  refine ⟨(a.eval y).cells.toList, [], t, .pointer (some ⟨W.heap.size, 0, none⟩), W.alloc (.cells (a.eval y).cells t), (cells_rel h1 hone).1, ?_, by show W.heap.push _ = _; simp, rfl, ⟨rfl, Nat.le_refl _⟩, rfl, fun k' _ hk' => VX.of0 ⟨rfl, _, _, hk', rfl⟩⟩
  simp [execOp, ho, Instr.box, newVar, newRow]
/-! Parts laid over cells. -/
theorem fold_over (off : Nat) (l : List Value) (cs : List Value) (hl : off + l.length ≤ cs.length) :
    (l.toArray.zipIdx.foldl (fun cs (x : Value × Nat) => cs.setIfInBounds (off + x.2) x.1) cs.toArray) = (cs.take off ++ l ++ cs.drop (off + l.length)).toArray := by
  have e : l.toArray.zipIdx.foldl (fun cs (x : Value × Nat) => cs.setIfInBounds (off + x.2) x.1) cs.toArray = (l.zipIdx 0).foldl (fun cs (x : Value × Nat) => cs.setIfInBounds (off + x.2) x.1) cs.toArray := by
    rw [← Array.foldl_toList]; simp
  rw [e]
  obtain ⟨h1, h2⟩ := Go.Great.foldl_set off l 0 cs.toArray
  apply Array.ext_getElem?
  intro k
  rw [h2 k]
  simp only [Nat.add_zero, List.size_toArray, List.getElem?_toArray]
  by_cases a : k < off
  · rw [if_neg (by omega), List.append_assoc, List.getElem?_append_left (by simp; omega), List.getElem?_take_of_lt a]
  · by_cases b : k < off + l.length
    · rw [if_pos (by omega), List.append_assoc, List.getElem?_append_right (by simp; omega), List.getElem?_append_left (by simp; omega)]
      congr 1
      simp; omega
    · rw [if_neg (by omega), List.getElem?_append_right (by simp; omega), List.getElem?_drop]
      congr 1
      simp; omega
theorem fill_rel {k : K} {place : Nat → Option (Nat × Nat)} : ∀ (ps qs : List (Nat × Value)) (cs us r : List Value), LR (VX k) cs us → (∀ i : Nat, (ps[i]?).map Prod.fst = (qs[i]?).map Prod.fst) → LR (VX k) (ps.map Prod.snd) (qs.map Prod.snd) → fillL place ps cs = some r →
    ∃ r', Instr.fill place us.toArray qs = some r'.toArray ∧ LR (VX k) r r'
  | [], qs, cs, us, r, h1, _, h3, e => by
    cases e
    have : qs = [] := by cases qs with
      | nil => rfl
      | cons q qs => cases h3
    subst this
    exact ⟨us, rfl, h1⟩
  | p :: ps, qs, cs, us, r, h1, h2, h3, e => by
    cases qs with
    | nil => obtain ⟨_, _, e', _⟩ := h3; cases e'
    | cons q qs =>
      obtain ⟨y, ys, e', h4, h5⟩ := h3
      simp only [List.map_cons, List.cons.injEq] at e'
      obtain ⟨rfl, rfl⟩ := e'
      have h6 : p.1 = q.1 := by have := h2 0; simpa using this
      simp only [fillL] at e
      cases hp : place p.1 with
      | none => rw [hp] at e; cases e
      | some pl =>
        rw [hp] at e
        obtain ⟨hc, e⟩ := bif_some e
        simp only [Bool.and_eq_true, Nat.beq_eq] at hc
        obtain ⟨cs2, ho, e⟩ := bind_some e
        obtain ⟨o1, o2⟩ := over_some ho
        obtain ⟨r1, r2⟩ := cells_rel h4 hc.2
        have l1 := r1.len
        have l2 := h1.len
        obtain ⟨r', f1, f2⟩ := fill_rel ps qs cs2 (us.take pl.1 ++ q.2.cells.toList ++ us.drop (pl.1 + q.2.cells.toList.length)) r (by
          rw [o1, ← l1]
          exact ((h1.take _).app r1).app (h1.drop _)) (fun i => by have := h2 (i + 1); simpa using this) h5 e
        refine ⟨r', ?_, f2⟩
        obtain ⟨qi, qv⟩ := q
        simp only at h6 l1 r1 f1
        simp only [Instr.fill]
        rw [← h6, hp]
        obtain ⟨off, sz⟩ := pl
        simp only at hc o2 f1 ⊢
        have hs : qv.cells.size = sz := by rw [← hc.1, ← l1]; simp
        have hfit : off + qv.cells.size ≤ us.length := by rw [hs, l2]; omega
        rw [if_neg (by simp [hs]; omega)]
        have := fold_over off qv.cells.toList us (by simpa using hfit)
        simp only [Array.toArray_toList] at this
        rw [this]
        exact f1
theorem evp_rel {k : K} {a : Act} : ∀ l : List (Nat × Operand), (∀ y ∈ l, VX k (evo fr y.2) (a.eval y.2)) → LR (VX k) ((evp fr l).map Prod.snd) ((l.map fun p => (p.1, a.eval p.2)).map Prod.snd) ∧ ∀ i : Nat, ((evp fr l)[i]?).map Prod.fst = ((l.map fun p => (p.1, a.eval p.2))[i]?).map Prod.fst
  | [], _ => ⟨rfl, fun _ => rfl⟩
  | p :: l, hl => by
    obtain ⟨h1, h2⟩ := evp_rel l (fun y hy => hl y (by simp [hy]))
    refine ⟨⟨_, _, rfl, hl p (by simp), h1⟩, fun i => ?_⟩
    cases i with
    | zero => simp [evp]
    | succ i => simpa [evp] using h2 i
theorem parts_list (parts : Array (Nat × Operand)) (a : Act) : (parts.map fun (x : Nat × Operand) => (x.1, a.eval x.2)).toList = parts.toList.map fun p => (p.1, a.eval p.2) := by simp
theorem fplaces_some : ∀ {fs : List Field} {l : List (Nat × Nat)}, fplaces P fs = some l → fs.mapM (fun f => (P.info? f.type).map fun i => (f.offset, i.size)) = some l
  | [], l, e => by cases e; rfl
  | f :: fs, l, e => by
    simp only [fplaces] at e
    cases hs : szOf P f.type with
    | none => rw [hs] at e; cases e
    | some m =>
      rw [hs] at e
      cases hr : fplaces P fs with
      | none => rw [hr] at e; cases e
      | some l' =>
        rw [hr] at e
        cases e
        obtain ⟨i, hi, hsz⟩ := szOf_info hs
        simp [List.mapM_cons, hi, hsz, fplaces_some hr]
theorem s_build {t : TypeId} {parts : Array (Nat × Operand)} (ho : o.op = .build t parts) (e : oBuild P t parts fr h n = some x) : Oo P o fr h n x := by
  obtain ⟨z, hz, e⟩ := bind_some e
  obtain ⟨hzo, e⟩ := bif_some e
  obtain ⟨i, hi, hzi⟩ := zeroOf_info hz
  have hopp : ∀ (k : K) (a : Act), (∀ y ∈ o.op.operands.toList, VX k (evo fr y) (a.eval y)) → ∀ y ∈ parts.toList, VX k (evo fr y.2) (a.eval y.2) := fun k a hop y hy => hop y.2 (by rw [ho]; simp only [Op.operands]; simpa using ⟨y.1, by simpa using hy⟩)
  split at e
  · rename_i fs hu
    obtain ⟨pl, hpl, e⟩ := bind_some e
    obtain ⟨cs, hcs, e⟩ := bind_some e
    refine Oo.val e fun k W a hop => ?_
    obtain ⟨r1, r2⟩ := evp_rel (k := k) (a := a) parts.toList (hopp k a hop)
    obtain ⟨us, h1, h2⟩ := fill_rel _ _ _ _ _ (zok_rel hzo) r2 r1 hcs
    refine ⟨_, VX.agg h2, ?_⟩
    rw [← parts_list] at h1
    have hb : P.built t (parts.map fun (x : Nat × Operand) => (x.1, a.eval x.2)).toList = some us.toArray := by
      unfold Program.built
      rw [hi, hu]
      simp only [hzi, fplaces_some hpl]
      simpa using h1
    have := run_build W t _ _ hb
    simp only [execOp, ho]
    rw [Sem.run_bind, this]
    rfl
  · rename_i m e' hu
    obtain ⟨sz, hsz, e⟩ := bind_some e
    obtain ⟨cs, hcs, e⟩ := bind_some e
    refine Oo.val e fun k W a hop => ?_
    obtain ⟨r1, r2⟩ := evp_rel (k := k) (a := a) parts.toList (hopp k a hop)
    obtain ⟨us, h1, h2⟩ := fill_rel _ _ _ _ _ (zok_rel hzo) r2 r1 hcs
    refine ⟨_, VX.agg h2, ?_⟩
    rw [← parts_list] at h1
    obtain ⟨ie, hie, hse⟩ := szOf_info hsz
    have hb : P.built t (parts.map fun (x : Nat × Operand) => (x.1, a.eval x.2)).toList = some us.toArray := by
      unfold Program.built
      rw [hi, hu]
      simp only [hzi, hie, hse]
      simpa using h1
    have := run_build W t _ _ hb
    simp only [execOp, ho]
    rw [Sem.run_bind, this]
    rfl
  · cases e
theorem times_len (z : List Value) : ∀ n, (times n z).length = n * z.length
  | 0 => by simp [times]
  | n + 1 => by simp [times, times_len z n, Nat.add_mul, Nat.add_comm]
theorem times_get (z : List Value) : ∀ (n i : Nat), i < n * z.length → (times n z)[i]? = z[i % z.length]?
  | 0, i, h => by simp at h
  | n + 1, i, h => by
    simp only [times]
    by_cases hi : i < z.length
    · rw [List.getElem?_append_left hi, Nat.mod_eq_of_lt hi]
    · have h1 : (n + 1) * z.length = n * z.length + z.length := Nat.succ_mul _ _
      have h2 : i % z.length = (i - z.length) % z.length := Nat.mod_eq_sub_mod (by omega)
      rw [List.getElem?_append_right (by omega), times_get z n (i - z.length) (by omega), h2]
theorem times_rel {k : K} {z : List Value} (h : LR (VX k) z z) : ∀ n, LR (VX k) (times n z) (times n z)
  | 0 => rfl
  | n + 1 => h.app (times_rel h n)
theorem times_arr {z : Value} {len n : Nat} (hz : z.cells.toList.length = n) (hn : 0 < n) : (Array.range (len * n)).map (z.cells[· % z.cells.size]!) = (times len z.cells.toList).toArray := by
  have hz' : z.cells.size = n := by rw [← hz]; simp
  apply Array.ext_getElem?
  intro i
  simp only [Array.getElem?_map, List.getElem?_toArray]
  by_cases hi : i < len * n
  · rw [times_get _ _ _ (by rw [hz]; exact hi), hz]
    have : i % n < z.cells.size := by rw [hz']; exact Nat.mod_lt _ hn
    simp only [Array.getElem?_range, hi, if_true, Option.map_some, hz']
    rw [getElem!_pos z.cells (i % n) this, Array.getElem?_toList, getElem?_pos z.cells (i % n) this]
  · have : (times len z.cells.toList).length ≤ i := by rw [times_len, hz]; omega
    rw [List.getElem?_eq_none this]
    simp [hi]
theorem s_buildS {t : TypeId} {len : Nat} {parts : Array (Nat × Operand)} (ho : o.op = .buildSlice t len parts) (nn : ∀ i, n ≤ i → hget h i = none) (e : oBuildS P t len parts fr h n = some x) : Oo P o fr h n x := by
  unfold oBuildS at e
  split at e
  · rename_i e' hu
    obtain ⟨sz, hsz, e⟩ := bind_some e
    obtain ⟨z, hz, e⟩ := bind_some e
    obtain ⟨hc, e⟩ := bif_some e
    simp only [Bool.and_eq_true, Nat.beq_eq, Nat.blt_eq, Nat.ble_eq] at hc
    obtain ⟨⟨⟨⟨c1, c2⟩, c3⟩, c4⟩, c5⟩ := hc
    obtain ⟨cs, hcs, e⟩ := bind_some e
    obtain ⟨ie, hie, hse⟩ := szOf_info hsz
    obtain ⟨ie', hie', hzi⟩ := zeroOf_info hz
    rw [hie] at hie'; cases hie'
    refine new_ok nn e fun k W a hop _ => ?_
    have hopp : ∀ y ∈ parts.toList, VX k (evo fr y.2) (a.eval y.2) := fun y hy => hop y.2 (by rw [ho]; simp only [Op.operands]; simpa using ⟨y.1, by simpa using hy⟩)
    obtain ⟨r1, r2⟩ := evp_rel (k := k) (a := a) parts.toList hopp
    obtain ⟨us, h1, h2⟩ := fill_rel _ _ _ _ _ (times_rel (zok_rel c5) len) r2 r1 hcs
    rw [← parts_list, ← times_arr c2 c3] at h1
    have hlen : us.length = len * sz := by
      rw [h2.len]
      have : ∀ (ps : List (Nat × Value)) (cs r : List Value), fillL (fun i => some (i * sz, sz)) ps cs = some r → r.length = cs.length := by
        intro ps
        induction ps with
        | nil => intro cs r e; cases e; rfl
        | cons p ps ih =>
          intro cs r e
          simp only [fillL] at e
          obtain ⟨_, e⟩ := bif_some e
          obtain ⟨c2, h5, e⟩ := bind_some e
          obtain ⟨h6, h7⟩ := over_some h5
          rw [ih _ _ e, h6]
          simp only [List.length_append, List.length_take, List.length_drop]
          omega
      rw [this _ _ _ hcs, times_len, c2]
    have hrun := run_buildSlice W t e' len (parts.map fun (x : Nat × Operand) => (x.1, a.eval x.2)) us.toArray ie z hu hie hzi (by rw [hse]; omega) (by rw [hse]; intro h0; rcases Nat.mul_eq_zero.1 h0 with h0 | h0 <;> omega) (by rw [hse]; exact h1)
    refine ⟨us, [], e', .slice (some ⟨W.heap.size, 0, none⟩) len len, W.alloc (.cells us.toArray e'), h2, ?_, by show W.heap.push _ = _; simp, rfl, ⟨rfl, Nat.le_refl _⟩, rfl, fun k' _ hk' => VX.of0 ⟨rfl, _, _, _, hk', rfl, Nat.le_refl _, by simp [hlen]⟩⟩
    simp only [execOp, ho]
    rw [Sem.run_bind, hrun]
    rfl
  · cases e
theorem s_make {t : TypeId} {l c : Operand} (ho : o.op = .makeSlice t l c) (nn : ∀ i, n ≤ i → hget h i = none) (e : oMake P t l c fr h n = some x) : Oo P o fr h n x := by
  unfold oMake oMkS at e
  split at e
  · rename_i e' hu
    obtain ⟨sz, hsz, e⟩ := bind_some e
    obtain ⟨z, hz, e⟩ := bind_some e
    obtain ⟨by', hby, e⟩ := bind_some e
    obtain ⟨kl, il, hl, e⟩ := onI_some e
    obtain ⟨kc, ic, hc, e⟩ := onI_some e
    obtain ⟨a', ha, e⟩ := bind_some e
    obtain ⟨b', hb, e⟩ := bind_some e
    obtain ⟨hcc, e9⟩ := bif_some e
    simp only [Bool.and_eq_true, Nat.beq_eq, Nat.blt_eq, Nat.ble_eq] at hcc
    obtain ⟨⟨⟨⟨c1, c2⟩, c3⟩, c4⟩, c5⟩ := hcc
    obtain ⟨i1, i2⟩ := idx_some ha
    obtain ⟨j1, j2⟩ := idx_some hb
    subst c1
    obtain ⟨ie, hie, hse⟩ := szOf_info hsz
    obtain ⟨ie', hie', hzi⟩ := zeroOf_info hz
    rw [hie] at hie'; cases hie'
    rw [hie] at hby
    simp only [Option.map_some, Option.some.injEq] at hby
    refine new_ok nn e9 fun k W a hop _ => ?_
    have h1 := hop l (by simp [ho, Op.operands])
    have h2 := hop c (by simp [ho, Op.operands])
    rw [hl] at h1; rw [hc] at h2
    have h3 := h1.int_inv
    have h4 := h2.int_inv
    rw [i1] at h3; rw [j1] at h4
    refine ⟨times a' z.cells.toList, [], e', .slice (some ⟨W.heap.size, 0, none⟩) a' a', W.alloc (.cells (times a' z.cells.toList).toArray e'), times_rel (zok_rel c5) _, ?_, by show W.heap.push _ = _; simp, rfl, ⟨rfl, Nat.le_refl _⟩, rfl, fun k' _ hk' => VX.of0 ⟨rfl, _, _, _, hk', rfl, Nat.le_refl _, by simp [times_len, c3]⟩⟩
    have hb1 : (ie.bytes : Int) * (a' : Int) ≤ 281474976710656 := by
      have : ie.bytes * a' ≤ 1000 * 1000 := Nat.mul_le_mul (by omega) (by omega)
      have h5 : ((ie.bytes * a' : Nat) : Int) ≤ 1000000 := by omega
      rw [Int.natCast_mul] at h5
      omega
    have hrun := run_make (P := P) W t e' ie z hu hie hzi kl kc (a' : Int) (a' : Int) (by omega) (Int.le_refl _) hb1 (by omega)
    have hcells : madeCells z.cells (a' * ie.size) = (times a' z.cells.toList).toArray := by
      rw [hse]; exact times_arr c3 c4
    simp only [execOp, ho, h3, h4]
    rw [Sem.run_bind, hrun]
    simp [hcells]
  · cases e
end
end E
end Go.Proofs.YtfmfeipeeedfpaaGreat
namespace Go.Proofs.YtfmfeipeeedfpaaGreat
namespace E
open Go.CheckFast (force force_eq)
section
variable {P : Program} {o : Oper} {fr : FT} {h : HT} {n : Nat} {x : R5}
theorem apOk_some {e m : Nat} (hh : apOk P e m = true) : ∃ i z, P.info? e = some i ∧ i.zero = some z ∧ i.bytes ≤ 100000 ∧ z.cells.size = m := by
  unfold apOk at hh
  split at hh
  · rename_i i hi
    split at hh
    · rename_i z hz
      simp only [Bool.and_eq_true, Nat.ble_eq, Nat.beq_eq] at hh
      exact ⟨i, z, hi, hz, hh.1, by rw [← hh.2]; simp⟩
    · cases hh
  · cases hh
theorem pair_inv {R : Value → Value → Prop} {a b : Value} {l : List Value} (h : LR R [a, b] l) : ∃ u v, l = [u, v] ∧ R a u ∧ R b v := by
  obtain ⟨u, _, rfl, h1, v, _, rfl, h2, rfl⟩ := h
  exact ⟨u, v, rfl, h1, h2⟩
theorem oAp2_some {sz b m : Nat} {zs : List Value} {v : Value} (e : oAp2 h n sz v b m zs = some x) : (v = .slice none 0 0 ∧ oNew h n (.slice (some ⟨n, 0, none⟩) m sz) zs (bit b) 0 = some x) ∨
    ∃ a len es cs, v = .slice (some ⟨a, 0, none⟩) len es ∧ hget h a = some cs ∧ cs.length = len * sz ∧ es = sz ∧ a ≠ b ∧ len ≤ 10000 ∧ oNew (hs12 h a none) n (.slice (some ⟨n, 0, none⟩) (len + m) sz) (cs ++ zs) (Nat.lor (bit a) (bit b)) (bit a) = some x := by
  unfold oAp2 at e
  split at e
  · exact Or.inl ⟨rfl, e⟩
  · rename_i a len es
    obtain ⟨cs, hcs, e⟩ := bind_some e
    obtain ⟨hc3, e⟩ := bif_some e
    simp only [Bool.and_eq_true, Nat.beq_eq, Nat.ble_eq, Bool.not_eq_true'] at hc3
    obtain ⟨⟨⟨d1, d2⟩, d3⟩, d4⟩ := hc3
    exact Or.inr ⟨a, len, es, cs, rfl, hcs, d1, d2, fun e => by subst e; simp at d3, d4, by rw [force_eq] at e; exact e⟩
  · cases e
theorem s_app {ts : Array TypeId} {xs : Array Operand} (ho : o.op = .call { callee := .builtin .append, args := xs, argTypes := ts }) (nn : ∀ i, n ≤ i → hget h i = none) (e : oApp P ts.toList (evl fr xs.toList) h n = some x) : Oo P o fr h n x := by
  unfold oApp at e
  split at e
  · rename_i t t' hts
    split at e
    · rename_i vx vy hvs
      split at e
      · rename_i e' hu
        obtain ⟨htt, e9⟩ := bif_some e
        clear e
        rw [Nat.beq_eq] at htt
        subst htt
        have e := e9
        obtain ⟨sz, hsz, e⟩ := bind_some e
        obtain ⟨b, q, m, bs, hy, e⟩ := onS_some e
        obtain ⟨hc, e⟩ := bif_some e
        simp only [Bool.and_eq_true, Nat.beq_eq, Nat.blt_eq] at hc
        obtain ⟨⟨c1, c2⟩, c3⟩ := hc
        obtain ⟨us, hus, e⟩ := bind_some e
        obtain ⟨zs, hzs, e⟩ := bind_some e
        obtain ⟨hc2, e⟩ := bif_some e
        simp only [Bool.and_eq_true, Nat.ble_eq] at hc2
        obtain ⟨⟨c4, c5⟩, c6⟩ := hc2
        obtain ⟨ie, z, hie, hzi, hby, hzsz⟩ := apOk_some c5
        obtain ⟨ie2, hie2, hse⟩ := szOf_info hsz
        rw [hie] at hie2; cases hie2
        obtain ⟨t1, t2⟩ := take'_some hzs
        rw [drop'_eq] at t1
        have hta : ts = #[t, t] := by apply Array.ext'; rw [hts]
        -- the operands
        have args : ∀ (k : K) (a : Act), (∀ y ∈ o.op.operands.toList, VX k (evo fr y) (a.eval y)) → ∃ u1 u2, xs.map a.eval = #[u1, u2] ∧ VX k vx u1 ∧ VX k vy u2 := by
          intro k a hop
          have h1 := evl_rel (fr := fr) (k := k) (a := a) xs.toList (fun y hy => hop y (by rw [ho]; simpa [Op.operands, Call.operands] using hy))
          rw [hvs] at h1
          obtain ⟨u, v, h2, h3, h4⟩ := pair_inv h1
          exact ⟨u, v, by apply Array.ext'; simpa using h2, h3, h4⟩
        -- what is put behind
        have srcs : ∀ (k : K) (W : World) (u2 : Value) (mm : Nat), HR k h W mm → tb mm b → VX k vy u2 → ∃ news, LR (VX k) zs news ∧ Src P ie.size t u2 m news W := by
          intro k W u2 mm H hb hv
          rw [hy] at hv
          obtain ⟨_, b', zz, c, hkb, h7, _⟩ := hv.slc_inv
          obtain ⟨b2, vs, sp, ty, e1, e2, e3⟩ := (H.rep b hb us hus).cel hkb
          have hkb' : k b = some (b', zz + 1) := hkb
          rw [hkb'] at e1; cases e1
          have h3 : LR (VX k) zs ((vs.drop q).take (m * sz)) := by rw [t1]; exact (e3.drop q).take _
          refine ⟨_, h3, ?_⟩
          rw [h7]
          refine Src.ofSlice W hu _ m c _ (by rw [h3.len, t2, hse]) (fun j u hu' => ?_) (ones_rel h3 c4)
          rw [Addr.add_mid, cell_of e2]
          rw [List.getElem?_take] at hu'
          split at hu'
          · rw [List.getElem?_drop] at hu'
            rw [List.getElem?_append_left (List.getElem?_eq_some_iff.1 hu').1]; exact hu'
          · cases hu'
        have exec : ∀ (a : Act) (W : World) (u1 u2 u : Value) (W' : World), xs.map a.eval = #[u1, u2] → (Builtin.append_ #[t, t] o.type #[u1, u2]).run P W = .ok u W' → (execOp a.eval o).run P W = .ok (.value u) W' := by
          intro a W u1 u2 u W' h1 h2
          simp only [execOp, ho, resolve, invoke, builtin, Sem.run_bind, Sem.run_pure, Result.andThen_ok, h1, hta, h2]
        have hbb : b < 4096 := hget_lt hus
        rcases oAp2_some e with ⟨hx, e⟩ | ⟨a, len, es, cs, hx, hcs, d1, d2, d3', d4, e⟩
        · -- nothing was there
          refine new_ok nn e fun k W a hop H => ?_
          obtain ⟨u1, u2, h1, h2, h3⟩ := args k a hop
          rw [hx] at h2
          have h4 := h2.nilslc_inv
          obtain ⟨news, h5, h6⟩ := srcs k W u2 _ H (tb_bit.2 rfl) h3
          have hfit : Builtin.nextslicecap (0 + m) 0 * ie.bytes ≤ 281474976710656 := growslice_fits (by omega) (by
            have : (0 + m) * ie.bytes ≤ 10000 * 100000 := Nat.mul_le_mul (by omega) hby
            omega)
          have hrun := run_append_grow_src (P := P) W t t o.type e' ie z hu hie hzi none 0 0 [] (by simp [Builtin.firstCells]) u2 m news h6 (by omega) (by omega) hfit
          rw [← h4] at hrun
          have hge := grownCap_ge W (0 + m) 0 e'
          have hsp : (Builtin.zeroCells z.cells (grownCap W (0 + m) 0 e' - (0 + m))).toList.length = (grownCap W (0 + m) 0 e' - (0 + m)) * sz := by
            rw [Array.length_toList, size_zeroCells, hzsz]
          have hnl : news.length = m * sz := by rw [h6.newsLen, hse]
          refine ⟨news, (Builtin.zeroCells z.cells (grownCap W (0 + m) 0 e' - (0 + m))).toList, e', _, _, h5, exec a W u1 u2 _ _ h1 hrun, ?_, rfl, ⟨rfl, Nat.le_succ _⟩, rfl, fun k' _ hk' => ?_⟩
          · show W.heap.push _ = _
            congr 2
            apply Array.ext'
            simp
          · refine VX.of0 ⟨rfl, W.heap.size, _, grownCap W (0 + m) 0 e', hk', by rw [Nat.zero_add], by omega, ?_⟩
            rw [hsp, hnl]
            show 0 + grownCap W (0 + m) 0 e' * sz ≤ _
            have : m * sz + (grownCap W (0 + m) 0 e' - (0 + m)) * sz = grownCap W (0 + m) 0 e' * sz := by rw [← Nat.add_mul]; congr 1; omega
            omega
        · -- a slice that is let go
          obtain ⟨hn4, rfl⟩ := oNew_some e
          have ha4 := hget_lt hcs
          have han : a < n := by
            rcases Nat.lt_or_ge a n with h' | h'
            · exact h'
            · rw [nn a h'] at hcs; cases hcs
          have hcs' : hget (hs12 (hs12 h a none) n (some (cs ++ zs))) n = some (cs ++ zs) := hget_same _ hn4
          have hdead : hget (hs12 (hs12 h a none) n (some (cs ++ zs))) a = none := by rw [hget_ne _ hn4 (by omega), hget_same _ ha4]
          have hwa : tb (Nat.lor (bit a) (bit n)) a := tb_or.2 (Or.inl (tb_bit.2 rfl))
          have hd : ∀ i, i ≠ n → hget (hs12 (hs12 h a none) n (some (cs ++ zs))) i = hget h i ∨ (tb (Nat.lor (bit a) (bit n)) i ∧ hget (hs12 (hs12 h a none) n (some (cs ++ zs))) i = none) := fun i hi => by
            by_cases ea : i = a
            · subst ea; exact Or.inr ⟨hwa, hdead⟩
            · left; rw [hget_ne _ hn4 (Ne.symm hi), hget_ne _ ha4 (Ne.symm ea)]
          have hw : ∀ i, tb (Nat.lor (bit a) (bit n)) i → i = n ∨ (tb (Nat.lor (bit a) (bit b)) i ∧ i < n) := fun i hi => by
            rcases tb_or.1 hi with h' | h'
            · have := tb_bit.1 h'; subst this; exact Or.inr ⟨tb_or.2 (Or.inl (tb_bit.2 rfl)), han⟩
            · exact Or.inl (tb_bit.1 h').symm
          refine ⟨Ss.new tb_n hd hw, fun k W act K' Q hop H hnew hk => ?_⟩
          have hkn : k n = none := hnew n (Nat.le_refl _) (Nat.lt_succ_self _)
          obtain ⟨u1, u2, h1, h2, h3⟩ := args k act hop
          rw [hx] at h2
          obtain ⟨_, a', zz, cap, hka, h4, hcap, hfitz⟩ := h2.slc_inv
          obtain ⟨news, h5, h6⟩ := srcs k W u2 _ H (tb_or.2 (Or.inr (tb_bit.2 rfl))) h3
          obtain ⟨a2, vs, sp, ty, e1, e2, e3⟩ := (H.rep a (tb_or.2 (Or.inl (tb_bit.2 rfl))) cs hcs).cel hka
          have hka' : k a = some (a', zz + 1) := hka
          have haa : a2 = a' ∧ vs.length + sp.length = zz := by rw [hka'] at e1; cases e1; exact ⟨rfl, rfl⟩
          obtain ⟨rfl, hzz⟩ := haa
          have hvl : vs.length = len * sz := by rw [e3.len, d1]
          have hnl : news.length = m * sz := by rw [h6.newsLen, hse]
          have hes : es = sz := d2
          subst hes
          have hfit' : cap * es ≤ zz := by have : 0 + cap * es ≤ zz := hfitz; omega
          by_cases hroom : len + m ≤ cap
          · have hle : (len + m) * es ≤ cap * es := Nat.mul_le_mul_right _ hroom
            have hle2 : len * es + m * es = (len + m) * es := (Nat.add_mul _ _ _).symm
            have hrun := run_append_room_src (P := P) W t t o.type e' ie hu hie a2 0 len cap u2 m news h6 hroom (fun j hj => by
                rw [cell_of e2, hse, List.getElem?_eq_getElem (by simp; omega)]; rfl) (fun j _ => fz_of e2 _)
            rw [← h4] at hrun
            unfold Oper.wp
            rw [exec act W u1 u2 _ _ h1 hrun, Oper.upon_value]
            have hset := heap_setCells (b := a2) (ty := ty) news (0 + len * ie.size) W (vs ++ sp) e2 (by rw [hse]; simp; omega)
            rw [hse, Nat.zero_add] at hset
            have hshape : (vs ++ sp).take (len * es) ++ news ++ (vs ++ sp).drop (len * es + news.length) = (vs ++ news) ++ sp.drop (m * es) := by
              rw [← hvl, List.take_left, hnl, List.drop_append]
              simp
            rw [hshape] at hset
            have dd := Sd.new (h := h) (n := n) (k := k) (W := W) (W' := W.setCells a2 (len * es) news) (B := a2) (us := vs ++ news) (sp := sp.drop (m * es)) (ty := ty) nn hcs' hd hw hkn H
              (Or.inr ⟨a, zz + 1, hwa, han, ⟨cs, hcs⟩, not_live hdead, hka'⟩) hset (e3.app h5) (fun c hc _ => heap_setCells_other hc _ _) (by rw [size_setCells]; exact Nat.le_refl _) (rest_setCells _ _ _ _).1 (rest_setCells _ _ _ _).2.1 (rest_setCells _ _ _ _).2.2 (fun a => World.frozen?_setCells _ _ _ _ _)
            have hW : W.setCells a2 (0 + len * ie.size) news = W.setCells a2 (len * es) news := by rw [hse, Nat.zero_add]
            rw [hW]
            refine hk _ _ _ dd (VX.of0 ⟨rfl, a2, _, cap, if_pos rfl, rfl, hroom, ?_⟩)
            simp only [List.length_append, List.length_drop]
            show 0 + cap * es ≤ _
            omega
          · have hfit : Builtin.nextslicecap (len + m) cap * ie.bytes ≤ 281474976710656 := growslice_fits (by omega) (by
              have : (len + m) * ie.bytes ≤ 20000 * 100000 := Nat.mul_le_mul (by omega) hby
              omega)
            have hold : (Builtin.firstCells ie.size len (.slice (some ⟨a2, 0, none⟩) len cap)).run P W.drew = .ok vs.toArray W.drew :=
              run_firstCells_some W.drew ie.size len ⟨a2, 0, none⟩ len cap vs (by rw [hvl, hse]) (fun j v hv => by
                rw [Addr.add_mid]
                have := cell_of (W := W.drew) (b := a2) (cs := vs ++ sp) (ty := ty) e2 (0 + j)
                rw [this, Nat.zero_add, List.getElem?_append_left (List.getElem?_eq_some_iff.1 hv).1]; exact hv)
            have hrun := run_append_grow_src (P := P) W t t o.type e' ie z hu hie hzi (some ⟨a2, 0, none⟩) len cap vs hold u2 m news h6 (by omega) (by omega) hfit
            rw [← h4] at hrun
            unfold Oper.wp
            rw [exec act W u1 u2 _ _ h1 hrun, Oper.upon_value]
            have hge := grownCap_ge W (len + m) cap e'
            have hsp : (Builtin.zeroCells z.cells (grownCap W (len + m) cap e' - (len + m))).toList.length = (grownCap W (len + m) cap e' - (len + m)) * es := by
              rw [Array.length_toList, size_zeroCells, hzsz]
            have dd := alloc_ok (h := h) (n := n) (k := k) (W := W) (W' := W.drew.alloc (.cells ((vs ++ news).toArray ++ Builtin.zeroCells z.cells (grownCap W (len + m) cap e' - (len + m))) e')) (v := undef) (us := vs ++ news) (sp := (Builtin.zeroCells z.cells (grownCap W (len + m) cap e' - (len + m))).toList) (ty := e') hn4 nn hcs' tb_n hd hw hkn H (e3.app h5) (by
                show W.heap.push _ = _
                congr 2
                apply Array.ext'
                simp) rfl ⟨rfl, Nat.le_succ _⟩ rfl
            refine hk _ _ _ dd (VX.of0 ⟨rfl, W.heap.size, _, grownCap W (len + m) cap e', if_pos rfl, rfl, hge, ?_⟩)
            rw [hsp]
            simp only [List.length_append]
            show 0 + grownCap W (len + m) cap e' * es ≤ _
            have : (len + m) * es + (grownCap W (len + m) cap e' - (len + m)) * es = grownCap W (len + m) cap e' * es := by rw [← Nat.add_mul]; congr 1; omega
            have hle2 : len * es + m * es = (len + m) * es := (Nat.add_mul _ _ _).symm
            omega
      · cases e
    · cases e
  · cases e
theorem bytes'_some {k : K} : ∀ {l m : List Value} {r : List UInt8}, bytes' l = some r → LR (VX k) l m → ∃ ns : List Int, m = ns.map (Value.int .u8) ∧ r = ns.map fun n => UInt8.ofNat n.toNat
  | [], _, _, e, h => by cases e; rw [h]; exact ⟨[], rfl, rfl⟩
  | v :: l, _, r, e, ⟨y, ys, hm, h1, h2⟩ => by
    unfold bytes' at e
    split at e
    · rename_i n
      cases hb : bytes' l with
      | none => rw [hb] at e; cases e
      | some r' =>
        rw [hb] at e
        cases e
        obtain ⟨ns, e1, e2⟩ := bytes'_some hb h2
        exact ⟨n :: ns, by rw [hm, h1.int_inv, e1]; rfl, by rw [e2]; rfl⟩
    · cases e
theorem push_fold : ∀ (ns : List Int) (s : ByteArray), ns.foldl (fun r n => r.push (UInt8.ofNat n.toNat)) s = ⟨(s.data.toList ++ ns.map fun n => UInt8.ofNat n.toNat).toArray⟩
  | [], s => by simp
  | n :: ns, s => by
    rw [List.foldl_cons, push_fold ns]
    congr 1
    simp
theorem s_conv {s d : TypeId} {y : Operand} (ho : o.op = .convert s d y) (e : oConv P s d y fr h n = some x) : Oo P o fr h n x := by
  unfold oConv oCvV at e
  split at e
  · rename_i b q m c hv
    unfold oCvB at e
    split at e
    · rename_i e' hu hud
      split at e
      · rename_i hue
        obtain ⟨l, hl, e⟩ := bind_some e
        obtain ⟨cs, hcs, hl⟩ := bind_some hl
        obtain ⟨zs, hzs, hl⟩ := bind_some hl
        cases e
        obtain ⟨t1, t2⟩ := take'_some hzs
        rw [drop'_eq] at t1
        refine ⟨Ss.read _ _ _, fun k W a K' Q hop H _ hk => ?_⟩
        have h1 := hop y (by simp [ho, Op.operands])
        rw [hv] at h1
        obtain ⟨_, b', zz, cap, hkb, h7, _⟩ := h1.slc_inv
        obtain ⟨b2, vs, sp, ty, e1, e2, e3⟩ := (H.rep b (tb_bit.2 rfl) cs hcs).cel hkb
        have hkb' : k b = some (b', zz + 1) := hkb
        rw [hkb'] at e1; cases e1
        have h3 : LR (VX k) zs ((vs.drop q).take m) := by rw [t1]; exact (e3.drop q).take _
        obtain ⟨ns, n1, n2⟩ := bytes'_some hl h3
        have hload : (loadCells ⟨b', q, none⟩ m).run P W = .ok (ns.map (Value.int .u8)).toArray W := by
          have hlen : (ns.map (Value.int .u8)).length = m := by rw [← n1, h3.len, t2]
          have := run_loadCells_list (P := P) W ⟨b', q, none⟩ (ns.map (Value.int .u8)) (fun j u hu' => by
            rw [Addr.add_mid, cell_of e2]
            rw [← n1, List.getElem?_take] at hu'
            split at hu'
            · rw [List.getElem?_drop] at hu'
              rw [List.getElem?_append_left (List.getElem?_eq_some_iff.1 hu').1]; exact hu'
            · cases hu')
          rw [hlen] at this
          exact this
        have hrun := run_bytesToString (P := P) W ⟨b', q, none⟩ m cap ns hload
        rw [← run_convert_bytes_string W s d e' _ _ _ hu hue hud, push_fold] at hrun
        unfold Oper.wp
        have : (execOp a.eval o).run P W = .ok (.value (.string ⟨l.toArray⟩)) W := by
          simp only [execOp, ho, h7]
          rw [Sem.run_bind, hrun, n2]
          rfl
        rw [this, Oper.upon_value]
        exact hk _ W k (Sd.read H) (VX.of0 rfl)
      · cases e
    · cases e
  · obtain ⟨h1, e⟩ := bif_some e
    obtain ⟨v, h2, e⟩ := bind_some e
    obtain ⟨h3, e⟩ := bif_some e
    refine Oo.val e fun k W a hop => ⟨v, flat1_vx h3, ?_⟩
    have e1 := flat1_eq (hop y (by simp [ho, Op.operands])) h1
    simp only [execOp, ho, e1]
    rw [Sem.run_bind, pr_run _ _ h2]
    rfl
/-- A call: entered, or answered at once. -/
def CallS (P : Program) (f : FuncId) (args : Array Value) (W : World) (R : Ending → World → Prop) : Prop := ((callFunc f args).run P W = .ok (.enter f args) W ∧ Calls P f args W R) ∨ ∃ u, (callFunc f args).run P W = .ok (.value u) W ∧ R (.returned u) W
/-- What is said of calls. -/
def Cs (P : Program) (cf : Nat → List Value → HT → Nat → Option R5) : Prop := ∀ f vs h n x, (∀ i, n ≤ i → hget h i = none) → cf f vs h n = some x → Ss h n x.h x.n x.r x.w ∧
  ∀ (k : K) (W : World) (us : List Value), LR (VX k) vs us → HR k h W x.r → (∀ i, n ≤ i → i < x.n → k i = none) → CallS P f us.toArray W fun e W' => ∃ u k', e = .returned u ∧ Sd h n x.h x.n x.r x.w k W k' W' ∧ VX k' x.v u
theorem s_call {cf : Nat → List Value → HT → Nat → Option R5} {y : Operand} {xs : Array Operand} {ts : Array TypeId} (hcf : Cs P cf) (ho : o.op = .call { callee := .value y, args := xs, argTypes := ts }) (nn : ∀ i, n ≤ i → hget h i = none)
    (e : oCall cf (evo fr y) (evl fr xs.toList) h n = some x) : Oo P o fr h n x := by
  unfold oCall at e
  split at e
  · rename_i f first captured hv
    obtain ⟨h1, h3⟩ := hcf _ _ _ _ _ nn e
    refine ⟨h1, fun k W a K' Q hop H hnew hk => ?_⟩
    have h4 := hop y (by rw [ho]; simp [Op.operands, Call.operands])
    rw [hv] at h4
    obtain ⟨fi, ca, h5, h6, h7⟩ := h4.func_inv
    have h8 := evl_rel (fr := fr) (k := k) (a := a) xs.toList (fun y hy => hop y (by rw [ho]; simp [Op.operands, Call.operands]; right; simpa using hy))
    have h9 := h3 k W (fi ++ xs.toList.map a.eval ++ ca) ((h6.app h8).app h7) H hnew
    have hrun : (execOp a.eval o).run P W = (callFunc f (fi ++ xs.toList.map a.eval ++ ca).toArray).run P W := by
      simp only [execOp, ho, resolve, h5, Deferred.ofValue, invoke, Sem.run_bind, Sem.run_pure, Result.andThen_ok]
      congr 2
      apply Array.ext'
      simp
    unfold Oper.wp
    rw [hrun]
    rcases h9 with ⟨h2, h9⟩ | ⟨u, h2, u', k', e', hd, hvx⟩
    · rw [h2, Oper.upon_enter]
      refine h9.mono ?_
      rintro e W' ⟨u, k', rfl, hd, hvx⟩
      exact hk u W' k' hd hvx
    · cases e'
      rw [h2, Oper.upon_value]
      exact hk u W k' hd hvx
  · cases e
/-! Maps. -/
theorem mapT_some {t : TypeId} {p : TypeId × TypeId} (h : mapT P t = some p) : P.underlying t = some (.map p.1 p.2) := by
  unfold mapT at h
  split at h
  · rename_i a b hu; cases h; exact hu
  · cases h
theorem mkeq_ok {d : TypeDesc} {k a u : Value} {kk : K} {c : Bool} (hd : (d = .string ∧ ∃ s, k = .string s) ∨ (∃ j, d = .int j) ∧ ∃ j x, k = .int j x) (hu : VX kk a u) (e : mkeq k a = some c) : Instr.sameNow d k u = some c ∧ (c = true → u = k) := by
  rcases hd with ⟨rfl, s, rfl⟩ | ⟨⟨j0, rfl⟩, j, x, rfl⟩
  · unfold mkeq at e
    simp only at e
    split at e
    · rename_i t
      rw [hu.str_inv]
      cases e
      rw [beqL_eq]
      by_cases h : s = t
      · subst h; have := (MapKept.bytes_beq s s).2 rfl; simp [Instr.sameNow, this]
      · have h1 : ¬ s.data = t.data := fun e => h (by cases s; cases t; simp_all)
        have h2 : (s.data.toList == t.data.toList) = false := by
          rw [beq_eq_false_iff_ne]; intro e; exact h1 (Array.toList_inj.1 e)
        refine ⟨?_, fun e => by rw [h2] at e; cases e⟩
        have h3 : (s == t) = false := by cases e : (s == t) with
          | false => rfl
          | true => exact absurd ((MapKept.bytes_beq s t).1 e) h
        simp [Instr.sameNow, h2, h3]
    · cases e
  · unfold mkeq at e
    simp only at e
    split at e
    · rename_i j' y
      obtain ⟨h1, e2⟩ := bif_some e
      have h1 : j = j' := of_decide_eq_true h1
      subst h1
      rw [hu.int_inv]
      have h3 : ieq x y = c := Option.some.inj e2
      rw [ieq_eq] at h3
      refine ⟨by simp [Instr.sameNow, h3], fun e => ?_⟩
      subst e
      rw [beq_iff_eq.1 h3]
    · cases e
theorem isKey_some {t : TypeId} {k : Value} (h : isKey P t k = true) : ∃ d, P.underlying t = some d ∧ ((d = .string ∧ ∃ s, k = .string s) ∨ (∃ j, d = .int j) ∧ ∃ j x, k = .int j x) := by
  unfold isKey at h
  split at h
  · rename_i hu
    split at h
    · exact ⟨_, hu, Or.inl ⟨rfl, _, rfl⟩⟩
    · cases h
  · rename_i hu
    split at h
    · exact ⟨_, hu, Or.inr ⟨⟨_, rfl⟩, _, _, rfl⟩⟩
    · cases h
  · cases h
theorem mfd_ok {d : TypeDesc} {k : Value} {kk : K} (hd : (d = .string ∧ ∃ s, k = .string s) ∨ (∃ j, d = .int j) ∧ ∃ j x, k = .int j x) : ∀ (es : List MapEntry) (cs : List Value) (i : Nat) (r : Option (Nat × Value)), LR (VX kk) cs (es.flatMap fun e => [e.key, e.val]) → mfd k i cs = some r →
    match r with
    | none => Instr.findNow d k es i = some none
    | some (j, v) => i ≤ j ∧ (∃ u, VX kk v u ∧ Instr.findNow d k es i = some (some (j, u))) ∧ (∃ e, es[j - i]? = some e ∧ e.key = k) ∧ ∀ w x, VX kk w x → LR (VX kk) (mset k w (j - i) cs) ((es.modify (j - i) fun e => { e with key := k, val := x }).flatMap fun e => [e.key, e.val])
  | [], cs, i, r, h, e => by
    have : cs = [] := by
      cases cs with
      | nil => rfl
      | cons a l => obtain ⟨_, _, h, _⟩ := h; cases h
    subst this
    cases e
    rfl
  | en :: es, cs, i, r, h, e => by
    match cs, h, e with
    | [], h, e => cases h
    | [a], h, e => cases e
    | a :: v :: l, h, e =>
      obtain ⟨y, ys, h1, r1, z, zs, h2, r2, h3⟩ := h
      subst h2
      have h1' : [en.key, en.val] ++ es.flatMap (fun e => [e.key, e.val]) = y :: z :: zs := h1
      simp only [List.cons_append, List.nil_append, List.cons.injEq] at h1'
      obtain ⟨rfl, rfl, rfl⟩ := h1'
      unfold mfd at e
      split at e
      · rename_i hq
        cases e
        obtain ⟨q1, q2⟩ := mkeq_ok hd r1 hq
        refine ⟨Nat.le_refl _, ⟨_, r2, by unfold Instr.findNow; rw [q1]⟩, ⟨en, by simp, q2 rfl⟩, fun w x hw => ?_⟩
        simp only [Nat.sub_self, mset, List.modify_zero_cons, List.flatMap_cons, List.cons_append, List.nil_append]
        refine ⟨k, _, rfl, ?_, x, _, rfl, hw, h3⟩
        rcases hd with ⟨_, s, rfl⟩ | ⟨_, j, x', rfl⟩
        · exact VX.of0 rfl
        · exact VX.of0 rfl
      · rename_i hq
        obtain ⟨q1, _⟩ := mkeq_ok hd r1 hq
        have ih := mfd_ok hd es l (i + 1) r h3 e
        cases r with
        | none => show Instr.findNow d k (en :: es) i = _; unfold Instr.findNow; rw [q1]; exact ih
        | some p =>
          obtain ⟨j, v'⟩ := p
          obtain ⟨i1, ⟨u, i2, i3⟩, i4, i5⟩ := ih
          have hs : j - i = (j - (i + 1)) + 1 := by omega
          refine ⟨by omega, ⟨u, i2, by unfold Instr.findNow; rw [q1]; exact i3⟩, ?_, fun w x hw => ?_⟩
          · rw [hs, List.getElem?_cons_succ]; exact i4
          · rw [hs, List.modify_succ_cons]
            simp only [mset, List.flatMap_cons, List.cons_append, List.nil_append]
            exact ⟨_, _, rfl, r1, _, _, rfl, r2, i5 w x hw⟩
      · cases e
theorem ck_run {d : TypeDesc} {t : TypeId} {k : Value} (hu : P.underlying t = some d) (hd : (d = .string ∧ ∃ s, k = .string s) ∨ (∃ j, d = .int j) ∧ ∃ j x, k = .int j x) (b : Bool) (W : World) : (Instr.checkKey b 10000 t k).run P W = .ok () W := by
  unfold Instr.checkKey
  simp only [Sem.run_bind, run_underlying hu, Result.andThen]
  rcases hd with ⟨rfl, s, rfl⟩ | ⟨⟨j0, rfl⟩, j, x, rfl⟩ <;> rfl
theorem isKey_eq {k : K} {u v : Value} {d : TypeDesc} (hd : (d = .string ∧ ∃ s, v = .string s) ∨ (∃ j, d = .int j) ∧ ∃ j x, v = .int j x) (h : VX k v u) : u = v := by
  rcases hd with ⟨_, s, rfl⟩ | ⟨_, j, x, rfl⟩
  · exact h.str_inv
  · exact h.int_inv
theorem pack_vx {k : K} {ok : Bool} {v u : Value} {b : Bool} (h : VX k v u) : VX k (pack ok v b) (if ok then .tuple #[u, .bool b] else u) := by
  cases ok with
  | false => exact h
  | true => exact VX.tuple (cs := [v, .bool b]) (us := [u, .bool b]) ⟨_, _, rfl, h, _, _, rfl, VX.of0 rfl, rfl⟩
theorem s_map {t : TypeId} {r : Option Operand} (ho : o.op = .makeMap t r) (e : oMap r fr h n = some x) : Oo P o fr h n x := by
  obtain ⟨h0, e⟩ := bif_some e
  obtain ⟨hn, rfl⟩ := oNew_some e
  have hr : r = none := by cases r <;> simp_all
  subst hr
  have hcs : hget (hs12 h n (some [])) n = some [] := hget_same _ hn
  have hd : ∀ i, i ≠ n → hget (hs12 h n (some [])) i = hget h i := fun i hi => hget_ne _ hn (Ne.symm hi)
  have hl0 : Nat.lor 0 (bit n) = bit n := by show 0 ||| bit n = bit n; simp
  rw [hl0]
  refine ⟨Ss.new (tb_bit.2 rfl) (fun i hi => Or.inl (hd i hi)) (fun i hi => Or.inl (tb_bit.1 hi).symm), fun k W a K' Q hop H hnew hk => ?_⟩
  have hkn : k n = none := hnew n (Nat.le_refl _) (Nat.lt_succ_self _)
  have hrun : (execOp a.eval o).run P W = .ok (.value (.map (some W.heap.size))) (W.alloc (.map #[] 0)) := by
    have : (Instr.makeMap t none).run P W = .ok (.map (some W.heap.size)) (W.alloc (.map #[] 0)) := rfl
    simp [execOp, ho, this]
  unfold Oper.wp
  rw [hrun, Oper.upon_value]
  refine hk _ _ _ (Sd.newM (B := W.heap.size) (es := #[]) hcs hd hkn (Nat.le_refl _) ⟨by show (W.heap.push _)[_]? = _; simp, fun j e h => (by simp at h)⟩ rfl (fun b hb => by show (W.heap.push _)[b]? = _; rw [Array.getElem?_push, if_neg (by omega)]) (by show _ ≤ (W.heap.push _).size; simp) rfl ⟨rfl, Nat.le_refl _⟩ rfl (fun a => by
    unfold World.frozen?
    by_cases e : a.block = W.heap.size
    · rw [e, (MapKept.heap_alloc W _).1]; simp
    · rw [show (W.alloc (.map #[] 0)).heap[a.block]? = W.heap[a.block]? by show (W.heap.push _)[a.block]? = _; rw [Array.getElem?_push, if_neg e]])) (VX.of0 ⟨_, if_pos rfl, rfl⟩)
theorem s_get {t : TypeId} {y i : Operand} {ok : Bool} (ho : o.op = .lookup t y i ok) (e : oGet P t y i ok fr h n = some x) : Oo P o fr h n x := by
  obtain ⟨p, hp, e⟩ := bind_some e
  obtain ⟨hk, e⟩ := bif_some e
  have hmt := mapT_some hp
  obtain ⟨d, hd1, hd2⟩ := isKey_some hk
  have zero : ∀ r, oGet0 P p.2 ok h n r = some x → ∃ z, x = ⟨pack ok z false, h, n, r, 0⟩ ∧ (∀ k : K, VX k z z) ∧ ∀ W, (zeroValue p.2).run P W = .ok z W := by
    intro r e
    obtain ⟨z, hz, e⟩ := bind_some e
    obtain ⟨hc, e⟩ := bif_some e
    cases e
    obtain ⟨inf, hi, hzi⟩ := zeroOf_info hz
    exact ⟨z, rfl, fun k => cok_vx hc, fun W => by simp [zeroValue, typeInfo, hi, hzi]⟩
  unfold oGetV at e
  split at e
  · rename_i hv
    obtain ⟨z, rfl, hz1, hz2⟩ := zero _ e
    refine Oo.val rfl fun k W a hop => ⟨_, pack_vx (hz1 k), ?_⟩
    have h1 := hop y (by simp [ho, Op.operands])
    have h2 := isKey_eq hd2 (hop i (by simp [ho, Op.operands]))
    rw [hv] at h1
    have h3 : a.eval y = .map none := h1.v0 trivial
    cases ok <;> simp [execOp, ho, h2, h3, Instr.lookup, run_underlying hmt, ck_run hd1 hd2, Instr.findKey, run_underlying hd1, Instr.findNow, hz2, Result.andThen]
  · rename_i j hv
    obtain ⟨cs, hcs, e⟩ := bind_some e
    obtain ⟨r, hr, e⟩ := bind_some e
    have key : ∀ v, (∀ (k : K) (W : World) (b : Nat) (es : Array MapEntry), MapAt W b es → LR (VX k) cs (kvs es) → ∃ u, VX k v u ∧ (Instr.lookup t (.map (some b)) (evo fr i) ok).run P W = .ok u W) → Oo P o fr h n ⟨v, h, n, bit j, 0⟩ := by
      intro v hl
      refine ⟨Ss.read _ _ _, fun k W a K' Q hop H _ hk => ?_⟩
      have h1 := hop y (by simp [ho, Op.operands])
      have h2 := isKey_eq hd2 (hop i (by simp [ho, Op.operands]))
      rw [hv] at h1
      obtain ⟨b, hb, h3⟩ := h1.map_inv
      obtain ⟨es, e1, e2⟩ := (H.rep j (tb_bit.2 rfl) cs hcs).map hb
      obtain ⟨u, h4, h5⟩ := hl k W b es e1 e2
      unfold Oper.wp
      have : (execOp a.eval o).run P W = .ok (.value u) W := by simp [execOp, ho, h2, h3, h5]
      rw [this, Oper.upon_value]
      exact hk u W k (Sd.read H) h4
    cases r with
    | none =>
      obtain ⟨z, rfl, hz1, hz2⟩ := zero _ e
      refine key _ fun k W b es e1 e2 => ⟨_, pack_vx (hz1 k), ?_⟩
      have h6 := mfd_ok hd2 es.toList cs 0 none e2 hr
      have h6 : Instr.findNow d (evo fr i) es.toList 0 = some none := h6
      cases ok <;> simp [Instr.lookup, run_underlying hmt, MapKept.run_getObj_map e1.1, ck_run hd1 hd2, Instr.findKey, run_underlying hd1, h6, hz2, Result.andThen]
    | some q =>
      obtain ⟨jj, v⟩ := q
      cases e
      refine key _ fun k W b es e1 e2 => ?_
      obtain ⟨_, ⟨u, h7, h8⟩, _⟩ := mfd_ok hd2 es.toList cs 0 (some (jj, v)) e2 hr
      refine ⟨_, pack_vx h7, ?_⟩
      cases ok <;> simp [Instr.lookup, run_underlying hmt, MapKept.run_getObj_map e1.1, ck_run hd1 hd2, Instr.findKey, run_underlying hd1, h8, Result.andThen]
  · cases e
theorem born_push {es : Array MapEntry} {k v : Value} (h : ∀ (j : Nat) (e : MapEntry), es[j]? = some e → e.born = j) (j : Nat) (e : MapEntry) (he : (es.push { key := k, val := v, born := es.size })[j]? = some e) : e.born = j := by
  rw [Array.getElem?_push] at he
  split at he
  · rename_i hj; cases he; exact hj.symm
  · exact h j e he
theorem born_mod {es : Array MapEntry} {i : Nat} {f : MapEntry → MapEntry} (h : ∀ (j : Nat) (e : MapEntry), es[j]? = some e → e.born = j) (hf : ∀ e, (f e).born = e.born) (j : Nat) (e : MapEntry) (he : (es.modify i f)[j]? = some e) : e.born = j := by
  rw [Array.getElem?_modify] at he
  cases hj : es[j]? with
  | none => rw [hj] at he; split at he <;> cases he
  | some e0 =>
    rw [hj] at he
    have := h j e0 hj
    split at he
    · simp at he; rw [← he, hf]; exact this
    · cases he; exact this
theorem s_put {t : TypeId} {m y z : Operand} (ho : o.op = .mapUpdate t m y z ∨ o.op = .insert t m y z) (nn : ∀ i, n ≤ i → hget h i = none) (e : oPut P t m y z fr h n = some x) : Oo P o fr h n x := by
  obtain ⟨p, hp, e⟩ := bind_some e
  obtain ⟨hk, e⟩ := bif_some e
  have hmt := mapT_some hp
  obtain ⟨d, hd1, hd2⟩ := isKey_some hk
  unfold oPutV at e
  split at e
  · rename_i j hv
    obtain ⟨cs, hcs, e⟩ := bind_some e
    obtain ⟨r, hr, e⟩ := bind_some e
    have hj := hget_lt hcs
    have key : ∀ cs', (∀ (k : K) (W : World) (b : Nat) (es : Array MapEntry) (u : Value), VX k (evo fr z) u → MapAt W b es → LR (VX k) cs (kvs es) → ∃ es', LR (VX k) cs' (kvs es') ∧ (∀ (j : Nat) (e : MapEntry), es'[j]? = some e → e.born = j) ∧ (Instr.mapUpdate t (.map (some b)) (evo fr y) u).run P W = .ok () { W with heap := W.heap.setIfInBounds b (.map es' es'.size) }) → Oo P o fr h n ⟨undef, hs12 h j (some cs'), n, bit j, bit j⟩ := by
      intro cs' hl
      refine ⟨Ss.write nn hj hcs, fun k W a K' Q hop H _ hk => ?_⟩
      have h1 := hop m (by rcases ho with ho | ho <;> simp [ho, Op.operands])
      have h2 := isKey_eq hd2 (hop y (by rcases ho with ho | ho <;> simp [ho, Op.operands]))
      have h9 := hop z (by rcases ho with ho | ho <;> simp [ho, Op.operands])
      rw [hv] at h1
      obtain ⟨b, hb, h3⟩ := h1.map_inv
      obtain ⟨es, e1, e2⟩ := (H.rep j (tb_bit.2 rfl) cs hcs).map hb
      obtain ⟨es', h4, hbo, h5⟩ := hl k W b es _ h9 e1 e2
      have hlt := (Array.getElem?_eq_some_iff.1 e1.1).1
      unfold Oper.wp
      have : (execOp a.eval o).run P W = .ok .skip { W with heap := W.heap.setIfInBounds b (.map es' es'.size) } := by rcases ho with ho | ho <;> simp [execOp, ho, h2, h3, h5]
      rw [this, Oper.upon_skip]
      refine hk undef _ k (Sd.writeM (B := b) (es := es') hj hcs hb ⟨by show (W.heap.setIfInBounds b _)[b]? = _; simp [hlt], hbo⟩ h4 (fun b' hne _ => by show (W.heap.setIfInBounds b _)[b']? = _; rw [Array.getElem?_setIfInBounds_ne (Ne.symm hne)]) (by show _ ≤ (W.heap.setIfInBounds b _).size; simp) rfl ⟨rfl, Nat.le_refl _⟩ rfl (fun ad => by
        by_cases eb : ad.block = b
        · have h9 : (W.heap.setIfInBounds b (.map es' es'.size))[b]? = some (.map es' es'.size) := by simp [hlt]
          simp only [World.frozen?, eb, h9, e1.1]
        · refine World.frozen?_of_block ?_
          show (W.heap.setIfInBounds b _)[ad.block]? = _
          rw [Array.getElem?_setIfInBounds_ne (fun e2 => eb e2.symm)])) undef_vx
    cases r with
    | none =>
      cases e
      refine key _ fun k W b es u hu e1 e2 => ⟨es.push { key := evo fr y, val := u, born := es.size }, ?_, born_push e1.2, ?_⟩
      · have : kvs (es.push { key := evo fr y, val := u, born := es.size }) = kvs es ++ [evo fr y, u] := by simp [kvs]
        rw [this]
        refine e2.app ⟨_, _, rfl, ?_, _, _, rfl, hu, rfl⟩
        rcases hd2 with ⟨_, s, hs⟩ | ⟨_, j', x', hs⟩ <;> rw [hs] <;> exact VX.of0 rfl
      · have h6 : Instr.findNow d (evo fr y) es.toList 0 = some none := mfd_ok hd2 es.toList cs 0 none e2 hr
        unfold Instr.mapUpdate
        simp [run_underlying hmt, MapKept.run_getObj_map e1.1, ck_run hd1 hd2, Instr.findKey, run_underlying hd1, h6, MapKept.run_setObj_map _ e1.1, Result.andThen, Array.size_push]
    | some q =>
      obtain ⟨jj, v⟩ := q
      cases e
      refine key _ fun k W b es u hu e1 e2 => ?_
      obtain ⟨_, ⟨u', h7, h8⟩, ⟨en, h9, h10⟩, h11⟩ := mfd_ok hd2 es.toList cs 0 (some (jj, v)) e2 hr
      rw [Nat.sub_zero] at h9 h11
      refine ⟨es.modify jj fun e => { e with key := evo fr y, val := u }, ?_, born_mod e1.2 (fun _ => rfl), ?_⟩
      · have := h11 (evo fr z) u hu
        unfold kvs
        rw [Array.toList_modify]; exact this
      · have h12 : (es[jj]?).map (·.key) = some (evo fr y) := by rw [← Array.getElem?_toList, h9, Option.map_some, h10]
        have h13 : Instr.sameBits 10000 (evo fr y) (evo fr y) = true := by
          rcases hd2 with ⟨_, s, hs⟩ | ⟨_, j', x', hs⟩
          · rw [hs]; exact (MapKept.bytes_beq s s).2 rfl
          · rw [hs]; simp [Instr.sameBits]
        unfold Instr.mapUpdate
        simp only [Sem.run_bind, run_underlying hmt, MapKept.run_getObj_map e1.1, ck_run hd1 hd2, Instr.findKey, run_underlying hd1, h8, Result.andThen_ok, Sem.run_pure, h12, Option.getD_some, Instr.keyThatStays, h13, if_true, MapKept.run_setObj_map _ e1.1, Array.size_modify]
  · cases e
theorem s_min {ts : Array TypeId} {xs : Array Operand} (ho : o.op = .call { callee := .builtin .min, args := xs, argTypes := ts }) (e : oMin P (evl fr xs.toList) h n = some x) : Oo P o fr h n x := by
  obtain ⟨h1, e⟩ := bif_some e
  obtain ⟨v, h2, e⟩ := bind_some e
  obtain ⟨h3, e⟩ := bif_some e
  refine Oo.val e fun k W a hop => ⟨v, flat1_vx h3, ?_⟩
  have h4 := evl_rel (fr := fr) (k := k) (a := a) xs.toList (fun y hy => hop y (by rw [ho]; simpa [Op.operands, Call.operands] using hy))
  have h5 := flatL_eq h4 h1
  have h6 : xs.map a.eval = (evl fr xs.toList).toArray := by apply Array.ext'; rw [← h5]; simp
  have h7 := pr_run _ _ h2 W
  simp only [execOp, ho, resolve, invoke, builtin, Sem.run_bind, Sem.run_pure, Result.andThen_ok, h6]
  rw [show Builtin.min_ ts o.type (evl fr xs.toList).toArray = Builtin.min_ #[] 0 (evl fr xs.toList).toArray from rfl, h7]
  rfl
/-- Every operation. -/
theorem s_op {cf : Nat → List Value → HT → Nat → Option R5} (hcf : Cs P cf) (nn : ∀ i, n ≤ i → hget h i = none) (e : op1 P cf o.op fr h n = some x) : Oo P o fr h n x := by
  cases hop : o.op with
  | move y => rw [hop] at e; exact s_move (Or.inl hop) e
  | assign y => rw [hop] at e; exact s_move (Or.inr hop) e
  | pick c y z => rw [hop] at e; exact s_pick hop e
  | extract y i => rw [hop] at e; exact s_ext hop e
  | nilCheck y => rw [hop] at e; exact s_nil hop e
  | fieldAddr t y f => rw [hop] at e; exact s_field hop e
  | indexAddr t y i => rw [hop] at e; exact s_indA hop e
  | index t y i => rw [hop] at e; exact s_ind2 hop e
  | field s y f => rw [hop] at e; exact s_fieldV hop e
  | slice t y l i m => rw [hop] at e; exact s_slice hop e
  | build t ps => rw [hop] at e; exact s_build hop e
  | buildSlice t l ps => rw [hop] at e; exact s_buildS hop nn e
  | load t y => rw [hop] at e; exact s_load hop e
  | store t y z => rw [hop] at e; exact s_store hop nn e
  | alloc t => rw [hop] at e; exact s_alloc hop nn e
  | box t y => rw [hop] at e; exact s_box hop nn e
  | binOp p t y z u => rw [hop] at e; exact s_bin hop e
  | unOp p t y => rw [hop] at e; exact s_un hop e
  | convert s d y => rw [hop] at e; exact s_conv hop e
  | makeSlice t l c => rw [hop] at e; exact s_make hop nn e
  | makeFunc f a c => rw [hop] at e; exact s_func hop e
  | makeMap t r => rw [hop] at e; exact s_map hop e
  | lookup t y i ok => rw [hop] at e; exact s_get hop e
  | mapUpdate t m y z => rw [hop] at e; exact s_put (Or.inl hop) nn e
  | insert t m y z => rw [hop] at e; exact s_put (Or.inr hop) nn e
  | call c =>
    rw [hop] at e
    obtain ⟨cal, xs, ts⟩ := c
    cases cal with
    | value y => exact s_call hcf hop nn e
    | builtin b => cases b with
      | len => exact s_len hop e
      | append => exact s_app hop nn e
      | min => exact s_min hop e
      | _ => cases e
    | invoke r m => cases e
  | _ => rw [hop] at e; cases e
end
end E
end Go.Proofs.YtfmfeipeeedfpaaGreat
namespace Go.Proofs.YtfmfeipeeedfpaaGreat
namespace E
open Go.CheckFast (force force_eq)
/-- A frame that was reckoned against one of the run. -/
structure FR (k : K) (f : FT) (a : Act) : Prop where
  m : f.m = a.tmps.size
  le : f.m ≤ 256
  get : ∀ t, VX k (fget f t) (a.tmps.getD t undef)
  df : a.defers = []
theorem ev_of {k : K} {f : FT} {a : Act} (y : Operand) (h : ∀ t, y = .tmp t → VX k (fget f t) (a.tmps.getD t undef)) : VX k (evo f y) (a.eval y) := by
  cases y with
  | tmp t => exact h t rfl
  | const v =>
    show VX k (bif cok v then v else unk) v
    cases hc : cok v with
    | true => exact cok_vx hc
    | false => exact unk_vx
  | global g => exact unk_vx
  | func g => exact VX.func (cs := []) (us := []) rfl
theorem FR.ev {k : K} {f : FT} {a : Act} (h : FR k f a) (y : Operand) : VX k (evo f y) (a.eval y) := ev_of y fun t _ => h.get t
theorem FR.mono {k k' : K} {f : FT} {a : Act} (h : FR k f a) (e : ∀ i p, k i = some p → k' i = some p) : FR k' f a := ⟨h.m, h.le, fun t => (h.get t).mono e, h.df⟩
theorem put_m (f : FT) (d : Option Tmp) (v : Value) : (put f d v).m = f.m := by
  cases d with
  | none => rfl
  | some t => exact fput_m f t v
theorem put_sz (a : Act) (d : Option Tmp) (u : Value) : (a.put d u).tmps.size = a.tmps.size := by
  cases d with
  | none => rfl
  | some t => simp [Act.put]
theorem put_df (a : Act) (d : Option Tmp) (u : Value) : (a.put d u).defers = a.defers := by
  cases d with
  | none => rfl
  | some t => rfl
/-- One slot after it was written. -/
theorem put_get {k : K} {f : FT} {a : Act} {d : Option Tmp} {v u : Value} (hm : f.m = a.tmps.size) (hle : f.m ≤ 256) (hv : VX k v u) (t : Nat) (h : VX k (fget f t) (a.tmps.getD t undef)) : VX k (fget (put f d v) t) ((a.put d u).tmps.getD t undef) := by
  cases d with
  | none => exact h
  | some s =>
    simp only [put, Act.put]
    by_cases e : s = t
    · subst e
      by_cases hs : s < f.m
      · rw [fget_same v hle hs]
        have : s < a.tmps.size := hm ▸ hs
        simpa [this] using hv
      · have h1 : fput f s v = f := by unfold fput; rw [blt_f hs]; rfl
        rw [h1]
        have : ¬ s < a.tmps.size := hm ▸ hs
        simpa [this] using h
    · rw [fget_ne v hle e]
      have : (a.tmps.setIfInBounds s u).getD t undef = a.tmps.getD t undef := by
        simp [Array.getD_eq_getD_getElem?, Array.getElem?_setIfInBounds_ne e]
      rw [this]
      exact h
theorem FR.put {k : K} {f : FT} {a : Act} {v u : Value} (h : FR k f a) (d : Option Tmp) (hv : VX k v u) : FR k (E.put f d v) (a.put d u) :=
  ⟨by rw [put_m, put_sz]; exact h.m, by rw [put_m]; exact h.le, fun t => put_get h.m h.le hv t (h.get t), by rw [put_df]; exact h.df⟩
theorem want_of {k : K} {f : FT} {a : Act} {ops : Array Oper} {o : Oper} {b : Bool} (e : want f ops o.guard = some b)
    (h : ∀ j w t, o.guard = some (j, w) → (ops[j]?).bind (·.dst) = some t → VX k (fget f t) (a.tmps.getD t undef)) : Region.wanted o (yielded ops a.tmps) = b := by
  unfold want at e
  unfold Region.wanted
  split at e
  · rename_i hg; cases e; rw [hg]
  · rename_i j w hg
    rw [hg]
    simp only
    split at e
    · rename_i t ht
      have h1 := h j w t hg ht
      unfold yielded
      rw [ht]
      simp only [Option.bind_some]
      split at e
      · rename_i c hc
        cases e
        rw [hc] at h1
        have h2 := h1.bool_inv
        rw [Array.getD_eq_getD_getElem?] at h2
        cases h3 : a.tmps[t]? with
        | none => rw [h3] at h2; cases h2
        | some u => rw [h3] at h2; simp at h2; subst h2; cases c <;> cases w <;> rfl
      · rename_i vs hc
        cases e
        rw [hc] at h1
        obtain ⟨us, h2, _⟩ := h1.tuple_inv
        rw [Array.getD_eq_getD_getElem?] at h2
        cases h3 : a.tmps[t]? with
        | none => cases w <;> rfl
        | some u => rw [h3] at h2; simp at h2; subst h2; cases w <;> rfl
      · cases e
    · cases e
/-- One operation of a region. -/
def StepR (P : Program) (cf : Nat → List Value → HT → Nat → Option R5) (ops : Array Oper) (s : RL) (o : Oper) (s1 : RL) : Prop :=
  (want s.f ops o.guard = some true ∧ ∃ x, op1 P cf o.op s.f s.h s.n = some x ∧ s1 = ⟨put s.f o.dst x.v, x.h, x.n, Nat.lor s.r x.r, Nat.lor s.w x.w, (x.r, x.w) :: s.l⟩) ∨
  (want s.f ops o.guard = some false ∧ s1 = ⟨put s.f o.dst undef, s.h, s.n, s.r, s.w, (0, 0) :: s.l⟩)
theorem opsL_step {P : Program} {cf : Nat → List Value → HT → Nat → Option R5} {ops : Array Oper} {o : Oper} {rest : List Oper} {s s' : RL} (e : opsL P cf ops (o :: rest) s = some s') : ∃ s1, StepR P cf ops s o s1 ∧ opsL P cf ops rest s1 = some s' := by
  simp only [opsL] at e
  obtain ⟨b, hb, e⟩ := bind_some e
  cases b with
  | true =>
    obtain ⟨x, hx, e⟩ := bind_some (x := op1 P cf o.op s.f s.h s.n) e
    rw [force_eq, force_eq, force_eq] at e
    exact ⟨_, Or.inl ⟨hb, x, hx, rfl⟩, e⟩
  | false => exact ⟨_, Or.inr ⟨hb, rfl⟩, e⟩
theorem Ss.congr {h h' : HT} {n n' r w r' w' : Nat} (s : Ss h n h' n' r w) (hr : ∀ i, tb r i ↔ tb r' i) (hw : ∀ i, tb w i ↔ tb w' i) : Ss h n h' n' r' w' :=
  ⟨s.le, s.nn, fun i hi => s.same i (fun h => hi ((hw i).1 h)), fun i hi hn => (hr i).1 (s.old i ((hw i).2 hi) hn), fun i hi => s.lt i ((hw i).2 hi), s.back⟩
theorem Sd.congr {h h' : HT} {n n' r w r' w' : Nat} {k k' : K} {W W' : World} (d : Sd h n h' n' r w k W k' W') (hr : ∀ i, tb r i ↔ tb r' i) (hw : ∀ i, tb w i ↔ tb w' i) : Sd h n h' n' r' w' k W k' W' :=
  ⟨d.ext, d.dom, d.rep.sub (fun i hi => by rw [tb_or] at hi ⊢; exact hi.imp (hr i).2 (hw i).2), fun b hb hj => d.frm b hb (fun j z hj' => hj j z ((hw j).1 hj')),
    fun i b z h1 h2 h3 h4 => (d.fresh i b z h1 h2 h3 h4).imp id (fun ⟨j, z', a, b⟩ => ⟨j, z', (hw j).1 a, b⟩), d.size, d.os, d.tape, d.output, d.fz⟩
/-- What is said of a step. -/
theorem step_ok {P : Program} {cf : Nat → List Value → HT → Nat → Option R5} {ops : Array Oper} {o : Oper} {s s1 : RL} (hcf : Cs P cf) (nn : ∀ i, s.n ≤ i → hget s.h i = none) (e : StepR P cf ops s o s1) :
    ∃ r w v, s1.l = (r, w) :: s.l ∧ s1.f = put s.f o.dst v ∧ (∀ i, tb s1.r i ↔ tb s.r i ∨ tb r i) ∧ (∀ i, tb s1.w i ↔ tb s.w i ∨ tb w i) ∧ Ss s.h s.n s1.h s1.n r w ∧
      ∀ (k : K) (W : World) (a : Act) (K' : Act → World → Prop) (Q : Exit → Act → World → Prop), s.f.m = a.tmps.size → (∀ y ∈ o.op.operands.toList, VX k (evo s.f y) (a.eval y)) → (∀ j w t, o.guard = some (j, w) → (ops[j]?).bind (·.dst) = some t → VX k (fget s.f t) (a.tmps.getD t undef)) →
        HR k s.h W r → (∀ i, s.n ≤ i → i < s1.n → k i = none) → (∀ u W' k', Sd s.h s.n s1.h s1.n r w k W k' W' → VX k' v u → K' (a.put o.dst u) W') →
        if Region.wanted o (yielded ops a.tmps) = true then o.wp P a W K' Q else K' (a.put o.dst undef) W := by
  rcases e with ⟨hw, x, hx, rfl⟩ | ⟨hw, rfl⟩
  · have ho := s_op hcf nn hx
    refine ⟨x.r, x.w, x.v, rfl, rfl, fun i => tb_or, fun i => tb_or, ho.ss, fun k W a K' Q _ hop hg H hnew hk => ?_⟩
    rw [want_of hw hg, if_pos rfl]
    exact ho.ok k W a K' Q hop H hnew hk
  · refine ⟨0, 0, undef, rfl, rfl, fun i => ⟨Or.inl, fun h => h.resolve_right tb_zero⟩, fun i => ⟨Or.inl, fun h => h.resolve_right tb_zero⟩, Ss.refl _ _, fun k W a K' Q _ hop hg H hnew hk => ?_⟩
    rw [want_of hw hg, if_neg (by simp)]
    exact hk undef W k (Sd.refl _ _ _ _) undef_vx
/-- One behind the other. -/
theorem list_ok {P : Program} {cf : Nat → List Value → HT → Nat → Option R5} {ops : Array Oper} (hcf : Cs P cf) : ∀ (l : List Oper) (s s' : RL), (∀ i, s.n ≤ i → hget s.h i = none) → opsL P cf ops l s = some s' →
    ∃ r w, (∀ i, tb s'.r i ↔ tb s.r i ∨ tb r i) ∧ (∀ i, tb s'.w i ↔ tb s.w i ∨ tb w i) ∧ Ss s.h s.n s'.h s'.n r w ∧
      ∀ (k : K) (W : World) (a : Act) (Q : Exit → Act → World → Prop), FR k s.f a → HR k s.h W r → (∀ i, s.n ≤ i → i < s'.n → k i = none) → (∀ k' W' a', Sd s.h s.n s'.h s'.n r w k W k' W' → FR k' s'.f a' → Q .normal a' W') → wpList P ops Q l a W
  | [], s, s', nn, e => by
    cases e
    exact ⟨0, 0, fun i => ⟨Or.inl, fun h => h.resolve_right tb_zero⟩, fun i => ⟨Or.inl, fun h => h.resolve_right tb_zero⟩, Ss.refl _ _, fun k W a Q hf _ _ hk => wpList_nil (hk k W a (Sd.refl _ _ _ _) hf)⟩
  | o :: l, s, s', nn, e => by
    obtain ⟨s1, h1, e⟩ := opsL_step e
    obtain ⟨r1, w1, v, _, hf1, hr1, hw1, ss1, ok1⟩ := step_ok hcf nn h1
    obtain ⟨r2, w2, hr2, hw2, ss2, ok2⟩ := list_ok hcf l s1 s' (ss1.nn nn) e
    refine ⟨Nat.lor r1 r2, Nat.lor w1 w2, fun i => by rw [hr2, hr1, tb_or, or_assoc], fun i => by rw [hw2, hw1, tb_or, or_assoc], ss1.trans ss2, fun k W a Q hf H hnew hk => ?_⟩
    refine wpList_step fun K hK => ?_
    refine ok1 k W a K Q hf.m (fun y _ => hf.ev y) (fun j w t _ _ => hf.get t) (H.sub fun i hi => tb_or.2 (Or.inl hi)) (fun i h1 h2 => hnew i h1 (Nat.lt_of_lt_of_le h2 ss2.le)) (fun u W' k' hd hv => hK _ _ ?_)
    have H2 := Sd.next ss1 hd nn H
    refine ok2 k' W' _ Q (by rw [hf1]; exact (hf.mono hd.ext).put o.dst hv) (H2.sub fun i hi => tb_or.2 (Or.inr hi)) (fun i h1 h2 => by rw [hd.dom i (Or.inr h1)]; exact hnew i (Nat.le_trans ss1.le h1) h2) (fun k2 W2 a2 hd2 hf2 => hk k2 W2 a2 (Sd.trans ss1 hd ss2 hd2 nn H) hf2)
end E
end Go.Proofs.YtfmfeipeeedfpaaGreat
namespace Go.Proofs.YtfmfeipeeedfpaaGreat
namespace E
open Go.CheckFast (force force_eq)
section
variable {P : Program} {ops : Array Oper} {Q : Exit → Act → World → Prop}
theorem count_set : ∀ (l : List Bool) (i : Nat), l[i]? = some false → (l.set i true).count false + 1 = l.count false
  | [], _, h => by cases h
  | b :: l, 0, h => by simp at h; subst h; simp
  | b :: l, i + 1, h => by
    have := count_set l i (by simpa using h)
    simp only [List.set_cons_succ, List.count_cons]
    omega
theorem edgesBack_spec (h : edgesBack ops = true) {i : Nat} {o : Oper} (ho : ops[i]? = some o) : ∀ e ∈ o.after, Region.binds .any e = true → e.on < i := by
  intro e he hb
  have h1 := List.all_eq_true.1 h i (List.mem_range.2 (Array.getElem?_eq_some_iff.1 ho).1)
  simp only [ho] at h1
  have h2 := Array.all_eq_true_iff_forall_mem.1 h1 e he
  simpa [hb] using h2
theorem all_listed (hb : edgesBack ops = true) {listed : Array Bool} (hr : Region.ready .any ops listed = []) : ∀ i, i < ops.size → listed.getD i true = true := by
  intro i
  induction i using Nat.strongRecOn with
  | ind i ih =>
    intro hi
    cases hl : listed.getD i true with
    | true => rfl
    | false =>
      have hm : i ∈ Region.ready .any ops listed := mem_ready.2 ⟨hl, ops[i], by simp [hi], fun e he hbd => by
        have hlt := edgesBack_spec hb (i := i) (o := ops[i]) (by simp [hi]) e he hbd
        have h1 := ih e.on hlt (Nat.lt_trans hlt hi)
        have hsz : i < listed.size := by
          rcases Nat.lt_or_ge i listed.size with h' | h'
          · exact h'
          · simp [Array.getElem?_eq_none h'] at hl
        have : e.on < listed.size := Nat.lt_trans hlt hsz
        simpa [this] using h1⟩
      rw [hr] at hm; cases hm
/-- An invariant over what has come up. -/
theorem wpAny_inv (I : Array Bool → Act → World → Prop) (hb : edgesBack ops = true)
    (hstep : ∀ listed a w i o, I listed a w → ops[i]? = some o → listed.getD i true = false → (∀ e ∈ o.after, Region.binds .any e = true → listed.getD e.on false = true) → wpOp P ops Q i (I (listed.setIfInBounds i true)) a w)
    (hend : ∀ listed a w, I listed a w → (∀ i, i < ops.size → listed.getD i true = true) → Q .normal a w) :
    ∀ (fuel : Nat) (listed : Array Bool) (a : Act) (w : World), listed.toList.count false ≤ fuel → I listed a w → wpAny P .any ops Q fuel listed a w := by
  intro fuel
  induction fuel with
  | zero =>
    intro listed a w hc hI
    have hr : Region.ready .any ops listed = [] := by
      rw [List.eq_nil_iff_forall_not_mem]
      intro i hi
      obtain ⟨h0, _⟩ := mem_ready.1 hi
      have : false ∈ listed.toList := by
        rcases Nat.lt_or_ge i listed.size with h' | h'
        · simp [h'] at h0; rw [← h0]; simp
        · simp [Array.getElem?_eq_none h'] at h0
      have := List.count_pos_iff.2 this
      omega
    exact ⟨hr, hend _ _ _ hI (all_listed hb hr)⟩
  | succ fuel ih =>
    intro listed a w hc hI
    refine ⟨fun hr => hend _ _ _ hI (all_listed hb hr), fun i hi => ?_⟩
    obtain ⟨h0, o, ho, hall⟩ := mem_ready.1 hi
    refine wpOp_mono (fun a' w' h' => ih _ a' w' ?_ h') (hstep _ _ _ _ _ hI ho h0 hall)
    have h1 : listed.toList[i]? = some false := by
      rcases Nat.lt_or_ge i listed.size with h' | h'
      · simp [h'] at h0; simp [h', h0]
      · simp [Array.getElem?_eq_none h'] at h0
    have := count_set _ _ h1
    simp only [Array.toList_setIfInBounds]
    omega
end
/-! Who waits for whom. -/
theorem fold_bit (A : Array Nat) (i : Nat) : ∀ (l : List Edge) (s : Nat), (l.foldl (fun s e => if Region.binds .any e then s ||| 2 ^ e.on ||| A.getD e.on 0 else s) s).testBit i = true →
    s.testBit i = true ∨ ∃ e ∈ l, Region.binds .any e = true ∧ (e.on = i ∨ (A.getD e.on 0).testBit i = true)
  | [], s, h => Or.inl h
  | e :: l, s, h => by
    rw [List.foldl_cons] at h
    rcases fold_bit A i l _ h with h | ⟨e', h1, h2⟩
    · by_cases hb : Region.binds .any e = true
      · rw [if_pos hb, Nat.testBit_or, Nat.testBit_or] at h
        simp only [Bool.or_eq_true] at h
        rcases h with (h | h) | h
        · exact Or.inl h
        · rw [Nat.testBit_two_pow] at h
          exact Or.inr ⟨e, by simp, hb, Or.inl (by simpa using h)⟩
        · exact Or.inr ⟨e, by simp, hb, Or.inr h⟩
      · rw [if_neg hb] at h; exact Or.inl h
    · exact Or.inr ⟨e', by simp [h1], h2⟩
def BP (L : List Oper) (A : Array Nat) : Prop := ∀ j i, (A.getD j 0).testBit i = true → ∃ o, L[j]? = some o ∧ ∃ e ∈ o.after, Region.binds .any e = true ∧ (e.on = i ∨ (e.on < j ∧ (A.getD e.on 0).testBit i = true))
theorem before_go (L : List Oper) : ∀ (l : List Oper) (A : Array Nat), L = L.take A.size ++ l → A.size ≤ L.length → BP L A →
    BP L (l.foldl (fun acc o => acc.push (o.after.foldl (fun s e => if Region.binds .any e then s ||| 2 ^ e.on ||| acc.getD e.on 0 else s) 0)) A)
  | [], A, _, _, h => h
  | o :: l, A, hL, hle, h => by
    rw [List.foldl_cons]
    have hlen : A.size < L.length := by
      have := congrArg List.length hL
      simp at this
      omega
    have ho : L[A.size]? = some o := by rw [hL, List.getElem?_append_right (by simp; omega)]; simp [Nat.min_eq_left hle]
    refine before_go L l _ ?_ (by simp; omega) ?_
    · rw [Array.size_push, List.take_add_one, ho]
      simp only [Option.toList_some, List.append_assoc, List.singleton_append]
      exact hL
    · intro j i hb
      rcases Nat.lt_trichotomy j A.size with hj | hj | hj
      · have e1 : ∀ x m, m < A.size → (A.push x).getD m 0 = A.getD m 0 := fun x m hm => by
          simp only [Array.getD_eq_getD_getElem?, Array.getElem?_push, if_neg (show ¬ m = A.size by omega)]
        rw [e1 _ j hj] at hb
        obtain ⟨o', h1, e, h2, h3, h4⟩ := h j i hb
        refine ⟨o', h1, e, h2, h3, h4.imp id (fun ⟨a, b⟩ => ⟨a, by rw [e1 _ _ (by omega)]; exact b⟩)⟩
      · subst hj
        have e2 : ∀ x, (A.push x).getD A.size 0 = x := fun x => by simp
        rw [e2, ← Array.foldl_toList] at hb
        rcases fold_bit A i _ _ hb with h0 | ⟨e, h1, h2, h3⟩
        · simp at h0
        · refine ⟨o, ho, e, by simpa using h1, h2, h3.imp id (fun h5 => ?_)⟩
          have h6 : e.on < A.size := by
            rcases Nat.lt_or_ge e.on A.size with h' | h'
            · exact h'
            · simp [Array.getD_eq_getD_getElem?, Array.getElem?_eq_none h'] at h5
          refine ⟨h6, ?_⟩
          simp only [Array.getD_eq_getD_getElem?, Array.getElem?_push, if_neg (show ¬ e.on = A.size by omega)]
          simpa [Array.getD_eq_getD_getElem?] using h5
      · exfalso
        rw [Array.getD_eq_getD_getElem?, Array.getElem?_eq_none (by simp; omega)] at hb
        simp at hb
theorem before_bp (ops : Array Oper) : BP ops.toList (Region.before ops) := by
  unfold Region.before
  rw [← Array.foldl_toList]
  exact before_go ops.toList ops.toList #[] (by simp) (by simp) (fun j i h => by simp at h)
/-- What an operation waits for, by however many steps, has come up. -/
theorem waits {ops : Array Oper} {listed : Array Bool} (hs : ∀ j o, ops[j]? = some o → listed.getD j false = true → ∀ e ∈ o.after, Region.binds .any e = true → listed.getD e.on false = true) :
    ∀ (j : Nat) (o : Oper), ops[j]? = some o → (∀ e ∈ o.after, Region.binds .any e = true → listed.getD e.on false = true) → ∀ i, ((bef ops).getD j 0).testBit i = true → listed.getD i false = true := by
  intro j
  induction j using Nat.strongRecOn with
  | ind j ih =>
    intro o ho hall i hb
    have hb' : ((Region.before ops).getD j 0).testBit i = true := by
      have : (bef ops).getD j 0 = (Region.before ops).getD j 0 := by
        unfold bef
        rw [Go.CheckFast.beforeF_eq]
        simp [List.getD_eq_getElem?_getD, Array.getD_eq_getD_getElem?]
      rw [← this]; exact hb
    obtain ⟨o', h1, e, h2, h3, h4⟩ := before_bp ops j i hb'
    have : o' = o := by rw [Array.getElem?_toList, ho] at h1; cases h1; rfl
    subst this
    rcases h4 with h4 | ⟨h4, h5⟩
    · rw [← h4]; exact hall e h2 h3
    · have hel := hall e h2 h3
      have hes : e.on < ops.size := by have := (Array.getElem?_eq_some_iff.1 ho).1; omega
      refine ih e.on h4 ops[e.on] (by simp [hes]) (hs e.on _ (by simp [hes]) hel) i ?_
      unfold bef
      rw [Go.CheckFast.beforeF_eq]
      simpa [List.getD_eq_getElem?_getD, Array.getD_eq_getD_getElem?] using h5
/-! Not at odds. -/
def dl (f : Nat → Nat × Nat) : Nat → List (Nat × Nat)
  | 0 => []
  | i + 1 => f i :: dl f i
theorem odds_spec {f : Nat → Nat × Nat} {b r w : Nat} : ∀ {j : Nat}, odds b r w j (dl f j) = true → ∀ i, i < j → b.testBit i = true ∨ (Nat.land w (Nat.lor (f i).1 (f i).2) = 0 ∧ Nat.land (f i).2 r = 0)
  | 0, _, i, hi => by omega
  | j + 1, h, i, hi => by
    simp only [dl, odds, Nat.pred_succ] at h
    obtain ⟨h1, h2⟩ : (b.testBit j || (Nat.beq (Nat.land w (Nat.lor (f j).1 (f j).2)) 0 && Nat.beq (Nat.land (f j).2 r) 0)) = true ∧ odds b r w j (dl f j) = true := by
      revert h
      cases (b.testBit j || (Nat.beq (Nat.land w (Nat.lor (f j).1 (f j).2)) 0 && Nat.beq (Nat.land (f j).2 r) 0)) <;> intro h <;> first | cases h | exact ⟨rfl, h⟩
    by_cases e : i = j
    · subst e
      simp only [Bool.or_eq_true, Bool.and_eq_true, Nat.beq_eq] at h1
      exact h1
    · exact odds_spec h2 i (by omega)
theorem drawn_spec {f : Nat → Nat × Nat} {bs : List Nat} : ∀ {n : Nat}, drawn bs n (dl f n) = true → ∀ i j, i < j → j < n → (bs.getD j 0).testBit i = true ∨ (Nat.land (f j).2 (Nat.lor (f i).1 (f i).2) = 0 ∧ Nat.land (f i).2 (f j).1 = 0)
  | 0, _, i, j, _, hj => by omega
  | n + 1, h, i, j, hi, hj => by
    simp only [dl, drawn, Nat.pred_succ] at h
    obtain ⟨h1, h2⟩ : odds (bs.getD n 0) (f n).1 (f n).2 n (dl f n) = true ∧ drawn bs n (dl f n) = true := by
      revert h
      cases odds (bs.getD n 0) (f n).1 (f n).2 n (dl f n) <;> intro h <;> first | cases h | exact ⟨rfl, h⟩
    by_cases e : j = n
    · subst e
      exact odds_spec h1 i hi
    · exact drawn_spec h2 i j hi (by omega)
theorem land_zero {a b i : Nat} (h : Nat.land a b = 0) (ha : tb a i) (hb : tb b i) : False := by
  have : (a &&& b).testBit i = true := by rw [Nat.testBit_and, ha, hb]; rfl
  rw [show a &&& b = Nat.land a b from rfl, h] at this
  simp at this
/-- Of two that are at odds at a place one waits for the other. -/
theorem order {ops : Array Oper} {listed : Array Bool} {f : Nat → Nat × Nat} (hd : drawn (bef ops) ops.size (dl f ops.size) = true)
    (hs : ∀ j o, ops[j]? = some o → listed.getD j false = true → ∀ e ∈ o.after, Region.binds .any e = true → listed.getD e.on false = true)
    {i : Nat} {o : Oper} (ho : ops[i]? = some o) (hu : ¬ listed.getD i false = true) (hall : ∀ e ∈ o.after, Region.binds .any e = true → listed.getD e.on false = true)
    {m : Nat} (hm : tb (f i).1 m ∨ tb (f i).2 m) : ∀ j, j < ops.size → tb (f j).2 m → (listed.getD j false = true ↔ j < i) := by
  intro j hj hw
  have hi := (Array.getElem?_eq_some_iff.1 ho).1
  rcases Nat.lt_trichotomy j i with h | h | h
  · refine ⟨fun _ => h, fun _ => ?_⟩
    rcases drawn_spec hd j i h hi with h1 | ⟨h1, h2⟩
    · exact waits hs i o ho hall j h1
    · rcases hm with hm | hm
      · exact (land_zero h2 hw hm).elim
      · exact (land_zero h1 hm (tb_or.2 (Or.inr hw))).elim
  · subst h
    exact ⟨fun h => absurd h hu, fun h => absurd h (by omega)⟩
  · refine ⟨fun hl => ?_, fun h' => absurd h' (by omega)⟩
    exfalso
    rcases drawn_spec hd i j h hj with h1 | ⟨h1, h2⟩
    · exact hu (waits hs j ops[j] (by simp [hj]) (hs j _ (by simp [hj]) hl) i h1)
    · exact land_zero h1 hw (tb_or.2 hm)
theorem opsL_states {P : Program} {cf : Nat → List Value → HT → Nat → Option R5} {ops : Array Oper} : ∀ (l : List Oper) (s s' : RL), opsL P cf ops l s = some s' → ∃ st : Nat → RL, st 0 = s ∧ st l.length = s' ∧ ∀ i o, l[i]? = some o → StepR P cf ops (st i) o (st (i + 1))
  | [], s, s', e => by cases e; exact ⟨fun _ => s, rfl, rfl, fun i o h => by cases h⟩
  | o :: l, s, s', e => by
    obtain ⟨s1, h1, e⟩ := opsL_step e
    obtain ⟨st, h2, h3, h4⟩ := opsL_states l s1 s' e
    refine ⟨fun i => match i with | 0 => s | i + 1 => st i, rfl, h3, fun i o' h => ?_⟩
    cases i with
    | zero => simp at h; subst h; show StepR P cf ops s o (st 0); rw [h2]; exact h1
    | succ i => exact h4 i o' (by simpa using h)
end E
end Go.Proofs.YtfmfeipeeedfpaaGreat
namespace Go.Proofs.YtfmfeipeeedfpaaGreat
namespace E
open Go.CheckFast (force force_eq)
/-- Among those that touch a place just those ahead of a cut have come up. -/
def Cn (N : Nat) (L : Nat → Prop) (wr : Nat → Prop) (c : Nat) : Prop := ∀ j, j < N → wr j → (L j ↔ j < c)
def wt (ops : Array Oper) (t j : Nat) : Prop := ∃ o, ops[j]? = some o ∧ o.dst = some t
structure Dt (P : Program) (ops : Array Oper) (st : Nat → RL) (r w : Nat → Nat) (v : Nat → Value) (i : Nat) (o : Oper) : Prop where
  l : (st (i + 1)).l = (r i, w i) :: (st i).l
  f : (st (i + 1)).f = put (st i).f o.dst (v i)
  mr : ∀ j, tb (st (i + 1)).r j ↔ tb (st i).r j ∨ tb (r i) j
  mw : ∀ j, tb (st (i + 1)).w j ↔ tb (st i).w j ∨ tb (w i) j
  ss : Ss (st i).h (st i).n (st (i + 1)).h (st (i + 1)).n (r i) (w i)
  ok : ∀ (k : K) (W : World) (a : Act) (K' : Act → World → Prop) (Q : Exit → Act → World → Prop), (st i).f.m = a.tmps.size → (∀ y ∈ o.op.operands.toList, VX k (evo (st i).f y) (a.eval y)) → (∀ j w t, o.guard = some (j, w) → (ops[j]?).bind (·.dst) = some t → VX k (fget (st i).f t) (a.tmps.getD t undef)) →
    HR k (st i).h W (r i) → (∀ m, (st i).n ≤ m → m < (st (i + 1)).n → k m = none) → (∀ u W' k', Sd (st i).h (st i).n (st (i + 1)).h (st (i + 1)).n (r i) (w i) k W k' W' → VX k' (v i) u → K' (a.put o.dst u) W') →
    if Region.wanted o (yielded ops a.tmps) = true then o.wp P a W K' Q else K' (a.put o.dst undef) W
/-- What holds while some have come up. -/
structure Iv (ops : Array Oper) (st : Nat → RL) (w : Nat → Nat) (RR WW : Nat → Prop) (k0 : K) (W0 : World) (listed : Array Bool) (a : Act) (W : World) (k : K) : Prop where
  sh : ∀ j o, ops[j]? = some o → listed.getD j false = true → ∀ e ∈ o.after, Region.binds .any e = true → listed.getD e.on false = true
  m : (st 0).f.m = a.tmps.size
  df : a.defers = []
  fr : ∀ t c, c ≤ ops.size → Cn ops.size (fun j => listed.getD j false = true) (wt ops t) c → VX k (fget (st c).f t) (a.tmps.getD t undef)
  hp : ∀ i c, c ≤ ops.size → RR i → Cn ops.size (fun j => listed.getD j false = true) (fun j => tb (w j) i) c → Rp k (st c).h W i
  inj : ∀ i i' c c', c ≤ ops.size → c' ≤ ops.size → RR i → RR i' → Cn ops.size (fun j => listed.getD j false = true) (fun j => tb (w j) i) c → Cn ops.size (fun j => listed.getD j false = true) (fun j => tb (w j) i') c' →
    live (st c).h i → live (st c').h i' → i ≠ i' → ∀ b z b' z', k i = some (b, z) → k i' = some (b', z') → b ≠ b'
  ext : ∀ i p, k0 i = some p → k i = some p
  dom : ∀ i, i < (st 0).n ∨ (st ops.size).n ≤ i → k i = k0 i
  new : ∀ j, j < ops.size → ¬ listed.getD j false = true → ∀ i, (st j).n ≤ i → i < (st (j + 1)).n → k i = none
  frm : ∀ b, b < W0.heap.size → (∀ j z, WW j → live (st 0).h j → k0 j ≠ some (b, z)) → W.heap[b]? = W0.heap[b]?
  fresh : ∀ i c b z, c ≤ ops.size → RR i → Cn ops.size (fun j => listed.getD j false = true) (fun j => tb (w j) i) c → (st 0).n ≤ i → i < (st ops.size).n → live (st c).h i → k i = some (b, z) →
    W0.heap.size ≤ b ∨ ∃ j z', WW j ∧ j < (st 0).n ∧ live (st 0).h j ∧ (∀ c', c' ≤ ops.size → Cn ops.size (fun j => listed.getD j false = true) (fun i => tb (w i) j) c' → ¬ live (st c').h j) ∧ k0 j = some (b, z')
  size : W0.heap.size ≤ W.heap.size
  os : W.os = W0.os
  tape : Tp W W0
  output : W.output = W0.output
  fz : ∀ x, W.frozen? x = W0.frozen? x
section
variable {P : Program} {ops : Array Oper} {st : Nat → RL} {r w : Nat → Nat} {v : Nat → Value}
theorem op_at {i : Nat} (hi : i < ops.size) : ops[i]? = some ops[i] := by simp [hi]
theorem st_n (D : ∀ i o, ops[i]? = some o → Dt P ops st r w v i o) : ∀ {i j : Nat}, i ≤ j → j ≤ ops.size → (st i).n ≤ (st j).n := by
  intro i j hij
  induction hij with
  | refl => intro _; exact Nat.le_refl _
  | step h ih => intro hj; exact Nat.le_trans (ih (by omega)) (D _ _ (op_at (by omega))).ss.le
theorem st_nn (D : ∀ i o, ops[i]? = some o → Dt P ops st r w v i o) (nn : ∀ i, (st 0).n ≤ i → hget (st 0).h i = none) : ∀ j, j ≤ ops.size → ∀ i, (st j).n ≤ i → hget (st j).h i = none := by
  intro j
  induction j with
  | zero => intro _; exact nn
  | succ j ih => intro hj; exact (D j _ (op_at (by omega))).ss.nn (ih (by omega))
theorem st_h (D : ∀ i o, ops[i]? = some o → Dt P ops st r w v i o) {m : Nat} : ∀ {c d : Nat}, c ≤ d → d ≤ ops.size → (∀ j, c ≤ j → j < d → ¬ tb (w j) m) → hget (st d).h m = hget (st c).h m := by
  intro c d hcd
  induction hcd with
  | refl => intro _ _; rfl
  | @step d h ih =>
    intro hd hj
    rw [(D d _ (op_at (by omega))).ss.same m (hj d h (by omega))]
    exact ih (by omega) (fun j h1 h2 => hj j h1 (by omega))
theorem st_m (D : ∀ i o, ops[i]? = some o → Dt P ops st r w v i o) : ∀ c, c ≤ ops.size → (st c).f.m = (st 0).f.m := by
  intro c
  induction c with
  | zero => intro _; rfl
  | succ c ih => intro hc; rw [(D c _ (op_at (by omega))).f, put_m]; exact ih (by omega)
theorem st_f (D : ∀ i o, ops[i]? = some o → Dt P ops st r w v i o) (hle : (st 0).f.m ≤ 256) {t : Nat} : ∀ {c d : Nat}, c ≤ d → d ≤ ops.size → (∀ j, c ≤ j → j < d → ¬ wt ops t j) → fget (st d).f t = fget (st c).f t := by
  intro c d hcd
  induction hcd with
  | refl => intro _ _; rfl
  | @step d h ih =>
    intro hd hj
    have ho := op_at (ops := ops) (i := d) (by omega)
    have hn := hj d h (by omega)
    rw [(D d _ ho).f]
    have : fget (put (st d).f ops[d].dst (v d)) t = fget (st d).f t := by
      cases e : ops[d].dst with
      | none => rfl
      | some s => exact fget_ne _ (by rw [st_m D d (by omega)]; exact hle) (fun e' => hn ⟨_, ho, by rw [e, e']⟩)
    rw [this]
    exact ih (by omega) (fun j h1 h2 => hj j h1 (by omega))
theorem st_back (D : ∀ i o, ops[i]? = some o → Dt P ops st r w v i o) {m : Nat} (hm : m < (st 0).n) : ∀ c, c ≤ ops.size → live (st c).h m → live (st 0).h m := by
  intro c
  induction c with
  | zero => intro _ h; exact h
  | succ c ih => intro hc h; exact ih (by omega) ((D c _ (op_at (by omega))).ss.back m (Nat.lt_of_lt_of_le hm (st_n D (Nat.zero_le c) (by omega))) h)
theorem Cn.same {N i c : Nat} {L L' : Nat → Prop} {wr : Nat → Prop} (hL : ∀ j, j ≠ i → (L' j ↔ L j)) (hi : ¬ wr i) (h : Cn N L' wr c) : Cn N L wr c := fun j hj hw => by
  rw [← hL j (fun e => hi (e ▸ hw))]; exact h j hj hw
theorem put_other {a : Act} {d : Option Tmp} {u : Value} {t : Nat} (h : d ≠ some t) : (a.put d u).tmps.getD t undef = a.tmps.getD t undef := by
  cases d with
  | none => rfl
  | some s => simp only [Act.put, Array.getD_eq_getD_getElem?, Array.getElem?_setIfInBounds_ne (fun e => h (by rw [e]) : s ≠ t)]
theorem wt_tb {o : Oper} {j t : Nat} (ho : ops[j]? = some o) : wt ops t j ↔ tb (setT o) t := by
  constructor
  · rintro ⟨o', h1, h2⟩
    rw [ho] at h1; cases h1
    unfold setT; rw [h2]; exact tb_bit.2 rfl
  · intro h
    unfold setT at h
    split at h
    · rename_i s hs; exact ⟨o, ho, by rw [hs, tb_bit.1 h]⟩
    · exact absurd h tb_zero
theorem look_op {o : Oper} {t : Nat} (h : .tmp t ∈ o.op.operands.toList) : tb (lookT ops o) t := by
  unfold lookT
  refine tb_or.2 (Or.inl ?_)
  have : ∀ (l : List Operand) (s : Nat), (tb s t ∨ .tmp t ∈ l) → tb (l.foldl (fun m x => Nat.lor m (tmpOf x)) s) t := by
    intro l
    induction l with
    | nil => intro s h; rcases h with h | h
             · exact h
             · cases h
    | cons x l ih =>
      intro s h
      rw [List.foldl_cons]
      refine ih _ ?_
      rcases h with h | h
      · exact Or.inl (tb_or.2 (Or.inl h))
      · rcases List.mem_cons.1 h with h | h
        · subst h; exact Or.inl (tb_or.2 (Or.inr (tb_bit.2 rfl)))
        · exact Or.inr h
  exact this _ 0 (Or.inr h)
theorem look_guard {o : Oper} {t j : Nat} {b : Bool} (hg : o.guard = some (j, b)) (h : (ops[j]?).bind (·.dst) = some t) : tb (lookT ops o) t := by
  unfold lookT
  refine tb_or.2 (Or.inr ?_)
  rw [hg]
  simp only [h]
  exact tb_bit.2 rfl
theorem dl_ops (ops : Array Oper) (g : Oper → Nat × Nat) (d : Oper) : ops.toList.reverse.map g = dl (fun i => g (ops.getD i d)) ops.size := by
  have : ∀ (n : Nat), n ≤ ops.size → ((ops.toList.take n).reverse.map g) = dl (fun i => g (ops.getD i d)) n := by
    intro n
    induction n with
    | zero => intro _; rfl
    | succ n ih =>
      intro hn
      have h1 : ops.toList.take (n + 1) = ops.toList.take n ++ [ops.getD n d] := by
        rw [List.take_add_one]
        have : ops.toList[n]? = some (ops.getD n d) := by
          have hlt : n < ops.size := by omega
          simp [hlt]
        rw [this]; rfl
      rw [h1, List.reverse_append, List.reverse_singleton, List.map_append, ih (by omega)]
      rfl
  have h := this ops.size (Nat.le_refl _)
  rw [List.take_of_length_le (by simp)] at h
  exact h
end
end E
end Go.Proofs.YtfmfeipeeedfpaaGreat
namespace Go.Proofs.YtfmfeipeeedfpaaGreat
namespace E
open Go.CheckFast (force force_eq)
section
variable {P : Program} {ops : Array Oper} {st : Nat → RL} {r w : Nat → Nat} {v : Nat → Value} {RR WW : Nat → Prop} {k0 : K} {W0 : World}
theorem Iv.step (D : ∀ i o, ops[i]? = some o → Dt P ops st r w v i o) (nn : ∀ i, (st 0).n ≤ i → hget (st 0).h i = none) (hle : (st 0).f.m ≤ 256)
    (hdh : drawn (bef ops) ops.size (dl (fun i => (r i, w i)) ops.size) = true) (hdt : drawn (bef ops) ops.size (dl (fun i => (lookT ops (ops.getD i default), setT (ops.getD i default))) ops.size) = true)
    (hRr : ∀ j, j < ops.size → ∀ i, tb (r j) i → RR i) (hRw : ∀ j, j < ops.size → ∀ i, tb (w j) i → RR i) (hWw : ∀ j, j < ops.size → ∀ i, tb (w j) i → WW i)
    {listed : Array Bool} {a : Act} {W : World} {k : K} (I : Iv ops st w RR WW k0 W0 listed a W k) (hsz : listed.size = ops.size) {i : Nat} {o : Oper} (ho : ops[i]? = some o) (hu : listed.getD i true = false)
    (hall : ∀ e ∈ o.after, Region.binds .any e = true → listed.getD e.on false = true) (Q : Exit → Act → World → Prop) (K' : Act → World → Prop)
    (hK : ∀ a' W' k', Iv ops st w RR WW k0 W0 (listed.setIfInBounds i true) a' W' k' → K' a' W') :
    if Region.wanted o (yielded ops a.tmps) = true then o.wp P a W K' Q else K' (a.put o.dst undef) W := by
  have hi := (Array.getElem?_eq_some_iff.1 ho).1
  have hil : i < listed.size := by omega
  have hu' : ¬ listed.getD i false = true := by simp [hil] at hu ⊢; exact hu
  have hgd : ops.getD i default = o := by simp [hi] at ho ⊢; exact ho
  have hL : ∀ j, j ≠ i → ((listed.setIfInBounds i true).getD j false = true ↔ listed.getD j false = true) := fun j hj => by rw [getD_set_ne false (Ne.symm hj)]
  have hLi : (listed.setIfInBounds i true).getD i false = true := by simp [hil]
  have nni := st_nn D nn
  have d := D i o ho
  -- cuts at the operation itself
  have ch : ∀ m, (tb (r i) m ∨ tb (w i) m) → Cn ops.size (fun j => listed.getD j false = true) (fun j => tb (w j) m) i := fun m hm j hj hw => order hdh I.sh ho hu' hall (m := m) hm j hj hw
  have ct : ∀ t, (tb (lookT ops o) t ∨ wt ops t i) → Cn ops.size (fun j => listed.getD j false = true) (wt ops t) i := fun t ht j hj hw => by
    refine order hdt I.sh ho hu' hall (m := t) ?_ j hj ?_
    · rw [hgd]; exact ht.imp id (wt_tb ho).1
    · have : ops.getD j default = ops[j] := by simp [hj]
      rw [this]; exact (wt_tb (op_at hj)).1 hw
  -- a place that the operation writes, at a cut behind it
  have wcut : ∀ (wr : Nat → Prop) c, wr i → Cn ops.size (fun j => listed.getD j false = true) wr i → Cn ops.size (fun j => (listed.setIfInBounds i true).getD j false = true) wr c → i < c ∧ ∀ j, i + 1 ≤ j → j < c → j < ops.size → ¬ wr j := by
    intro wr c hwi h1 h2
    refine ⟨(h2 i hi hwi).1 hLi, fun j hj hjc hjs hw => ?_⟩
    have h3 : (listed.setIfInBounds i true).getD j false = true := (h2 j hjs hw).2 hjc
    rw [hL j (by omega)] at h3
    have := (h1 j hjs hw).1 h3
    omega
  have hsame : ∀ m c, c ≤ ops.size → tb (w i) m → Cn ops.size (fun j => (listed.setIfInBounds i true).getD j false = true) (fun j => tb (w j) m) c → hget (st c).h m = hget (st (i + 1)).h m := fun m c hc hm h => by
    obtain ⟨h1, h2⟩ := wcut (fun j => tb (w j) m) c hm (ch m (Or.inr hm)) h
    exact st_h D h1 hc (fun j a b => h2 j a b (by omega))
  have hold : ∀ m c, ¬ tb (w i) m → Cn ops.size (fun j => (listed.setIfInBounds i true).getD j false = true) (fun j => tb (w j) m) c → Cn ops.size (fun j => listed.getD j false = true) (fun j => tb (w j) m) c := fun m c hm h => Cn.same hL hm h
  refine d.ok k W a K' Q (by rw [st_m D i (by omega)]; exact I.m) (fun y hy => ev_of y fun t ht => ?_) (fun j b t hg ht => ?_) ⟨fun m hm => ?_, fun m m' hm hm' => ?_⟩ (fun m h1 h2 => I.new i hi hu' m h1 h2) (fun u W' k' hd hv => hK _ _ k' ?_)
  · subst ht; exact I.fr t i (by omega) (ct t (Or.inl (look_op hy)))
  · exact I.fr t i (by omega) (ct t (Or.inl (look_guard hg ht)))
  · exact I.hp m i (by omega) (hRr i hi m hm) (ch m (Or.inl hm))
  · exact I.inj m m' i i (by omega) (by omega) (hRr i hi m hm) (hRr i hi m' hm') (ch m (Or.inl hm)) (ch m' (Or.inl hm'))
  -- what lived there and was not written
  have hkk : ∀ m c, c ≤ ops.size → RR m → ¬ tb (w i) m → Cn ops.size (fun j => listed.getD j false = true) (fun j => tb (w j) m) c → live (st c).h m → ∀ b z, k' m = some (b, z) → k m = some (b, z) ∧ b < W.heap.size := fun m c hc hR hm h hl b z hk => by
    obtain ⟨b', z', e1, e2⟩ := (I.hp m c hc hR h).lt hl
    have := hd.ext m _ e1
    rw [hk] at this; cases this
    exact ⟨e1, e2⟩
  have hlo : ∀ m, live (st i).h m → m < (st i).n := fun m hl => by
    rcases Nat.lt_or_ge m (st i).n with h' | h'
    · exact h'
    · exact absurd hl (not_live (nni i (by omega) m h'))
  have hlo1 : ∀ m, live (st (i + 1)).h m → m < (st (i + 1)).n := fun m hl => by
    rcases Nat.lt_or_ge m (st (i + 1)).n with h' | h'
    · exact h'
    · exact absurd hl (not_live (nni (i + 1) (by omega) m h'))
  have hmix : ∀ m m' c c', c ≤ ops.size → c' ≤ ops.size → RR m → RR m' → ¬ tb (w i) m → tb (w i) m' → Cn ops.size (fun j => (listed.setIfInBounds i true).getD j false = true) (fun j => tb (w j) m) c → Cn ops.size (fun j => (listed.setIfInBounds i true).getD j false = true) (fun j => tb (w j) m') c' →
      live (st c).h m → live (st c').h m' → m ≠ m' → ∀ b z b' z', k' m = some (b, z) → k' m' = some (b', z') → b ≠ b' := by
    intro m m' c c' hc hc' hR hR' hm hm' h h' hl hl' hne b z b' z' ek ek'
    have h0 := hold m c hm h
    obtain ⟨km, hb⟩ := hkk m c hc hR hm h0 hl b z ek
    have hl1 : live (st (i + 1)).h m' := by obtain ⟨cs, e⟩ := hl'; exact ⟨cs, by rw [← hsame m' c' hc' hm' h']; exact e⟩
    rcases Nat.lt_or_ge m' (st i).n with hn | hn
    · have hl0 := d.ss.back m' hn hl1
      rw [hd.dom m' (Or.inl hn)] at ek'
      exact I.inj m m' c i hc (by omega) hR hR' h0 (ch m' (Or.inr hm')) hl hl0 hne b z b' z' km ek'
    · rcases hd.fresh m' b' z' hn (hlo1 m' hl1) hl1 ek' with hB | ⟨j, zj, j1, j2, j3, _, j5⟩
      · omega
      · exact I.inj m j c i hc (by omega) hR (hRw i hi j j1) h0 (ch j (Or.inr j1)) hl j3 (fun e => hm (e ▸ j1)) b z b' zj km j5
  -- what was let go stays so
  have hdead : ∀ j, j < (st 0).n → (∀ c', c' ≤ ops.size → Cn ops.size (fun j => listed.getD j false = true) (fun i => tb (w i) j) c' → ¬ live (st c').h j) → ∀ c', c' ≤ ops.size → Cn ops.size (fun j => (listed.setIfInBounds i true).getD j false = true) (fun i => tb (w i) j) c' → ¬ live (st c').h j := by
    intro j hj h c' hc' hcn hl
    by_cases hw : tb (w i) j
    · have hl1 : live (st (i + 1)).h j := by obtain ⟨cs, e⟩ := hl; exact ⟨cs, by rw [← hsame j c' hc' hw hcn]; exact e⟩
      exact h i (by omega) (ch j (Or.inr hw)) (d.ss.back j (Nat.lt_of_lt_of_le hj (st_n D (Nat.zero_le i) (by omega))) hl1)
    · exact h c' hc' (hold j c' hw hcn) hl
  have hfresh : ∀ m b z, (st 0).n ≤ m → m < (st i).n → (tb (r i) m ∨ tb (w i) m) → live (st i).h m → k m = some (b, z) → W0.heap.size ≤ b ∨ ∃ j z', WW j ∧ j < (st 0).n ∧ live (st 0).h j ∧ (∀ c', c' ≤ ops.size → Cn ops.size (fun j => (listed.setIfInBounds i true).getD j false = true) (fun i => tb (w i) j) c' → ¬ live (st c').h j) ∧ k0 j = some (b, z') := by
    intro m b z h1 h2 h3 h4 h5
    rcases I.fresh m i b z (by omega) (h3.elim (hRr i hi m) (hRw i hi m)) (ch m h3) h1 (Nat.lt_of_lt_of_le h2 (st_n D (by omega) (Nat.le_refl _))) h4 h5 with h | ⟨j, z', a1, a2, a3, a4, a5⟩
    · exact Or.inl h
    · exact Or.inr ⟨j, z', a1, a2, a3, hdead j a2 a4, a5⟩
  refine ⟨?_, ?_, ?_, ?_, ?_, ?_, fun m p hp => hd.ext m p (I.ext m p hp), ?_, ?_, ?_, ?_, Nat.le_trans I.size hd.size, hd.os.trans I.os, hd.tape.trans I.tape, hd.output.trans I.output, fun x => (hd.fz x).trans (I.fz x)⟩
  · intro j oj hoj hlj e he hb
    by_cases hji : j = i
    · subst hji
      rw [ho] at hoj; cases hoj
      exact getD_set_true (hall e he hb)
    · rw [hL j hji] at hlj
      exact getD_set_true (I.sh j oj hoj hlj e he hb)
  · rw [put_sz]; exact I.m
  · rw [put_df]; exact I.df
  · intro t c hc hcn
    by_cases hw : wt ops t i
    · obtain ⟨h1, h2⟩ := wcut (wt ops t) c hw (ct t (Or.inr hw)) hcn
      rw [st_f D hle h1 hc (fun j a b => h2 j a b (by omega)), d.f]
      exact put_get (by rw [st_m D i (by omega)]; exact I.m) (by rw [st_m D i (by omega)]; exact hle) hv t ((I.fr t i (by omega) (ct t (Or.inr hw))).mono hd.ext)
    · rw [put_other (fun e => hw ⟨o, ho, e⟩)]
      exact (I.fr t c hc (Cn.same hL hw hcn)).mono hd.ext
  · intro m c hc hR hcn
    by_cases hw : tb (w i) m
    · intro cs hcs
      rw [hsame m c hc hw hcn] at hcs
      exact hd.rep.rep m (tb_or.2 (Or.inr hw)) cs hcs
    · intro cs hcs
      have h0 := hold m c hw hcn
      refine (I.hp m c hc hR h0 cs hcs).mono (hd.ext m) (fun b z e1 hb => ?_) (fun us => LX.mono hd.ext)
      refine hd.frm b hb (fun j z hj hl hk => ?_)
      exact I.inj m j c i hc (by omega) hR (hRw i hi j hj) h0 (ch j (Or.inr hj)) ⟨cs, hcs⟩ hl (fun e => hw (e ▸ hj)) _ _ _ _ e1 hk rfl
  · intro m m' c c' hc hc' hR hR' hcn hcn' hl hl' hne b z b' z' ek ek'
    by_cases hw : tb (w i) m <;> by_cases hw' : tb (w i) m'
    · have e1 := hsame m c hc hw hcn
      have e2 := hsame m' c' hc' hw' hcn'
      obtain ⟨cs, e⟩ := hl
      obtain ⟨cs', e'⟩ := hl'
      exact hd.rep.inj m m' (tb_or.2 (Or.inr hw)) (tb_or.2 (Or.inr hw')) ⟨cs, by rw [← e1]; exact e⟩ ⟨cs', by rw [← e2]; exact e'⟩ hne b z b' z' ek ek'
    · exact fun e => hmix m' m c' c hc' hc hR' hR hw' hw hcn' hcn hl' hl (Ne.symm hne) b' z' b z ek' ek e.symm
    · exact hmix m m' c c' hc hc' hR hR' hw hw' hcn hcn' hl hl' hne b z b' z' ek ek'
    · have h0 := hold m c hw hcn
      have h0' := hold m' c' hw' hcn'
      exact I.inj m m' c c' hc hc' hR hR' h0 h0' hl hl' hne b z b' z' (hkk m c hc hR hw h0 hl b z ek).1 (hkk m' c' hc' hR' hw' h0' hl' b' z' ek').1
  · intro m hm
    have h1 := st_n D (Nat.zero_le i) (by omega)
    have h2 := st_n D (show i + 1 ≤ ops.size by omega) (Nat.le_refl _)
    rw [hd.dom m (by omega)]
    exact I.dom m hm
  · intro j hj hnl m h1 h2
    by_cases hji : j = i
    · subst hji; exact absurd hLi hnl
    · rw [hL j hji] at hnl
      have : k' m = k m := by
        rcases Nat.lt_or_ge j i with h | h
        · exact hd.dom m (Or.inl (Nat.lt_of_lt_of_le h2 (st_n D h (by omega))))
        · exact hd.dom m (Or.inr (Nat.le_trans (st_n D (show i + 1 ≤ j by omega) (by omega)) h1))
      rw [this]
      exact I.new j hj hnl m h1 h2
  · intro b hb hj
    rw [hd.frm b (Nat.lt_of_lt_of_le hb I.size) (fun j z hw hl hk => ?_)]
    · exact I.frm b hb hj
    · rcases Nat.lt_or_ge j (st 0).n with hjn | hjn
      · have hin := st_n D (Nat.zero_le i) (by omega)
        exact hj j z (hWw i hi j hw) (st_back D hjn i (by omega) hl) (by rw [← I.dom j (Or.inl hjn)]; exact hk)
      · rcases hfresh j b z hjn (hlo j hl) (Or.inr hw) hl hk with h' | ⟨j0, z0, a1, a2, a3, _, a5⟩
        · omega
        · exact hj j0 z0 a1 a3 a5
  · intro m c b z hc hR hcn hm1 hm2 hl hk
    by_cases hw : tb (w i) m
    · have hl1 : live (st (i + 1)).h m := by obtain ⟨cs, e⟩ := hl; exact ⟨cs, by rw [← hsame m c hc hw hcn]; exact e⟩
      rcases Nat.lt_or_ge m (st i).n with hn | hn
      · rw [hd.dom m (Or.inl hn)] at hk
        exact hfresh m b z hm1 hn (Or.inr hw) (d.ss.back m hn hl1) hk
      · rcases hd.fresh m b z hn (hlo1 m hl1) hl1 hk with hB | ⟨j, zj, j1, j2, j3, j4, j5⟩
        · exact Or.inl (Nat.le_trans I.size hB)
        · rcases Nat.lt_or_ge j (st 0).n with hjn | hjn
          · refine Or.inr ⟨j, zj, hWw i hi j j1, hjn, st_back D hjn i (by omega) j3, fun c' hc' hcn' hl' => ?_, by rw [← I.dom j (Or.inl hjn)]; exact j5⟩
            obtain ⟨cs, e⟩ := hl'
            exact j4 ⟨cs, by rw [← hsame j c' hc' j1 hcn']; exact e⟩
          · exact hfresh j b zj hjn j2 (Or.inr j1) j3 j5
    · have h0 := hold m c hw hcn
      rcases I.fresh m c b z hc hR h0 hm1 hm2 hl (hkk m c hc hR hw h0 hl b z hk).1 with h | ⟨j, z', a1, a2, a3, a4, a5⟩
      · exact Or.inl h
      · exact Or.inr ⟨j, z', a1, a2, a3, hdead j a2 a4, a5⟩
theorem draw_ok {cf : Nat → List Value → HT → Nat → Option R5} (hcf : Cs P cf) (hmo : P.follows .mixedOrders = true) {s s' : RL} (nn : ∀ i, s.n ≤ i → hget s.h i = none) (hl : s.l = []) (hr0 : s.r = 0) (hw0 : s.w = 0)
    (e : opsL P cf ops ops.toList s = some s') (hdk : drawOk ops = true) (hdr : drawn (bef ops) ops.size s'.l = true) :
    Ss s.h s.n s'.h s'.n s'.r s'.w ∧
      ∀ (k : K) (W : World) (a : Act) (Q : Exit → Act → World → Prop) (id : Nat), FR k s.f a → HR k s.h W s'.r → (∀ i, s.n ≤ i → i < s'.n → k i = none) → (∀ k' W' a', Sd s.h s.n s'.h s'.n s'.r s'.w k W k' W' → FR k' s'.f a' → Q .normal a' W') → (Code.region id ops true).wp P Q a W := by
  obtain ⟨r1, w1, h1, h2, ss, _⟩ := list_ok hcf _ _ _ nn e
  have ss' : Ss s.h s.n s'.h s'.n s'.r s'.w := ss.congr (fun i => by rw [h1, hr0]; exact ⟨Or.inr, fun h => h.resolve_left tb_zero⟩) (fun i => by rw [h2, hw0]; exact ⟨Or.inr, fun h => h.resolve_left tb_zero⟩)
  refine ⟨ss', ?_⟩
  obtain ⟨st, e0, eN, hst⟩ := opsL_states _ _ _ e
  rw [show ops.toList.length = ops.size by simp] at eN
  -- what each operation does
  have nnst : ∀ i, i ≤ ops.size → ∀ m, (st i).n ≤ m → hget (st i).h m = none := by
    intro i
    induction i with
    | zero => intro _; rw [e0]; exact nn
    | succ i ih =>
      intro hi
      obtain ⟨_, _, _, _, _, _, _, hs, _⟩ := step_ok hcf (ih (by omega)) (hst i ops[i] (by rw [Array.getElem?_toList]; exact op_at (by omega)))
      exact hs.nn (ih (by omega))
  have ex : ∀ i, ∃ q : Nat × Nat × Value, ∀ o, ops[i]? = some o → Dt P ops st (fun _ => q.1) (fun _ => q.2.1) (fun _ => q.2.2) i o := by
    intro i
    cases ho : ops[i]? with
    | none => exact ⟨(0, 0, undef), fun o h => by cases h⟩
    | some o =>
      obtain ⟨r, w, v, a1, a2, a3, a4, a5, a6⟩ := step_ok hcf (nnst i (Nat.le_of_lt (Array.getElem?_eq_some_iff.1 ho).1)) (hst i o (by rw [Array.getElem?_toList]; exact ho))
      refine ⟨(r, w, v), fun o' h => ?_⟩
      cases h
      exact ⟨a1, a2, a3, a4, a5, a6⟩
  let q : Nat → Nat × Nat × Value := fun i => Classical.choose (ex i)
  have D : ∀ i o, ops[i]? = some o → Dt P ops st (fun i => (q i).1) (fun i => (q i).2.1) (fun i => (q i).2.2) i o := fun i o ho => by
    have := Classical.choose_spec (ex i) o ho
    exact ⟨this.l, this.f, this.mr, this.mw, this.ss, this.ok⟩
  generalize hqr : (fun i => (q i).1) = r at D
  generalize hqw : (fun i => (q i).2.1) = w at D
  generalize hqv : (fun i => (q i).2.2) = v at D
  have hdl : ∀ i, i ≤ ops.size → (st i).l = dl (fun i => (r i, w i)) i := by
    intro i
    induction i with
    | zero => intro _; rw [e0, hl]; rfl
    | succ i ih => intro hi; rw [(D i _ (op_at (by omega))).l, ih (by omega)]; rfl
  have hmr : ∀ i, i ≤ ops.size → ∀ m, tb (st i).r m ↔ ∃ j, j < i ∧ tb (r j) m := by
    intro i
    induction i with
    | zero => intro _ m; rw [e0, hr0]; exact ⟨fun h => absurd h tb_zero, fun ⟨j, h, _⟩ => absurd h (by omega)⟩
    | succ i ih =>
      intro hi m
      rw [(D i _ (op_at (by omega))).mr, ih (by omega)]
      constructor
      · rintro (⟨j, a, b⟩ | h)
        · exact ⟨j, by omega, b⟩
        · exact ⟨i, by omega, h⟩
      · rintro ⟨j, a, b⟩
        by_cases hji : j = i
        · subst hji; exact Or.inr b
        · exact Or.inl ⟨j, by omega, b⟩
  have hmw : ∀ i, i ≤ ops.size → ∀ m, tb (st i).w m ↔ ∃ j, j < i ∧ tb (w j) m := by
    intro i
    induction i with
    | zero => intro _ m; rw [e0, hw0]; exact ⟨fun h => absurd h tb_zero, fun ⟨j, h, _⟩ => absurd h (by omega)⟩
    | succ i ih =>
      intro hi m
      rw [(D i _ (op_at (by omega))).mw, ih (by omega)]
      constructor
      · rintro (⟨j, a, b⟩ | h)
        · exact ⟨j, by omega, b⟩
        · exact ⟨i, by omega, h⟩
      · rintro ⟨j, a, b⟩
        by_cases hji : j = i
        · subst hji; exact Or.inr b
        · exact Or.inl ⟨j, by omega, b⟩
  have hR := hmr ops.size (Nat.le_refl _)
  have hW := hmw ops.size (Nat.le_refl _)
  rw [eN] at hR hW
  unfold drawOk at hdk
  simp only [Bool.and_eq_true] at hdk
  obtain ⟨hedge, hdt⟩ := hdk
  rw [dl_ops ops _ default] at hdt
  have hdh : drawn (bef ops) ops.size (dl (fun i => (r i, w i)) ops.size) = true := by rw [← hdl ops.size (Nat.le_refl _), eN]; exact hdr
  intro k W a Q id hf H hnew hk
  have hle : (st 0).f.m ≤ 256 := by rw [e0]; exact hf.le
  have nn0 : ∀ i, (st 0).n ≤ i → hget (st 0).h i = none := by rw [e0]; exact nn
  refine wp_region_any hmo ?_
  refine wpAny_inv (fun listed a' W' => listed.size = ops.size ∧ ∃ k', Iv ops st w (fun i => tb s'.r i ∨ tb s'.w i) (fun i => tb s'.w i) k { W with drawn := W.drawn + 1 } listed a' W' k') hedge ?_ ?_ _ _ _ _ ?_ ⟨by simp, k, ?_⟩
  · rintro listed a' W' i o ⟨hsz, k', I⟩ ho hu hall
    refine wpOp_step ho fun K hK => ?_
    refine I.step D nn0 hle hdh hdt (fun j hj m hm => Or.inl ((hR m).2 ⟨j, hj, hm⟩)) (fun j hj m hm => Or.inr ((hW m).2 ⟨j, hj, hm⟩)) (fun j hj m hm => (hW m).2 ⟨j, hj, hm⟩) hsz ho hu hall Q K (fun a2 W2 k2 I2 => hK _ _ ⟨by simpa using hsz, k2, I2⟩)
  · rintro listed a' W' ⟨hsz, k', I⟩ hall
    have hc : ∀ wr : Nat → Prop, Cn ops.size (fun j => listed.getD j false = true) wr ops.size := fun wr j hj _ => ⟨fun _ => hj, fun _ => by
      have := hall j hj
      have h2 : j < listed.size := by omega
      simpa [h2] using this⟩
    have hfr := fun t => I.fr t ops.size (Nat.le_refl _) (hc _)
    have hhp := fun i hi => I.hp i ops.size (Nat.le_refl _) hi (hc _)
    rw [eN] at hfr hhp
    refine hk k' W' a' ⟨I.ext, ?_, ⟨fun i hi => hhp i (tb_or.1 hi), fun i j hi hj li lj hne => ?_⟩, ?_, ?_, I.size, I.os, ⟨I.tape.1, Nat.le_trans (Nat.le_succ _) I.tape.2⟩, I.output, I.fz⟩ ⟨?_, ?_, hfr, I.df⟩
    · have := I.dom; rw [e0, eN] at this; exact this
    · exact I.inj i j ops.size ops.size (Nat.le_refl _) (Nat.le_refl _) (tb_or.1 hi) (tb_or.1 hj) (hc _) (hc _) (by rw [eN]; exact li) (by rw [eN]; exact lj) hne
    · have := I.frm; rw [e0] at this; exact this
    · intro i b z h1 h2 h3 h4
      by_cases hwi : tb s'.w i
      · rcases I.fresh i ops.size b z (Nat.le_refl _) (Or.inr hwi) (hc _) (by rw [e0]; exact h1) (by rw [eN]; exact h2) (by rw [eN]; exact h3) h4 with h | ⟨j, z', a1, a2, a3, a4, a5⟩
        · exact Or.inl h
        · rw [e0] at a2 a3
          refine Or.inr ⟨j, z', a1, a2, a3, ?_, a5⟩
          have := a4 ops.size (Nat.le_refl _) (hc _)
          rw [eN] at this; exact this
      · obtain ⟨cs, h3⟩ := h3
        rw [ss'.same i hwi, nn i h1] at h3
        cases h3
    · have := st_m D ops.size (Nat.le_refl _)
      rw [eN, e0] at this
      rw [this, ← e0]; exact I.m
    · have := st_m D ops.size (Nat.le_refl _)
      rw [eN, e0] at this
      rw [this]; exact hf.le
  · simp
  · have hz : ∀ j, ¬ (Array.replicate ops.size false).getD j false = true := fun j => by
      rcases Nat.lt_or_ge j ops.size with h | h <;> simp [h]
    have hcn : ∀ wr c, c ≤ ops.size → Cn ops.size (fun j => (Array.replicate ops.size false).getD j false = true) wr c → ∀ j, 0 ≤ j → j < c → ¬ wr j := fun wr c hc h j _ hj hw => hz j ((h j (by omega) hw).2 hj)
    have hh : ∀ i c, c ≤ ops.size → Cn ops.size (fun j => (Array.replicate ops.size false).getD j false = true) (fun j => tb (w j) i) c → hget (st c).h i = hget s.h i := fun i c hc h => by
      rw [st_h D (Nat.zero_le c) hc (hcn _ c hc h), e0]
    -- what is written and was there was read
    have hrd : ∀ i c, c ≤ ops.size → (tb s'.r i ∨ tb s'.w i) → live s.h i → tb s'.r i := fun i c _ h hl => by
      rcases h with h | h
      · exact h
      · refine ss'.old i h ?_
        rcases Nat.lt_or_ge i s.n with h' | h'
        · exact h'
        · exact absurd hl (not_live (nn i h'))
    refine ⟨fun j o _ h => absurd h (hz j), by rw [e0]; exact hf.m, hf.df, fun t c hc h => ?_, fun i c hc hi h cs hcs => ?_, fun i i' c c' hc hc' hi hi' h h' hl hl' hne => ?_, fun _ _ h => h, fun _ _ => rfl, fun j hj _ i h1 h2 => ?_, fun _ _ _ => rfl, fun i c b z hc hi h h1 h2 hl => ?_, Nat.le_refl _, rfl, ⟨rfl, Nat.le_refl _⟩, rfl, fun _ => rfl⟩
    · rw [st_f D hle (Nat.zero_le c) hc (hcn _ c hc h), e0]; exact hf.get t
    · rw [hh i c hc h] at hcs
      exact H.rep i (hrd i c hc hi ⟨cs, hcs⟩) cs hcs
    · obtain ⟨cs, hl⟩ := hl
      obtain ⟨cs', hl'⟩ := hl'
      rw [hh i c hc h] at hl
      rw [hh i' c' hc' h'] at hl'
      exact H.inj i i' (hrd i c hc hi ⟨cs, hl⟩) (hrd i' c' hc' hi' ⟨cs', hl'⟩) ⟨cs, hl⟩ ⟨cs', hl'⟩ hne
    · have a1 := st_n D (Nat.zero_le j) (by omega)
      have a2 := st_n D (show j + 1 ≤ ops.size by omega) (Nat.le_refl _)
      rw [e0] at a1; rw [eN] at a2
      exact hnew i (by omega) (by omega)
    · obtain ⟨cs, hl⟩ := hl
      rw [hh i c hc h, nn i (by rw [e0] at h1; exact h1)] at hl
      cases hl
end
end E
end Go.Proofs.YtfmfeipeeedfpaaGreat
namespace Go.Proofs.YtfmfeipeeedfpaaGreat
namespace E
open Go.CheckFast (force force_eq)
theorem beqL_some {a b : ByteArray} (h : beqL a.data.toList b.data.toList = true) : a = b := by
  rw [beqL_eq] at h
  apply ByteArray.ext
  apply Array.ext'
  simpa using h
theorem aeq_eq {v u : Value} (h : aeq v u = true) : v = u := by
  unfold aeq at h
  split at h <;> (try split at h) <;> first
    | (cases h; done)
    | rfl
    | (simp only [Bool.and_eq_true, Nat.beq_eq] at h; obtain ⟨h1, h2⟩ := h; subst h1; subst h2; rfl)
    | (simp only [Bool.and_eq_true, Nat.beq_eq] at h; obtain ⟨⟨⟨h1, h2⟩, h3⟩, h4⟩ := h; subst h1; subst h2; subst h3; subst h4; rfl)
    | (rw [beqL_some h])
    | (simp only [Bool.and_eq_true, keq, decide_eq_true_eq] at h; obtain ⟨h1, h2⟩ := h; rw [ieq_eq] at h2; rw [h1, eq_of_beq h2])
    | (rw [eq_of_beq h])
theorem leq_eq : ∀ {l m : List Value}, leq l m = true → l = m
  | [], [], _ => rfl
  | [], _ :: _, h => by cases h
  | _ :: _, [], h => by cases h
  | v :: x, u :: y, h => by
    simp only [leq] at h
    cases ha : aeq v u with
    | false => rw [ha] at h; cases h
    | true => rw [ha] at h; rw [aeq_eq ha, leq_eq h]
theorem veq1_eq {v u : Value} (h : veq1 v u = true) : v = u := by
  unfold veq1 at h
  split at h
  · split at h
    · congr 1; exact Array.ext' (leq_eq h)
    · cases h
  · exact aeq_eq h
theorem leq1_eq : ∀ {l m : List Value}, leq1 l m = true → l = m
  | [], [], _ => rfl
  | [], _ :: _, h => by cases h
  | _ :: _, [], h => by cases h
  | v :: x, u :: y, h => by
    simp only [leq1] at h
    cases ha : veq1 v u with
    | false => rw [ha] at h; cases h
    | true => rw [ha] at h; rw [veq1_eq ha, leq1_eq h]
theorem veq2_eq {v u : Value} (h : veq2 v u = true) : v = u := by
  unfold veq2 at h
  split at h
  · split at h
    · congr 1; exact Array.ext' (leq1_eq h)
    · cases h
  · exact veq1_eq h
/-! Other numbers for blocks. -/
section
variable {k k' : K} {g : Nat → Nat}
theorem r0 (hg : ∀ i p, k (g i) = some p → k' i = some p) {v u : Value} (ha : at0 v = true) (h : VX k (s0 g v) u) : VX k' v u := by
  cases v with
  | pointer a => cases a with
    | none => exact VX.of0 (h.v0 trivial)
    | some a => obtain ⟨h1, b, z, h2, h3⟩ := h.ptr_inv; exact VX.of0 ⟨h1, b, z, hg _ _ h2, h3⟩
  | slice a n c => cases a with
    | none => exact VX.of0 h.nilslc_inv
    | some a => obtain ⟨h1, b, z, c, h2, h3⟩ := h.slc_inv; exact VX.of0 ⟨h1, b, z, c, hg _ _ h2, h3⟩
  | agg _ => cases ha
  | tuple _ => cases ha
  | func _ _ _ => cases ha
  | iface _ _ => cases ha
  | chan _ => cases ha
  | map _ => cases ha
  | _ => exact VX.of0 (h.v0 trivial)
theorem rL (hg : ∀ i p, k (g i) = some p → k' i = some p) : ∀ {l m : List Value}, l.all at0 = true → LR (VX k) (sL g l) m → LR (VX k') l m
  | [], _, _, h => h
  | v :: l, _, ha, ⟨y, ys, e, h1, h2⟩ => by
    simp only [List.all_cons, Bool.and_eq_true] at ha
    exact ⟨y, ys, e, r0 hg ha.1 h1, rL hg ha.2 h2⟩
theorem r1 (hg : ∀ i p, k (g i) = some p → k' i = some p) {v u : Value} (ha : at1 v = true) (h : VX k (s1 g v) u) : VX k' v u := by
  cases v with
  | agg cs =>
    obtain ⟨us, e, h1⟩ := h.agg_inv
    rw [e]
    have := VX.agg (rL hg ha (by simpa using h1))
    simpa using this
  | _ => exact r0 hg ha h
theorem rM (hg : ∀ i p, k (g i) = some p → k' i = some p) : ∀ {l m : List Value}, l.all at1 = true → LR (VX k) (sM g l) m → LR (VX k') l m
  | [], _, _, h => h
  | v :: l, _, ha, ⟨y, ys, e, h1, h2⟩ => by
    simp only [List.all_cons, Bool.and_eq_true] at ha
    exact ⟨y, ys, e, r1 hg ha.1 h1, rM hg ha.2 h2⟩
theorem r2 (hg : ∀ i p, k (g i) = some p → k' i = some p) {v u : Value} (ha : at2 v = true) (h : VX k (s2 g v) u) : VX k' v u := by
  cases v with
  | tuple cs =>
    obtain ⟨us, e, h1⟩ := h.tuple_inv
    rw [e]
    have := VX.tuple (rM hg ha (by simpa using h1))
    simpa using this
  | _ => exact r1 hg ha h
theorem t0 (hg : ∀ i p, k' i = some p → k (g i) = some p) {v u : Value} (ha : at0 v = true) (h : VX k' v u) : VX k (s0 g v) u := by
  cases v with
  | pointer a => cases a with
    | none => exact VX.of0 (h.v0 trivial)
    | some a => obtain ⟨h1, b, z, h2, h3⟩ := h.ptr_inv; exact VX.of0 ⟨h1, b, z, hg _ _ h2, h3⟩
  | slice a n c => cases a with
    | none => exact VX.of0 h.nilslc_inv
    | some a => obtain ⟨h1, b, z, c, h2, h3⟩ := h.slc_inv; exact VX.of0 ⟨h1, b, z, c, hg _ _ h2, h3⟩
  | agg _ => cases ha
  | tuple _ => cases ha
  | func _ _ _ => cases ha
  | iface _ _ => cases ha
  | chan _ => cases ha
  | map _ => cases ha
  | _ => exact VX.of0 (h.v0 trivial)
theorem tL (hg : ∀ i p, k' i = some p → k (g i) = some p) : ∀ {l m : List Value}, l.all at0 = true → LR (VX k') l m → LR (VX k) (sL g l) m
  | [], _, _, h => h
  | v :: l, _, ha, ⟨y, ys, e, h1, h2⟩ => by
    simp only [List.all_cons, Bool.and_eq_true] at ha
    exact ⟨y, ys, e, t0 hg ha.1 h1, tL hg ha.2 h2⟩
theorem t1 (hg : ∀ i p, k' i = some p → k (g i) = some p) {v u : Value} (ha : at1 v = true) (h : VX k' v u) : VX k (s1 g v) u := by
  cases v with
  | agg cs =>
    obtain ⟨us, e, h1⟩ := h.agg_inv
    rw [e]
    exact VX.agg (tL hg ha h1)
  | _ => have hh := fun p => t0 hg p h; exact hh ha
theorem tM (hg : ∀ i p, k' i = some p → k (g i) = some p) : ∀ {l m : List Value}, l.all at1 = true → LR (VX k') l m → LR (VX k) (sM g l) m
  | [], _, _, h => h
  | v :: l, _, ha, ⟨y, ys, e, h1, h2⟩ => by
    simp only [List.all_cons, Bool.and_eq_true] at ha
    exact ⟨y, ys, e, t1 hg ha.1 h1, tM hg ha.2 h2⟩
theorem t2 (hg : ∀ i p, k' i = some p → k (g i) = some p) {v u : Value} (ha : at2 v = true) (h : VX k' v u) : VX k (s2 g v) u := by
  cases v with
  | tuple cs =>
    obtain ⟨us, e, h1⟩ := h.tuple_inv
    rw [e]
    exact VX.tuple (tM hg ha h1)
  | _ => have hh := fun p => t1 hg p h; exact hh ha
end
/-- An entry tells what each such call does. -/
structure EnOk (P : Program) (e : En) : Prop where
  wv : at2 e.v = true
  wb : ∀ b ∈ e.bs, b.all at0 = true
  wa : e.args.all flat1 = true
  enter : ∀ args w, (callFunc e.f args).run P w = .ok (.enter e.f args) w
  ok : ∀ W, Calls P e.f e.args.toArray W fun r W' => ∃ u k', r = .returned u ∧ VX k' e.v u ∧ (∀ i, e.bs.length ≤ i → k' i = none) ∧
    (∀ i cs, e.bs[i]? = some cs → RB k' W' i cs ∧ ∀ b z, k' i = some (b, z) → W.heap.size ≤ b) ∧
    (∀ i j b z b' z', i ≠ j → k' i = some (b, z) → k' j = some (b', z') → b ≠ b') ∧ (∀ b, b < W.heap.size → W'.heap[b]? = W.heap[b]?) ∧ W.heap.size ≤ W'.heap.size ∧ W'.os = W.os ∧ Tp W' W ∧ W'.output = W.output ∧ ∀ a, W'.frozen? a = W.frozen? a
theorem tb_bits : ∀ {m n i : Nat}, tb (bits n m) i ↔ n ≤ i ∧ i < n + m
  | 0, n, i => by simp only [bits]; exact ⟨fun h => absurd h tb_zero, fun h => by omega⟩
  | m + 1, n, i => by
    simp only [bits, tb_or, tb_bit, tb_bits (m := m)]
    omega
theorem lays_get {n : Nat} : ∀ (l : List (List Value)) (i : Nat) (h : HT) (j : Nat), i + l.length ≤ 4096 → hget (lays n l i h) j = if i ≤ j ∧ j < i + l.length then (l[j - i]?).map (sL (Nat.add n)) else hget h j
  | [], i, h, j, _ => by rw [lays, if_neg (by simp only [List.length_nil]; omega)]
  | b :: l, i, h, j, hl => by
    simp only [List.length_cons] at hl ⊢
    rw [lays, lays_get l (Nat.succ i) _ j (by omega)]
    by_cases e : i = j
    · subst e
      rw [if_neg (by omega), if_pos (by omega), hget_same _ (by omega)]
      simp
    · rw [hget_ne _ (by omega) e]
      by_cases h1 : i ≤ j ∧ j < i + (l.length + 1)
      · rw [if_pos (by omega), if_pos h1, show j - i = (j - Nat.succ i) + 1 by omega, List.getElem?_cons_succ]
      · rw [if_neg (by omega), if_neg h1]
theorem find_some {f : Nat} {args : List Value} : ∀ {l : List En} {e : En}, find f args l = some e → e ∈ l ∧ f = e.f ∧ args = e.args
  | [], _, h => by cases h
  | x :: l, e, h => by
    simp only [find] at h
    cases hc : (Nat.beq f x.f && leq args x.args) with
    | false =>
      rw [hc] at h
      obtain ⟨h1, h2⟩ := find_some (l := l) h
      exact ⟨by simp [h1], h2⟩
    | true =>
      rw [hc] at h
      cases h
      simp only [Bool.and_eq_true, Nat.beq_eq] at hc
      exact ⟨by simp, hc.1, leq_eq hc.2⟩
theorem known_ok {P : Program} {e : En} (he : EnOk P e) {h : HT} {n : Nat} {x : R5} (hx : known e h n = some x) : Ss h n x.h x.n x.r x.w ∧ (∀ args w, (callFunc e.f args).run P w = .ok (.enter e.f args) w) ∧
    ∀ (k : K) (W : World) (us : List Value), LR (VX k) e.args us → HR k h W x.r → (∀ i, n ≤ i → i < x.n → k i = none) → Calls P e.f us.toArray W fun r W' => ∃ u k', r = .returned u ∧ Sd h n x.h x.n x.r x.w k W k' W' ∧ VX k' x.v u := by
  obtain ⟨hle, hx⟩ := bif_some hx
  rw [Nat.ble_eq] at hle
  cases hx
  have hg := fun j => lays_get (n := n) e.bs n h j hle
  refine ⟨⟨Nat.le_add_right _ _, fun nn i hi => ?_, fun i hi => ?_, fun i hi hn => ?_, fun i hi => (tb_bits.1 hi).2, fun i hi ⟨cs, hl⟩ => ?_⟩, he.enter, fun k W us hus H hnew => ?_⟩
  · have hi' : n + e.bs.length ≤ i := hi
    rw [hg, if_neg (by omega)]; exact nn i (by omega)
  · rw [hg, if_neg (fun h => hi (tb_bits.2 h))]
  · have := (tb_bits.1 hi).1; omega
  · rw [hg, if_neg (by omega)] at hl; exact ⟨cs, hl⟩
  · have hue := flatL_eq hus he.wa
    subst hue
    refine (he.ok W).mono ?_
    rintro r W' ⟨u, k', rfl, a1, a2, a3, a4, a5, a6, a7, a8, a9, a10⟩
    let k2 : K := fun i => if n ≤ i ∧ i < n + e.bs.length then k' (i - n) else k i
    have hin : ∀ i, n ≤ i → i < n + e.bs.length → k2 i = k' (i - n) := fun i h1 h2 => if_pos ⟨h1, h2⟩
    have hout : ∀ i, ¬ (n ≤ i ∧ i < n + e.bs.length) → k2 i = k i := fun i h => if_neg h
    have hk2 : ∀ i p, k' i = some p → k2 (Nat.add n i) = some p := fun i p hp => by
      have hi : i < e.bs.length := by
        rcases Nat.lt_or_ge i e.bs.length with h' | h'
        · exact h'
        · rw [a2 i h'] at hp; cases hp
      show k2 (n + i) = some p
      rw [hin (n + i) (by omega) (by omega), show n + i - n = i by omega]; exact hp
    refine ⟨u, k2, rfl, ⟨fun i p hp => ?_, fun i hi => hout i (by simp only at hi; omega), ⟨fun i hi cs hcs => ?_, fun i j hi hj _ _ hne b z b' z' hb hb' => ?_⟩, fun b hb _ => a5 b hb, fun i b z h1 h2 _ hk => Or.inl ?_, a6, a7, a8, a9, a10⟩, t2 hk2 he.wv a1⟩
    · rw [hout i (fun h => by rw [hnew i h.1 h.2] at hp; cases hp)]; exact hp
    · have hi' := tb_bits.1 ((tb_or.1 hi).resolve_left tb_zero)
      rw [hg, if_pos hi'] at hcs
      cases hb : e.bs[i - n]? with
      | none => rw [hb] at hcs; cases hcs
      | some c =>
        rw [hb] at hcs
        cases hcs
        exact (a3 (i - n) c hb).1.mono (fun p hp => by rw [hin i hi'.1 hi'.2]; exact hp) (fun _ _ _ _ => rfl) (fun us => tL hk2 (he.wb c (List.mem_of_getElem? hb)))
    · have hi' := tb_bits.1 ((tb_or.1 hi).resolve_left tb_zero)
      have hj' := tb_bits.1 ((tb_or.1 hj).resolve_left tb_zero)
      rw [hin i hi'.1 hi'.2] at hb
      rw [hin j hj'.1 hj'.2] at hb'
      exact a4 (i - n) (j - n) b z b' z' (by omega) hb hb'
    · rw [hin i h1 h2] at hk
      cases hb : e.bs[i - n]? with
      | none => rw [a2 (i - n) (by rw [List.getElem?_eq_none_iff] at hb; exact hb)] at hk; cases hk
      | some c =>
        exact (a3 (i - n) c hb).2 _ _ hk
end E
end Go.Proofs.YtfmfeipeeedfpaaGreat
namespace Go.Proofs.YtfmfeipeeedfpaaGreat
namespace E
open Go.CheckFast (force force_eq)
section
variable {P : Program}
/-- What is said of code. -/
def Rn (P : Program) (rn : Code → FT → HT → Nat → Option RC) : Prop := ∀ c f h n x, (∀ i, n ≤ i → hget h i = none) → rn c f h n = some x → Ss h n x.h x.n x.r x.w ∧
  ∀ (k : K) (W : World) (a : Act) (Q : Exit → Act → World → Prop), FR k f a → HR k h W x.r → (∀ i, n ≤ i → i < x.n → k i = none) → (∀ k' W' a', Sd h n x.h x.n x.r x.w k W k' W' → FR k' x.f a' → Q x.e a' W') → c.wp P Q a W
theorem args_m : ∀ (l : List Value) (f : FT) (i : Nat), (args' f i l).m = f.m
  | [], _, _ => rfl
  | v :: l, f, i => by rw [args', args_m l, fput_m]
theorem args_get : ∀ (l : List Value) (f : FT) (i t : Nat), f.m ≤ 256 → i + l.length ≤ f.m → fget (args' f i l) t = if i ≤ t then (l[t - i]?).getD (fget f t) else fget f t
  | [], f, i, t, _, _ => by simp [args']
  | v :: l, f, i, t, hm, hl => by
    simp only [List.length_cons] at hl
    rw [args', args_get l (fput f i v) (i + 1) t (by rw [fput_m]; exact hm) (by rw [fput_m]; omega)]
    by_cases e : i = t
    · subst e
      rw [if_neg (by omega), if_pos (Nat.le_refl _), fget_same v hm (by omega)]
      simp
    · rw [fget_ne v hm e]
      by_cases h : i ≤ t
      · rw [if_pos (by omega), if_pos h, show t - i = (t - (i + 1)) + 1 by omega, List.getElem?_cons_succ]
      · rw [if_neg (by omega), if_neg h]
theorem LR.get' {R : Value → Value → Prop} : ∀ {l m : List Value} (i : Nat) (d : Value), LR R l m → R d d → R ((l[i]?).getD d) ((m[i]?).getD d)
  | [], _, i, d, e, h => by rw [e]; simpa using h
  | x :: xs, _, 0, d, ⟨y, ys, e, r, _⟩, h => by rw [e]; simpa using r
  | x :: xs, _, i + 1, d, ⟨y, ys, e, _, q⟩, h => by rw [e]; simpa using q.get' i d h
theorem args_fr {k : K} {vs us : List Value} {m : Nat} (h : LR (VX k) vs us) (hm : m ≤ 256) (hl : vs.length ≤ m) : FR k (args' ⟨m, fe5, fe8⟩ 0 vs) { tmps := us.toArray ++ Array.replicate (m - us.toArray.size) undef, defers := [] } := by
  have hlen := h.len
  refine ⟨by rw [args_m]; simp; omega, by rw [args_m]; exact hm, fun t => ?_, rfl⟩
  rw [args_get vs _ 0 t hm (by simpa using hl), if_pos (Nat.zero_le _), fget_new, Nat.sub_zero]
  have : (us.toArray ++ Array.replicate (m - us.toArray.size) undef).getD t undef = (us[t]?).getD undef := by
    rw [Array.getD_eq_getD_getElem?]
    by_cases ht : t < us.length
    · rw [Array.getElem?_append_left (by simpa using ht)]; simp
    · rw [Array.getElem?_append_right (by simpa using ht)]
      rw [List.getElem?_eq_none (by omega)]
      by_cases h2 : t - us.toArray.size < m - us.toArray.size
      · rw [Array.getElem?_replicate, if_pos h2]; rfl
      · rw [Array.getElem?_replicate, if_neg h2]
  rw [this]
  exact h.get' t undef undef_vx
def resF (tmps : Array Value) (x : ResultVar) : Sem Value := match x with
  | .tmp t => pure (tmps.getD t undef)
  | .cell b t => do loadVar t (← asAddr (tmps.getD b undef))
theorem res_ok {k : K} {f : FT} {a : Act} {h : HT} {W : World} (hf : FR k f a) : ∀ (l : List ResultVar) (y : List Value × Nat), res P f h l = some y → HR k h W y.2 →
    ∃ us, LR (VX k) y.1 us ∧ (l.mapM (resF a.tmps)).run P W = .ok us W
  | [], y, e, _ => by cases e; exact ⟨[], rfl, rfl⟩
  | x :: l, y, e, H => by
    simp only [res] at e
    obtain ⟨y', h1, e⟩ := bind_some e
    cases x with
    | tmp t =>
      cases e
      obtain ⟨us, h2, h3⟩ := res_ok hf l y' h1 H
      exact ⟨_, ⟨_, us, rfl, hf.get t, h2⟩, by rw [List.mapM_cons]; simp only [resF, Sem.run_bind, Sem.run_pure, Result.andThen_ok, h3]⟩
    | cell b t =>
      obtain ⟨z, h4, e⟩ := bind_some e
      cases e
      obtain ⟨us, h2, h3⟩ := res_ok hf l y' h1 (H.sub fun i hi => tb_or.2 (Or.inl hi))
      obtain ⟨p, q, hv, h5⟩ := onP_some h4
      obtain ⟨_, _, hr, _, h6⟩ := ld_ok h5
      have h7 := hf.get b
      have hv' : fget f b = .pointer (some ⟨p, q, none⟩) := hv
      rw [hv'] at h7
      obtain ⟨_, b', zz, hk, h8⟩ := h7.ptr_inv
      obtain ⟨u, h9, h10⟩ := h6 k W b' zz (H.sub fun i hi => tb_or.2 (Or.inr (by rw [hr]; exact hi))) hk
      refine ⟨u :: us, ⟨u, us, rfl, h9, h2⟩, ?_⟩
      rw [List.mapM_cons]
      simp only [resF, Sem.run_bind, Sem.run_pure, Result.andThen_ok, h8, asAddr, h10, h3]
theorem results_run {k : K} {f : FT} {a : Act} {h : HT} {W : World} {fn : Func} (hf : FR k f a) {y : List Value × Nat} (e : res P f h fn.results.toList = some y) (H : HR k h W y.2) : ∃ u, VX k (single y.1) u ∧ (results fn a.tmps).run P W = .ok u W := by
  obtain ⟨us, h1, h2⟩ := res_ok (P := P) hf _ y e H
  refine ⟨if us.length = 1 then us.headD undef else .tuple us.toArray, ?_, ?_⟩
  · obtain ⟨vs, m⟩ := y
    simp only at h1 ⊢
    cases vs with
    | nil => rw [h1]; exact VX.tuple (cs := []) (us := []) rfl
    | cons v vs =>
      obtain ⟨u, us', rfl, r1, r2⟩ := h1
      cases vs with
      | nil => rw [r2]; exact r1
      | cons v' vs' =>
        have hl := r2.len
        rw [if_neg (by intro h0; simp only [List.length_cons] at h0 hl; omega)]
        exact VX.tuple ⟨u, us', rfl, r1, r2⟩
  · have e1 : results fn a.tmps = (do
        let vs ← fn.results.mapM (resF a.tmps)
        pure (if h : vs.size = 1 then vs[0] else .tuple vs)) := rfl
    rw [e1, Array.mapM_eq_mapM_toList]
    simp only [map_eq_pure_bind, Sem.run_bind, h2, Result.andThen_ok, Sem.run_pure]
    congr 1
    by_cases hl : us.length = 1
    · rw [if_pos hl, dif_pos (by simpa using hl)]
      cases us with
      | nil => cases hl
      | cons u us => simp
    · rw [if_neg hl, dif_neg (by simpa using hl)]
theorem call0_ok {rn : Code → FT → HT → Nat → Option RC} (hrn : Rn P rn) {f : Nat} {vs : List Value} {h : HT} {n : Nat} {x : R5} (nn : ∀ i, n ≤ i → hget h i = none) (e : call0 P rn f vs h n = some x) : Ss h n x.h x.n x.r x.w ∧ (∀ args w, (callFunc f args).run P w = .ok (.enter f args) w) ∧
    ∀ (k : K) (W : World) (us : List Value), LR (VX k) vs us → HR k h W x.r → (∀ i, n ≤ i → i < x.n → k i = none) → Calls P f us.toArray W fun e W' => ∃ u k', e = .returned u ∧ Sd h n x.h x.n x.r x.w k W k' W' ∧ VX k' x.v u := by
  unfold call0 at e
  split at e
  · rename_i fn hfn
    split at e
    · rename_i c hc
      obtain ⟨hok, e⟩ := bif_some e
      unfold fnok at hok
      simp only [Bool.and_eq_true, Nat.ble_eq, Bool.not_eq_true'] at hok
      obtain ⟨⟨o1, o2⟩, o3⟩ := hok
      unfold callB at e
      obtain ⟨y, hy, e⟩ := bind_some e
      obtain ⟨z, hz, e⟩ := bind_some e
      obtain ⟨he, e⟩ := bif_some e
      cases e
      obtain ⟨ss, ok⟩ := hrn _ _ _ _ _ nn hy
      have ssr : Ss h n y.h y.n (Nat.lor y.r z.2) y.w := (ss.trans (Ss.read y.h y.n z.2)).congr (fun _ => Iff.rfl) (fun i => ⟨fun h => (tb_or.1 h).resolve_right tb_zero, fun h => tb_or.2 (Or.inl h)⟩)
      refine ⟨ssr, fun args w => ?_, fun k W us hvs H hnew => ?_⟩
      · have hb : fn.body.isNone = false := by rw [hc]; rfl
        simp only [callFunc, Sem.run_bind, program, Sem.run, Result.andThen_ok, hfn]
        rw [if_neg (by rw [o3]; simp), hb]
        simp
      · refine calls_of_wp hfn hc ?_
        refine ok k W _ _ (args_fr hvs o2 o1) (H.sub fun i hi => tb_or.2 (Or.inl hi)) hnew (fun k' W' a' hd hf => ?_)
        have H2 := Sd.next ss hd nn H
        have H3 : HR k' y.h W' z.2 := H2.sub fun i hi => tb_or.2 (Or.inr hi)
        obtain ⟨u, h1, h2⟩ := results_run hf hz H3
        have hd' : Sd h n y.h y.n (Nat.lor y.r z.2) y.w k W k' W' := (Sd.trans ss hd (Ss.read y.h y.n z.2) (Sd.read H3) nn H).congr (fun _ => Iff.rfl) (fun i => ⟨fun h => (tb_or.1 h).resolve_right tb_zero, fun h => tb_or.2 (Or.inl h)⟩)
        cases hye : y.e with
        | normal => exact ⟨hf.df, u, h2, u, k', rfl, hd', h1⟩
        | ret => exact ⟨hf.df, u, h2, u, k', rfl, hd', h1⟩
        | _ => rw [hye] at he; cases he
    · cases e
  · cases e
structure TbOk (P : Program) (t : Tb) : Prop where
  l : ∀ e ∈ t.l, EnOk P e
  x : ∀ f vs v, t.x f vs = some v → vs.all flat1 = true ∧ (∀ k : K, VX k v v) ∧ ∀ w, (callFunc f vs.toArray).run P w = .ok (.value v) w
theorem call_ok {tb' : Tb} {rn : Code → FT → HT → Nat → Option RC} (ht : TbOk P tb') (hrn : Rn P rn) : Cs P (call P tb' rn) := by
  intro f vs h n x nn e
  unfold call at e
  split at e
  · rename_i v hv
    cases e
    obtain ⟨h1, h2, h3⟩ := ht.x f vs v hv
    exact ⟨Ss.refl h n, fun k W us hus _ _ => Or.inr ⟨v, by rw [flatL_eq hus h1]; exact h3 W, v, k, rfl, Sd.refl h n k W, h2 k⟩⟩
  · split at e
    · rename_i en hfd
      obtain ⟨h1, rfl, rfl⟩ := find_some hfd
      obtain ⟨a1, a2, a3⟩ := known_ok (ht.l en h1) e
      exact ⟨a1, fun k W us hus H hn => Or.inl ⟨a2 _ _, a3 k W us hus H hn⟩⟩
    · obtain ⟨a1, a2, a3⟩ := call0_ok hrn nn e
      exact ⟨a1, fun k W us hus H hn => Or.inl ⟨a2 _ _, a3 k W us hus H hn⟩⟩
/-- One thing behind another. -/
theorem then_ok {f : FT} {h : HT} {n : Nat} {x y z : RC} {a b : Code} (nn : ∀ i, n ≤ i → hget h i = none)
    (sa : Ss h n x.h x.n x.r x.w) (oka : ∀ (k : K) (W : World) (a' : Act) (Q : Exit → Act → World → Prop), FR k f a' → HR k h W x.r → (∀ i, n ≤ i → i < x.n → k i = none) → (∀ k' W' a', Sd h n x.h x.n x.r x.w k W k' W' → FR k' x.f a' → Q x.e a' W') → a.wp P Q a' W)
    (sb : Ss x.h x.n y.h y.n y.r y.w) (hz : z = ⟨y.e, y.f, y.h, y.n, Nat.lor x.r y.r, Nat.lor x.w y.w⟩) (he : x.e = .normal)
    {T : (Exit → Act → World → Prop) → Act → World → Prop} (okb : ∀ (k : K) (W : World) (a' : Act) (Q : Exit → Act → World → Prop), FR k x.f a' → HR k x.h W y.r → (∀ i, x.n ≤ i → i < y.n → k i = none) → (∀ k' W' a', Sd x.h x.n y.h y.n y.r y.w k W k' W' → FR k' y.f a' → Q y.e a' W') → T Q a' W) :
    Ss h n z.h z.n z.r z.w ∧ ∀ (k : K) (W : World) (a' : Act) (Q : Exit → Act → World → Prop), FR k f a' → HR k h W z.r → (∀ i, n ≤ i → i < z.n → k i = none) → (∀ k' W' a', Sd h n z.h z.n z.r z.w k W k' W' → FR k' z.f a' → Q z.e a' W') → a.wp P (Exit.then (T Q) Q) a' W := by
  have _ := b
  subst hz
  refine ⟨sa.trans sb, fun k W a' Q hf H hnew hk => ?_⟩
  refine oka k W a' _ hf (H.sub fun i hi => tb_or.2 (Or.inl hi)) (fun i h1 h2 => hnew i h1 (Nat.lt_of_lt_of_le h2 sb.le)) (fun k1 W1 a1 hd hf1 => ?_)
  rw [he]
  have H2 := Sd.next sa hd nn H
  refine okb k1 W1 a1 Q hf1 (H2.sub fun i hi => tb_or.2 (Or.inr hi)) (fun i h1 h2 => by rw [hd.dom i (Or.inr h1)]; exact hnew i (Nat.le_trans sa.le h1) h2) (fun k2 W2 a2 hd2 hf2 => hk k2 W2 a2 (Sd.trans sa hd sb hd2 nn H) hf2)
theorem thenC_some {x : Option RC} {g : FT → HT → Nat → Option RC} {z : RC} (e : thenC x g = some z) : ∃ y, x = some y ∧ ((y.e ≠ .normal ∧ z = y) ∨ (y.e = .normal ∧ ∃ u, g y.f y.h y.n = some u ∧ z = ⟨u.e, u.f, u.h, u.n, Nat.lor y.r u.r, Nat.lor y.w u.w⟩)) := by
  obtain ⟨y, hy, e⟩ := bind_some e
  refine ⟨y, hy, ?_⟩
  cases he : y.e with
  | normal =>
    rw [he] at e
    obtain ⟨u, hu, e⟩ := bind_some (x := g y.f y.h y.n) e
    rw [force_eq, force_eq] at e
    cases e
    exact Or.inr ⟨rfl, u, hu, rfl⟩
  | _ => rw [he] at e; cases e; exact Or.inl ⟨by simp, rfl⟩
/-- A run of a piece of a scope's code, within the scope. -/
def SW (P : Program) (c d : Code) (Q : Exit → Act → World → Prop) (a : Act) (w : World) : Prop :=
  ∀ (b : Frame) (k : List Item) (cs : List Frame), ∃ e a' w', Q e a' w' ∧ Arrives P (lone (b.at a (.code d :: .inScope c :: k)) cs w) b k cs e a' w'
theorem sw_in {c : Code} {Q : Exit → Act → World → Prop} {a : Act} {w : World} (h : SW P c c Q a w) : (Code.scope c).wp P Q a w := fun b k cs => by
  obtain ⟨e, a', w', hq, harr⟩ := h b k cs
  exact ⟨e, a', w', hq, .of_steps (.one step_scope) harr⟩
/-- As Q, but for a goto to one label. -/
def toL (l : Nat) (J : Act → World → Prop) (Q : Exit → Act → World → Prop) : Exit → Act → World → Prop
  | .goto l', a, w => l' = l ∧ J a w
  | e, a, w => Q e a w
theorem sw_go {c d r : Code} {l : Nat} {Q : Exit → Act → World → Prop} {a : Act} {w : World} (hf : findLabel c l = some r) (h : d.wp P (toL l (SW P c r Q) Q) a w) : SW P c d Q a w := fun b k cs => by
  obtain ⟨e, a₁, w₁, hq, harr⟩ := h b (.inScope c :: k) cs
  cases e with
  | normal => exact ⟨.normal, a₁, w₁, hq, Steps.trans harr (.one step_inScope)⟩
  | exit id => exact ⟨.exit id, a₁, w₁, hq, fun k' hk => harr k' (by simp [exitTo, hk])⟩
  | goto l' =>
    obtain ⟨rfl, hJ⟩ := hq
    obtain ⟨e₂, a₂, w₂, hq₂, harr₂⟩ := hJ b k cs
    exact ⟨e₂, a₂, w₂, hq₂, .of_steps (harr _ (by simp [gotoIn, hf])) harr₂⟩
  | ret => exact ⟨_, a₁, w₁, hq, harr⟩
  | panic ch => exact ⟨_, a₁, w₁, hq, harr⟩
  | outgrown => exact ⟨_, a₁, w₁, hq, harr⟩
def noG (Q : Exit → Act → World → Prop) : Exit → Act → World → Prop
  | .goto _, _, _ => False
  | e, a, w => Q e a w
theorem sw_no {c d : Code} {Q : Exit → Act → World → Prop} {a : Act} {w : World} (h : d.wp P (noG Q) a w) : SW P c d Q a w := fun b k cs => by
  obtain ⟨e, a₁, w₁, hq, harr⟩ := h b (.inScope c :: k) cs
  cases e with
  | normal => exact ⟨.normal, a₁, w₁, hq, Steps.trans harr (.one step_inScope)⟩
  | exit id => exact ⟨.exit id, a₁, w₁, hq, fun k' hk => harr k' (by simp [exitTo, hk])⟩
  | goto l' => exact absurd hq id
  | ret => exact ⟨_, a₁, w₁, hq, harr⟩
  | panic ch => exact ⟨_, a₁, w₁, hq, harr⟩
  | outgrown => exact ⟨_, a₁, w₁, hq, harr⟩
theorem jumps_ok {rn : Code → FT → HT → Nat → Option RC} (hrn : Rn P rn) (c : Code) : ∀ (m : Nat) (d : Code) f h n x, (∀ i, n ≤ i → hget h i = none) → jumps rn c m (rn d f h n) = some x → Ss h n x.h x.n x.r x.w ∧
    ∀ (k : K) (W : World) (a : Act) (Q : Exit → Act → World → Prop), FR k f a → HR k h W x.r → (∀ i, n ≤ i → i < x.n → k i = none) → (∀ k' W' a', Sd h n x.h x.n x.r x.w k W k' W' → FR k' x.f a' → Q x.e a' W') → SW P c d Q a W := by
  intro m
  induction m with
  | zero => intro d f h n x _ e; cases e
  | succ m ih =>
    intro d f h n x nn e
    obtain ⟨y, hy, e⟩ := bind_some (show (rn d f h n).bind _ = some x from e)
    obtain ⟨sa, oka⟩ := hrn _ _ _ _ _ nn hy
    cases hye : y.e with
    | goto l =>
      rw [hye] at e
      have e : (match findLabel c l with
        | some r => orC (jumps rn c m (rn r y.f y.h y.n)) y.r y.w
        | none => none) = some x := e
      cases hfl : findLabel c l with
      | none => rw [hfl] at e; cases e
      | some r =>
        rw [hfl] at e
        obtain ⟨u, hu, e⟩ := bind_some (show (jumps rn c m (rn r y.f y.h y.n)).bind _ = some x from e)
        rw [force_eq, force_eq] at e
        cases e
        obtain ⟨sb, okb⟩ := ih r y.f y.h y.n u (sa.nn nn) hu
        refine ⟨sa.trans sb, fun k W a Q hf H hnew hk => sw_go hfl ?_⟩
        refine oka k W a _ hf (H.sub fun i hi => tb_or.2 (Or.inl hi)) (fun i h1 h2 => hnew i h1 (Nat.lt_of_lt_of_le h2 sb.le)) (fun k1 W1 a1 hd hf1 => ?_)
        rw [hye]
        have H2 := Sd.next sa hd nn H
        exact ⟨rfl, okb k1 W1 a1 Q hf1 (H2.sub fun i hi => tb_or.2 (Or.inr hi)) (fun i h1 h2 => by rw [hd.dom i (Or.inr h1)]; exact hnew i (Nat.le_trans sa.le h1) h2) (fun k2 W2 a2 hd2 hf2 => hk k2 W2 a2 (Sd.trans sa hd sb hd2 nn H) hf2)⟩
    | _ =>
      rw [hye] at e
      cases e
      refine ⟨sa, fun k W a Q hf H hnew hk => sw_no (oka k W a _ hf H hnew fun k' W' a' hd hf' => ?_)⟩
      have := hk k' W' a' hd hf'
      rw [hye] at this ⊢
      exact this
theorem run_ok {tb' : Tb} (ht : TbOk P tb') (hmo : P.follows .mixedOrders = true) : ∀ fuel, Rn P (run P tb' fuel) ∧ ∀ c f h n x, (∀ i, n ≤ i → hget h i = none) → run P tb' fuel (.loop c) f h n = some x → Ss h n x.h x.n x.r x.w ∧
    ∀ (k : K) (W : World) (a : Act) (Q : Exit → Act → World → Prop), FR k f a → HR k h W x.r → (∀ i, n ≤ i → i < x.n → k i = none) → (∀ k' W' a', Sd h n x.h x.n x.r x.w k W k' W' → FR k' x.f a' → Q x.e a' W') → Code.rounds P c Q fuel a W := by
  intro fuel
  induction fuel with
  | zero => exact ⟨fun c f h n x _ e => (by cases e), fun c f h n x _ e => (by cases e)⟩
  | succ fuel ih =>
    obtain ⟨ih1, ih2⟩ := ih
    have lp : ∀ c f h n x, (∀ i, n ≤ i → hget h i = none) → run P tb' (fuel + 1) (.loop c) f h n = some x → Ss h n x.h x.n x.r x.w ∧
        ∀ (k : K) (W : World) (a : Act) (Q : Exit → Act → World → Prop), FR k f a → HR k h W x.r → (∀ i, n ≤ i → i < x.n → k i = none) → (∀ k' W' a', Sd h n x.h x.n x.r x.w k W k' W' → FR k' x.f a' → Q x.e a' W') → Code.rounds P c Q (fuel + 1) a W := by
      intro c f h n x nn e
      obtain ⟨y, hy, e'⟩ := thenC_some (show thenC (run P tb' fuel c f h n) (run P tb' fuel (.loop c)) = some x from e)
      obtain ⟨sa, oka⟩ := ih1 _ _ _ _ _ nn hy
      rcases e' with ⟨he, rfl⟩ | ⟨he, u, hu, hx⟩
      · refine ⟨sa, fun k W a Q hf H hnew hk => ?_⟩
        refine oka k W a _ hf H hnew (fun k' W' a' hd hf' => ?_)
        have := hk k' W' a' hd hf'
        cases hxe : x.e with
        | normal => exact absurd hxe he
        | _ => rw [hxe] at this; exact this
      · obtain ⟨sb, okb⟩ := ih2 _ _ _ _ _ (sa.nn nn) hu
        exact then_ok (b := .skip) nn sa oka sb hx he (T := fun Q => Code.rounds P c Q fuel) okb
    refine ⟨fun c f h n x nn e => ?_, lp⟩
    cases c with
    | skip => cases e; exact ⟨Ss.refl _ _, fun k W a Q hf _ _ hk => wp_skip (hk k W a (Sd.refl _ _ _ _) hf)⟩
    | label l => cases e; exact ⟨Ss.refl _ _, fun k W a Q hf _ _ hk => wp_label (hk k W a (Sd.refl _ _ _ _) hf)⟩
    | ret => cases e; exact ⟨Ss.refl _ _, fun k W a Q hf _ _ hk => wp_ret (hk k W a (Sd.refl _ _ _ _) hf)⟩
    | exit i => cases e; exact ⟨Ss.refl _ _, fun k W a Q hf _ _ hk => wp_exit (hk k W a (Sd.refl _ _ _ _) hf)⟩
    | seq c1 c2 =>
      obtain ⟨y, hy, e'⟩ := thenC_some (show thenC (run P tb' fuel c1 f h n) (run P tb' fuel c2) = some x from e)
      obtain ⟨sa, oka⟩ := ih1 _ _ _ _ _ nn hy
      rcases e' with ⟨he, rfl⟩ | ⟨he, u, hu, hx⟩
      · refine ⟨sa, fun k W a Q hf H hnew hk => wp_seq ?_⟩
        refine oka k W a _ hf H hnew (fun k' W' a' hd hf' => ?_)
        have := hk k' W' a' hd hf'
        cases hxe : x.e with
        | normal => exact absurd hxe he
        | _ => rw [hxe] at this; exact this
      · obtain ⟨sb, okb⟩ := ih1 _ _ _ _ _ (sa.nn nn) hu
        obtain ⟨s1, s2⟩ := then_ok (b := c2) nn sa oka sb hx he (T := fun Q => c2.wp P Q) okb
        exact ⟨s1, fun k W a Q hf H hnew hk => wp_seq (s2 k W a Q hf H hnew hk)⟩
    | cond c c1 c2 =>
      obtain ⟨t, ht, e'⟩ := onB_some (show onB (evo f c) (run P tb' fuel c1 f h n) (run P tb' fuel c2 f h n) = some x from e)
      have hc : ∀ (k : K) (a : Act), FR k f a → a.eval c = .bool t := fun k a hf => by
        have := hf.ev c; rw [ht] at this; exact this.bool_inv
      cases t with
      | true =>
        obtain ⟨sa, oka⟩ := ih1 _ _ _ _ _ nn e'
        exact ⟨sa, fun k W a Q hf H hnew hk => wp_cond_true (hc k a hf) (oka k W a Q hf H hnew hk)⟩
      | false =>
        obtain ⟨sa, oka⟩ := ih1 _ _ _ _ _ nn e'
        exact ⟨sa, fun k W a Q hf H hnew hk => wp_cond_false (hc k a hf) (oka k W a Q hf H hnew hk)⟩
    | block id c =>
      obtain ⟨y, hy, e'⟩ := bind_some (show (run P tb' fuel c f h n).bind (fun x => some ⟨outE id x.e, x.f, x.h, x.n, x.r, x.w⟩) = some x from e)
      cases e'
      obtain ⟨sa, oka⟩ := ih1 _ _ _ _ _ nn hy
      refine ⟨sa, fun k W a Q hf H hnew hk => wp_block (oka k W a _ hf H hnew fun k' W' a' hd hf' => ?_)⟩
      have := hk k' W' a' hd hf'
      cases hye : y.e with
      | exit i =>
        rw [hye] at this
        show if i = id then Q .normal a' W' else Q (.exit i) a' W'
        by_cases hid : i = id
        · have hb : Nat.beq i id = true := by rw [Nat.beq_eq]; exact hid
          simp only [outE, hb, cond_true] at this
          rw [if_pos hid]; exact this
        · have hb : Nat.beq i id = false := by rw [← Bool.not_eq_true, Nat.beq_eq]; exact hid
          simp only [outE, hb, cond_false] at this
          rw [if_neg hid]; exact this
      | _ => rw [hye] at this; exact this
    | loop c =>
      obtain ⟨s1, s2⟩ := lp c f h n x nn e
      exact ⟨s1, fun k W a Q hf H hnew hk => wp_loop_rounds (fuel + 1) (s2 k W a Q hf H hnew hk)⟩
    | region id ops draw =>
      obtain ⟨s, hs, e'⟩ := bind_some (show (opsL P (call P tb' (run P tb' fuel)) ops ops.toList ⟨f, h, n, 0, 0, []⟩).bind (fun s => bif !draw || (drawOk ops && drawn (bef ops) ops.size s.l) then some ⟨.normal, s.f, s.h, s.n, s.r, s.w⟩ else none) = some x from e)
      obtain ⟨hd, e'⟩ := bif_some e'
      cases e'
      have hcf := call_ok ht ih1
      cases draw with
      | false =>
        obtain ⟨r, w, h1, h2, ss, ok⟩ := list_ok hcf _ _ _ nn hs
        have hr : ∀ i, tb r i ↔ tb s.r i := fun i => by rw [h1]; exact ⟨Or.inr, fun h => h.resolve_left tb_zero⟩
        have hw : ∀ i, tb w i ↔ tb s.w i := fun i => by rw [h2]; exact ⟨Or.inr, fun h => h.resolve_left tb_zero⟩
        refine ⟨ss.congr hr hw, fun k W a Q hf H hnew hk => wp_region_list (ok k W a Q hf (H.sub fun i hi => (hr i).1 hi) hnew fun k' W' a' hd' hf' => hk k' W' a' (hd'.congr hr hw) hf')⟩
      | true =>
        simp only [Bool.not_true, Bool.false_or, Bool.and_eq_true] at hd
        obtain ⟨s1, s2⟩ := draw_ok hcf hmo nn rfl rfl rfl hs hd.1 hd.2
        exact ⟨s1, fun k W a Q hf H hnew hk => s2 k W a Q id hf H hnew hk⟩
    | rangeFunc _ _ _ _ => cases e
    | scope c =>
      obtain ⟨s1, s2⟩ := jumps_ok ih1 c 100000 c f h n x nn (show jumps (run P tb' fuel) c 100000 (run P tb' fuel c f h n) = some x from e)
      exact ⟨s1, fun k W a Q hf H hnew hk => sw_in (s2 k W a Q hf H hnew hk)⟩
    | goto l => cases e; exact ⟨Ss.refl _ _, fun k W a Q hf _ _ hk => wp_goto (hk k W a (Sd.refl _ _ _ _) hf)⟩
    | refuse _ => cases e
/-- What a call of such values comes to, in whatever world. -/
theorem closed {tb' : Tb} (ht : TbOk P tb') (hmo : P.follows .mixedOrders = true) {fuel f : Nat} {args : List Value} (ha : args.all cok1 = true) {x : R5} (e : call0 P (run P tb' fuel) f args he12 0 = some x) (W : World) :
    (∀ a w, (callFunc f a).run P w = .ok (.enter f a) w) ∧ Calls P f args.toArray W fun r W' => ∃ u k', r = .returned u ∧ Sd he12 0 x.h x.n x.r x.w (fun _ => none) W k' W' ∧ VX k' x.v u := by
  obtain ⟨_, h2, h3⟩ := call0_ok (run_ok ht hmo fuel).1 (fun i _ => hget_new i) e
  refine ⟨h2, h3 _ W args (cokL_vx ha) ⟨fun i _ cs h => ?_, fun i j _ _ hi => ?_⟩ (fun _ _ _ => rfl)⟩
  · rw [hget_new] at h; cases h
  · exact absurd hi (not_live (hget_new i))
theorem ok_true {x : Option R5} (h : isTrue x = true) : ∃ y, x = some y ∧ y.v = .bool true := by
  unfold isTrue at h
  split at h
  · rename_i y
    split at h
    · rename_i b hb; subst h; exact ⟨y, rfl, hb⟩
    · cases h
  · cases h
theorem apartL_spec : ∀ {l : List Nat}, apartL l = true → ∀ (i j a : Nat), l[i]? = some a → l[j]? = some a → i = j
  | [], _, _, _, _, h, _ => by cases h
  | x :: l, h, i, j, a, hi, hj => by
    simp only [apartL] at h
    cases hc : l.any (Nat.beq x) with
    | true => rw [hc] at h; cases h
    | false =>
      rw [hc] at h
      have hx : ∀ y ∈ l, x ≠ y := fun y hy e => by
        have := List.any_eq_false.1 hc y hy
        rw [Nat.beq_eq] at this
        exact this e
      cases i with
      | zero => cases j with
        | zero => rfl
        | succ j => simp at hi hj; subst hi; exact absurd rfl (hx x (List.mem_of_getElem? hj))
      | succ i => cases j with
        | zero => simp at hi hj; subst hj; exact absurd rfl (hx x (List.mem_of_getElem? hi))
        | succ j => simp at hi hj; rw [apartL_spec h i j a hi hj]
theorem blocksOk_spec {h : HT} {g : Nat → Nat} : ∀ {is : List Nat} {bs : List (List Value)}, blocksOk h g is bs = true → is.length = bs.length ∧ ∀ (j i : Nat) (b : List Value), is[j]? = some i → bs[j]? = some b → hget h i = some (sL g b)
  | [], [], _ => ⟨rfl, fun j i b h => by cases h⟩
  | [], _ :: _, e => by cases e
  | _ :: _, [], e => by cases e
  | i :: is, b :: bs, e => by
    simp only [blocksOk] at e
    cases hc : hget h i with
    | none => rw [hc] at e; cases e
    | some cs =>
      rw [hc] at e
      simp only at e
      cases hl : leq cs (sL g b) with
      | false => rw [hl] at e; cases e
      | true =>
        rw [hl] at e
        obtain ⟨h1, h2⟩ := blocksOk_spec (is := is) (bs := bs) e
        refine ⟨by simp [h1], fun j i' b' hi hb => ?_⟩
        cases j with
        | zero => simp at hi hb; subst hi; subst hb; rw [hc, leq_eq hl]
        | succ j => exact h2 j i' b' (by simpa using hi) (by simpa using hb)
/-- An entry out of a run. -/
theorem entry {tb' : Tb} (ht : TbOk P tb') (hmo : P.follows .mixedOrders = true) {fuel : Nat} {ids : List Nat} {e : En} (h : entOk (call0 P (run P tb' fuel) e.f e.args he12 0) ids e = true) : EnOk P e := by
  unfold entOk at h
  split at h
  · rename_i x hx
    cases h1 : veq2 x.v (s2 (ix ids) e.v) with
    | false => rw [h1] at h; cases h
    | true =>
      rw [h1] at h
      cases h2 : (apartL ids && Nat.ble x.n 4096 && at2 e.v && e.bs.all (·.all at0) && e.args.all flat1) with
      | false => rw [h2] at h; cases h
      | true =>
        rw [h2] at h
        simp only [Bool.and_eq_true, Nat.ble_eq] at h2
        obtain ⟨⟨⟨⟨c1, c2⟩, c3⟩, c4⟩, c5⟩ := h2
        obtain ⟨l1, l2⟩ := blocksOk_spec h
        have hv := veq2_eq h1
        have hfl : e.args.all cok1 = true := by
          rw [List.all_eq_true] at c5 ⊢
          intro v hv
          have := c5 v hv
          cases v <;> first | rfl | cases this
        have cl := fun W => closed (fuel := fuel) ht hmo hfl hx W
        refine ⟨c3, fun b hb => List.all_eq_true.1 c4 b hb, c5, (cl default).1, fun W => (cl W).2.mono ?_⟩
        rintro r W' ⟨u, k', rfl, hd, hvx⟩
        have hnx : ∀ i, x.n ≤ i → k' i = none := fun i hi => hd.dom i (Or.inr hi)
        have hg : ∀ i p, k' (ix ids i) = some p → (fun i => k' (ix ids i)) i = some p := fun i p h => h
        have hlive : ∀ (j i : Nat) (b : List Value), ids[j]? = some i → e.bs[j]? = some b → tb (Nat.lor x.r x.w) i ∧ live x.h i := fun j i b hi hb => by
          have h3 := l2 j i b hi hb
          refine ⟨tb_or.2 (Or.inr ?_), ⟨_, h3⟩⟩
          refine Classical.byContradiction fun hn => ?_
          have h4 := (call0_ok (run_ok ht hmo fuel).1 (fun i _ => hget_new i) hx).1.same i hn
          rw [h3, hget_new] at h4
          cases h4
        have hix : ∀ (j i : Nat), ids[j]? = some i → ix ids j = i := fun j i h => by unfold ix; rw [h]; rfl
        have hnone : ∀ i, e.bs.length ≤ i → k' (ix ids i) = none := fun i hi => by
          have : ix ids i = 4096 := by unfold ix; rw [List.getElem?_eq_none (by omega)]; rfl
          rw [this]; exact hnx 4096 c2
        have hgi : ∀ i : Nat, i < e.bs.length → ∃ a b, ids[i]? = some a ∧ e.bs[i]? = some b := fun i hi => ⟨ids[i], e.bs[i], by simp [l1, hi], by simp [hi]⟩
        have hsm : ∀ i p, k' (ix ids i) = some p → i < e.bs.length := fun i p hp => by
          rcases Nat.lt_or_ge i e.bs.length with h' | h'
          · exact h'
          · rw [hnone i h'] at hp; cases hp
        refine ⟨u, fun i => k' (ix ids i), rfl, r2 hg c3 (by rw [← hv]; exact hvx), hnone, fun i cs hcs => ?_, fun i j b z b' z' hne hb hb' => ?_, fun b hb => hd.frm b hb (fun j z _ hl => absurd hl (not_live (hget_new j))), hd.size, hd.os, hd.tape, hd.output, hd.fz⟩
        · have hi : i < e.bs.length := (List.getElem?_eq_some_iff.1 hcs).1
          obtain ⟨a, b0, ha, hb0⟩ := hgi i hi
          obtain ⟨ht1, hl1⟩ := hlive i a cs ha hcs
          refine ⟨(hd.rep.rep a ht1 _ (l2 i a cs ha hcs)).mono (fun p hp => by show k' (ix ids i) = _; rw [hix i a ha]; exact hp) (fun _ _ _ _ => rfl) (fun us => rL hg (List.all_eq_true.1 c4 cs (List.mem_of_getElem? hcs))), fun b z e1 => ?_⟩
          have e1 : k' a = some (b, z) := by rw [← hix i a ha]; exact e1
          have han : a < x.n := by
            rcases Nat.lt_or_ge a x.n with h' | h'
            · exact h'
            · rw [hnx a h'] at e1; cases e1
          rcases hd.fresh a b _ (Nat.zero_le _) han hl1 e1 with h' | ⟨j, _, _, h', _⟩
          · exact h'
          · omega
        · have hi := hsm i _ hb
          have hj := hsm j _ hb'
          obtain ⟨a1, b1, ha1, hb1⟩ := hgi i hi
          obtain ⟨a2, b2, ha2, hb2⟩ := hgi j hj
          obtain ⟨t1, l1'⟩ := hlive i a1 b1 ha1 hb1
          obtain ⟨t2, l2'⟩ := hlive j a2 b2 ha2 hb2
          have hb3 : k' a1 = some (b, z) := by rw [← hix i a1 ha1]; exact hb
          have hb4 : k' a2 = some (b', z') := by rw [← hix j a2 ha2]; exact hb'
          exact hd.rep.inj a1 a2 t1 t2 l1' l2' (fun e => hne (apartL_spec c1 i j a1 ha1 (by rw [e]; exact ha2))) b z b' z' hb3 hb4
  · cases h
end
end E
end Go.Proofs.YtfmfeipeeedfpaaGreat
namespace Go.Proofs.YtfmfeipeeedfpaaGreat
namespace E
/-- math/bits.Add64. -/
def xadd (vs : List Value) : Option Value := match vs with
  | [.int .u64 x, .int .u64 y, .int .u64 c] => match x with
    | .ofNat x => match y with
      | .ofNat y => match c with
        | .ofNat c => bif Nat.ble c 1 then Go.CheckFast.force (Nat.add (Nat.add x y) c) fun s => Go.CheckFast.force (Nat.mod s 18446744073709551616) fun a => Go.CheckFast.force (Nat.div s 18446744073709551616) fun b => some (.tuple #[.int .u64 (.ofNat a), .int .u64 (.ofNat b)]) else none
        | _ => none
      | _ => none
    | _ => none
  | _ => none
def tbx : Tb := ⟨[], fun f vs => bif Nat.beq f 217 then xadd vs else none⟩
theorem tbx_ok : TbOk Tryz.prog tbx := by
  refine ⟨fun e h => (by cases h), fun f vs v h => ?_⟩
  obtain ⟨hf, h2⟩ := bif_some (show (bif Nat.beq f 217 then xadd vs else none) = some v from h)
  clear h
  have h := h2
  rw [Nat.beq_eq] at hf
  subst hf
  unfold xadd at h
  split at h
  · rename_i x y c
    split at h
    · rename_i x
      split at h
      · rename_i y
        split at h
        · rename_i c
          obtain ⟨hc, h⟩ := bif_some h
          rw [Nat.ble_eq] at hc
          simp only [Go.CheckFast.force_eq] at h
          cases h
          refine ⟨rfl, fun k => VX.tuple (cs := [_, _]) (us := [_, _]) ⟨_, _, rfl, VX.of0 rfl, _, _, rfl, VX.of0 rfl, rfl⟩, fun w => ?_⟩
          have := run_callFunc_extern (P := Tryz.prog) Tryz.func217 (by kernel_rfl) (by kernel_rfl) (by kernel_rfl) (e := add64Entry) (by kernel_rfl) #[.int .u64 (.ofNat x), .int .u64 (.ofNat y), .int .u64 (.ofNat c)] w
          have h2 := run_add64 (P := Tryz.prog) (.ofNat x) (.ofNat y) (.ofNat c) (Int.natCast_nonneg x) (Int.natCast_nonneg y) (Int.natCast_nonneg c) (by show (c : Int) ≤ 1; omega) w
          rw [this, h2]
          rfl
        · cases h
      · cases h
    · cases h
  · cases h
end E
namespace E
set_option maxRecDepth 100000 in
theorem lv_run : isTrue (call0 Tryz.prog (run Tryz.prog tbx 3000) 11 [] he12 0) = true := by kernel_rfl
theorem lv (W : World) : Calls Tryz.prog 11 #[] W fun r W' => r = .returned (.bool true) ∧ W.heap.size ≤ W'.heap.size ∧ W'.os = W.os ∧ Tp W' W ∧ W'.output = W.output ∧ (∀ b, b < W.heap.size → W'.heap[b]? = W.heap[b]?) ∧ ∀ a, W'.frozen? a = W.frozen? a := by
  obtain ⟨y, h1, h2⟩ := ok_true lv_run
  refine (closed tbx_ok rfl rfl h1 W).2.mono ?_
  rintro r W' ⟨u, k', rfl, hd, hv⟩
  rw [h2] at hv
  refine ⟨by rw [hv.bool_inv], hd.size, hd.os, hd.tape, hd.output, fun b hb => hd.frm b hb (fun j z _ hl => absurd hl (not_live (hget_new j))), hd.fz⟩
end E
end Go.Proofs.YtfmfeipeeedfpaaGreat
namespace Go.Proofs.YtfmfeipeeedfpaaGreat
open S Go.RowKit
theorem u_live (w : World) : Calls Tryz.prog 11 #[] w fun e W => e = .returned (.bool true) ∧ Mb w W := (E.lv w).mono (by
  rintro e W ⟨rfl, h1, h2, h3, h4, h5, _⟩
  exact ⟨rfl, ⟨h2, h3.1, h4, h1, h5⟩, h3.2⟩)
set_option maxRecDepth 20000 in
theorem u_fits {d : Nat} {x : Ex} {w : World} {b : Bool} (hb : decide (szX 60 x ≤ 2000) = b) (hL : LT w d x) : Calls Tryz.prog 10 #[.agg x.c.toArray] w fun e W => e = .returned (.bool b) ∧ Mb w W := by
  refine fn_pure [.agg (x.c.map rel1).toArray] Tryz.func10 rfl rfl rfl (run_ok (st mo ?_))
  refine ⟨_, fun nn => r_call (t := .int .i64 (szX 60 x)) rfl rfl Tryz.func28 (fun W M E => t_size 60 x W (by decide) ((hL.mono E).lx 60)), st mo ⟨fun h => st mo ?_, fun h => st mo ?_⟩⟩
  · show _ = _; rw [← hb, decide_eq_true h]
  · show _ = _; rw [← hb, decide_eq_false (by omega)]
end Go.Proofs.YtfmfeipeeedfpaaGreat
namespace Go.Proofs.YtfmfeipeeedfpaaGreat
open Go.ChangeShapes Go.WideShapes Go.ChangeAt Go.RowKit
open S (Lies)
theorem LT.le {w : World} {d : Nat} {x : Ex} (h : LT w d x) : ∀ {e : Nat}, d ≤ e → LT w e x := by
  intro e he
  induction he with
  | refl => exact h
  | step _ ih => exact ih.up
theorem LT.xu {w : World} : ∀ {d : Nat} {x : Ex}, LT w d x → XU d x → XU (d + 1) x
  | 0, x, h, u => ⟨u, fun y hy => by rw [show x.a = [] from h] at hy; cases hy⟩
  | d + 1, x, h, u => ⟨u.1, fun y hy => by
    obtain ⟨i, hi⟩ := List.getElem?_of_mem hy
    exact (h.at hi).2.xu (u.2 y hy)⟩
theorem LT.leU {w : World} {d : Nat} {x : Ex} (h : LT w d x) (u : XU d x) : ∀ {e : Nat}, d ≤ e → LT w e x ∧ XU e x := by
  intro e he
  induction he with
  | refl => exact ⟨h, u⟩
  | step _ ih => exact ⟨ih.1.up, ih.1.xu ih.2⟩
namespace D
def dn00 : Dn := ⟨false, 0, 0⟩
theorem cl_int : Tryz.prog.cellsOf 3 = 1 := by kernel_rfl
theorem cl_bool : Tryz.prog.cellsOf 4 = 1 := by kernel_rfl
theorem cl_string : Tryz.prog.cellsOf 9 = 1 := by kernel_rfl
theorem cl_u64 : Tryz.prog.cellsOf 22 = 1 := by kernel_rfl
theorem cl_nat : Tryz.prog.cellsOf 24 = 4 := by kernel_rfl
theorem cl_dec : Tryz.prog.cellsOf 26 = 6 := by kernel_rfl
theorem cl_val : Tryz.prog.cellsOf 28 = 10 := by kernel_rfl
theorem cl_sx : Tryz.prog.cellsOf 29 = 1 := by kernel_rfl
theorem cl_ex : Tryz.prog.cellsOf 31 = 17 := by kernel_rfl
theorem cl_st : Tryz.prog.cellsOf 146 = 18 := by kernel_rfl
theorem cl_ss : Tryz.prog.cellsOf 112 = 1 := by kernel_rfl
theorem cl_tb : Tryz.prog.cellsOf 114 = 2 := by kernel_rfl
theorem cl_stb : Tryz.prog.cellsOf 34 = 1 := by kernel_rfl
theorem cl_wd : Tryz.prog.cellsOf 62 = 5 := by kernel_rfl
theorem cl_sm : Tryz.prog.cellsOf 64 = 23 := by kernel_rfl
theorem cl_cl : Tryz.prog.cellsOf 66 = 24 := by kernel_rfl
theorem cl_ev : Tryz.prog.cellsOf 36 = 3 := by kernel_rfl
theorem cl_mn : Tryz.prog.cellsOf 32 = 1 := by kernel_rfl
theorem cl_mc : Tryz.prog.cellsOf 33 = 1 := by kernel_rfl
theorem cl_ck : Tryz.prog.cellsOf 53 = 2 := by kernel_rfl
/-- A slice's elements lie there. -/
def SL (W : World) (n : Nat) {α : Type} (cells : α → List Value) (pa : Option Addr) (L : List α) : Prop := L.length ≤ maxLen ∧ ∀ i o, L[i]? = some o → ∃ b off, pa = some ⟨b, off, none⟩ ∧ b < W.heap.size ∧ W.rangeAt b (off + i * n) (cells o)
theorem wf_i {n : Int} (h : (Lit.int .i64 n).wf = true) : -9223372036854775808 ≤ n ∧ n < 9223372036854775808 := by
  have h : (decide (IntKind.i64.min ≤ n) && decide (n ≤ IntKind.i64.max)) = true := h
  rw [Bool.and_eq_true, decide_eq_true_eq, decide_eq_true_eq] at h
  have e1 : IntKind.i64.min = -9223372036854775808 := by decide
  have e2 : IntKind.i64.max = 9223372036854775807 := by decide
  omega
theorem wf_u {n : Int} (h : (Lit.int .u64 n).wf = true) : U1 n := by
  have h : (decide (IntKind.u64.min ≤ n) && decide (n ≤ IntKind.u64.max)) = true := h
  rw [Bool.and_eq_true, decide_eq_true_eq, decide_eq_true_eq] at h
  have e1 : IntKind.u64.min = 0 := by decide
  have e2 : IntKind.u64.max = 18446744073709551615 := by decide
  unfold U1; omega
section
variable {H : Type} {enc : TypeId × Value → H} {W : World} {sp : Nat → Bool}
/-- A slice that came in, of elements that are read with less fuel. -/
theorem cut_sl {fuel : Nat} {x : DataW H × List MemPlace} {t e : TypeId} (hu : Tryz.prog.underlying t = some (.slice e)) {n : Nat} (hn : 0 < n) (hcl : Tryz.prog.cellsOf e = n) {α : Type} (cells : α → List Value) (dflt : α) (ok : α → Prop) (hlen : ∀ y, (cells y).length = n)
    (hcut : ∀ {m : Nat} {cs : List Value} {y : DataW H × List MemPlace}, m < fuel → DataW.trod enc Tryz.prog W 0 sp true m e cs = some y → ∃ z, ok z ∧ cs = cells z) {v : Value} (h : DataW.trod enc Tryz.prog W 0 sp true fuel t [v] = some x) :
    ∃ (L : List α) (pa : Option Addr) (cap : Nat), v = .slice pa L.length cap ∧ (∀ o ∈ L, ok o) ∧ SL W n cells pa L ∧ L.length ≤ cap := by
  rcases DataW.trod_slice hu h with ⟨hcs, _⟩ | ⟨a, len, cap, elems, rest, k, rfl, hcs, _, _, hlc, hcm, hlen2, hel, _, _⟩
  · simp only [List.cons.injEq, and_true] at hcs
    subst hcs
    exact ⟨[], none, 0, rfl, fun _ e => (by cases e), ⟨Nat.zero_le _, (fun _ _ e => by cases e)⟩, Nat.le_refl _⟩
  · simp only [List.cons.injEq, and_true] at hcs
    subst hcs
    have first : ∀ o : α, ∃ u, (cells o)[0]? = some u := fun o => ⟨(cells o)[0]'(by rw [hlen]; exact hn), List.getElem?_eq_getElem _⟩
    have el : ∀ i, i < len → ∃ cs' y, W.cells? 0 (a.add (i * Tryz.prog.cellsOf e)) (Tryz.prog.cellsOf e) = some cs' ∧ DataW.trod enc Tryz.prog W 0 sp true k e cs' = some y := fun i hi => by
      have h1 := hel i hi
      rw [List.getElem?_eq_getElem (by omega)] at h1
      cases h2 : W.cells? 0 (a.add (i * Tryz.prog.cellsOf e)) (Tryz.prog.cellsOf e) with
      | none => rw [h2] at h1; cases h1
      | some cs' => rw [h2] at h1; exact ⟨cs', _, rfl, h1⟩
    have key : ∀ i : Nat, ∃ S : α, i < len → ok S ∧ ∃ b off, some a = some (⟨b, off, none⟩ : Addr) ∧ b < W.heap.size ∧ W.rangeAt b (off + i * n) (cells S) := by
      intro i
      by_cases hi : i < len
      · obtain ⟨cs', y, hc, ht⟩ := el i hi
        obtain ⟨o, ho, rfl⟩ := hcut (Nat.lt_succ_self k) ht
        refine ⟨o, fun _ => ⟨ho, ?_⟩⟩
        rw [hcl] at hc
        have hb := World.cells?_block hc hn
        obtain ⟨_, _, hcell⟩ := World.cells?_some hc
        obtain ⟨b, off, spot⟩ := a
        have hs : spot = none := by
          obtain ⟨cs0, y0, hc0, ht0⟩ := el 0 (by omega)
          obtain ⟨o0, _, rfl⟩ := hcut (Nat.lt_succ_self k) ht0
          rw [hcl] at hc0
          have h0 := (World.cells?_some hc0).2.2 0 hn
          obtain ⟨u, hu0⟩ := first o0
          rw [hu0] at h0
          have := World.cell?_spot (show W.cell? (((⟨b, off, spot⟩ : Addr).add (0 * n)).add 0) = some u from h0)
          simpa [Addr.add] using this
        subst hs
        refine ⟨b, off, rfl, by simpa [Addr.add_mid] using hb, fun j v hv => ?_⟩
        have hj : j < n := by rw [← hlen o]; exact (List.getElem?_eq_some_iff.1 hv).1
        have := hcell j hj
        rw [Addr.add_mid, Addr.add_mid, hv] at this
        exact this
      · exact ⟨dflt, fun e => absurd e hi⟩
    obtain ⟨f, hf2⟩ := Classical.skolem.1 key
    refine ⟨(List.range len).map f, some a, cap, by simp, fun o ho => ?_, ⟨by simpa using Nat.le_trans hlc hcm, fun i o e => ?_⟩, by simpa using hlc⟩
    · obtain ⟨i, hi, rfl⟩ := List.mem_map.1 ho
      exact (hf2 i (by simpa using hi)).1
    · have hi : i < len := by have := (List.getElem?_eq_some_iff.1 e).1; simpa using this
      rw [List.getElem?_map, List.getElem?_range hi] at e
      cases e
      exact (hf2 i hi).2
set_option maxRecDepth 100000 in
theorem cut_arr {fuel : Nat} {cs : List Value} {x : DataW H × List MemPlace} (h : DataW.trod enc Tryz.prog W 0 sp true fuel 24 cs = some x) : ∃ n0 n1 n2 n3 : Int, U1 n0 ∧ U1 n1 ∧ U1 n2 ∧ U1 n3 ∧ cs = [.int .u64 n0, .int .u64 n1, .int .u64 n2, .int .u64 n3] := by
  obtain ⟨xs, m, rfl, _, hlen, hn, hi⟩ := DataW.trod_array Tryz.underlying24 h
  rw [cl_nat] at hlen
  obtain ⟨c0, c1, c2, c3, rfl⟩ : ∃ c0 c1 c2 c3, cs = [c0, c1, c2, c3] := by
    match cs, hlen with
    | [a0, a1, a2, a3], _ => exact ⟨a0, a1, a2, a3, rfl⟩
  obtain ⟨y0, y1, y2, y3, rfl⟩ : ∃ y0 y1 y2 y3, xs = [y0, y1, y2, y3] := by
    match xs, hn with
    | [a0, a1, a2, a3], _ => exact ⟨a0, a1, a2, a3, rfl⟩
  have i0 := hi 0 (by decide)
  have i1 := hi 1 (by decide)
  have i2 := hi 2 (by decide)
  have i3 := hi 3 (by decide)
  simp only [cl_u64] at i0 i1 i2 i3
  simp at i0 i1 i2 i3
  obtain ⟨x0, e0, _, f0⟩ := DataW.trod_int Tryz.underlying22 i0
  obtain ⟨x1, e1, _, f1⟩ := DataW.trod_int Tryz.underlying22 i1
  obtain ⟨x2, e2, _, f2⟩ := DataW.trod_int Tryz.underlying22 i2
  obtain ⟨x3, e3, _, f3⟩ := DataW.trod_int Tryz.underlying22 i3
  simp at e0 e1 e2 e3
  subst e0 e1 e2 e3
  exact ⟨x0, x1, x2, x3, wf_u f0, wf_u f1, wf_u f2, wf_u f3, rfl⟩
set_option maxRecDepth 100000 in
theorem cut_wd {fuel : Nat} {cs : List Value} {x : DataW H × List MemPlace} (h : DataW.trod enc Tryz.prog W 0 sp true fuel 62 cs = some x) : ∃ n0 n1 n2 n3 n4 : Int, U1 n0 ∧ U1 n1 ∧ U1 n2 ∧ U1 n3 ∧ U1 n4 ∧ cs = [.int .u64 n0, .int .u64 n1, .int .u64 n2, .int .u64 n3, .int .u64 n4] := by
  obtain ⟨xs, m, rfl, _, hlen, hn, hi⟩ := DataW.trod_array Tryz.underlying62 h
  rw [cl_wd] at hlen
  obtain ⟨c0, c1, c2, c3, c4, rfl⟩ : ∃ c0 c1 c2 c3 c4, cs = [c0, c1, c2, c3, c4] := by
    match cs, hlen with
    | [a0, a1, a2, a3, a4], _ => exact ⟨a0, a1, a2, a3, a4, rfl⟩
  obtain ⟨y0, y1, y2, y3, y4, rfl⟩ : ∃ y0 y1 y2 y3 y4, xs = [y0, y1, y2, y3, y4] := by
    match xs, hn with
    | [a0, a1, a2, a3, a4], _ => exact ⟨a0, a1, a2, a3, a4, rfl⟩
  have i0 := hi 0 (by decide)
  have i1 := hi 1 (by decide)
  have i2 := hi 2 (by decide)
  have i3 := hi 3 (by decide)
  have i4 := hi 4 (by decide)
  simp only [cl_u64] at i0 i1 i2 i3 i4
  simp at i0 i1 i2 i3 i4
  obtain ⟨x0, e0, _, f0⟩ := DataW.trod_int Tryz.underlying22 i0
  obtain ⟨x1, e1, _, f1⟩ := DataW.trod_int Tryz.underlying22 i1
  obtain ⟨x2, e2, _, f2⟩ := DataW.trod_int Tryz.underlying22 i2
  obtain ⟨x3, e3, _, f3⟩ := DataW.trod_int Tryz.underlying22 i3
  obtain ⟨x4, e4, _, f4⟩ := DataW.trod_int Tryz.underlying22 i4
  simp at e0 e1 e2 e3 e4
  subst e0 e1 e2 e3 e4
  exact ⟨x0, x1, x2, x3, x4, wf_u f0, wf_u f1, wf_u f2, wf_u f3, wf_u f4, rfl⟩
theorem cut_nat {fuel : Nat} {cs : List Value} {x : DataW H × List MemPlace} (h : DataW.trod enc Tryz.prog W 0 sp true fuel 24 cs = some x) : ∃ n : Int, (0 ≤ n ∧ n < MM) ∧ cs = [.int .u64 (l0 n), .int .u64 (l1 n), .int .u64 (l2 n), .int .u64 (l3 n)] := by
  obtain ⟨a, b, c, d, h0, h1, h2, h3, rfl⟩ := cut_arr h
  have u : U4 a b c d := ⟨h0, h1, h2, h3⟩
  exact ⟨vl a b c d, vl_bd u, by rw [l0_vl u, l1_vl u, l2_vl u, l3_vl u]⟩
set_option maxRecDepth 100000 in
theorem cut_dn {fuel : Nat} {cs : List Value} {x : DataW H × List MemPlace} (h : DataW.trod enc Tryz.prog W 0 sp true fuel 26 cs = some x) : ∃ d : Dn, d.ok ∧ cs = d.cells := by
  obtain ⟨xs, m, rfl, _, hl, hlen, hi⟩ := DataW.trod_struct Tryz.underlying26 h
  rw [cl_dec] at hl
  obtain ⟨c0, c1, c2, c3, c4, c5, rfl⟩ : ∃ c0 c1 c2 c3 c4 c5, cs = [c0, c1, c2, c3, c4, c5] := by
    match cs, hl with
    | [a0, a1, a2, a3, a4, a5], _ => exact ⟨a0, a1, a2, a3, a4, a5, rfl⟩
  obtain ⟨y0, y1, y2, rfl⟩ : ∃ y0 y1 y2, xs = [y0, y1, y2] := by
    match xs, hlen with
    | [a0, a1, a2], _ => exact ⟨a0, a1, a2, rfl⟩
  have i0 := hi 0 _ rfl
  have i1 := hi 1 _ rfl
  have i2 := hi 2 _ rfl
  simp [cl_bool, cl_nat, cl_int] at i0 i1 i2
  obtain ⟨b, e0, _⟩ := DataW.trod_bool Tryz.underlying4 i0
  obtain ⟨n, hn, e1⟩ := cut_nat i1
  obtain ⟨s, e2, _, f2⟩ := DataW.trod_int Tryz.underlying3 i2
  simp at e0 e1 e2
  obtain ⟨e1_0, e1_1, e1_2, e1_3⟩ := e1
  subst e0 e1_0 e1_1 e1_2 e1_3 e2
  exact ⟨⟨b, n, s⟩, hn, rfl⟩
set_option maxRecDepth 100000 in
theorem cut_vl {fuel : Nat} {cs : List Value} {x : DataW H × List MemPlace} (h : DataW.trod enc Tryz.prog W 0 sp true fuel 28 cs = some x) : ∃ v : VL, v.ok ∧ cs = v.cells := by
  obtain ⟨xs, m, rfl, _, hl, hlen, hi⟩ := DataW.trod_struct Tryz.underlying28 h
  rw [cl_val] at hl
  obtain ⟨c0, c1, c2, c3, c4, c5, c6, c7, c8, c9, rfl⟩ : ∃ c0 c1 c2 c3 c4 c5 c6 c7 c8 c9, cs = [c0, c1, c2, c3, c4, c5, c6, c7, c8, c9] := by
    match cs, hl with
    | [a0, a1, a2, a3, a4, a5, a6, a7, a8, a9], _ => exact ⟨a0, a1, a2, a3, a4, a5, a6, a7, a8, a9, rfl⟩
  obtain ⟨y0, y1, y2, y3, y4, rfl⟩ : ∃ y0 y1 y2 y3 y4, xs = [y0, y1, y2, y3, y4] := by
    match xs, hlen with
    | [a0, a1, a2, a3, a4], _ => exact ⟨a0, a1, a2, a3, a4, rfl⟩
  have i0 := hi 0 _ rfl
  have i1 := hi 1 _ rfl
  have i2 := hi 2 _ rfl
  have i3 := hi 3 _ rfl
  have i4 := hi 4 _ rfl
  simp [cl_int, cl_dec, cl_bool, cl_string] at i0 i1 i2 i3 i4
  obtain ⟨k, e0, _, f0⟩ := DataW.trod_int Tryz.underlying3 i0
  obtain ⟨d, hd, e1⟩ := cut_dn i1
  obtain ⟨f, e2, _⟩ := DataW.trod_bool Tryz.underlying4 i2
  obtain ⟨t, e3, _, _⟩ := DataW.trod_string Tryz.underlying9 i3
  obtain ⟨er, e4, _, f4⟩ := DataW.trod_int Tryz.underlying3 i4
  simp only [Dn.cells] at e1
  simp at e0 e1 e2 e3 e4
  obtain ⟨e1_0, e1_1, e1_2, e1_3, e1_4, e1_5⟩ := e1
  subst e0 e1_0 e1_1 e1_2 e1_3 e1_4 e1_5 e2 e3 e4
  exact ⟨⟨k, d.b, d.n, d.s, f, t, er⟩, hd, rfl⟩
set_option maxRecDepth 100000 in
theorem cut_st {fuel : Nat} {cs : List Value} {x : DataW H × List MemPlace} (h : DataW.trod enc Tryz.prog W 0 sp true fuel 146 cs = some x) : ∃ s : Stp, s.ok ∧ cs = s.cells := by
  obtain ⟨xs, m, rfl, _, hl, hlen, hi⟩ := DataW.trod_struct Tryz.underlying146 h
  rw [cl_st] at hl
  obtain ⟨c0, c1, c2, c3, c4, c5, c6, c7, c8, c9, c10, c11, c12, c13, c14, c15, c16, c17, rfl⟩ : ∃ c0 c1 c2 c3 c4 c5 c6 c7 c8 c9 c10 c11 c12 c13 c14 c15 c16 c17, cs = [c0, c1, c2, c3, c4, c5, c6, c7, c8, c9, c10, c11, c12, c13, c14, c15, c16, c17] := by
    match cs, hl with
    | [a0, a1, a2, a3, a4, a5, a6, a7, a8, a9, a10, a11, a12, a13, a14, a15, a16, a17], _ => exact ⟨a0, a1, a2, a3, a4, a5, a6, a7, a8, a9, a10, a11, a12, a13, a14, a15, a16, a17, rfl⟩
  obtain ⟨y0, y1, y2, rfl⟩ : ∃ y0 y1 y2, xs = [y0, y1, y2] := by
    match xs, hlen with
    | [a0, a1, a2], _ => exact ⟨a0, a1, a2, rfl⟩
  have i0 := hi 0 _ rfl
  have i1 := hi 1 _ rfl
  have i2 := hi 2 _ rfl
  simp [cl_dec] at i0 i1 i2
  obtain ⟨a, ha, e0⟩ := cut_dn i0
  obtain ⟨b, hb, e1⟩ := cut_dn i1
  obtain ⟨c, hc, e2⟩ := cut_dn i2
  simp only [Dn.cells] at e0 e1 e2
  simp at e0 e1 e2
  obtain ⟨e0_0, e0_1, e0_2, e0_3, e0_4, e0_5⟩ := e0
  obtain ⟨e1_0, e1_1, e1_2, e1_3, e1_4, e1_5⟩ := e1
  obtain ⟨e2_0, e2_1, e2_2, e2_3, e2_4, e2_5⟩ := e2
  subst e0_0 e0_1 e0_2 e0_3 e0_4 e0_5 e1_0 e1_1 e1_2 e1_3 e1_4 e1_5 e2_0 e2_1 e2_2 e2_3 e2_4 e2_5
  exact ⟨⟨a, b, c⟩, ⟨ha, hb, hc⟩, rfl⟩
set_option maxRecDepth 100000 in
theorem cut_tb {fuel : Nat} {cs : List Value} {x : DataW H × List MemPlace} (h : DataW.trod enc Tryz.prog W 0 sp true fuel 114 cs = some x) : ∃ t : Tb, TbL W t ∧ cs = t.cells := by
  obtain ⟨xs, m, rfl, _, hl, hlen, hi⟩ := DataW.trod_struct Tryz.underlying114 h
  rw [cl_tb] at hl
  obtain ⟨c0, c1, rfl⟩ : ∃ c0 c1, cs = [c0, c1] := by
    match cs, hl with
    | [a0, a1], _ => exact ⟨a0, a1, rfl⟩
  obtain ⟨y0, y1, rfl⟩ : ∃ y0 y1, xs = [y0, y1] := by
    match xs, hlen with
    | [a0, a1], _ => exact ⟨a0, a1, rfl⟩
  have i0 := hi 0 _ rfl
  have i1 := hi 1 _ rfl
  simp [cl_string, cl_ss] at i0 i1
  obtain ⟨nm, e0, _, _⟩ := DataW.trod_string Tryz.underlying9 i0
  obtain ⟨L, pa, cap, e1, hL, hS, _⟩ := cut_sl Tryz.underlying112 (n := 18) (by decide) cl_st Stp.cells ⟨dn00, dn00, dn00⟩ Stp.ok Stp.len (fun _ h => cut_st h) i1
  simp at e0
  subst e0 e1
  exact ⟨⟨nm, pa, cap, L⟩, ⟨fun i y hy => by
    obtain ⟨b, o, h1, _, h2⟩ := hS.2 i y hy
    exact ⟨b, o, h1, h2⟩, hL, hS.1⟩, rfl⟩
set_option maxRecDepth 100000 in
theorem cut_sm {fuel : Nat} {cs : List Value} {x : DataW H × List MemPlace} (h : DataW.trod enc Tryz.prog W 0 sp true fuel 64 cs = some x) : ∃ m : SM, m.ok ∧ cs = m.cells := by
  obtain ⟨xs, m, rfl, _, hl, hlen, hi⟩ := DataW.trod_struct Tryz.underlying64 h
  rw [cl_sm] at hl
  obtain ⟨c0, c1, c2, c3, c4, c5, c6, c7, c8, c9, c10, c11, c12, c13, c14, c15, c16, c17, c18, c19, c20, c21, c22, rfl⟩ : ∃ c0 c1 c2 c3 c4 c5 c6 c7 c8 c9 c10 c11 c12 c13 c14 c15 c16 c17 c18 c19 c20 c21 c22, cs = [c0, c1, c2, c3, c4, c5, c6, c7, c8, c9, c10, c11, c12, c13, c14, c15, c16, c17, c18, c19, c20, c21, c22] := by
    match cs, hl with
    | [a0, a1, a2, a3, a4, a5, a6, a7, a8, a9, a10, a11, a12, a13, a14, a15, a16, a17, a18, a19, a20, a21, a22], _ => exact ⟨a0, a1, a2, a3, a4, a5, a6, a7, a8, a9, a10, a11, a12, a13, a14, a15, a16, a17, a18, a19, a20, a21, a22, rfl⟩
  obtain ⟨y0, y1, y2, y3, y4, y5, y6, y7, y8, rfl⟩ : ∃ y0 y1 y2 y3 y4 y5 y6 y7 y8, xs = [y0, y1, y2, y3, y4, y5, y6, y7, y8] := by
    match xs, hlen with
    | [a0, a1, a2, a3, a4, a5, a6, a7, a8], _ => exact ⟨a0, a1, a2, a3, a4, a5, a6, a7, a8, rfl⟩
  have i0 := hi 0 _ rfl
  have i1 := hi 1 _ rfl
  have i2 := hi 2 _ rfl
  have i3 := hi 3 _ rfl
  have i4 := hi 4 _ rfl
  have i5 := hi 5 _ rfl
  have i6 := hi 6 _ rfl
  have i7 := hi 7 _ rfl
  have i8 := hi 8 _ rfl
  simp [cl_int, cl_wd, cl_bool, cl_dec] at i0 i1 i2 i3 i4 i5 i6 i7 i8
  obtain ⟨ro, e0, _, f0⟩ := DataW.trod_int Tryz.underlying3 i0
  obtain ⟨fi, e1, _, f1⟩ := DataW.trod_int Tryz.underlying3 i1
  obtain ⟨bl, e2, _, f2⟩ := DataW.trod_int Tryz.underlying3 i2
  obtain ⟨bd, e3, _, f3⟩ := DataW.trod_int Tryz.underlying3 i3
  obtain ⟨er, e4, _, f4⟩ := DataW.trod_int Tryz.underlying3 i4
  obtain ⟨t0, t1, t2, t3, t4, g0, g1, g2, g3, g4, e5⟩ := cut_wd i5
  obtain ⟨so, e6, _⟩ := DataW.trod_bool Tryz.underlying4 i6
  obtain ⟨mn, hmn, e7⟩ := cut_dn i7
  obtain ⟨mx, hmx, e8⟩ := cut_dn i8
  simp only [Dn.cells] at e7 e8
  simp at e0 e1 e2 e3 e4 e5 e6 e7 e8
  obtain ⟨e5_0, e5_1, e5_2, e5_3, e5_4⟩ := e5
  obtain ⟨e7_0, e7_1, e7_2, e7_3, e7_4, e7_5⟩ := e7
  obtain ⟨e8_0, e8_1, e8_2, e8_3, e8_4, e8_5⟩ := e8
  subst e0 e1 e2 e3 e4 e5_0 e5_1 e5_2 e5_3 e5_4 e6 e7_0 e7_1 e7_2 e7_3 e7_4 e7_5 e8_0 e8_1 e8_2 e8_3 e8_4 e8_5
  exact ⟨⟨ro, fi, bl, bd, er, t0, t1, t2, t3, t4, so, mn.b, mn.n, mn.s, mx.b, mx.n, mx.s⟩, ⟨wf_i f0, wf_i f1, g0, g1, g2, g3, g4, hmn, hmx⟩, rfl⟩
set_option maxRecDepth 100000 in
theorem cut_cl {fuel : Nat} {cs : List Value} {x : DataW H × List MemPlace} (h : DataW.trod enc Tryz.prog W 0 sp true fuel 66 cs = some x) : ∃ c : CL, c.m.ok ∧ cs = c.cells := by
  obtain ⟨xs, m, rfl, _, hl, hlen, hi⟩ := DataW.trod_struct Tryz.underlying66 h
  rw [cl_cl] at hl
  obtain ⟨c0, c1, c2, c3, c4, c5, c6, c7, c8, c9, c10, c11, c12, c13, c14, c15, c16, c17, c18, c19, c20, c21, c22, c23, rfl⟩ : ∃ c0 c1 c2 c3 c4 c5 c6 c7 c8 c9 c10 c11 c12 c13 c14 c15 c16 c17 c18 c19 c20 c21 c22 c23, cs = [c0, c1, c2, c3, c4, c5, c6, c7, c8, c9, c10, c11, c12, c13, c14, c15, c16, c17, c18, c19, c20, c21, c22, c23] := by
    match cs, hl with
    | [a0, a1, a2, a3, a4, a5, a6, a7, a8, a9, a10, a11, a12, a13, a14, a15, a16, a17, a18, a19, a20, a21, a22, a23], _ => exact ⟨a0, a1, a2, a3, a4, a5, a6, a7, a8, a9, a10, a11, a12, a13, a14, a15, a16, a17, a18, a19, a20, a21, a22, a23, rfl⟩
  obtain ⟨y0, y1, rfl⟩ : ∃ y0 y1, xs = [y0, y1] := by
    match xs, hlen with
    | [a0, a1], _ => exact ⟨a0, a1, rfl⟩
  have i0 := hi 0 _ rfl
  have i1 := hi 1 _ rfl
  simp [cl_sm, cl_int] at i0 i1
  obtain ⟨m, hm, e0⟩ := cut_sm i0
  obtain ⟨s, e1, _, f1⟩ := DataW.trod_int Tryz.underlying3 i1
  simp only [SM.cells] at e0
  simp at e0 e1
  obtain ⟨e0_0, e0_1, e0_2, e0_3, e0_4, e0_5, e0_6, e0_7, e0_8, e0_9, e0_10, e0_11, e0_12, e0_13, e0_14, e0_15, e0_16, e0_17, e0_18, e0_19, e0_20, e0_21, e0_22⟩ := e0
  subst e0_0 e0_1 e0_2 e0_3 e0_4 e0_5 e0_6 e0_7 e0_8 e0_9 e0_10 e0_11 e0_12 e0_13 e0_14 e0_15 e0_16 e0_17 e0_18 e0_19 e0_20 e0_21 e0_22 e1
  exact ⟨⟨m, s⟩, hm, rfl⟩
set_option maxRecDepth 100000 in
theorem cut_ex : ∀ (fuel : Nat) {cs : List Value} {x : DataW H × List MemPlace}, DataW.trod enc Tryz.prog W 0 sp true fuel 31 cs = some x → ∃ e : Ex, (LT W fuel e ∧ XU fuel e) ∧ cs = e.c := by
  intro fuel
  induction fuel using Nat.strongRecOn with
  | ind fuel ih =>
    intro cs x h
    obtain ⟨xs, m, rfl, _, hl, hlen, hi⟩ := DataW.trod_struct Tryz.underlying31 h
    rw [cl_ex] at hl
    obtain ⟨c0, c1, c2, c3, c4, c5, c6, c7, c8, c9, c10, c11, c12, c13, c14, c15, c16, rfl⟩ : ∃ c0 c1 c2 c3 c4 c5 c6 c7 c8 c9 c10 c11 c12 c13 c14 c15 c16, cs = [c0, c1, c2, c3, c4, c5, c6, c7, c8, c9, c10, c11, c12, c13, c14, c15, c16] := by
      match cs, hl with
      | [a0, a1, a2, a3, a4, a5, a6, a7, a8, a9, a10, a11, a12, a13, a14, a15, a16], _ => exact ⟨a0, a1, a2, a3, a4, a5, a6, a7, a8, a9, a10, a11, a12, a13, a14, a15, a16, rfl⟩
    obtain ⟨y0, y1, y2, y3, y4, y5, y6, y7, rfl⟩ : ∃ y0 y1 y2 y3 y4 y5 y6 y7, xs = [y0, y1, y2, y3, y4, y5, y6, y7] := by
      match xs, hlen with
      | [a0, a1, a2, a3, a4, a5, a6, a7], _ => exact ⟨a0, a1, a2, a3, a4, a5, a6, a7, rfl⟩
    have i0 := hi 0 _ rfl
    have i1 := hi 1 _ rfl
    have i2 := hi 2 _ rfl
    have i3 := hi 3 _ rfl
    have i4 := hi 4 _ rfl
    have i5 := hi 5 _ rfl
    have i6 := hi 6 _ rfl
    have i7 := hi 7 _ rfl
    simp [cl_int, cl_string, cl_val, cl_sx] at i0 i1 i2 i3 i4 i5 i6 i7
    obtain ⟨k, e0, _, f0⟩ := DataW.trod_int Tryz.underlying3 i0
    obtain ⟨op, e1, _, f1⟩ := DataW.trod_int Tryz.underlying3 i1
    obtain ⟨nm, e2, _, _⟩ := DataW.trod_string Tryz.underlying9 i2
    obtain ⟨se, e3, _, _⟩ := DataW.trod_string Tryz.underlying9 i3
    obtain ⟨v, hv, e4⟩ := cut_vl i4
    obtain ⟨sc, e5, _, f5⟩ := DataW.trod_int Tryz.underlying3 i5
    obtain ⟨po, e6, _, f6⟩ := DataW.trod_int Tryz.underlying3 i6
    obtain ⟨A, pa, cap, e7, hL, hS, _⟩ := cut_sl Tryz.underlying29 (n := 17) (by decide) cl_ex Ex.c (.mk 0 0 ⟨#[]⟩ ⟨#[]⟩ 0 false 0 0 0 0 0 false ⟨#[]⟩ 0 0 0 none 0 []) (fun z => LT W m z ∧ XU m z) (fun _ => rfl) (fun hm h => by obtain ⟨z, ⟨h1, h2⟩, h3⟩ := ih _ (by omega) h; exact ⟨z, h1.leU h2 (by omega), h3⟩) i7
    simp only [VL.cells] at e4
    simp at e0 e1 e2 e3 e4 e5 e6
    obtain ⟨e4_0, e4_1, e4_2, e4_3, e4_4, e4_5, e4_6, e4_7, e4_8, e4_9⟩ := e4
    subst e0 e1 e2 e3 e4_0 e4_1 e4_2 e4_3 e4_4 e4_5 e4_6 e4_7 e4_8 e4_9 e5 e6 e7
    refine ⟨.mk k op nm se v.k v.b (l0 v.n) (l1 v.n) (l2 v.n) (l3 v.n) v.s v.f v.t v.e sc po pa cap A, ⟨⟨hS.1, fun i y hy => ⟨?_, (hL y (List.mem_of_getElem? hy)).1⟩⟩, u4_lb v.n, fun y hy => (hL y hy).2⟩, rfl⟩
    obtain ⟨b, o, h1, _, h2⟩ := hS.2 i y hy
    exact ⟨b, o, h1, h2⟩
/-- Pairs of a map that came in. -/
theorem cut_map {fuel : Nat} {x : DataW H × List MemPlace} {t kt vt : TypeId} {κ β : Type} {ek : κ → Value} {ev : β → Value} {ok : β → Prop} (hu : Tryz.prog.underlying t = some (.map kt vt))
    (hk : ∀ v l, keyOf Tryz.prog kt v = some l → ∃ a, v = ek a) (hv : ∀ {n : Nat} {v : Value} {y : DataW H × List MemPlace}, v.formed Tryz.prog vt = true → DataW.trod enc Tryz.prog W 0 sp true n vt v.cells.toList = some y → ∃ b, ok b ∧ v = ev b) {v : Value}
    (h : DataW.trod enc Tryz.prog W 0 sp true fuel t [v] = some x) : ∃ (r : Option Nat) (al : List (κ × β)), v = .map r ∧ MapV W ek ev v al ∧ ∀ p ∈ al, ok p.2 := by
  rcases WideElems.open_map hu h with ⟨h1, _⟩ | ⟨b, es, clock, n, _, h1, hb, _, F, _⟩
  · simp at h1; subst h1
    exact ⟨none, [], rfl, Or.inl ⟨rfl, rfl⟩, fun _ q => by cases q⟩
  · simp at h1; subst h1
    have key : ∀ (l : List MapEntry), (∀ y ∈ l, ∃ z, WideElems.rd Tryz.prog kt (WideElems.elemAt enc Tryz.prog W 0 sp true n vt) y = some z) → ∃ al : List (κ × β), l.map (fun e => (e.key, e.val)) = prB ek ev al ∧ ∀ p ∈ al, ok p.2 := by
      intro l
      induction l with
      | nil => exact fun _ => ⟨[], rfl, fun _ q => by cases q⟩
      | cons e l ih =>
        intro hl
        obtain ⟨al, h2, h3⟩ := ih fun y hy => hl y (List.mem_cons_of_mem _ hy)
        obtain ⟨z, hz⟩ := hl e (List.mem_cons_self ..)
        obtain ⟨a, ha⟩ := hk _ _ (WideElems.rd_key hz)
        obtain ⟨bb, hb1, hb2⟩ : ∃ b, ok b ∧ e.val = ev b := by
          unfold WideElems.rd WideElems.elemAt at hz
          simp only [Option.bind_eq_some_iff, Option.map_eq_some_iff] at hz
          obtain ⟨_, _, y, hy, _⟩ := hz
          by_cases hf : e.val.formed Tryz.prog vt = true
          · rw [if_pos hf] at hy; exact hv hf hy
          · simp [hf] at hy
        refine ⟨(a, bb) :: al, by simp [h2, ha, hb2], fun p hp => ?_⟩
        rcases List.mem_cons.1 hp with rfl | hp
        · exact hb1
        · exact h3 p hp
    obtain ⟨al, h2, h3⟩ := key es.toList F.reads
    exact ⟨some b, al, rfl, Or.inr ⟨b, es, _, rfl, hb, h2⟩, h3⟩
end
end D
end Go.Proofs.YtfmfeipeeedfpaaGreat

/-
  Walks within a fence: rounds of a range over a function, iterators, frames with marks among their deferred calls.
-/
import Derived.Test.YtbmbldloeblbbaaGt
import Derived.RangeFuncWrites
import Derived.RangeFuncLeaves
import Derived.RangeFuncCalls
import Derived.OrdersIn
namespace Go.Proofs.Ytbmbldloeblbbaa
open Go.RowKit
namespace R
/-- Deferred calls more. -/
def wd (a : Act) (ds : List Deferred) : Act := { a with defers := a.defers ++ ds }
def Fw (ro : Option Nat) : Fence := { Fence.wide with round := ro }
theorem wd_put (a : Act) (ds : List Deferred) (d : Option Tmp) (v : Value) : wd (a.put d v) ds = (wd a ds).put d v := by cases d <;> rfl
def Wd (ds : List Deferred) (Q : Exit → Act → World → Prop) : Exit → Act → World → Prop
  | .outgrown, _, _ => False
  | e, a, w => Q e (wd a ds) w
theorem wd_out (ds : List Deferred) (Q : Exit → Act → World → Prop) : ¬ LetsOut (Wd ds Q) := fun ⟨_, _, h⟩ => h
def notDefer (o : Oper) : Bool := match o.op with
  | .defer _ => false
  | _ => true
theorem notDefer_spec {o : Oper} (h : notDefer o = true) : ∀ c, o.op ≠ .defer c := fun c e => by simp [notDefer, e] at h
theorem rowsIn_of {ro : Option Nat} {m : Nat} {P : Program} {row : String} {args : Array Value} {w : World} {X : Value → World → Prop} (h : Rows P row args w X) : RowsIn (Fw ro) m P row args w X :=
  fun c cs _ => let ⟨v, w', r, s⟩ := h c cs; ⟨v, w', r, (show StepsIn (Machine.fenced P Fence.wide) P _ _ from stepsIn_wide.2 s)⟩
theorem callsIn_of {ro : Option Nat} {m : Nat} {P : Program} {f : FuncId} {args : Array Value} {w : World} {X : Ending → World → Prop} (h : Calls P f args w X) : CallsIn (Fw ro) m P f args w X := (show CallsIn Fence.wide m P f args w X from callsIn_wide.2 h)
theorem calls_of {m : Nat} {P : Program} {f : FuncId} {args : Array Value} {w : World} {X : Ending → World → Prop} (h : CallsIn (Fw none) m P f args w X) : Calls P f args w X := callsIn_wide.1 (show CallsIn Fence.wide m P f args w X from h)
theorem op_in {ro : Option Nat} {m : Nat} {ds : List Deferred} {P : Program} {o : Oper} {a : Act} {w : World} {K K' : Act → World → Prop} {Q : Exit → Act → World → Prop} (hnd : notDefer o = true) (hK : ∀ a w, K a w → K' (wd a ds) w) (h : o.wp P a w K (Wd ds Q)) : o.wpIn (Fw ro) m P (wd a ds) w K' Q := by
  refine ⟨fun _ _ => trivial, ?_⟩
  have he : (wd a ds).eval = a.eval := rfl
  rw [he, Oper.semAt_eq _ _ _ (notDefer_spec hnd)]
  unfold Oper.wp at h
  cases hr : (execOp a.eval o).run P w with
  | ok x w' =>
    rw [hr] at h
    cases x with
    | value v => have := hK _ _ h; rw [wd_put] at this; exact this
    | skip => have := hK _ _ h; rw [wd_put] at this; exact this
    | defer d => have := hK _ _ h; rw [wd_put] at this; exact this
    | enter f args =>
      refine ⟨(fun e => by cases e), callsIn_of (Calls.mono h ?_)⟩
      intro e w'' q
      cases e with
      | returned v => have := hK _ _ q; rw [wd_put] at this; exact this
      | panicked c => exact q
      | outgrown => exact absurd q (wd_out ds Q)
    | row r args => exact ⟨(fun e => by cases e), rowsIn_of (Rows.mono h (fun v w'' q => by have := hK _ _ q; rw [wd_put] at this; exact this))⟩
    | _ => exact h.elim
  | halt r w' =>
    rw [hr] at h
    cases r with
    | panic v => exact h
    | _ => exact h.elim
theorem list_in {ro : Option Nat} {m : Nat} {ds : List Deferred} {P : Program} {ops : Array Oper} {Q : Exit → Act → World → Prop} : ∀ (r : List Oper) (a : Act) (w : World), r.all notDefer = true → wpList P ops (Wd ds Q) r a w → wpListIn (Fw ro) m P ops Q r (wd a ds) w
  | [], _, _, _, h => h
  | o :: r, a, w, hn, h => by
    simp only [List.all_cons, Bool.and_eq_true] at hn
    unfold wpList at h
    unfold wpListIn
    have e : (wd a ds).tmps = a.tmps := rfl
    rw [e]
    split
    · rename_i hw
      rw [if_pos hw] at h
      rcases h with h | ⟨_, h⟩
      · exact op_in hn.1 (fun a w q => list_in r a w hn.2 q) h
      · exact absurd h (wd_out ds Q)
    · rename_i hw
      rw [if_neg hw] at h
      refine ⟨fun _ _ => trivial, ?_⟩
      have := list_in (m := m) (ro := ro) r _ w hn.2 h
      rw [wd_put] at this
      exact this
theorem any_in {ro : Option Nat} {m : Nat} {ds : List Deferred} {P : Program} {ops : Array Oper} {md : Region.Mode} {Q : Exit → Act → World → Prop} (hn : ops.all notDefer = true) : ∀ (fuel : Nat) (listed : Array Bool) (a : Act) (w : World), wpAny P md ops (Wd ds Q) fuel listed a w → wpAnyIn (Fw ro) m P md ops Q fuel listed (wd a ds) w
  | 0, _, _, _, h => h
  | fuel + 1, listed, a, w, h => by
    refine ⟨h.1, fun i hi => ?_⟩
    have h1 := h.2 i hi
    unfold wpOp at h1
    unfold wpOpIn
    cases ho : ops[i]? with
    | none => simp only [ho] at h1 ⊢; exact any_in hn fuel _ a w h1
    | some o =>
      simp only [ho] at h1 ⊢
      have hno : notDefer o = true := by
        obtain ⟨hi', e⟩ := Array.getElem?_eq_some_iff.1 ho
        rw [← e]; exact Array.all_eq_true.1 hn i hi'
      have e : (wd a ds).tmps = a.tmps := rfl
      rw [e]
      split
      · rename_i hw
        rw [if_pos hw] at h1
        rcases h1 with h1 | ⟨_, h1⟩
        · exact op_in hno (fun a w q => any_in hn fuel _ a w q) h1
        · exact absurd h1 (wd_out ds Q)
      · rename_i hw
        rw [if_neg hw] at h1
        refine ⟨fun _ _ => trivial, ?_⟩
        have := any_in (m := m) (ro := ro) hn fuel _ _ w h1
        rw [wd_put] at this
        exact this
structure RC (ro : Option Nat) (m : Nat) (ds : List Deferred) (P : Program) (c : Code) (Q : Exit → Act → World → Prop) (n : Nat) (l : List (Nat × Value)) (w : World) : Prop where
  out : c.wpIn (Fw ro) m P Q (wd (fr n l) ds) w
structure RL (ro : Option Nat) (m : Nat) (ds : List Deferred) (P : Program) (ops : Array Oper) (Q : Exit → Act → World → Prop) (r : List Oper) (n : Nat) (l : List (Nat × Value)) (w : World) : Prop where
  out : wpListIn (Fw ro) m P ops Q r (wd (fr n l) ds) w
section
variable {ro : Option Nat} {m : Nat} {ds : List Deferred} {P : Program} {o : Oper} {n : Nat} {l : List (Nat × Value)} {w : World} {ops : Array Oper} {rest : List Oper} {Q : Exit → Act → World → Prop} {K : Act → World → Prop}
theorem w_enter {f : FuncId} {fn : Func} {c : Code} {args : Array Value} {X : Ending → World → Prop} (n : Nat) (hf : P.funcs[f]? = some fn) (hn : fn.ntmps = n) (hb : fn.body = some c)
    (ha : Nat.ble args.size n = true) (h : RC none m [] P c (bodyPostM (Fw none) m P fn X) n (argl 0 args.toList) w) : CallsIn (Fw none) m P f args w X := by
  refine callsIn_of_wp_marks hf hb trivial ?_ rfl
  rw [hn, fr_args n args (Nat.le_of_ble_eq_true ha)]
  exact h.out
theorem w_seq {x y : Code} (h : RC ro m ds P x (Exit.then (y.wpIn (Fw ro) m P Q) Q) n l w) : RC ro m ds P (Code.seq x y) Q n l w := ⟨wpIn_seq h.out⟩
theorem w_block {id : Nat} {c : Code} (h : RC ro m ds P c (Exit.inBlock id Q) n l w) : RC ro m ds P (Code.block id c) Q n l w := ⟨wpIn_block h.out⟩
theorem w_skip (h : WX (Wd ds Q) .normal n l w) : RC ro m ds P .skip Q n l w := ⟨wpIn_skip h.out⟩
theorem w_ret (h : WX (Wd ds Q) .ret n l w) : RC ro m ds P .ret Q n l w := ⟨wpIn_ret h.out⟩
theorem w_exit {id : Nat} (h : WX (Wd ds Q) (.exit id) n l w) : RC ro m ds P (.exit id) Q n l w := ⟨wpIn_exit h.out⟩
theorem ev_wd (x : Operand) : (wd (fr n l) ds).eval x = evl n l x := (show (fr n l).eval x = _ from by rw [fr_eval])
theorem w_condT {c : Operand} {x y : Code} (hc : evl n l c = .bool true) (h : RC ro m ds P x Q n l w) : RC ro m ds P (Code.cond c x y) Q n l w := ⟨wpIn_cond_true ((ev_wd c).trans hc) h.out⟩
theorem w_condF {c : Operand} {x y : Code} (hc : evl n l c = .bool false) (h : RC ro m ds P y Q n l w) : RC ro m ds P (Code.cond c x y) Q n l w := ⟨wpIn_cond_false ((ev_wd c).trans hc) h.out⟩
theorem w_reg {id : Nat} {ol : List Oper} (h : WL P ol.toArray (Wd ds Q) ol n l w) (hn : ol.all notDefer = true := by rfl) : RC ro m ds P (Code.region id ol.toArray false) Q n l w := ⟨wpIn_region_lit (list_in ol _ _ hn h.out)⟩
theorem w_regL {id : Nat} {ol : List Oper} (h : RL ro m ds P ol.toArray Q ol n l w) : RC ro m ds P (Code.region id ol.toArray false) Q n l w := ⟨wpIn_region_lit h.out⟩
theorem xn_then {y : Code} {Q' : Exit → Act → World → Prop} (h : RC ro m ds P y Q n l w) : WX (Wd ds (Exit.then (y.wpIn (Fw ro) m P Q) Q')) .normal n l w := ⟨h.out⟩
theorem xn_blk {id : Nat} (h : WX (Wd ds Q) .normal n l w) : WX (Wd ds (Exit.inBlock id Q)) .normal n l w := ⟨h.out⟩
theorem xx_then {next : Act → World → Prop} {id : Nat} (h : WX (Wd ds Q) (.exit id) n l w) : WX (Wd ds (Exit.then next Q)) (.exit id) n l w := ⟨h.out⟩
theorem xx_blk {id : Nat} (h : WX (Wd ds Q) .normal n l w) : WX (Wd ds (Exit.inBlock id Q)) (.exit id) n l w := ⟨by
  show Exit.inBlock id Q (.exit id) _ _
  simp only [Exit.inBlock, if_true]; exact h.out⟩
theorem xx_out {id i : Nat} (hne : Nat.beq i id = false) (h : WX (Wd ds Q) (.exit i) n l w) : WX (Wd ds (Exit.inBlock id Q)) (.exit i) n l w := ⟨by
  show Exit.inBlock id Q (.exit i) _ _
  simp only [Exit.inBlock]
  rw [if_neg (fun e => by subst e; simp at hne)]; exact h.out⟩
theorem xr_then {next : Act → World → Prop} (h : WX (Wd ds Q) .ret n l w) : WX (Wd ds (Exit.then next Q)) .ret n l w := ⟨h.out⟩
theorem xr_blk {id : Nat} (h : WX (Wd ds Q) .ret n l w) : WX (Wd ds (Exit.inBlock id Q)) .ret n l w := ⟨h.out⟩
theorem w_loop {c : Code} (I : Nat → List (Nat × Value) → World → Prop) (k : Nat) (h0 : I k l w)
    (round : ∀ k l w, I k l w → RC ro m ds P c (Exit.then (fun a w' => ∃ k' l', k' < k ∧ a = wd (fr n l') ds ∧ I k' l' w') Q) n l w) : RC ro m ds P (Code.loop c) Q n l w := by
  refine ⟨?_⟩
  have key : ∀ k : Nat, ∀ l w, I k l w → (Code.loop c).wpIn (Fw ro) m P Q (wd (fr n l) ds) w := by
    intro m0 l0 w0 hI0
    refine wpIn_loop (fun a w => ∃ k l, a = wd (fr n l) ds ∧ I k l w) (fun a w => Classical.epsilon (least (fun k => ∃ l, a = wd (fr n l) ds ∧ I k l w))) ⟨m0, l0, rfl, hI0⟩ ?_
    rintro a w ⟨k, l, rfl, hI⟩
    obtain ⟨l2, e2, hI2⟩ := (least_ok (p := fun k => ∃ l', wd (fr n l) ds = wd (fr n l') ds ∧ I k l' w) ⟨k, l, rfl, hI⟩).1
    rw [e2]
    refine Go.wpIn_mono (round _ l2 w hI2).out ?_
    intro e a' w' hq
    cases e with
    | normal =>
      obtain ⟨m', l', hlt, rfl, hI'⟩ := hq
      refine ⟨⟨m', l', rfl, hI'⟩, Nat.lt_of_le_of_lt ((least_ok (p := fun k => ∃ l'', wd (fr n l') ds = wd (fr n l'') ds ∧ I k l'' w') ⟨m', l', rfl, hI'⟩).2 m' ⟨l', rfl, hI'⟩) ?_⟩
      rw [← e2]; exact hlt
    | _ => exact hq
  exact key k l w h0
theorem xn_loop {I : Nat → List (Nat × Value) → World → Prop} {k : Nat} (k' : Nat) (hlt : k' < k) (h : I k' l w) : WX (Wd ds (Exit.then (fun a w' => ∃ k' l', k' < k ∧ a = wd (fr n l') ds ∧ I k' l' w') Q)) .normal n l w := ⟨⟨k', l, hlt, rfl, h⟩⟩
/-- An operation of a list that holds a call of yield. -/
theorem rl_o (hg : wnt n l ops o = true) (h : WO P o n l w (fun a w' => ∃ l', a = fr n l' ∧ RL ro m ds P ops Q rest n l' w') (Wd ds Q)) (hn : notDefer o = true := by rfl) : RL ro m ds P ops Q (o :: rest) n l w := by
  refine ⟨?_⟩
  unfold wpListIn
  have hw : Region.wanted o (yielded ops (wd (fr n l) ds).tmps) = true := (fr_wanted n l ops o).trans hg
  rw [if_pos hw]
  exact op_in hn (fun a w' ⟨l', e, h'⟩ => e ▸ h'.out) h.out
theorem rl_nil (h : WX (Wd ds Q) .normal n l w) : RL ro m ds P ops Q [] n l w := ⟨h.out⟩
theorem rl_yield (x : Operand) (xs : List Operand) (ats : Array TypeId) (args : List Value) (lp : Nat) {X : Ending → World → Prop} (ho : o.op = .call { callee := .value x, args := xs.toArray, argTypes := ats }) (hx : evl n l x = .func (.yield lp) #[] #[]) (hxs : xs.map (evl n l) = args) (hg : wnt n l ops o = true)
    (hY : YieldAt (Fw none) (m - 1) P lp args.toArray w X) (hk : ∀ e w', X e w' → ∃ v, e = .returned v ∧ RL none m ds P ops Q rest n (ext l o.dst v) w') : RL none m ds P ops Q (o :: rest) n l w := by
  refine ⟨?_⟩
  unfold wpListIn
  have hw : Region.wanted o (yielded ops (wd (fr n l) ds).tmps) = true := (fr_wanted n l ops o).trans hg
  rw [if_pos hw]
  refine ⟨fun _ _ => trivial, ?_⟩
  obtain ⟨fn, tmps, assign, body, hy, hR⟩ := hY
  have he : (wd (fr n l) ds).eval = evl n l := funext fun x => ev_wd x
  rw [he]
  have hr : ((Oper.semAt (Fw none).round (evl n l) o).run P w) = .ok (.round lp fn tmps assign body) w := by
    show (execOp (evl n l) o).run P w = _
    unfold execOp
    simp only [ho, resolve, invoke, Sem.run_bind, List.map_toArray, hx, hxs]
    simp [go_sem, hy]
  rw [hr]
  refine ⟨(fun e => by cases e), hR.mono fun e w' q => ?_⟩
  obtain ⟨v, rfl, h⟩ := hk e w' q
  have := h.out
  rw [← fr_put, wd_put] at this
  exact this
/-- A function's results. -/
theorem w_ret1 {fn : Func} {X : Ending → World → Prop} (x : ResultVar) (v : Value) (hf : fn.results = #[x]) (h : resv n l P w v x) (hR : X (.returned v) w) : WX (Wd [] (bodyPostM (Fw none) m P fn X)) .ret n l w := ⟨by
  obtain ⟨_, v', h1, h2⟩ := c_ret1 (R := X) x v hf h hR
  exact ⟨v', h1, h2⟩⟩
end
end R
end Go.Proofs.Ytbmbldloeblbbaa

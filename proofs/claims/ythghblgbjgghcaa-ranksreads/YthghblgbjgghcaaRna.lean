/-
  Walks within a fence: rounds of a range over a function, iterators, frames with marks among their deferred calls. A range over a function: the law, where nothing is frozen on the way. A range over a function that tells more of what it hands on. Ranges over functions: small laws; slices gone through from behind.
-/
import Derived.Test.YthghblgbjgghcaaG4
import Derived.RangeFuncWrites
import Derived.RangeFuncLeaves
import Derived.RangeFuncCalls
import Derived.OrdersIn
namespace Go.Proofs.Ythghblgbjgghcaa
open Go.RowKit
namespace R
/-- Deferred calls more. -/
def wd (a : Act) (ds : List Deferred) : Act := { a with defers := a.defers ++ ds }
def Fw (ro : Option Nat) : Fence := { Fence.wide with round := ro }
theorem wd_put (a : Act) (ds : List Deferred) (d : Option Tmp) (v : Value) : wd (a.put d v) ds = (wd a ds).put d v := by cases d <;> rfl
def Wd (ds : List Deferred) (Q : Exit → Act → World → Prop) : Exit → Act → World → Prop
  | .outgrown, _, _ => False
  | e, a, w => Q e (wd a ds) w
theorem wd_out (ds : List Deferred) (Q : Exit → Act → World → Prop) : ¬ LetsOut (Wd ds Q) := fun ⟨_, _, h⟩ => h
def notDefer (o : Oper) : Bool := match o.op with
  | .defer _ => false
  | _ => true
theorem notDefer_spec {o : Oper} (h : notDefer o = true) : ∀ c, o.op ≠ .defer c := fun c e => by simp [notDefer, e] at h
theorem rowsIn_of {ro : Option Nat} {m : Nat} {P : Program} {row : String} {args : Array Value} {w : World} {X : Value → World → Prop} (h : Rows P row args w X) : RowsIn (Fw ro) m P row args w X :=
  fun c cs _ => let ⟨v, w', r, s⟩ := h c cs; ⟨v, w', r, (show StepsIn (Machine.fenced P Fence.wide) P _ _ from stepsIn_wide.2 s)⟩
theorem callsIn_of {ro : Option Nat} {m : Nat} {P : Program} {f : FuncId} {args : Array Value} {w : World} {X : Ending → World → Prop} (h : Calls P f args w X) : CallsIn (Fw ro) m P f args w X := (show CallsIn Fence.wide m P f args w X from callsIn_wide.2 h)
theorem calls_of {m : Nat} {P : Program} {f : FuncId} {args : Array Value} {w : World} {X : Ending → World → Prop} (h : CallsIn (Fw none) m P f args w X) : Calls P f args w X := callsIn_wide.1 (show CallsIn Fence.wide m P f args w X from h)
theorem op_in {ro : Option Nat} {m : Nat} {ds : List Deferred} {P : Program} {o : Oper} {a : Act} {w : World} {K K' : Act → World → Prop} {Q : Exit → Act → World → Prop} (hnd : notDefer o = true) (hK : ∀ a w, K a w → K' (wd a ds) w) (h : o.wp P a w K (Wd ds Q)) : o.wpIn (Fw ro) m P (wd a ds) w K' Q := by
  refine ⟨fun _ _ => trivial, ?_⟩
  have he : (wd a ds).eval = a.eval := rfl
  rw [he, Oper.semAt_eq _ _ _ (notDefer_spec hnd)]
  unfold Oper.wp at h
  cases hr : (execOp a.eval o).run P w with
  | ok x w' =>
    rw [hr] at h
    cases x with
    | value v => have := hK _ _ h; rw [wd_put] at this; exact this
    | skip => have := hK _ _ h; rw [wd_put] at this; exact this
    | defer d => have := hK _ _ h; rw [wd_put] at this; exact this
    | enter f args =>
      refine ⟨(fun e => by cases e), callsIn_of (Calls.mono h ?_)⟩
      intro e w'' q
      cases e with
      | returned v => have := hK _ _ q; rw [wd_put] at this; exact this
      | panicked c => exact q
      | outgrown => exact absurd q (wd_out ds Q)
    | row r args => exact ⟨(fun e => by cases e), rowsIn_of (Rows.mono h (fun v w'' q => by have := hK _ _ q; rw [wd_put] at this; exact this))⟩
    | _ => exact h.elim
  | halt r w' =>
    rw [hr] at h
    cases r with
    | panic v => exact h
    | _ => exact h.elim
theorem list_in {ro : Option Nat} {m : Nat} {ds : List Deferred} {P : Program} {ops : Array Oper} {Q : Exit → Act → World → Prop} : ∀ (r : List Oper) (a : Act) (w : World), r.all notDefer = true → wpList P ops (Wd ds Q) r a w → wpListIn (Fw ro) m P ops Q r (wd a ds) w
  | [], _, _, _, h => h
  | o :: r, a, w, hn, h => by
    simp only [List.all_cons, Bool.and_eq_true] at hn
    unfold wpList at h
    unfold wpListIn
    have e : (wd a ds).tmps = a.tmps := rfl
    rw [e]
    split
    · rename_i hw
      rw [if_pos hw] at h
      rcases h with h | ⟨_, h⟩
      · exact op_in hn.1 (fun a w q => list_in r a w hn.2 q) h
      · exact absurd h (wd_out ds Q)
    · rename_i hw
      rw [if_neg hw] at h
      refine ⟨fun _ _ => trivial, ?_⟩
      have := list_in (m := m) (ro := ro) r _ w hn.2 h
      rw [wd_put] at this
      exact this
theorem any_in {ro : Option Nat} {m : Nat} {ds : List Deferred} {P : Program} {ops : Array Oper} {md : Region.Mode} {Q : Exit → Act → World → Prop} (hn : ops.all notDefer = true) : ∀ (fuel : Nat) (listed : Array Bool) (a : Act) (w : World), wpAny P md ops (Wd ds Q) fuel listed a w → wpAnyIn (Fw ro) m P md ops Q fuel listed (wd a ds) w
  | 0, _, _, _, h => h
  | fuel + 1, listed, a, w, h => by
    refine ⟨h.1, fun i hi => ?_⟩
    have h1 := h.2 i hi
    unfold wpOp at h1
    unfold wpOpIn
    cases ho : ops[i]? with
    | none => simp only [ho] at h1 ⊢; exact any_in hn fuel _ a w h1
    | some o =>
      simp only [ho] at h1 ⊢
      have hno : notDefer o = true := by
        obtain ⟨hi', e⟩ := Array.getElem?_eq_some_iff.1 ho
        rw [← e]; exact Array.all_eq_true.1 hn i hi'
      have e : (wd a ds).tmps = a.tmps := rfl
      rw [e]
      split
      · rename_i hw
        rw [if_pos hw] at h1
        rcases h1 with h1 | ⟨_, h1⟩
        · exact op_in hno (fun a w q => any_in hn fuel _ a w q) h1
        · exact absurd h1 (wd_out ds Q)
      · rename_i hw
        rw [if_neg hw] at h1
        refine ⟨fun _ _ => trivial, ?_⟩
        have := any_in (m := m) (ro := ro) hn fuel _ _ w h1
        rw [wd_put] at this
        exact this
structure RC (ro : Option Nat) (m : Nat) (ds : List Deferred) (P : Program) (c : Code) (Q : Exit → Act → World → Prop) (n : Nat) (l : List (Nat × Value)) (w : World) : Prop where
  out : c.wpIn (Fw ro) m P Q (wd (fr n l) ds) w
structure RL (ro : Option Nat) (m : Nat) (ds : List Deferred) (P : Program) (ops : Array Oper) (Q : Exit → Act → World → Prop) (r : List Oper) (n : Nat) (l : List (Nat × Value)) (w : World) : Prop where
  out : wpListIn (Fw ro) m P ops Q r (wd (fr n l) ds) w
section
variable {ro : Option Nat} {m : Nat} {ds : List Deferred} {P : Program} {o : Oper} {n : Nat} {l : List (Nat × Value)} {w : World} {ops : Array Oper} {rest : List Oper} {Q : Exit → Act → World → Prop} {K : Act → World → Prop}
theorem w_enter {f : FuncId} {fn : Func} {c : Code} {args : Array Value} {X : Ending → World → Prop} (n : Nat) (hf : P.funcs[f]? = some fn) (hn : fn.ntmps = n) (hb : fn.body = some c)
    (ha : Nat.ble args.size n = true) (h : RC none m [] P c (bodyPostM (Fw none) m P fn X) n (argl 0 args.toList) w) : CallsIn (Fw none) m P f args w X := by
  refine callsIn_of_wp_marks hf hb trivial ?_ rfl
  rw [hn, fr_args n args (Nat.le_of_ble_eq_true ha)]
  exact h.out
theorem w_seq {x y : Code} (h : RC ro m ds P x (Exit.then (y.wpIn (Fw ro) m P Q) Q) n l w) : RC ro m ds P (Code.seq x y) Q n l w := ⟨wpIn_seq h.out⟩
theorem w_block {id : Nat} {c : Code} (h : RC ro m ds P c (Exit.inBlock id Q) n l w) : RC ro m ds P (Code.block id c) Q n l w := ⟨wpIn_block h.out⟩
theorem w_skip (h : WX (Wd ds Q) .normal n l w) : RC ro m ds P .skip Q n l w := ⟨wpIn_skip h.out⟩
theorem w_ret (h : WX (Wd ds Q) .ret n l w) : RC ro m ds P .ret Q n l w := ⟨wpIn_ret h.out⟩
theorem w_exit {id : Nat} (h : WX (Wd ds Q) (.exit id) n l w) : RC ro m ds P (.exit id) Q n l w := ⟨wpIn_exit h.out⟩
theorem ev_wd (x : Operand) : (wd (fr n l) ds).eval x = evl n l x := (show (fr n l).eval x = _ from by rw [fr_eval])
theorem w_condT {c : Operand} {x y : Code} (hc : evl n l c = .bool true) (h : RC ro m ds P x Q n l w) : RC ro m ds P (Code.cond c x y) Q n l w := ⟨wpIn_cond_true ((ev_wd c).trans hc) h.out⟩
theorem w_condF {c : Operand} {x y : Code} (hc : evl n l c = .bool false) (h : RC ro m ds P y Q n l w) : RC ro m ds P (Code.cond c x y) Q n l w := ⟨wpIn_cond_false ((ev_wd c).trans hc) h.out⟩
theorem w_reg {id : Nat} {ol : List Oper} (h : WL P ol.toArray (Wd ds Q) ol n l w) (hn : ol.all notDefer = true := by rfl) : RC ro m ds P (Code.region id ol.toArray false) Q n l w := ⟨wpIn_region_lit (list_in ol _ _ hn h.out)⟩
theorem w_regL {id : Nat} {ol : List Oper} (h : RL ro m ds P ol.toArray Q ol n l w) : RC ro m ds P (Code.region id ol.toArray false) Q n l w := ⟨wpIn_region_lit h.out⟩
theorem xn_then {y : Code} {Q' : Exit → Act → World → Prop} (h : RC ro m ds P y Q n l w) : WX (Wd ds (Exit.then (y.wpIn (Fw ro) m P Q) Q')) .normal n l w := ⟨h.out⟩
theorem xn_blk {id : Nat} (h : WX (Wd ds Q) .normal n l w) : WX (Wd ds (Exit.inBlock id Q)) .normal n l w := ⟨h.out⟩
theorem xx_then {next : Act → World → Prop} {id : Nat} (h : WX (Wd ds Q) (.exit id) n l w) : WX (Wd ds (Exit.then next Q)) (.exit id) n l w := ⟨h.out⟩
theorem xx_blk {id : Nat} (h : WX (Wd ds Q) .normal n l w) : WX (Wd ds (Exit.inBlock id Q)) (.exit id) n l w := ⟨by
  show Exit.inBlock id Q (.exit id) _ _
  simp only [Exit.inBlock, if_true]; exact h.out⟩
theorem xx_out {id i : Nat} (hne : Nat.beq i id = false) (h : WX (Wd ds Q) (.exit i) n l w) : WX (Wd ds (Exit.inBlock id Q)) (.exit i) n l w := ⟨by
  show Exit.inBlock id Q (.exit i) _ _
  simp only [Exit.inBlock]
  rw [if_neg (fun e => by subst e; simp at hne)]; exact h.out⟩
theorem xr_then {next : Act → World → Prop} (h : WX (Wd ds Q) .ret n l w) : WX (Wd ds (Exit.then next Q)) .ret n l w := ⟨h.out⟩
theorem xr_blk {id : Nat} (h : WX (Wd ds Q) .ret n l w) : WX (Wd ds (Exit.inBlock id Q)) .ret n l w := ⟨h.out⟩
theorem w_loop {c : Code} (I : Nat → List (Nat × Value) → World → Prop) (k : Nat) (h0 : I k l w)
    (round : ∀ k l w, I k l w → RC ro m ds P c (Exit.then (fun a w' => ∃ k' l', k' < k ∧ a = wd (fr n l') ds ∧ I k' l' w') Q) n l w) : RC ro m ds P (Code.loop c) Q n l w := by
  refine ⟨?_⟩
  have key : ∀ k : Nat, ∀ l w, I k l w → (Code.loop c).wpIn (Fw ro) m P Q (wd (fr n l) ds) w := by
    intro m0 l0 w0 hI0
    refine wpIn_loop (fun a w => ∃ k l, a = wd (fr n l) ds ∧ I k l w) (fun a w => Classical.epsilon (least (fun k => ∃ l, a = wd (fr n l) ds ∧ I k l w))) ⟨m0, l0, rfl, hI0⟩ ?_
    rintro a w ⟨k, l, rfl, hI⟩
    obtain ⟨l2, e2, hI2⟩ := (least_ok (p := fun k => ∃ l', wd (fr n l) ds = wd (fr n l') ds ∧ I k l' w) ⟨k, l, rfl, hI⟩).1
    rw [e2]
    refine Go.wpIn_mono (round _ l2 w hI2).out ?_
    intro e a' w' hq
    cases e with
    | normal =>
      obtain ⟨m', l', hlt, rfl, hI'⟩ := hq
      refine ⟨⟨m', l', rfl, hI'⟩, Nat.lt_of_le_of_lt ((least_ok (p := fun k => ∃ l'', wd (fr n l') ds = wd (fr n l'') ds ∧ I k l'' w') ⟨m', l', rfl, hI'⟩).2 m' ⟨l', rfl, hI'⟩) ?_⟩
      rw [← e2]; exact hlt
    | _ => exact hq
  exact key k l w h0
theorem xn_loop {I : Nat → List (Nat × Value) → World → Prop} {k : Nat} (k' : Nat) (hlt : k' < k) (h : I k' l w) : WX (Wd ds (Exit.then (fun a w' => ∃ k' l', k' < k ∧ a = wd (fr n l') ds ∧ I k' l' w') Q)) .normal n l w := ⟨⟨k', l, hlt, rfl, h⟩⟩
/-- An operation of a list that holds a call of yield. -/
theorem rl_o (hg : wnt n l ops o = true) (h : WO P o n l w (fun a w' => ∃ l', a = fr n l' ∧ RL ro m ds P ops Q rest n l' w') (Wd ds Q)) (hn : notDefer o = true := by rfl) : RL ro m ds P ops Q (o :: rest) n l w := by
  refine ⟨?_⟩
  unfold wpListIn
  have hw : Region.wanted o (yielded ops (wd (fr n l) ds).tmps) = true := (fr_wanted n l ops o).trans hg
  rw [if_pos hw]
  exact op_in hn (fun a w' ⟨l', e, h'⟩ => e ▸ h'.out) h.out
theorem rl_nil (h : WX (Wd ds Q) .normal n l w) : RL ro m ds P ops Q [] n l w := ⟨h.out⟩
theorem rl_yield (x : Operand) (xs : List Operand) (ats : Array TypeId) (args : List Value) (lp : Nat) {X : Ending → World → Prop} (ho : o.op = .call { callee := .value x, args := xs.toArray, argTypes := ats }) (hx : evl n l x = .func (.yield lp) #[] #[]) (hxs : xs.map (evl n l) = args) (hg : wnt n l ops o = true)
    (hY : YieldAt (Fw none) (m - 1) P lp args.toArray w X) (hk : ∀ e w', X e w' → ∃ v, e = .returned v ∧ RL none m ds P ops Q rest n (ext l o.dst v) w') : RL none m ds P ops Q (o :: rest) n l w := by
  refine ⟨?_⟩
  unfold wpListIn
  have hw : Region.wanted o (yielded ops (wd (fr n l) ds).tmps) = true := (fr_wanted n l ops o).trans hg
  rw [if_pos hw]
  refine ⟨fun _ _ => trivial, ?_⟩
  obtain ⟨fn, tmps, assign, body, hy, hR⟩ := hY
  have he : (wd (fr n l) ds).eval = evl n l := funext fun x => ev_wd x
  rw [he]
  have hr : ((Oper.semAt (Fw none).round (evl n l) o).run P w) = .ok (.round lp fn tmps assign body) w := by
    show (execOp (evl n l) o).run P w = _
    unfold execOp
    simp only [ho, resolve, invoke, Sem.run_bind, List.map_toArray, hx, hxs]
    simp [go_sem, hy]
  rw [hr]
  refine ⟨(fun e => by cases e), hR.mono fun e w' q => ?_⟩
  obtain ⟨v, rfl, h⟩ := hk e w' q
  have := h.out
  rw [← fr_put, wd_put] at this
  exact this
/-- A function's results. -/
theorem w_ret1 {fn : Func} {X : Ending → World → Prop} (x : ResultVar) (v : Value) (hf : fn.results = #[x]) (h : resv n l P w v x) (hR : X (.returned v) w) : WX (Wd [] (bodyPostM (Fw none) m P fn X)) .ret n l w := ⟨by
  obtain ⟨_, v', h1, h2⟩ := c_ret1 (R := X) x v hf h hR
  exact ⟨v', h1, h2⟩⟩
end
end R
end Go.Proofs.Ythghblgbjgghcaa
namespace Go.Proofs.Ythghblgbjgghcaa
open Go.RowKit
namespace R
/-- What the loop says between two rounds abides new blocks, and turns of the loop's own. -/
def OwnF {β : Type} (B : Nat) (I : β → World → Prop) : Prop :=
  ∀ s W W' row, I s W → W.grownBy W' row → (∀ a : Addr, a.block < W.heap.size → W'.frozen? a = W.frozen? a) → (∀ r, row = some r → B ≤ r ∧ ∃ o : Obj, W.heap[r]? = some o ∧ o.isCells = false) → I s W'
/-- It abides new blocks. -/
def AbF {β : Type} (J : β → World → Prop) : Prop := ∀ s W W', J s W → Mo W W' → J s W'
theorem mo_grown {W W' : World} (m : Mo W W') : W.grownBy W' none := ⟨m.1.os, m.1.tape, m.1.output, m.1.size, fun k hk _ => m.1.block k hk⟩
theorem OwnF.mo {β : Type} {B : Nat} {I : β → World → Prop} (h : OwnF B I) {s : β} {W W' : World} (hs : I s W) (m : Mo W W') : I s W' := h s W W' none hs (mo_grown m) m.2 (fun _ e => by cases e)
theorem frozen_not {w : World} {o : Obj} {a : Addr} (h : w.heap[a.block]? = some o) (ho : o.isCells = false) : w.frozen? a = false := by
  unfold World.frozen?
  rw [h]
  cases o <;> first | rfl | cases ho
theorem frozen_put {W : World} {l : Nat} {o o' : Obj} (hl : W.heap[l]? = some o) (ho : o.isCells = false) (ho' : o'.isCells = false) (a : Addr) : (W.putObj l o').frozen? a = W.frozen? a := by
  by_cases e : a.block = l
  · have h1 : (W.putObj l o').heap[a.block]? = some o' := by rw [e]; exact World.putObj_heap_same (Array.getElem?_eq_some_iff.1 hl).1
    have h2 : W.heap[a.block]? = some o := by rw [e]; exact hl
    rw [frozen_not h1 ho', frozen_not h2 ho]
  · exact World.frozen?_of_block (World.putObj_heap_other (fun q => e q))
theorem OwnF.putObj {β : Type} {B : Nat} {I : β → World → Prop} (h : OwnF B I) {s : β} {W : World} {l : Nat} {o : Obj} (o' : Obj) (hs : I s W) (hB : B ≤ l) (hl : W.heap[l]? = some o) (ho : o.isCells = false) (ho' : o'.isCells = false) : I s (W.putObj l o') :=
  h s W _ (some l) hs (grownBy_putObj' W l o') (fun a _ => frozen_put hl ho ho' a) (fun r e => by cases e; exact ⟨hB, o, hl, ho⟩)
theorem frozen_alloc {W : World} {o : Obj} (ho : o.isCells = false) (a : Addr) : (W.alloc o).frozen? a = W.frozen? a := by
  by_cases e : a.block = W.heap.size
  · have h1 : (W.alloc o).heap[a.block]? = some o := by rw [e]; exact World.alloc_heap_new W o
    rw [frozen_not h1 ho]
    unfold World.frozen?
    rw [Array.getElem?_eq_none (by omega)]
  · refine World.frozen?_of_block ?_
    rcases Nat.lt_or_ge a.block W.heap.size with h | h
    · exact Below.heap_alloc W o _ h
    · rw [Array.getElem?_eq_none (by simp; omega), Array.getElem?_eq_none (by omega)]
theorem Mo.allocO {W : World} {o : Obj} (ho : o.isCells = false) : Mo W (W.alloc o) := ⟨(Below.refl _ W).alloc (Nat.le_refl _) _, fun a _ => frozen_alloc ho a⟩
/-- An iterator: what it hands to the rounds, where each round keeps Kp. -/
def SeqF {α : Type} (m : Nat) (P : Program) (g : Nat) (ra lb : Array Value) (encs : α → Array Value) (Kp : World → World → Prop) (S Sp : List α → Prop) (N : Nat) (w : World) : Prop :=
  ∀ (l : Nat) (J Jx : List α → World → Prop) (W : World), Mo w W → AbF J → AbF Jx →
    (∀ pre x W1, J pre W1 → pre.length < N → YieldAt (Fw none) (m - 1) P l (encs x) W1 fun e W' =>
      (e = .returned (.bool true) ∧ J (pre ++ [x]) W' ∧ Kp W1 W') ∨ (e = .returned (.bool false) ∧ Jx (pre ++ [x]) W')) →
    J [] W →
    CallsIn (Fw none) m P g (ra ++ #[.func (.yield l) #[] #[]] ++ lb) W fun e W' => (∃ v, e = .returned v) ∧ ((∃ xs, S xs ∧ J xs W') ∨ (∃ pre, Sp pre ∧ Jx pre W'))
section
variable {m : Nat} {ds : List Deferred} {P : Program} {n : Nat} {l : List (Nat × Value)} {w : World} {Q : Exit → Act → World → Prop}
theorem w_rf {α : Type} {g : Operand} {ps : Array Tmp} {assign body : Code} (gf : Nat) (ra lb : Array Value) (hg : evl n l g = .func (.func gf) ra lb) (eg : ∀ args w, (callFunc gf args).run P w = .ok (.enter gf args) w)
    (encs : α → Array Value) (Kp : World → World → Prop) (S Sp : List α → Prop) (N : Nat) (hseq : SeqF (m - 1) P gf ra lb encs Kp S Sp N w)
    (hKt : ∀ {A B C : World}, Kp A B → Kp B C → Kp A C) (hKb : ∀ (W : World) (l : Nat) (o o' : Obj), w.heap.size ≤ l → W.heap[l]? = some o → o.isCells = false → o'.isCells = false → Kp W (W.putObj l o')) (hps : ∀ x, (encs x).size = ps.size)
    (I : List α → World → Prop) (Ix : Code → List α → World → Prop) (hI : OwnF w.heap.size I) (hIx : ∀ c, OwnF w.heap.size (Ix c)) (h0 : I [] w) (la lx : α → List (Nat × Value))
    (hfr : ∀ x, ({ tmps := (ps.zip (encs x)).foldl (fun t (p, v) => t.setIfInBounds p v) (fr n l).tmps, defers := [] } : Act) = fr n (la x))
    (hassign : ∀ (lp : Nat) (x : α) (W : World) (K : Act → World → Prop), WX (Wd [] (Exit.then K (fun _ _ _ => False))) .normal n (lx x) W → RC (some lp) (m - 1 - 1) [] P assign (Exit.then K (fun _ _ _ => False)) n (la x) W)
    (hbody : ∀ (lp : Nat) (pre : List α) (x : α) (W : World), I pre W → pre.length < N → RC (some lp) (m - 1 - 1) [] P body (ownPostG w.heap.size Kp I Ix (pre ++ [x]) W) n (lx x) W)
    (hdone : ∀ (D : Nat) (xs : List α) (W : World), w.heap.size ≤ D → S xs → I xs W → W.heap[D]? = some (.deferred (some [])) → WX (Wd ({ target := .collected D, args := #[] } :: ds) Q) .normal n l W)
    (hstop : ∀ (D : Nat) (c : Code) (pre : List α) (W : World), w.heap.size ≤ D → Sp pre → Ix c pre W → W.heap[D]? = some (.deferred (some [])) → RC none m ({ target := .collected D, args := #[] } :: ds) P c Q n l W) :
    RC none m ds P (Code.rangeFunc g ps assign body) Q n l w := by
  refine ⟨wpIn_rangeFunc ?_⟩
  intro fn hfn
  have hro : (Fw none).round = none := rfl
  rw [hro]
  have hg' : (wd (fr n l) ds).eval g = .func (.func gf) ra lb := (ev_wd g).trans hg
  have htm : (wd (fr n l) ds).tmps = (fr n l).tmps := rfl
  obtain ⟨rec, hrec⟩ : ∃ rec : LoopState → Option Code → Loop, rec = fun st pe => { state := st, pending := pe, fn, tmps := (fr n l).tmps, params := ps, assign, body, defers := w.heap.size } := ⟨_, rfl⟩
  obtain ⟨W1, hW1⟩ : ∃ W1, (w.alloc (.deferred (some []))).alloc (.loop (rec .ready none)) = W1 := ⟨_, rfl⟩
  have hm1 : Mo w W1 := by rw [← hW1]; exact (Mo.allocO rfl).trans (Mo.allocO rfl)
  have hL1 : W1.heap[w.heap.size + 1]? = some (.loop (rec .ready none)) := by
    rw [← hW1]; have := World.alloc_heap_new (w.alloc (.deferred (some []))) (.loop (rec .ready none)); rwa [World.size_alloc] at this
  have hK1 : W1.heap[w.heap.size]? = some (.deferred (some [])) := by
    rw [← hW1]; exact (Below.heap_alloc _ _ _ (by simp)).trans (World.alloc_heap_new w _)
  have hI1 : I [] W1 := hI.mo h0 hm1
  refine ⟨w.heap.size + 1, [{ target := .collected w.heap.size, args := #[] }], W1, { target := .fn (.func gf) lb, args := ra ++ #[.func (.yield (w.heap.size + 1)) #[] #[]] }, W1, gf,
    ra ++ #[.func (.yield (w.heap.size + 1)) #[] #[]] ++ lb, W1, ?_, ?_, ?_, ?_, (fun e => by cases e), ?_⟩
  · rw [← hW1, hrec]; exact run_enterLoop_outer _ _ _ _ _
  · simp only [resolve, hg']
    simp [go_sem]
  · intro f' hf'; trivial
  · simp [invoke, go_sem, eg]
  · refine (hseq (w.heap.size + 1)
      (fun pre W => I pre W ∧ W.heap[w.heap.size + 1]? = some (.loop (rec .ready none)) ∧ W.heap[w.heap.size]? = some (.deferred (some [])))
      (fun pre W => ∃ c, Ix c pre W ∧ W.heap[w.heap.size + 1]? = some (.loop (rec .done (some c))) ∧ W.heap[w.heap.size]? = some (.deferred (some [])))
      W1 hm1
      (fun s A B hs mo => ⟨hI.mo hs.1 mo, (mo.1.block _ (Array.getElem?_eq_some_iff.1 hs.2.1).1).trans hs.2.1, (mo.1.block _ (Array.getElem?_eq_some_iff.1 hs.2.2).1).trans hs.2.2⟩)
      (fun s A B hs mo => by
        obtain ⟨c, hc, hl, hk⟩ := hs
        exact ⟨c, (hIx c).mo hc mo, (mo.1.block _ (Array.getElem?_eq_some_iff.1 hl).1).trans hl, (mo.1.block _ (Array.getElem?_eq_some_iff.1 hk).1).trans hk⟩)
      ?_ ⟨hI1, hL1, hK1⟩).mono ?_
    · rintro pre x W ⟨hi, hl, hk⟩ hlen
      have hlt : w.heap.size + 1 < W.heap.size := (Array.getElem?_eq_some_iff.1 hl).1
      have hy := run_yield (P := P) (args := encs x) hl (by rw [hrec]; exact hps x)
      rw [hrec] at hy
      have ha : ∀ K : Act → World → Prop, K (fr n (lx x)) W → assign.wpIn ((Fw none).inRound (w.heap.size + 1)) (m - 1 - 1) P (Exit.then K (fun _ _ _ => False)) { tmps := (ps.zip (encs x)).foldl (fun t (p, v) => t.setIfInBounds p v) (fr n l).tmps, defers := [] } W := fun K hK => by
        rw [hfr x]
        exact (hassign (w.heap.size + 1) x W K ⟨hK⟩).out
      refine ⟨fn, _, assign, body, hy, roundIn_of_wpIn hfn (ha _ ⟨_, run_beginRound hl (by rw [hrec]), ?_⟩)⟩
      have hl2 : (W.putObj (w.heap.size + 1) (.loop { rec .ready none with state := .busy })).heap[w.heap.size + 1]? = some (.loop { rec .ready none with state := .busy }) := World.putObj_heap_same hlt
      have hk2 : (W.putObj (w.heap.size + 1) (.loop { rec .ready none with state := .busy })).heap[w.heap.size]? = some (.deferred (some [])) := (World.putObj_heap_other (by omega)).trans hk
      have hw2 : Kp W (W.putObj (w.heap.size + 1) (.loop { rec .ready none with state := .busy })) := hKb _ _ _ _ (by omega) hl rfl rfl
      refine Go.wpIn_mono (hbody _ pre x _ (hI.putObj _ hi (by omega) hl rfl rfl) hlen).out ?_
      have fin : ∀ (jump : Option Code) (W3 : World), KeepsFrom w.heap.size (W.putObj (w.heap.size + 1) (.loop { rec .ready none with state := .busy })) W3 →
          (Instr.endRound (w.heap.size + 1) jump).run P W3 = .ok (.bool jump.isNone) (W3.putObj (w.heap.size + 1) (.loop (rec (if jump.isNone then .ready else .done) jump))) ∧
          W3.heap[w.heap.size + 1]? = some (.loop { rec .ready none with state := .busy }) ∧
          (W3.putObj (w.heap.size + 1) (.loop (rec (if jump.isNone then .ready else .done) jump))).heap[w.heap.size + 1]? = some (.loop (rec (if jump.isNone then .ready else .done) jump)) ∧
          (W3.putObj (w.heap.size + 1) (.loop (rec (if jump.isNone then .ready else .done) jump))).heap[w.heap.size]? = some (.deferred (some [])) := fun jump W3 hk3 => by
        have hl3 := hk3.same _ _ (by omega) hl2 rfl
        have := run_endRound (P := P) jump hl3
        rw [hrec] at this ⊢
        exact ⟨this, by rw [hrec] at hl3; exact hl3, World.putObj_heap_same (Array.getElem?_eq_some_iff.1 hl3).1, (World.putObj_heap_other (by omega)).trans (hk3.same _ _ (Nat.le_refl _) hk2 rfl)⟩
      rintro e a3 W3 hp
      cases e with
      | normal =>
        obtain ⟨hk3, hkp3, hi3⟩ := hp
        obtain ⟨hr, hl3, hl4, hk4⟩ := fin none W3 hk3
        exact ⟨_, _, hr, .inl ⟨rfl, ⟨hI.putObj _ hi3 (by omega) hl3 rfl rfl, hl4, hk4⟩, hKt (hKt hw2 hkp3) (hKb _ _ _ _ (by omega) hl3 rfl rfl)⟩⟩
      | ret =>
        obtain ⟨hk3, hi3⟩ := hp
        obtain ⟨hr, hl3, hl4, hk4⟩ := fin (some .ret) W3 hk3
        exact ⟨_, _, hr, .inr ⟨rfl, .ret, (hIx _).putObj _ hi3 (by omega) hl3 rfl rfl, hl4, hk4⟩⟩
      | exit id =>
        obtain ⟨hk3, hi3⟩ := hp
        obtain ⟨hr, hl3, hl4, hk4⟩ := fin (some (.exit id)) W3 hk3
        exact ⟨_, _, hr, .inr ⟨rfl, .exit id, (hIx _).putObj _ hi3 (by omega) hl3 rfl rfl, hl4, hk4⟩⟩
      | goto t =>
        obtain ⟨hk3, hi3⟩ := hp
        obtain ⟨hr, hl3, hl4, hk4⟩ := fin (some (.goto t)) W3 hk3
        exact ⟨_, _, hr, .inr ⟨rfl, .goto t, (hIx _).putObj _ hi3 (by omega) hl3 rfl rfl, hl4, hk4⟩⟩
      | panic ch => exact hp.elim
      | outgrown => exact hp.elim
    · rintro e W2 ⟨⟨v, rfl⟩, (⟨xs, hS, hi, hl, hk⟩ | ⟨pre, hSp, c, hi, hl, hk⟩)⟩
      · exact ⟨none, _, by have := run_endLoop (P := P) hl (by rw [hrec]; simp); rw [hrec] at this; exact this, (hdone _ xs _ (Nat.le_refl _) hS (hI.putObj _ hi (by omega) hl rfl rfl) ((World.putObj_heap_other (by omega)).trans hk)).out⟩
      · exact ⟨some c, _, by have := run_endLoop (P := P) hl (by rw [hrec]; simp); rw [hrec] at this; exact this, (hstop _ c pre _ (Nat.le_refl _) hSp ((hIx c).putObj _ hi (by omega) hl rfl rfl) ((World.putObj_heap_other (by omega)).trans hk)).out⟩
end
end R
end Go.Proofs.Ythghblgbjgghcaa
namespace Go.Proofs.Ythghblgbjgghcaa
open Go.RowKit
namespace R
/-- An iterator: what it hands to the rounds, where each round keeps Kp. -/
def SeqG {α : Type} (m : Nat) (P : Program) (g : Nat) (ra lb : Array Value) (encs : α → Array Value) (T : List α × α → World → Prop) (Kp : World → World → Prop) (S Sp : List α → Prop) (N : Nat) (w : World) : Prop :=
  ∀ (l : Nat) (J Jx : List α → World → Prop) (W : World), Mo w W → AbF J → AbF Jx →
    (∀ pre x W1, J pre W1 → T (pre, x) W1 → pre.length < N → YieldAt (Fw none) (m - 1) P l (encs x) W1 fun e W' =>
      (e = .returned (.bool true) ∧ J (pre ++ [x]) W' ∧ Kp W1 W') ∨ (e = .returned (.bool false) ∧ Jx (pre ++ [x]) W')) →
    J [] W →
    CallsIn (Fw none) m P g (ra ++ #[.func (.yield l) #[] #[]] ++ lb) W fun e W' => (∃ v, e = .returned v) ∧ ((∃ xs, S xs ∧ J xs W') ∨ (∃ pre, Sp pre ∧ Jx pre W'))
section
variable {m : Nat} {ds : List Deferred} {P : Program} {n : Nat} {l : List (Nat × Value)} {w : World} {Q : Exit → Act → World → Prop}
theorem w_rg {α : Type} {g : Operand} {ps : Array Tmp} {assign body : Code} (gf : Nat) (ra lb : Array Value) (hg : evl n l g = .func (.func gf) ra lb) (eg : ∀ args w, (callFunc gf args).run P w = .ok (.enter gf args) w)
    (encs : α → Array Value) (T : List α × α → World → Prop) (hT : OwnF w.heap.size T) (Kp : World → World → Prop) (S Sp : List α → Prop) (N : Nat) (hseq : SeqG (m - 1) P gf ra lb encs T Kp S Sp N w)
    (hKt : ∀ {A B C : World}, Kp A B → Kp B C → Kp A C) (hKb : ∀ (W : World) (l : Nat) (o o' : Obj), w.heap.size ≤ l → W.heap[l]? = some o → o.isCells = false → o'.isCells = false → Kp W (W.putObj l o')) (hps : ∀ x, (encs x).size = ps.size)
    (I : List α → World → Prop) (Ix : Code → List α → World → Prop) (hI : OwnF w.heap.size I) (hIx : ∀ c, OwnF w.heap.size (Ix c)) (h0 : I [] w) (la lx : α → List (Nat × Value))
    (hfr : ∀ x, ({ tmps := (ps.zip (encs x)).foldl (fun t (p, v) => t.setIfInBounds p v) (fr n l).tmps, defers := [] } : Act) = fr n (la x))
    (hassign : ∀ (lp : Nat) (x : α) (W : World) (K : Act → World → Prop), WX (Wd [] (Exit.then K (fun _ _ _ => False))) .normal n (lx x) W → RC (some lp) (m - 1 - 1) [] P assign (Exit.then K (fun _ _ _ => False)) n (la x) W)
    (hbody : ∀ (lp : Nat) (pre : List α) (x : α) (W : World), I pre W → T (pre, x) W → pre.length < N → RC (some lp) (m - 1 - 1) [] P body (ownPostG w.heap.size Kp I Ix (pre ++ [x]) W) n (lx x) W)
    (hdone : ∀ (D : Nat) (xs : List α) (W : World), w.heap.size ≤ D → S xs → I xs W → W.heap[D]? = some (.deferred (some [])) → WX (Wd ({ target := .collected D, args := #[] } :: ds) Q) .normal n l W)
    (hstop : ∀ (D : Nat) (c : Code) (pre : List α) (W : World), w.heap.size ≤ D → Sp pre → Ix c pre W → W.heap[D]? = some (.deferred (some [])) → RC none m ({ target := .collected D, args := #[] } :: ds) P c Q n l W) :
    RC none m ds P (Code.rangeFunc g ps assign body) Q n l w := by
  refine ⟨wpIn_rangeFunc ?_⟩
  intro fn hfn
  have hro : (Fw none).round = none := rfl
  rw [hro]
  have hg' : (wd (fr n l) ds).eval g = .func (.func gf) ra lb := (ev_wd g).trans hg
  have htm : (wd (fr n l) ds).tmps = (fr n l).tmps := rfl
  obtain ⟨rec, hrec⟩ : ∃ rec : LoopState → Option Code → Loop, rec = fun st pe => { state := st, pending := pe, fn, tmps := (fr n l).tmps, params := ps, assign, body, defers := w.heap.size } := ⟨_, rfl⟩
  obtain ⟨W1, hW1⟩ : ∃ W1, (w.alloc (.deferred (some []))).alloc (.loop (rec .ready none)) = W1 := ⟨_, rfl⟩
  have hm1 : Mo w W1 := by rw [← hW1]; exact (Mo.allocO rfl).trans (Mo.allocO rfl)
  have hL1 : W1.heap[w.heap.size + 1]? = some (.loop (rec .ready none)) := by
    rw [← hW1]; have := World.alloc_heap_new (w.alloc (.deferred (some []))) (.loop (rec .ready none)); rwa [World.size_alloc] at this
  have hK1 : W1.heap[w.heap.size]? = some (.deferred (some [])) := by
    rw [← hW1]; exact (Below.heap_alloc _ _ _ (by simp)).trans (World.alloc_heap_new w _)
  have hI1 : I [] W1 := hI.mo h0 hm1
  refine ⟨w.heap.size + 1, [{ target := .collected w.heap.size, args := #[] }], W1, { target := .fn (.func gf) lb, args := ra ++ #[.func (.yield (w.heap.size + 1)) #[] #[]] }, W1, gf,
    ra ++ #[.func (.yield (w.heap.size + 1)) #[] #[]] ++ lb, W1, ?_, ?_, ?_, ?_, (fun e => by cases e), ?_⟩
  · rw [← hW1, hrec]; exact run_enterLoop_outer _ _ _ _ _
  · simp only [resolve, hg']
    simp [go_sem]
  · intro f' hf'; trivial
  · simp [invoke, go_sem, eg]
  · refine (hseq (w.heap.size + 1)
      (fun pre W => I pre W ∧ W.heap[w.heap.size + 1]? = some (.loop (rec .ready none)) ∧ W.heap[w.heap.size]? = some (.deferred (some [])))
      (fun pre W => ∃ c, Ix c pre W ∧ W.heap[w.heap.size + 1]? = some (.loop (rec .done (some c))) ∧ W.heap[w.heap.size]? = some (.deferred (some [])))
      W1 hm1
      (fun s A B hs mo => ⟨hI.mo hs.1 mo, (mo.1.block _ (Array.getElem?_eq_some_iff.1 hs.2.1).1).trans hs.2.1, (mo.1.block _ (Array.getElem?_eq_some_iff.1 hs.2.2).1).trans hs.2.2⟩)
      (fun s A B hs mo => by
        obtain ⟨c, hc, hl, hk⟩ := hs
        exact ⟨c, (hIx c).mo hc mo, (mo.1.block _ (Array.getElem?_eq_some_iff.1 hl).1).trans hl, (mo.1.block _ (Array.getElem?_eq_some_iff.1 hk).1).trans hk⟩)
      ?_ ⟨hI1, hL1, hK1⟩).mono ?_
    · rintro pre x W ⟨hi, hl, hk⟩ hTx hlen
      have hlt : w.heap.size + 1 < W.heap.size := (Array.getElem?_eq_some_iff.1 hl).1
      have hy := run_yield (P := P) (args := encs x) hl (by rw [hrec]; exact hps x)
      rw [hrec] at hy
      have ha : ∀ K : Act → World → Prop, K (fr n (lx x)) W → assign.wpIn ((Fw none).inRound (w.heap.size + 1)) (m - 1 - 1) P (Exit.then K (fun _ _ _ => False)) { tmps := (ps.zip (encs x)).foldl (fun t (p, v) => t.setIfInBounds p v) (fr n l).tmps, defers := [] } W := fun K hK => by
        rw [hfr x]
        exact (hassign (w.heap.size + 1) x W K ⟨hK⟩).out
      refine ⟨fn, _, assign, body, hy, roundIn_of_wpIn hfn (ha _ ⟨_, run_beginRound hl (by rw [hrec]), ?_⟩)⟩
      have hl2 : (W.putObj (w.heap.size + 1) (.loop { rec .ready none with state := .busy })).heap[w.heap.size + 1]? = some (.loop { rec .ready none with state := .busy }) := World.putObj_heap_same hlt
      have hk2 : (W.putObj (w.heap.size + 1) (.loop { rec .ready none with state := .busy })).heap[w.heap.size]? = some (.deferred (some [])) := (World.putObj_heap_other (by omega)).trans hk
      have hw2 : Kp W (W.putObj (w.heap.size + 1) (.loop { rec .ready none with state := .busy })) := hKb _ _ _ _ (by omega) hl rfl rfl
      refine Go.wpIn_mono (hbody _ pre x _ (hI.putObj _ hi (by omega) hl rfl rfl) (hT.putObj (s := (pre, x)) _ hTx (by omega) hl rfl rfl) hlen).out ?_
      have fin : ∀ (jump : Option Code) (W3 : World), KeepsFrom w.heap.size (W.putObj (w.heap.size + 1) (.loop { rec .ready none with state := .busy })) W3 →
          (Instr.endRound (w.heap.size + 1) jump).run P W3 = .ok (.bool jump.isNone) (W3.putObj (w.heap.size + 1) (.loop (rec (if jump.isNone then .ready else .done) jump))) ∧
          W3.heap[w.heap.size + 1]? = some (.loop { rec .ready none with state := .busy }) ∧
          (W3.putObj (w.heap.size + 1) (.loop (rec (if jump.isNone then .ready else .done) jump))).heap[w.heap.size + 1]? = some (.loop (rec (if jump.isNone then .ready else .done) jump)) ∧
          (W3.putObj (w.heap.size + 1) (.loop (rec (if jump.isNone then .ready else .done) jump))).heap[w.heap.size]? = some (.deferred (some [])) := fun jump W3 hk3 => by
        have hl3 := hk3.same _ _ (by omega) hl2 rfl
        have := run_endRound (P := P) jump hl3
        rw [hrec] at this ⊢
        exact ⟨this, by rw [hrec] at hl3; exact hl3, World.putObj_heap_same (Array.getElem?_eq_some_iff.1 hl3).1, (World.putObj_heap_other (by omega)).trans (hk3.same _ _ (Nat.le_refl _) hk2 rfl)⟩
      rintro e a3 W3 hp
      cases e with
      | normal =>
        obtain ⟨hk3, hkp3, hi3⟩ := hp
        obtain ⟨hr, hl3, hl4, hk4⟩ := fin none W3 hk3
        exact ⟨_, _, hr, .inl ⟨rfl, ⟨hI.putObj _ hi3 (by omega) hl3 rfl rfl, hl4, hk4⟩, hKt (hKt hw2 hkp3) (hKb _ _ _ _ (by omega) hl3 rfl rfl)⟩⟩
      | ret =>
        obtain ⟨hk3, hi3⟩ := hp
        obtain ⟨hr, hl3, hl4, hk4⟩ := fin (some .ret) W3 hk3
        exact ⟨_, _, hr, .inr ⟨rfl, .ret, (hIx _).putObj _ hi3 (by omega) hl3 rfl rfl, hl4, hk4⟩⟩
      | exit id =>
        obtain ⟨hk3, hi3⟩ := hp
        obtain ⟨hr, hl3, hl4, hk4⟩ := fin (some (.exit id)) W3 hk3
        exact ⟨_, _, hr, .inr ⟨rfl, .exit id, (hIx _).putObj _ hi3 (by omega) hl3 rfl rfl, hl4, hk4⟩⟩
      | goto t =>
        obtain ⟨hk3, hi3⟩ := hp
        obtain ⟨hr, hl3, hl4, hk4⟩ := fin (some (.goto t)) W3 hk3
        exact ⟨_, _, hr, .inr ⟨rfl, .goto t, (hIx _).putObj _ hi3 (by omega) hl3 rfl rfl, hl4, hk4⟩⟩
      | panic ch => exact hp.elim
      | outgrown => exact hp.elim
    · rintro e W2 ⟨⟨v, rfl⟩, (⟨xs, hS, hi, hl, hk⟩ | ⟨pre, hSp, c, hi, hl, hk⟩)⟩
      · exact ⟨none, _, by have := run_endLoop (P := P) hl (by rw [hrec]; simp); rw [hrec] at this; exact this, (hdone _ xs _ (Nat.le_refl _) hS (hI.putObj _ hi (by omega) hl rfl rfl) ((World.putObj_heap_other (by omega)).trans hk)).out⟩
      · exact ⟨some c, _, by have := run_endLoop (P := P) hl (by rw [hrec]; simp); rw [hrec] at this; exact this, (hstop _ c pre _ (Nat.le_refl _) hSp ((hIx c).putObj _ hi (by omega) hl rfl rfl) ((World.putObj_heap_other (by omega)).trans hk)).out⟩
end
end R
end Go.Proofs.Ythghblgbjgghcaa
namespace Go.Proofs.Ythghblgbjgghcaa
open Go.RowKit D
theorem grown_mk {W W' : World} {row : Option Nat} (hg : W.grownBy W' row) (hf : ∀ a : Addr, a.block < W.heap.size → W'.frozen? a = W.frozen? a) : Mk (fun k => row = some k) W W' := ⟨hg.os, hg.tape, hg.output, hg.size, fun k hk hd => hg.block k hk (fun e => hd e.symm), hf⟩
/-- A block of cells is none that holds no cells. -/
theorem At.nrow {W : World} {k : Nat} {v : Value} {vs : List Value} (h : At W k (v :: vs)) {o : Obj} (ho : W.heap[k]? = some o) : o.isCells = true := by
  obtain ⟨o', ho', hc⟩ := cells_of_cell (h.cell (j := 0) (v := v) rfl)
  rw [ho] at ho'; cases ho'; exact hc
theorem Ty.nrow {W : World} {k : Nat} {t : TypeId} (h : Ty W k t) {o : Obj} (ho : W.heap[k]? = some o) : o.isCells = true := by
  obtain ⟨vs, h⟩ := h; unfold Ob at h; rw [ho] at h; cases h; rfl
/-- A list from behind, each with its place. -/
def bk {α : Type} (L : List α) : List (Nat × α) := (L.zipIdx.map (fun p => (p.2, p.1))).reverse
theorem bk_len {α : Type} (L : List α) : (bk L).length = L.length := by simp [bk]
theorem bk_get {α : Type} {L : List α} {i : Nat} {x : α} (h : L[i]? = some x) : (bk L)[L.length - (i + 1)]? = some (i, x) := by
  have hi := lt_of_get h
  unfold bk
  rw [List.getElem?_reverse (by simp; omega)]
  simp only [List.length_map, List.length_zipIdx, List.getElem?_map, List.getElem?_zipIdx]
  rw [show L.length - 1 - (L.length - (i + 1)) = i by omega, h]
  simp
theorem bk_take {α : Type} {L : List α} {i : Nat} {x : α} (h : L[i]? = some x) : (bk L).take (L.length - (i + 1)) ++ [(i, x)] = (bk L).take (L.length - i) := by
  have hi := lt_of_get h
  rw [show L.length - i = (L.length - (i + 1)) + 1 by omega, List.take_add_one, bk_get h]; rfl
/-- Elements lie in a block of their type. -/
structure Tl (W : World) (t n : Nat) {α : Type} (cells : α → List Value) (pa : Option Addr) (L : List α) : Prop where
  sl : SL W n cells pa L
  ty : ∀ a, pa = some a → Ty W a.block t
theorem Tl.kk {D : Nat → Prop} {W W' : World} {t n : Nat} {α : Type} {cells : α → List Value} {pa : Option Addr} {L : List α} (h : Tl W t n cells pa L) (m : Mk D W W') (hD : ∀ a, pa = some a → ¬ D a.block) : Tl W' t n cells pa L := ⟨SL.mk h.sl m hD, fun a e => (h.ty a e).mk m (hD a e)⟩
theorem Tl.mo {W W' : World} {t n : Nat} {α : Type} {cells : α → List Value} {pa : Option Addr} {L : List α} (h : Tl W t n cells pa L) (m : Mo W W') : Tl W' t n cells pa L := h.kk (Mk.of (fun _ => False) m) (fun _ _ e => e)
theorem Li.tl {w : World} {pa : Option Addr} {L : List Nat} (h : Li w pa L) : Tl w 3 1 ic pa L := ⟨h.sl, h.ty⟩
/-- What the iterator of a slice keeps: its own variable, and the elements. -/
structure Kb (kc : Nat) (ty : TypeId) (v : Value) (t n : Nat) {α : Type} (cells : α → List Value) (pa : Option Addr) (L : List α) (W W' : World) : Prop where
  a : Ob W kc ty [v] → Ob W' kc ty [v]
  s : Tl W t n cells pa L → Tl W' t n cells pa L
theorem Kb.tr {kc : Nat} {ty : TypeId} {v : Value} {t n : Nat} {α : Type} {cells : α → List Value} {pa : Option Addr} {L : List α} {A B C : World} (h : Kb kc ty v t n cells pa L A B) (k : Kb kc ty v t n cells pa L B C) : Kb kc ty v t n cells pa L A C := ⟨fun x => k.a (h.a x), fun x => k.s (h.s x)⟩
theorem put_mk {W : World} {l : Nat} {o o' : Obj} (hl : W.heap[l]? = some o) (ho : o.isCells = false) (ho' : o'.isCells = false) : Mk (fun k => k = l) W (W.putObj l o') := by
  have hg := grownBy_putObj' W l o'
  exact ⟨hg.os, hg.tape, hg.output, hg.size, fun k hk hd => World.putObj_heap_other (fun q => hd q), fun a _ => R.frozen_put hl ho ho' a⟩
theorem Kb.put {kc : Nat} {ty : TypeId} {v : Value} {t n : Nat} {α : Type} {cells : α → List Value} {pa : Option Addr} {L : List α} (W : World) (l : Nat) (o o' : Obj) (hl : W.heap[l]? = some o) (ho : o.isCells = false) (ho' : o'.isCells = false) : Kb kc ty v t n cells pa L W (W.putObj l o') :=
  have m := put_mk hl ho ho'
  ⟨fun h => h.mk m (fun e => by subst e; have := h.ty.nrow hl; rw [ho] at this; cases this), fun h => h.kk m (fun a e e2 => by have := (h.ty a e).nrow (e2 ▸ hl); rw [ho] at this; cases this)⟩
theorem Kb.mo {kc : Nat} {ty : TypeId} {v : Value} {t n : Nat} {α : Type} {cells : α → List Value} {pa : Option Addr} {L : List α} {W W' : World} (m : Mo W W') : Kb kc ty v t n cells pa L W W' := ⟨fun h => h.mo m, fun h => h.mo m⟩
namespace R
theorem frps2 {n : Nat} {l : List (Nat × Value)} (p q : Tmp) (u v : Value) : ({ tmps := ((#[p, q] : Array Tmp).zip #[u, v]).foldl (fun t (p, v) => t.setIfInBounds p v) (fr n l).tmps, defers := [] } : Act) = fr n (ext (ext l (some p) u) (some q) v) := by
  rw [← fr_put, ← fr_put]; simp [Act.put]; rfl
theorem OwnF.pure {β : Type} {B : Nat} {p : β → Prop} : OwnF B (fun s _ => p s) := fun _ _ _ _ hs _ _ _ => hs
theorem keeps_mk {B : Nat} {D : Nat → Prop} {W W' : World} (h : Mk D W W') (hD : ∀ k o, B ≤ k → W.heap[k]? = some o → o.isCells = false → ¬ D k) : KeepsFrom B W W' :=
  ⟨h.size, fun k o hB hk ho => (h.block k (Array.getElem?_eq_some_iff.1 hk).1 (hD k o hB hk ho)).trans hk⟩
section
variable {m : Nat} {ds : List Deferred} {P : Program} {n : Nat} {l : List (Nat × Value)} {w : World} {Q : Exit → Act → World → Prop}
theorem w_ret0 {fn : Func} {X : Ending → World → Prop} (hf : fn.results = #[]) (hR : X (.returned (.tuple #[])) w) : WX (Wd [] (bodyPostM (Fw none) m P fn X)) .ret n l w := ⟨⟨.tuple #[], by simp [results, hf], hR⟩⟩
theorem w_end0 {fn : Func} {X : Ending → World → Prop} (hf : fn.results = #[]) (hR : X (.returned (.tuple #[])) w) : WX (Wd [] (bodyPostM (Fw none) m P fn X)) .normal n l w := ⟨⟨.tuple #[], by simp [results, hf], hR⟩⟩
theorem w_end0m {fn : Func} {X : Ending → World → Prop} (D : Nat) (hf : fn.results = #[]) (hK : w.heap[D]? = some (.deferred (some []))) (hR : X (.returned (.tuple #[])) (w.putObj D (.deferred none))) : WX (Wd [{ target := .collected D, args := #[] }] (bodyPostM (Fw none) m P fn X)) .normal n l w := ⟨by
  exact ⟨by simp, .inl ⟨D, _, rfl, run_takeDeferred hK, .tuple #[], by simp [results, hf], hR⟩⟩⟩
theorem w_ogc {ro : Option Nat} {m0 : Nat} {id : Nat} {ops : List Oper} (m : Nat) (G : World → Prop) (sp : List (Value → World → Prop)) (fs : List Nat) (hm : P.follows .mixedOrders = true)
    (hb : edgesBack .any ops.toArray = true) (hd : dstsApart (ops.take m) = true) (hc : chainB ops m fs = true) (hl : Nat.ble m ops.length = true) (hf : floatB ops m fs = true) (hns : Region.noSelect ops.toArray = true) (hnd : ops.toArray.all R.notDefer = true)
    (hlate : ∀ i, i ∈ fs → LateC P ops (R.Wd ds Q) n l m sp i) (hG : G w.drew) (hs : Each (OgC P ops (R.Wd ds Q) n l m G sp) 0 (ops.take m))
    (hend : ∀ f w', G w' → (∀ i, Nat.blt i m = true → spQ sp i (f i) w') → WL P ops.toArray (R.Wd ds Q) (ops.drop m) n (asg f 0 (ops.take m) l) w') : R.RC ro m0 ds P (Code.region id ops.toArray true) Q n l w :=
  ⟨wpIn_region_any hm (R.any_in hnd _ _ _ _ (a_ogc m G sp fs hb hd hc hl hf hns hlate hG hs hend))⟩
theorem w_ogl {ro : Option Nat} {m0 : Nat} {id : Nat} {ops : List Oper} (m : Nat) (G : (Nat → Bool) → (Nat → Value) → World → Prop) (sp : List (Value → World → Prop)) (hm : P.follows .mixedOrders = true)
    (hb : edgesBack .any ops.toArray = true) (hd : dstsApart (ops.take m) = true) (hc : chainB ops m [] = true) (hl : Nat.ble m ops.length = true) (hnd : ops.toArray.all R.notDefer = true)
    (hG : ∀ f, G (fun _ => false) f w.drew) (hs : Each (OgL P ops (R.Wd ds Q) n l m G sp) 0 (ops.take m))
    (hend : ∀ L f w', (∀ i, Nat.blt i m = true → L i = true) → G L f w' → (∀ i, Nat.blt i m = true → spQ sp i (f i) w') → WL P ops.toArray (R.Wd ds Q) (ops.drop m) n (asg f 0 (ops.take m) l) w') : R.RC ro m0 ds P (Code.region id ops.toArray true) Q n l w :=
  ⟨wpIn_region_any hm (R.any_in hnd _ _ _ _ (a_ogl m G sp hb hd hc hl hG hs hend))⟩
end
end R
theorem Rdr.kk {D : Nat → Prop} {l : List S5} {A : Ra} {w w' : World} {F : Fn} {hid : List (ByteArray × Int)} (h : Rdr l A w F hid) (m : Mk D w w') (hr : ¬ D A.r) (hm : ¬ D A.mb) (hn : ¬ D A.nb) (ho : ¬ D A.ob) (h3 : ∀ b, Ty w b 3 → ¬ D b) (h32 : ∀ a, A.pk = some a → ¬ D a.block) (h105 : ∀ b, A.N ≤ b → Ty w b 105 → ¬ D b) : Rdr l A w' F hid := by
  obtain ⟨hv, r1, r2⟩ := h.rc
  obtain ⟨am, m1, m2⟩ := h.mt
  exact ⟨h.st.kk m h3 h32 hn ho, ⟨hv, r1.mk m hr, own_mk r2 m (fun k e => h105 k (own_lt r2 e).2 (own_ty r2 e))⟩, ⟨am, m1.mk m hm, m2⟩, h.nn, h.no, h.nr, h.nb⟩
/-- A reader abides the loop's own turns. -/
theorem Rdr.grown {l : List S5} {A : Ra} {W W' : World} {F : Fn} {hid : List (ByteArray × Int)} {row : Option Nat} {B : Nat} (h : Rdr l A W F hid) (hg : W.grownBy W' row) (hf : ∀ a : Addr, a.block < W.heap.size → W'.frozen? a = W.frozen? a) (hr : ∀ r, row = some r → B ≤ r ∧ ∃ o : Obj, W.heap[r]? = some o ∧ o.isCells = false) (h1 : A.mb < B) (h2 : A.nb < B) (h3 : A.ob < B) : Rdr l A W' F hid := by
  have ty : ∀ (b : Nat) (t : TypeId), Ty W b t → ¬ row = some b := fun b t hb e => by
    obtain ⟨_, o, ho, hc⟩ := hr b e
    have := hb.nrow ho; rw [hc] at this; cases this
  obtain ⟨hv, r1, r2⟩ := h.rc
  exact h.kk (grown_mk hg hf) (ty _ _ r1.ty) (fun e => by have := (hr _ e).1; omega) (fun e => by have := (hr _ e).1; omega) (fun e => by have := (hr _ e).1; omega) (fun b hb => ty b _ hb) (fun a e => ty _ _ (h.st.kt a e)) (fun b _ hb => ty b _ hb)
end Go.Proofs.Ythghblgbjgghcaa

/-
  A part of the proof.
-/
import Derived.Test.YthehmmhnacomkaaKa2
import Derived.Test.YthehmmhnacomkaaKa1
import Derived.RegionTactic
import Derived.Test.YthehmmhnacomkaaProg
import Derived.WalkKit
import Derived.WalkSpells
import Derived.Handy
import Derived.BigQuiet
import Derived.Deep.RegionHeld3
import Derived.Deep.MidRow
import Derived.BigCall
import Derived.Shelf.Small.Bits
import Derived.Shelf.Strconv.Itoa0
import Derived.Shelf.Bits.Mul64
namespace Go.Proofs.Ythehmmhnacomkaa
open Go.RowKit
theorem exists_least {p : Nat → Prop} (h : ∃ m, p m) : ∃ m, p m ∧ ∀ k, p k → m ≤ k := by
 obtain ⟨m, hm⟩ := h
 induction m using Nat.strongRecOn with
 | ind m ih =>
  by_cases hh : ∃ k, k < m ∧ p k
  ·obtain ⟨k, hk, hp⟩ := hh; exact ih k hk hp
  ·exact ⟨m, hm, fun k hp => Nat.le_of_not_lt (fun hk => hh ⟨k, hk, hp⟩)⟩
def least (p : Nat → Prop) (m : Nat) : Prop := p m ∧ ∀ k, p k → m ≤ k
theorem least_ok {p : Nat → Prop} (h : ∃ m, p m) : least p (Classical.epsilon (least p)) := Classical.epsilon_spec (exists_least h)
structure WC (P : Program) (c : Code) (Q : Exit → Act → World → Prop) (n : Nat) (l : List (Nat × Value)) (w : World) : Prop where
 out : c.wp P Q (fr n l) w
structure WL (P : Program) (ops : Array Oper) (Q : Exit → Act → World → Prop) (r : List Oper) (n : Nat) (l : List (Nat × Value)) (w : World) : Prop where
 out : wpList P ops Q r (fr n l) w
structure WX (Q : Exit → Act → World → Prop) (e : Exit) (n : Nat) (l : List (Nat × Value)) (w : World) : Prop where
 out : Q e (fr n l) w
structure WO (P : Program) (o : Oper) (n : Nat) (l : List (Nat × Value)) (w : World) (K : Act → World → Prop) (Q : Exit → Act → World → Prop) : Prop where
 out : o.wp P (fr n l) w K Q
section
variable {P : Program} {o : Oper} {n : Nat} {l : List (Nat × Value)} {w : World} {ops : Array Oper} {rest : List Oper} {Q : Exit → Act → World → Prop} {K : Act → World → Prop}
theorem w_enter {f : FuncId} {fn : Func} {c : Code} {args : Array Value} {R : Ending → World → Prop} (n : Nat) (hf : P.funcs[f]? = some fn) (hn : fn.ntmps = n) (hb : fn.body = some c)
  (ha : Nat.ble args.size n = true) (h : WC P c (bodyPost P fn R) n (argl 0 args.toList) w) : Calls P f args w R := f_enter n hf hn hb ha h.out
theorem w_seq {x y : Code} (h : WC P x (Exit.then (y.wp P Q) Q) n l w) : WC P (Code.seq x y) Q n l w := ⟨wp_seq h.out⟩
theorem w_block {id : Nat} {c : Code} (h : WC P c (Exit.inBlock id Q) n l w) : WC P (Code.block id c) Q n l w := ⟨wp_block h.out⟩
theorem w_skip (h : WX Q .normal n l w) : WC P .skip Q n l w := ⟨wp_skip h.out⟩
theorem w_label {i : Nat} (h : WX Q .normal n l w) : WC P (.label i) Q n l w := ⟨wp_label h.out⟩
theorem w_ret (h : WX Q .ret n l w) : WC P .ret Q n l w := ⟨wp_ret h.out⟩
theorem w_exit {id : Nat} (h : WX Q (.exit id) n l w) : WC P (.exit id) Q n l w := ⟨wp_exit h.out⟩
theorem w_condT {c : Operand} {x y : Code} (hc : evl n l c = .bool true) (h : WC P x Q n l w) : WC P (Code.cond c x y) Q n l w := ⟨c_cond true hc h.out⟩
theorem w_condF {c : Operand} {x y : Code} (hc : evl n l c = .bool false) (h : WC P y Q n l w) : WC P (Code.cond c x y) Q n l w := ⟨c_cond false hc h.out⟩
theorem w_reg {id : Nat} {ol : List Oper} (h : WL P ol.toArray Q ol n l w) : WC P (Code.region id ol.toArray false) Q n l w := ⟨wp_region_lit h.out⟩
theorem w_nil (h : WX Q .normal n l w) : WL P ops Q [] n l w := ⟨wpList_nil h.out⟩
theorem xn_then {y : Code} {Q' : Exit → Act → World → Prop} (h : WC P y Q n l w) : WX (Exit.then (y.wp P Q) Q') .normal n l w := ⟨n_then h.out⟩
theorem xn_blk {id : Nat} (h : WX Q .normal n l w) : WX (Exit.inBlock id Q) .normal n l w := ⟨n_blk h.out⟩
theorem xx_then {next : Act → World → Prop} {id : Nat} (h : WX Q (.exit id) n l w) : WX (Exit.then next Q) (.exit id) n l w := ⟨x_then h.out⟩
theorem xx_blk {id : Nat} (h : WX Q .normal n l w) : WX (Exit.inBlock id Q) (.exit id) n l w := ⟨x_blk h.out⟩
theorem xr_then {next : Act → World → Prop} (h : WX Q .ret n l w) : WX (Exit.then next Q) .ret n l w := ⟨r_then h.out⟩
theorem xr_blk {id : Nat} (h : WX Q .ret n l w) : WX (Exit.inBlock id Q) .ret n l w := ⟨r_blk h.out⟩
theorem w_ret1 {fn : Func} {R : Ending → World → Prop} (x : ResultVar) (v : Value) (hf : fn.results = #[x]) (h : resv n l P w v x) (hR : R (.returned v) w) : WX (bodyPost P fn R) .ret n l w := ⟨c_ret1 x v hf h hR⟩
theorem w_ret2 {fn : Func} {R : Ending → World → Prop} (x y : ResultVar) (v u : Value) (hf : fn.results = #[x, y]) (h : resv n l P w v x) (g : resv n l P w u y) (hR : R (.returned (.tuple #[v, u])) w) : WX (bodyPost P fn R) .ret n l w := ⟨c_ret2 x y v u hf h g hR⟩
theorem w_loop {c : Code} (I : Nat → List (Nat × Value) → World → Prop) (m : Nat) (h0 : I m l w)
  (round : ∀ m l w, I m l w → WC P c (Exit.then (fun a w' => ∃ m' l', m' < m ∧ a = fr n l' ∧ I m' l' w') Q) n l w) : WC P (Code.loop c) Q n l w := by
 refine ⟨?_⟩
 have key : ∀ m : Nat, ∀ l w, I m l w → (Code.loop c).wp P Q (fr n l) w := by
  intro m0 l0 w0 hI0
  refine wp_loop (fun a w => ∃ m l, a = fr n l ∧ I m l w) (fun a w => Classical.epsilon (least (fun m => ∃ l, a = fr n l ∧ I m l w))) ⟨m0, l0, rfl, hI0⟩ ?_
  rintro a w ⟨m, l, rfl, hI⟩
  obtain ⟨l2, e2, hI2⟩ := (least_ok (p := fun m => ∃ l', fr n l = fr n l' ∧ I m l' w) ⟨m, l, rfl, hI⟩).1
  rw [e2]
  refine Code.wp_mono ?_ (round _ l2 w hI2).out
  intro e a' w' hq
  cases e with
  | normal =>
   obtain ⟨m', l', hlt, rfl, hI'⟩ := hq
   refine ⟨⟨m', l', rfl, hI'⟩, Nat.lt_of_le_of_lt ((least_ok (p := fun m => ∃ l'', fr n l' = fr n l'' ∧ I m l'' w') ⟨m', l', rfl, hI'⟩).2 m' ⟨l', rfl, hI'⟩) ?_⟩
   rw [← e2]; exact hlt
  | _ => exact hq
 exact key m l w h0
theorem xn_loop {I : Nat → List (Nat × Value) → World → Prop} {m : Nat} (m' : Nat) (hlt : m' < m) (h : I m' l w) : WX (Exit.then (fun a w' => ∃ m' l', m' < m ∧ a = fr n l' ∧ I m' l' w') Q) .normal n l w := ⟨⟨m', l, hlt, rfl, h⟩⟩
theorem wl_val (v : Value) (h : (execOp (evl n l) o).run P w = .ok (.value v) w) (hg : wnt n l ops o = true) (hk : WL P ops Q rest n (ext l o.dst v) w) : WL P ops Q (o :: rest) n l w :=
 ⟨l_step hg (o_val v h hk.out)⟩
theorem wl_mv (x : Operand) (p : Value) (ho : ∀ ρ, execOp ρ o = pure (.value (ρ x))) (hx : evl n l x = p) (hg : wnt n l ops o = true) (hk : WL P ops Q rest n (ext l o.dst p) w) : WL P ops Q (o :: rest) n l w :=
 ⟨l_step hg (o_mv x p ho hx hk.out)⟩
theorem wo_mv (x : Operand) (p : Value) (ho : ∀ ρ, execOp ρ o = pure (.value (ρ x))) (hx : evl n l x = p) (hk : K (fr n (ext l o.dst p)) w) : WO P o n l w K Q := ⟨o_mv x p ho hx hk⟩
theorem wl_un (F : Value → Sem Value) (x : Operand) (p v : Value) (ho : ∀ ρ, execOp ρ o = (do pure (.value (← F (ρ x))))) (hx : evl n l x = p) (h : (F p).run P w = .ok v w) (hg : wnt n l ops o = true) (hk : WL P ops Q rest n (ext l o.dst v) w) : WL P ops Q (o :: rest) n l w :=
 ⟨l_step hg (o_un F x p v ho hx h hk.out)⟩
theorem wo_un (F : Value → Sem Value) (x : Operand) (p v : Value) (ho : ∀ ρ, execOp ρ o = (do pure (.value (← F (ρ x))))) (hx : evl n l x = p) (h : (F p).run P w = .ok v w) (hk : K (fr n (ext l o.dst v)) w) : WO P o n l w K Q := ⟨o_un F x p v ho hx h hk⟩
theorem wl_bin (F : Value → Value → Sem Value) (x y : Operand) (p q v : Value) (ho : ∀ ρ, execOp ρ o = (do pure (.value (← F (ρ x) (ρ y))))) (hx : evl n l x = p) (hy : evl n l y = q) (h : (F p q).run P w = .ok v w) (hg : wnt n l ops o = true) (hk : WL P ops Q rest n (ext l o.dst v) w) : WL P ops Q (o :: rest) n l w :=
 ⟨l_step hg (o_bin F x y p q v ho hx hy h hk.out)⟩
theorem wo_bin (F : Value → Value → Sem Value) (x y : Operand) (p q v : Value) (ho : ∀ ρ, execOp ρ o = (do pure (.value (← F (ρ x) (ρ y))))) (hx : evl n l x = p) (hy : evl n l y = q) (h : (F p q).run P w = .ok v w) (hk : K (fr n (ext l o.dst v)) w) : WO P o n l w K Q := ⟨o_bin F x y p q v ho hx hy h hk⟩
theorem wl_pick (c x y : Operand) (t : Bool) (v : Value) (ho : ∀ ρ, execOp ρ o = (do pure (.value (if ← asBool (ρ c) then ρ x else ρ y)))) (hc : evl n l c = .bool t) (hv : evl n l (bif t then x else y) = v) (hg : wnt n l ops o = true) (hk : WL P ops Q rest n (ext l o.dst v) w) : WL P ops Q (o :: rest) n l w :=
 ⟨l_step hg (o_pick c x y t v ho hc hv hk.out)⟩
theorem wl_build (t : TypeId) (xs : List (Nat × Operand)) (ps : List (Nat × Value)) (v : Value) (ho : o.op = .build t xs.toArray) (hx : xs.map (fun p => (p.1, evl n l p.2)) = ps) (h : (Instr.build t ps.toArray).run P w = .ok v w) (hg : wnt n l ops o = true) (hk : WL P ops Q rest n (ext l o.dst v) w) : WL P ops Q (o :: rest) n l w :=
 ⟨l_step hg (o_build t xs ps v ho hx h hk.out)⟩
theorem wl_load (ty : TypeId) (x : Operand) (p v : Value) (ho : o.op = .load ty x) (hx : evl n l x = p) (h : (Instr.loadAt ty p).run P w = .ok v w) (hg : wnt n l ops o = true) (hk : WL P ops Q rest n (ext l o.dst v) w) : WL P ops Q (o :: rest) n l w :=
 ⟨l_step hg (o_load ty x p v ho hx h hk.out)⟩
theorem wo_load (ty : TypeId) (x : Operand) (p v : Value) (ho : o.op = .load ty x) (hx : evl n l x = p) (h : (Instr.loadAt ty p).run P w = .ok v w) (hk : K (fr n (ext l o.dst v)) w) : WO P o n l w K Q := ⟨o_load ty x p v ho hx h hk⟩
theorem wl_m (x : Operand) (p : Value) (hk : WL P ops Q rest n (ext l o.dst p) w) (ho : ∀ ρ, execOp ρ o = pure (.value (ρ x)) := by exact fun _ => rfl) (hx : evl n l x = p := by rfl) (hg : wnt n l ops o = true := by rfl) : WL P ops Q (o :: rest) n l w := wl_mv x p ho hx hg hk
theorem wl_b (b : BinOp) (t : TypeId) (x y : Operand) (p q v : Value) (h : (do eqGuard b t x y p q; binOp b t p q).run P w = .ok v w) (hk : WL P ops Q rest n (ext l o.dst v) w) (ho : ∀ ρ, execOp ρ o = (do pure (.value (← (do eqGuard b t x y (ρ x) (ρ y); binOp b t (ρ x) (ρ y))))) := by exact fun _ => rfl) (hx : evl n l x = p := by rfl) (hy : evl n l y = q := by rfl) (hg : wnt n l ops o = true := by rfl) : WL P ops Q (o :: rest) n l w := wl_bin (fun u z => do eqGuard b t x y u z; binOp b t u z) x y p q v ho hx hy h hg hk
theorem wl_f (t : TypeId) (i : Nat) (x : Operand) (p v : Value) (hk : WL P ops Q rest n (ext l o.dst v) w) (h : (Instr.fieldAt t p i).run P w = .ok v w := by kernel_rfl) (ho : ∀ ρ, execOp ρ o = (do pure (.value (← Instr.fieldAt t (ρ x) i))) := by exact fun _ => rfl) (hx : evl n l x = p := by rfl) (hg : wnt n l ops o = true := by rfl) : WL P ops Q (o :: rest) n l w := wl_un (fun v => Instr.fieldAt t v i) x p v ho hx h hg hk
theorem wl_l (t : TypeId) (x : Operand) (p v : Value) (h : (Instr.loadAt t p).run P w = .ok v w) (hk : WL P ops Q rest n (ext l o.dst v) w) (ho : o.op = .load t x := by rfl) (hx : evl n l x = p := by rfl) (hg : wnt n l ops o = true := by rfl) : WL P ops Q (o :: rest) n l w := wl_load t x p v ho hx h hg hk
theorem wl_alloc (ty : TypeId) (zs : Array Value) (ho : o.op = .alloc ty) (h : ∀ w, (Instr.alloc ty true (.tuple #[])).run P w = .ok (pt w.heap.size 0) (w.alloc (.cells zs ty))) (hg : wnt n l ops o = true) (hk : ∀ k w', w.heap.size = k → w'.heap.size = k + 1 → Mo w w' → At w' k zs.toList → WL P ops Q rest n (ext l o.dst (pt k 0)) w') : WL P ops Q (o :: rest) n l w :=
 ⟨l_step hg (o_alloc ty zs ho h (fun k w' a b c d => (hk k w' a b c d).out))⟩
theorem wo_alloc (ty : TypeId) (zs : Array Value) (ho : o.op = .alloc ty) (h : ∀ w, (Instr.alloc ty true (.tuple #[])).run P w = .ok (pt w.heap.size 0) (w.alloc (.cells zs ty))) (hk : ∀ k w', w.heap.size = k → w'.heap.size = k + 1 → Mo w w' → At w' k zs.toList → K (fr n (ext l o.dst (pt k 0))) w') : WO P o n l w K Q := ⟨o_alloc ty zs ho h (fun k w' a b c d => (hk k w' a b c d))⟩
theorem wl_box (ty : TypeId) (x : Operand) (v : Value) (cs : Array Value) (ho : o.op = .box ty x) (hx : evl n l x = v) (h : ∀ w, (Instr.box ty v).run P w = .ok (pt w.heap.size 0) (w.alloc (.cells cs ty))) (hg : wnt n l ops o = true) (hk : ∀ k w', w.heap.size = k → w'.heap.size = k + 1 → Mo w w' → At w' k cs.toList → WL P ops Q rest n (ext l o.dst (pt k 0)) w') : WL P ops Q (o :: rest) n l w :=
 ⟨l_step hg (o_box ty x v cs ho hx h (fun k w' a b c d => (hk k w' a b c d).out))⟩
theorem wl_call (g : FuncId) (xs : List Operand) (ats : Array TypeId) (args : List Value) (v : Value) (ho : o.op = .call { callee := .value (.func g), args := xs.toArray, argTypes := ats }) (hx : xs.map (evl n l) = args) (h : ∀ args w, (callFunc g args).run P w = .ok (.enter g args) w) (hc : Calls P g args.toArray w fun e w' => e = .returned v ∧ Mo w w') (hg : wnt n l ops o = true) (hk : ∀ w', Mo w w' → WL P ops Q rest n (ext l o.dst v) w') : WL P ops Q (o :: rest) n l w :=
 ⟨l_step hg (o_call g xs ats args v ho hx h hc (fun w' m => (hk w' m).out))⟩
theorem wo_call (g : FuncId) (xs : List Operand) (ats : Array TypeId) (args : List Value) (v : Value) (ho : o.op = .call { callee := .value (.func g), args := xs.toArray, argTypes := ats }) (hx : xs.map (evl n l) = args) (h : ∀ args w, (callFunc g args).run P w = .ok (.enter g args) w) (hc : Calls P g args.toArray w fun e w' => e = .returned v ∧ Mo w w') (hk : ∀ w', Mo w w' → K (fr n (ext l o.dst v)) w') : WO P o n l w K Q := ⟨o_call g xs ats args v ho hx h hc (fun w' m => (hk w' m))⟩
theorem wl_skip (hg : wnt n l ops o = false) (h : WL P ops Q rest n (ext l o.dst undef) w) : WL P ops Q (o :: rest) n l w := ⟨l_skip hg h.out⟩
theorem wl_st (ty : TypeId) (x y : Operand) (k off : Nat) (us : Array Value) (vs vs' : List Value) (hA : At w k vs) (ho : o.op = .store ty x y) (hd : o.dst = none) (hx : evl n l x = pt k off) (hy : evl n l y = .agg us)
  (hl : Nat.ble (off + us.size) vs.length = true) (hi : (P.info? ty).map (·.size) = some us.size) (h1 : us.toList.all (·.oneCell') = true) (hvs : vs' = vs.take off ++ us.toList ++ vs.drop (off + us.toList.length)) (hg : wnt n l ops o = true)
  (hk : ∀ w', St k w w' → At w' k vs' → WL P ops Q rest n l w') : WL P ops Q (o :: rest) n l w :=
 ⟨l_step hg (o_st ty x y k off us vs vs' hA ho hd hx hy hl hi h1 hvs (fun w' a b => (hk w' a b).out))⟩
structure Go1 (P : Program) (ops : List Oper) (Q : Exit → Act → World → Prop) (n : Nat) (l : List (Nat × Value)) (w : World) (K : Act → World → Prop) (o : Oper) : Prop where
 out : (wnt n l ops.toArray o = true ∧ WO P o n l w K Q) ∨ (wnt n l ops.toArray o = false ∧ K (fr n (ext l o.dst undef)) w)
theorem go_run {ol : List Oper} (hg : wnt n l ol.toArray o = true) (h : WO P o n l w K Q) : Go1 P ol Q n l w K o := ⟨Or.inl ⟨hg, h⟩⟩
structure OgW (P : Program) (ops : List Oper) (Q : Exit → Act → World → Prop) (n : Nat) (l : List (Nat × Value)) (m : Nat) (W : World) (sp : List Sp) (i : Nat) (o : Oper) : Prop where
 out : ∀ f w, Mo W w → (∀ j, depb o j = true → spDen W.heap.size (spAt sp j) (f j) w) → ∀ K : Act → World → Prop,
  (match spAt sp i with
   | .inl v => ∀ w', Mo w w' → K (fr n (ext (asg f 0 (ops.take m) l) o.dst v)) w'
   | .inr zs => ∀ k w', w.heap.size = k → w'.heap.size = k + 1 → Mo w w' → At w' k zs → K (fr n (ext (asg f 0 (ops.take m) l) o.dst (pt k 0))) w') →
  Go1 P ops Q n (asg f 0 (ops.take m) l) w K o
theorem og_eq {ol : List Oper} {m : Nat} {W : World} {sp : List Sp} {i : Nat} (v : Value) (hs : spAt sp i = .inl v)
  (h : ∀ f w, Mo W w → (∀ j, depb o j = true → spDen W.heap.size (spAt sp j) (f j) w) → ∀ K : Act → World → Prop, (∀ w', Mo w w' → K (fr n (ext (asg f 0 (ol.take m) l) o.dst v)) w') → Go1 P ol Q n (asg f 0 (ol.take m) l) w K o) : OgW P ol Q n l m W sp i o :=
 ⟨fun f w hm hd K hK => h f w hm hd K (by rw [hs] at hK; exact hK)⟩
theorem og_new {ol : List Oper} {m : Nat} {W : World} {sp : List Sp} {i : Nat} (zs : List Value) (hs : spAt sp i = .inr zs)
  (h : ∀ f w, Mo W w → (∀ j, depb o j = true → spDen W.heap.size (spAt sp j) (f j) w) → ∀ K : Act → World → Prop, (∀ k w', w.heap.size = k → w'.heap.size = k + 1 → Mo w w' → At w' k zs → K (fr n (ext (asg f 0 (ol.take m) l) o.dst (pt k 0))) w') → Go1 P ol Q n (asg f 0 (ol.take m) l) w K o) : OgW P ol Q n l m W sp i o :=
 ⟨fun f w hm hd K hK => h f w hm hd K (by rw [hs] at hK; exact hK)⟩
theorem ea_nil {F : Nat → Oper → Prop} {i : Nat} : Each F i [] := trivial
theorem ea_cons {F : Nat → Oper → Prop} {i : Nat} {o : Oper} {r : List Oper} (h : F i o) (k : Each F (i + 1) r) : Each F i (o :: r) := ⟨h, k⟩
def slo (n : Nat) (l : List (Nat × Value)) (ops : List Oper) (i : Nat) : Value :=
 match (ops[i]?).bind (·.dst) with
 | some d => bif Nat.blt d n then look l d else undef
 | none => undef
theorem slo_eq (ops : List Oper) : slots (fr n l) ops.toArray = slo n l ops := by
 funext i
 unfold slots slo
 simp only [List.getElem?_toArray]
 cases (ops[i]?).bind (·.dst) with
 | none => rfl
 | some d => exact fr_getD n l d
def isPt : Value → Bool
 | .pointer (some _) => true
 | _ => false
theorem Ds.start {sp : List Sp} {f : Nat → Value} (h : (List.range sp.length).all (fun j => !spNew (spAt sp j) || !isPt (f j)) = true) : Ds sp f w := by
 have hh : ∀ j, spNew (spAt sp j) = true → ∀ k, f j ≠ pt k 0 := fun j hj k e => by
  rcases Nat.lt_or_ge j sp.length with hl | hl
  ·have := List.all_eq_true.1 h j (List.mem_range.2 hl)
   simp [hj, e, isPt] at this
  ·unfold spAt at hj; rw [List.getElem?_eq_none hl] at hj; cases hj
 exact ⟨fun j hj k hk => (hh j hj k hk).elim, fun i j hi _ _ k hk => (hh i hi k hk).elim⟩
theorem la_un (F : Value → Sem Value) (x : Operand) (p v : Value) (ho : ∀ ρ, execOp ρ o = (do pure (.value (← F (ρ x))))) (hx : evl n l x = p) (h : ∀ w, (F p).run P w = .ok v w) : ∀ w, (execOp (evl n l) o).run P w = .ok (.value v) w := fun w => by
 rw [ho, hx]; simp [h]
theorem late_nil {ol : List Oper} {m : Nat} {sp : List Sp} : ∀ i, i ∈ ([] : List Nat) → LateO P ol Q n l m sp i := fun i h => absurd h (by simp)
theorem late_cons {ol : List Oper} {m : Nat} {sp : List Sp} {j : Nat} {r : List Nat} (h : LateO P ol Q n l m sp j) (k : ∀ i, i ∈ r → LateO P ol Q n l m sp i) : ∀ i, i ∈ j :: r → LateO P ol Q n l m sp i := fun i hi => by
 rcases List.mem_cons.1 hi with rfl | hi
 ·exact h
 ·exact k i hi
theorem w_any {id : Nat} {ol : List Oper} (m : Nat) (sp : List Sp) (fs : List Nat) (hm : P.follows .mixedOrders = true)
  (hb : edgesBack .any ol.toArray = true) (hd : dstsApart (ol.take m) = true) (hc : chainB ol m fs = true) (hl : Nat.ble m ol.length = true) (hf : floatB ol m fs = true) (hns : Region.noSelect ol.toArray = true)
  (hlate : ∀ i, i ∈ fs → LateO P ol Q n l m sp i)
  (hD : Ds sp (slo n l (ol.take m)) w)
  (hs : Each (OgW P ol Q n l m w sp) 0 (ol.take m))
  (hend : ∀ kf w', Mo w w' → (∀ i zs, Nat.blt i m = true → spAt sp i = .inr zs → w.heap.size ≤ kf i ∧ At w' (kf i) zs) → (∀ i j, Nat.blt i m = true → Nat.blt j m = true → spNew (spAt sp i) = true → spNew (spAt sp j) = true → i ≠ j → kf i ≠ kf j) →
   WL P ol.toArray Q (ol.drop m) n (asg (spv sp kf) 0 (ol.take m) l) w') : WC P (Code.region id ol.toArray true) Q n l w := by
 refine ⟨r_any m sp fs hm hb hd hc hl hf hns hlate (by rw [slo_eq]; exact hD) (Each.mono ?_ _ 0 hs) (fun kf w' a b c => (hend kf w' a b c).out)⟩
 intro i o h f w' hmo hdep K hK
 rcases (h.out f w' hmo hdep K hK).out with ⟨hg, h⟩ | ⟨hg, h⟩
 ·exact ct hg h.out
 ·exact cf hg h
end
end Go.Proofs.Ythehmmhnacomkaa

namespace Go.Proofs.Ythehmmhnacomkaa

def dg (V : Int) (j : Nat) : Int := V / 2 ^ (32 * j) % 4294967296
theorem dg_bd (V : Int) (j : Nat) : 0 ≤ dg V j ∧ dg V j < 4294967296 := by unfold dg; omega
theorem pp (n : Nat) : (0 : Int) < 2 ^ n := Int.pow_pos (by decide)
theorem p32 (j : Nat) : (2 : Int) ^ (32 * (j + 1)) = 2 ^ (32 * j) * 4294967296 := by
 rw [Nat.mul_add, Int.pow_add]; rfl
theorem dg_set {W n : Int} {j : Nat} (hn0 : 0 ≤ n) (hn : n < 4294967296) (m : Nat) :
  dg (W + (n - dg W j) * 2 ^ (32 * j)) m = if m = j then n else dg W m := by
 have hP := pp (32 * j)
 have e1 : (W + (n - dg W j) * 2 ^ (32 * j)) / 2 ^ (32 * j) = W / 2 ^ (32 * j) + (n - dg W j) := Int.add_mul_ediv_right _ _ (by omega)
 rcases Nat.lt_trichotomy m j with h | h | h
 ·rw [if_neg (by omega)]
  obtain ⟨t, rfl⟩ : ∃ t, j = m + 1 + t := ⟨j - (m + 1), by omega⟩
  have e2 : (2 : Int) ^ (32 * (m + 1 + t)) = 4294967296 * 2 ^ (32 * t) * 2 ^ (32 * m) := by
   rw [Nat.mul_add, Int.pow_add, p32, Int.mul_comm (2 ^ (32 * m)), Int.mul_assoc, Int.mul_assoc, Int.mul_comm (2 ^ (32 * m))]
  generalize hc : n - dg W (m + 1 + t) = c
  have hQ := pp (32 * m)
  unfold dg
  rw [e2, ← Int.mul_assoc, Int.add_mul_ediv_right _ _ (by omega), Int.mul_comm 4294967296, ← Int.mul_assoc, Int.add_mul_emod_self_right]
 ·subst h
  rw [if_pos rfl]
  unfold dg at e1 ⊢
  rw [e1]
  omega
 ·rw [if_neg (by omega)]
  obtain ⟨t, rfl⟩ : ∃ t, m = j + 1 + t := ⟨m - (j + 1), by omega⟩
  have e2 : (2 : Int) ^ (32 * (j + 1 + t)) = 2 ^ (32 * j) * 4294967296 * 2 ^ (32 * t) := by
   rw [Nat.mul_add, Int.pow_add, p32]
  have e3 : (W / 2 ^ (32 * j) + (n - dg W j)) / 4294967296 = W / 2 ^ (32 * j) / 4294967296 := by unfold dg; omega
  have hd : ∀ x : Int, x / 2 ^ (32 * (j + 1 + t)) = x / 2 ^ (32 * j) / 4294967296 / 2 ^ (32 * t) := by
   intro x
   rw [e2, ← Int.ediv_ediv_of_nonneg (by omega), ← Int.ediv_ediv_of_nonneg (by omega)]
  rw [dg, hd, e1, e3, ← hd, ← dg]
theorem dg_high {W : Int} {j M : Nat} (h0 : 0 ≤ W) (h : W < 2 ^ (32 * M)) (hj : M ≤ j) : dg W j = 0 := by
 obtain ⟨t, rfl⟩ : ∃ t, j = M + t := ⟨j - M, by omega⟩
 have e : W / 2 ^ (32 * (M + t)) = 0 := by
  apply Int.ediv_eq_zero_of_lt h0
  rw [Nat.mul_add, Int.pow_add]
  have h1 := pp (32 * t)
  have h2 : 2 ^ (32 * M) * 1 ≤ (2 : Int) ^ (32 * M) * 2 ^ (32 * t) := Int.mul_le_mul_of_nonneg_left (by omega) (by omega)
  omega
 unfold dg
 rw [e]
 rfl

theorem inner {W c V x B : Int} {i k : Nat} (h : W + c * 2 ^ (32 * (i + k)) = V + x * 2 ^ (32 * i) * (B % 2 ^ (32 * k))) :
  (W + ((dg W (i + k) + x * dg B k + c) % 4294967296 - dg W (i + k)) * 2 ^ (32 * (i + k))) + (dg W (i + k) + x * dg B k + c) / 4294967296 * 2 ^ (32 * (i + (k + 1))) = V + x * 2 ^ (32 * i) * (B % 2 ^ (32 * (k + 1))) := by
 have e1 : (2 : Int) ^ (32 * (i + (k + 1))) = 2 ^ (32 * (i + k)) * 4294967296 := p32 (i + k)
 have e2 : B % 2 ^ (32 * (k + 1)) = B % 2 ^ (32 * k) + 2 ^ (32 * k) * dg B k := by
  have hP := pp (32 * k)
  rw [p32, dg, Int.emod_def B (2 ^ (32 * k) * 4294967296), Int.emod_def B (2 ^ (32 * k)), Int.emod_def _ 4294967296, ← Int.ediv_ediv_of_nonneg (by omega)]
  generalize (2 : Int) ^ (32 * k) = P
  generalize B / P = u
  rw [Int.mul_sub, Int.mul_assoc]
  omega
 have e3 : (2 : Int) ^ (32 * (i + k)) = 2 ^ (32 * i) * 2 ^ (32 * k) := by rw [Nat.mul_add, Int.pow_add]
 generalize hs : dg W (i + k) + x * dg B k + c = s at *
 have hs2 : s = s % 4294967296 + 4294967296 * (s / 4294967296) := by omega
 generalize hq : s / 4294967296 = q at *
 generalize hr : s % 4294967296 = r at *
 rw [e1, e2]
 rw [e3] at h ⊢
 generalize (2 : Int) ^ (32 * i) = P at *
 generalize (2 : Int) ^ (32 * k) = Q at *
 have hr2 : r = dg W (i + k) + x * dg B k + c - 4294967296 * q := by omega
 rw [hr2]
 generalize dg W (i + k) = d at *
 generalize dg B k = b at *
 generalize B % Q = m at *
 grind

theorem dg_set_bd {W n : Int} {j M : Nat} (h0 : 0 ≤ W) (h : W < 2 ^ (32 * M)) (hj : j < M) (hn0 : 0 ≤ n) (hn : n < 4294967296) :
  0 ≤ W + (n - dg W j) * 2 ^ (32 * j) ∧ W + (n - dg W j) * 2 ^ (32 * j) < 2 ^ (32 * M) := by
 obtain ⟨t, rfl⟩ : ∃ t, M = j + 1 + t := ⟨M - (j + 1), by omega⟩
 have hP := pp (32 * j)
 have hR := pp (32 * t)
 rw [Nat.mul_add, Int.pow_add, p32] at h ⊢
 have e1 : W = 2 ^ (32 * j) * (4294967296 * (W / 2 ^ (32 * j) / 4294967296) + dg W j) + W % 2 ^ (32 * j) := by
  rw [show 4294967296 * (W / 2 ^ (32 * j) / 4294967296) + dg W j = W / 2 ^ (32 * j) from by unfold dg; omega]
  exact (Int.mul_ediv_add_emod W (2 ^ (32 * j))).symm
 have e2 := Int.emod_nonneg W (show (2 : Int) ^ (32 * j) ≠ 0 by omega)
 have e3 := Int.emod_lt_of_pos W hP
 have e4 : 0 ≤ W / 2 ^ (32 * j) / 4294967296 := by
  have := Int.ediv_nonneg h0 (show (0 : Int) ≤ 2 ^ (32 * j) by omega)
  omega
 have e5 : W / 2 ^ (32 * j) / 4294967296 < 2 ^ (32 * t) := by
  rw [Int.ediv_ediv_of_nonneg (by omega)]
  apply Int.ediv_lt_of_lt_mul (by omega)
  rw [Int.mul_comm]
  exact h
 have e6 := dg_bd W j
 generalize dg W j = d at *
 generalize W / 2 ^ (32 * j) / 4294967296 = H at *
 generalize W % 2 ^ (32 * j) = L at *
 generalize (2 : Int) ^ (32 * j) = P at *
 generalize (2 : Int) ^ (32 * t) = R at *
 have e7 : W + (n - d) * P = P * (4294967296 * H + n) + L := by grind
 rw [e7]
 constructor
 ·have := Int.mul_nonneg (show 0 ≤ P by omega) (show 0 ≤ 4294967296 * H + n by omega)
  omega
 ·have a1 : P * (4294967296 * H + n) ≤ P * (4294967296 * R - 1) := Int.mul_le_mul_of_nonneg_left (by omega) (by omega)
  have a2 : P * (4294967296 * R - 1) = P * 4294967296 * R - P := by grind
  omega
theorem carry_bd {d x b c : Int} (hd : 0 ≤ d ∧ d < 4294967296) (hx : 0 ≤ x ∧ x < 4294967296) (hb : 0 ≤ b ∧ b < 4294967296) (hc : 0 ≤ c ∧ c < 4294967296) :
  0 ≤ x * b ∧ x * b ≤ 18446744065119617025 ∧ 0 ≤ d + x * b + c ∧ d + x * b + c < 18446744073709551616 := by
 have h1 := Int.mul_nonneg hx.1 hb.1
 have h2 : x * b ≤ 4294967295 * 4294967295 := Int.mul_le_mul (by omega) (by omega) hb.1 (by decide)
 omega

def vi (A B : Int) (i : Nat) : Int := A % 2 ^ (32 * i) * B
theorem vi_zero (A B : Int) : vi A B 0 = 0 := by
 have : A % 1 = 0 := by omega
 simp [vi, this]
theorem mod_succ (A : Int) (i : Nat) : A % 2 ^ (32 * (i + 1)) = A % 2 ^ (32 * i) + 2 ^ (32 * i) * dg A i := by
 have hP := pp (32 * i)
 rw [p32, dg, Int.emod_def A (2 ^ (32 * i) * 4294967296), Int.emod_def A (2 ^ (32 * i)), Int.emod_def _ 4294967296, ← Int.ediv_ediv_of_nonneg (by omega)]
 generalize (2 : Int) ^ (32 * i) = P
 generalize A / P = u
 rw [Int.mul_sub, Int.mul_assoc]
 omega
theorem vi_succ (A B : Int) (i : Nat) : vi A B (i + 1) = vi A B i + dg A i * 2 ^ (32 * i) * B := by
 unfold vi
 rw [mod_succ, Int.add_mul, Int.mul_comm (2 ^ (32 * i)) (dg A i)]
theorem vi_bd {A B : Int} (i : Nat) (hB0 : 0 ≤ B) (hB : B < 2 ^ (32 * 8)) : 0 ≤ vi A B i ∧ vi A B i < 2 ^ (32 * (i + 8)) := by
 have hP := pp (32 * i)
 have e2 := Int.emod_nonneg A (show (2 : Int) ^ (32 * i) ≠ 0 by omega)
 have e3 := Int.emod_lt_of_pos A hP
 unfold vi
 refine ⟨Int.mul_nonneg e2 hB0, ?_⟩
 rw [Nat.mul_add, Int.pow_add]
 refine Int.lt_of_le_of_lt (Int.mul_le_mul_of_nonneg_right (Int.le_of_lt e3) hB0) ?_
 exact Int.mul_lt_mul_of_pos_left hB hP
theorem vi_last {A B : Int} (h0 : 0 ≤ A) (h : A < 2 ^ (32 * 8)) : vi A B 8 = A * B := by
 unfold vi; rw [Int.emod_eq_of_lt h0 h]
theorem mod_last {B : Int} (h0 : 0 ≤ B) (h : B < 2 ^ (32 * 8)) : B % 2 ^ (32 * 8) = B := Int.emod_eq_of_lt h0 h
theorem outer {W c : Int} {i : Nat} (h0 : 0 ≤ W) (h : W < 2 ^ (32 * (i + 8))) :
  W + (c - dg W (i + 8)) * 2 ^ (32 * (i + 8)) = W + c * 2 ^ (32 * (i + 8)) := by
 rw [dg_high h0 h (Nat.le_refl _), Int.sub_zero]
theorem inner0 (W V x B : Int) (i : Nat) (h : W = V) : W + 0 * 2 ^ (32 * (i + 0)) = V + x * 2 ^ (32 * i) * (B % 2 ^ (32 * 0)) := by
 have : B % 1 = 0 := by omega
 simp [this, h]
end Go.Proofs.Ythehmmhnacomkaa

namespace Go.Proofs.Ythehmmhnacomkaa
open Go.RowKit
set_option maxHeartbeats 1000000 in
theorem half_any (n : Int) (i : Nat) (w : World) (hi : i < 8) :
  Calls Try.prog 81 #[nv n, .int .i64 (i : Int)] w fun e w' => e = .returned (.int .u64 (dg n i)) ∧ Mo w w' := by
 have fin : ∀ (r : Int) (w' : World), r = dg n i → Mo w w' → (Ending.returned (.int .u64 r) = .returned (.int .u64 (dg n i)) ∧ Mo w w') := fun r w' h m => ⟨by rw [h], m⟩
 have hq : i = 0 ∨ i = 1 ∨ i = 2 ∨ i = 3 ∨ i = 4 ∨ i = 5 ∨ i = 6 ∨ i = 7 := by omega
 rcases hq with rfl | rfl | rfl | rfl | rfl | rfl | rfl | rfl
 all_goals
  go_enter Try.func81, Try.ntmps81
  go_wp2
  go_ret
  refine fin _ _ ?_ ((Mo.refl _).alloc _ _)
  simp [dg, l0, l1, l2, l3]
  rw [Int.tmod_eq_emod_of_nonneg (by omega)]
  omega
end Go.Proofs.Ythehmmhnacomkaa

namespace Go.Proofs.Ythehmmhnacomkaa
structure Gs (u d h l q r : Int) : Prop where
 hh : 2147483648 ≤ h
 hh2 : h < 4294967296
 hl : 0 ≤ l
 hl2 : l < 4294967296
 hd : 0 ≤ d
 hd2 : d < 4294967296
 hu : 0 ≤ u
 hu2 : u < h * 4294967296 + l
 hq : 0 ≤ q
 hr : 0 ≤ r
 hr2 : r < 4294967296
 hqr : q * h + r = u
 ht : (u * 4294967296 + d) / (h * 4294967296 + l) ≤ q
theorem Gs.qy {h l : Int} (q : Int) : q * (h * 4294967296 + l) = q * h * 4294967296 + q * l := by
 rw [Int.mul_add, Int.mul_assoc]
theorem Gs.tlt {u d h l q r : Int} (g : Gs u d h l q r) : (u * 4294967296 + d) / (h * 4294967296 + l) < 4294967296 := by
 have := g.hh; have := g.hl; have := g.hu2; have := g.hd2
 apply Int.ediv_lt_of_lt_mul (by omega)
 have : 4294967296 * (h * 4294967296 + l) ≥ 4294967296 * (u + 1) := Int.mul_le_mul_of_nonneg_left (by omega) (by decide)
 omega
theorem Gs.start {u d h l : Int} (hh : 2147483648 ≤ h) (hh2 : h < 4294967296) (hl : 0 ≤ l) (hl2 : l < 4294967296) (hd : 0 ≤ d) (hd2 : d < 4294967296) (hu : 0 ≤ u) (hu2 : u < h * 4294967296 + l) :
  Gs u d h l (u / h) (u % h) := by
 have e := Int.emod_lt_of_pos u (show 0 < h by omega)
 have e0 := Int.emod_nonneg u (show h ≠ 0 by omega)
 have e1 : u / h * h + u % h = u := by rw [Int.mul_comm]; exact Int.mul_ediv_add_emod u h
 refine ⟨hh, hh2, hl, hl2, hd, hd2, hu, hu2, Int.ediv_nonneg hu (by omega), e0, by omega, e1, ?_⟩
 have hy : 0 < h * 4294967296 + l := by omega
 have t := Int.ediv_mul_le (u * 4294967296 + d) (show h * 4294967296 + l ≠ 0 by omega)
 have tn : 0 ≤ (u * 4294967296 + d) / (h * 4294967296 + l) := Int.ediv_nonneg (by omega) (by omega)
 generalize (u * 4294967296 + d) / (h * 4294967296 + l) = T at *
 rw [Gs.qy] at t
 have : 0 ≤ T * l := Int.mul_nonneg tn hl
 exact (Int.le_ediv_iff_mul_le (by omega)).2 (by omega)
theorem Gs.fit {u d h l q r : Int} (g : Gs u d h l q r) (hq : q < 4294967296) : 0 ≤ q * l ∧ q * l < 18446744073709551616 := by
 have := g.hl; have := g.hl2; have := g.hq
 refine ⟨Int.mul_nonneg g.hq g.hl, ?_⟩
 have : q * l ≤ 4294967295 * 4294967295 := Int.mul_le_mul (by omega) (by omega) g.hl (by decide)
 omega
theorem Gs.done {u d h l q r : Int} (g : Gs u d h l q r) (ht : q * l ≤ 4294967296 * r + d) : q = (u * 4294967296 + d) / (h * 4294967296 + l) := by
 have := g.ht
 have hy : 0 < h * 4294967296 + l := by have := g.hh; have := g.hl; omega
 have : q ≤ (u * 4294967296 + d) / (h * 4294967296 + l) := by
  apply (Int.le_ediv_iff_mul_le hy).2
  rw [Gs.qy]
  have := g.hqr
  omega
 omega
theorem Gs.down {u d h l q r : Int} (g : Gs u d h l q r) (ht : 4294967296 ≤ q ∨ 4294967296 * r + d < q * l) : 1 ≤ q ∧ (u * 4294967296 + d) / (h * 4294967296 + l) ≤ q - 1 := by
 have hy : 0 < h * 4294967296 + l := by have := g.hh; have := g.hl; omega
 have tn : 0 ≤ (u * 4294967296 + d) / (h * 4294967296 + l) := by have := g.hu; have := g.hd; exact Int.ediv_nonneg (by omega) (by omega)
 have tl := g.tlt
 rcases ht with ht | ht
 ·omega
 ·have : (u * 4294967296 + d) / (h * 4294967296 + l) < q := by
   apply Int.ediv_lt_of_lt_mul hy
   rw [Gs.qy]
   have := g.hqr
   omega
  omega
theorem Gs.next {u d h l q r : Int} (g : Gs u d h l q r) (ht : 4294967296 ≤ q ∨ 4294967296 * r + d < q * l) (hr : r + h < 4294967296) : Gs u d h l (q - 1) (r + h) := by
 obtain ⟨d1, d2⟩ := g.down ht
 refine ⟨g.hh, g.hh2, g.hl, g.hl2, g.hd, g.hd2, g.hu, g.hu2, by omega, ?_, hr, ?_, d2⟩
 ·have := g.hr; have := g.hh; omega
 ·have := g.hqr; rw [Int.sub_mul]; omega
theorem Gs.stop {u d h l q r : Int} (g : Gs u d h l q r) (ht : 4294967296 ≤ q ∨ 4294967296 * r + d < q * l) (hr : 4294967296 ≤ r + h) : q - 1 = (u * 4294967296 + d) / (h * 4294967296 + l) := by
 obtain ⟨d1, d2⟩ := g.down ht
 have hy : 0 < h * 4294967296 + l := by have := g.hh; have := g.hl; omega
 have e : (q - 1) * h + (r + h) = u := by have := g.hqr; rw [Int.sub_mul]; omega
 have lt : q - 1 < 4294967296 := by
  apply Int.lt_of_not_ge
  intro hge
  have := Int.mul_le_mul_of_nonneg_right (c := h) hge (by have := g.hh; omega)
  have := g.hu2; have := g.hl2
  omega
 have m : (q - 1) * l ≤ 4294967295 * 4294967295 := Int.mul_le_mul (by omega) (by have := g.hl2; omega) g.hl (by decide)
 have : q - 1 ≤ (u * 4294967296 + d) / (h * 4294967296 + l) := by
  apply (Int.le_ediv_iff_mul_le hy).2
  rw [Gs.qy]
  have := g.hd
  omega
 omega
end Go.Proofs.Ythehmmhnacomkaa

namespace Go.Proofs.Ythehmmhnacomkaa
open Go.RowKit
set_option maxHeartbeats 1000000 in
theorem div64_0 (lo y : Int) (w : World) (h0 : 0 ≤ lo) (h1 : lo < 18446744073709551616) (h2 : 0 < y) (h3 : y < 18446744073709551616) :
  Calls Try.prog 110 #[.int .u64 0, .int .u64 lo, .int .u64 y] w fun e w' =>
   e = .returned (.tuple #[.int .u64 (lo / y), .int .u64 (lo % y)]) ∧ ∃ n, w' = w.drewN n := by
 have hy : (y == 0) = false := by rw [beq_eq_false_iff_ne]; omega
 have hy2 : ¬ y ≤ 0 := by omega
 have hy3 : y ≠ 0 := by omega
 go_enter Try.func110, Try.ntmps110
 go_wp2
 go_quiet (fail)
 go_wp2
 go_ret2
 exact ⟨rfl, _, rfl⟩
end Go.Proofs.Ythehmmhnacomkaa

namespace Go.Proofs
open Go.Shelf
def Try.lays134_ren : Go.Shelf.Ren := ⟨fun | 134 => 111 | 129 => 57 | n => n, fun | 53 => 29 | 3 => 3 | 4 => 4 | 46 => 55 | 5 => 5 | 9 => 9 | n => n, fun | n => n⟩
theorem Try.lays134 : Go.Proofs.Lays.n134 Try.prog Try.lays134_ren := {
  mixed := by kernel_rfl
  f129 := Try.func57.trans (congrArg some (by kernel_rfl))
  f134 := Try.func111.trans (congrArg some (by kernel_rfl))
  t3 := Try.underlying3
  a3 := Try.isAgg3
  z3 := Try.sizeOf3
  v3 := Try.zeroValue3
  t4 := Try.underlying4
  a4 := Try.isAgg4
  z4 := Try.sizeOf4
  v4 := Try.zeroValue4
  t5 := Try.underlying5
  a5 := Try.isAgg5
  z5 := Try.sizeOf5
  v5 := Try.zeroValue5
  t9 := Try.underlying9
  a9 := Try.isAgg9
  z9 := Try.sizeOf9
  v9 := Try.zeroValue9
  t46 := Try.underlying55
  a46 := Try.isAgg55
  z46 := Try.sizeOf55
  v46 := Try.zeroValue55
  t53 := Try.underlying29
  a53 := Try.isAgg29
  z53 := Try.sizeOf29
  v53 := Try.zeroValue29 }
theorem Try.bits_LeadingZeros64 (x : Int) (w : World) (h0 : 0 ≤ x) (h1 : x ≤ 18446744073709551615) :
    Calls Try.prog 111 #[.int .u64 x] w fun e w' => e = .returned (.int .i64 (64 - (Lib.bitLen x.toNat : Int))) ∧ w' = w := Any.bits_LeadingZeros64 Try.lays134 x w h0 h1
def Try.lays129_ren : Go.Shelf.Ren := ⟨fun | 129 => 57 | n => n, fun | 53 => 29 | 3 => 3 | 4 => 4 | 46 => 55 | 5 => 5 | 9 => 9 | n => n, fun | n => n⟩
theorem Try.lays129 : Go.Proofs.Lays.n129 Try.prog Try.lays129_ren := {
  mixed := by kernel_rfl
  f129 := Try.func57.trans (congrArg some (by kernel_rfl))
  t3 := Try.underlying3
  a3 := Try.isAgg3
  z3 := Try.sizeOf3
  v3 := Try.zeroValue3
  t4 := Try.underlying4
  a4 := Try.isAgg4
  z4 := Try.sizeOf4
  v4 := Try.zeroValue4
  t5 := Try.underlying5
  a5 := Try.isAgg5
  z5 := Try.sizeOf5
  v5 := Try.zeroValue5
  t9 := Try.underlying9
  a9 := Try.isAgg9
  z9 := Try.sizeOf9
  v9 := Try.zeroValue9
  t46 := Try.underlying55
  a46 := Try.isAgg55
  z46 := Try.sizeOf55
  v46 := Try.zeroValue55
  t53 := Try.underlying29
  a53 := Try.isAgg29
  z53 := Try.sizeOf29
  v53 := Try.zeroValue29 }
theorem Try.bits_Len64 (x : Int) (w : World) (h0 : 0 ≤ x) (h1 : x ≤ 18446744073709551615) :
    Calls Try.prog 57 #[.int .u64 x] w fun e w' => e = .returned (.int .i64 (Lib.bitLen x.toNat)) ∧ w' = w := Any.bits_Len64 Try.lays129 x w h0 h1
def Try.lays264_ren : Go.Shelf.Ren := ⟨fun | 264 => 107 | n => n, fun | 53 => 29 | 46 => 55 | n => n, fun | n => n⟩
theorem Try.lays264 : Go.Proofs.Lays.n264 Try.prog Try.lays264_ren := {
  mixed := by kernel_rfl
  f264 := Try.func107.trans (congrArg some (by kernel_rfl))
  t46 := Try.underlying55
  a46 := Try.isAgg55
  z46 := Try.sizeOf55
  v46 := Try.zeroValue55
  t53 := Try.underlying29
  a53 := Try.isAgg29
  z53 := Try.sizeOf29
  v53 := Try.zeroValue29 }
open Go.RowKit Go.Lib in
theorem Try.bits_Mul64 (x y : Nat) (hx : x < 18446744073709551616) (hy : y < 18446744073709551616) (w : World) :
    Calls Try.prog 107 #[.int .u64 x, .int .u64 y] w fun e w' => e = .returned (.tuple #[.int .u64 ((x * y / 18446744073709551616 : Nat) : Int), .int .u64 ((x * y % 18446744073709551616 : Nat) : Int)]) ∧ w' = w := Any.bits_Mul64 Try.lays264 x y hx hy w
end Go.Proofs


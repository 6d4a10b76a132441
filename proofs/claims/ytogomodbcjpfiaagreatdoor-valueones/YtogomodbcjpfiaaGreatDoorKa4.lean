/-
  A part of the proof.
-/
import Derived.Test.YtogomodbcjpfiaaGreatDoorKa3
import Derived.Test.YtogomodbcjpfiaaGreatDoorKa2
import Derived.Test.YtogomodbcjpfiaaGreatDoorKa1
import Derived.RegionTactic
import Derived.Test.YtogomodbcjpfiaaGreatDoorProg
import Derived.WalkKit
import Derived.WalkSpells
import Derived.Handy
import Derived.BigQuiet
import Derived.Deep.RegionHeld3
import Derived.Deep.MidRow
import Derived.BigCall
import Derived.Shelf.Small.Bits
import Derived.Shelf.Strconv.Itoa0
import Derived.Shelf.Bits.Mul64
import Derived.Deep.CutBlock
namespace Go.Proofs.YtogomodbcjpfiaaGreatDoor
open Go.RowKit
theorem exists_least {p : Nat → Prop} (h : ∃ m, p m) : ∃ m, p m ∧ ∀ k, p k → m ≤ k := by
 obtain ⟨m, hm⟩ := h
 induction m using Nat.strongRecOn with
 | ind m ih =>
  by_cases hh : ∃ k, k < m ∧ p k
  ·obtain ⟨k, hk, hp⟩ := hh; exact ih k hk hp
  ·exact ⟨m, hm, fun k hp => Nat.le_of_not_lt (fun hk => hh ⟨k, hk, hp⟩)⟩
def least (p : Nat → Prop) (m : Nat) : Prop := p m ∧ ∀ k, p k → m ≤ k
theorem least_ok {p : Nat → Prop} (h : ∃ m, p m) : least p (Classical.epsilon (least p)) := Classical.epsilon_spec (exists_least h)
structure WC (P : Program) (c : Code) (Q : Exit → Act → World → Prop) (n : Nat) (l : List (Nat × Value)) (w : World) : Prop where
 out : c.wp P Q (fr n l) w
structure WL (P : Program) (ops : Array Oper) (Q : Exit → Act → World → Prop) (r : List Oper) (n : Nat) (l : List (Nat × Value)) (w : World) : Prop where
 out : wpList P ops Q r (fr n l) w
structure WX (Q : Exit → Act → World → Prop) (e : Exit) (n : Nat) (l : List (Nat × Value)) (w : World) : Prop where
 out : Q e (fr n l) w
structure WO (P : Program) (o : Oper) (n : Nat) (l : List (Nat × Value)) (w : World) (K : Act → World → Prop) (Q : Exit → Act → World → Prop) : Prop where
 out : o.wp P (fr n l) w K Q
section
variable {P : Program} {o : Oper} {n : Nat} {l : List (Nat × Value)} {w : World} {ops : Array Oper} {rest : List Oper} {Q : Exit → Act → World → Prop} {K : Act → World → Prop}
theorem w_enter {f : FuncId} {fn : Func} {c : Code} {args : Array Value} {R : Ending → World → Prop} (n : Nat) (hf : P.funcs[f]? = some fn) (hn : fn.ntmps = n) (hb : fn.body = some c)
  (ha : Nat.ble args.size n = true) (h : WC P c (bodyPost P fn R) n (argl 0 args.toList) w) : Calls P f args w R := f_enter n hf hn hb ha h.out
theorem w_seq {x y : Code} (h : WC P x (Exit.then (y.wp P Q) Q) n l w) : WC P (Code.seq x y) Q n l w := ⟨wp_seq h.out⟩
theorem w_block {id : Nat} {c : Code} (h : WC P c (Exit.inBlock id Q) n l w) : WC P (Code.block id c) Q n l w := ⟨wp_block h.out⟩
theorem w_skip (h : WX Q .normal n l w) : WC P .skip Q n l w := ⟨wp_skip h.out⟩
theorem w_ret (h : WX Q .ret n l w) : WC P .ret Q n l w := ⟨wp_ret h.out⟩
theorem w_exit {id : Nat} (h : WX Q (.exit id) n l w) : WC P (.exit id) Q n l w := ⟨wp_exit h.out⟩
theorem w_condT {c : Operand} {x y : Code} (hc : evl n l c = .bool true) (h : WC P x Q n l w) : WC P (Code.cond c x y) Q n l w := ⟨c_cond true hc h.out⟩
theorem w_condF {c : Operand} {x y : Code} (hc : evl n l c = .bool false) (h : WC P y Q n l w) : WC P (Code.cond c x y) Q n l w := ⟨c_cond false hc h.out⟩
theorem w_reg {id : Nat} {ol : List Oper} (h : WL P ol.toArray Q ol n l w) : WC P (Code.region id ol.toArray false) Q n l w := ⟨wp_region_lit h.out⟩
theorem w_nil (h : WX Q .normal n l w) : WL P ops Q [] n l w := ⟨wpList_nil h.out⟩
theorem xn_then {y : Code} {Q' : Exit → Act → World → Prop} (h : WC P y Q n l w) : WX (Exit.then (y.wp P Q) Q') .normal n l w := ⟨n_then h.out⟩
theorem xn_blk {id : Nat} (h : WX Q .normal n l w) : WX (Exit.inBlock id Q) .normal n l w := ⟨n_blk h.out⟩
theorem xx_then {next : Act → World → Prop} {id : Nat} (h : WX Q (.exit id) n l w) : WX (Exit.then next Q) (.exit id) n l w := ⟨x_then h.out⟩
theorem xx_blk {id : Nat} (h : WX Q .normal n l w) : WX (Exit.inBlock id Q) (.exit id) n l w := ⟨x_blk h.out⟩
theorem xr_then {next : Act → World → Prop} (h : WX Q .ret n l w) : WX (Exit.then next Q) .ret n l w := ⟨r_then h.out⟩
theorem xr_blk {id : Nat} (h : WX Q .ret n l w) : WX (Exit.inBlock id Q) .ret n l w := ⟨r_blk h.out⟩
theorem w_ret1 {fn : Func} {R : Ending → World → Prop} (x : ResultVar) (v : Value) (hf : fn.results = #[x]) (h : resv n l P w v x) (hR : R (.returned v) w) : WX (bodyPost P fn R) .ret n l w := ⟨c_ret1 x v hf h hR⟩
theorem w_ret2 {fn : Func} {R : Ending → World → Prop} (x y : ResultVar) (v u : Value) (hf : fn.results = #[x, y]) (h : resv n l P w v x) (g : resv n l P w u y) (hR : R (.returned (.tuple #[v, u])) w) : WX (bodyPost P fn R) .ret n l w := ⟨c_ret2 x y v u hf h g hR⟩
theorem w_loop {c : Code} (I : Nat → List (Nat × Value) → World → Prop) (m : Nat) (h0 : I m l w)
  (round : ∀ m l w, I m l w → WC P c (Exit.then (fun a w' => ∃ m' l', m' < m ∧ a = fr n l' ∧ I m' l' w') Q) n l w) : WC P (Code.loop c) Q n l w := by
 refine ⟨?_⟩
 have key : ∀ m : Nat, ∀ l w, I m l w → (Code.loop c).wp P Q (fr n l) w := by
  intro m0 l0 w0 hI0
  refine wp_loop (fun a w => ∃ m l, a = fr n l ∧ I m l w) (fun a w => Classical.epsilon (least (fun m => ∃ l, a = fr n l ∧ I m l w))) ⟨m0, l0, rfl, hI0⟩ ?_
  rintro a w ⟨m, l, rfl, hI⟩
  obtain ⟨l2, e2, hI2⟩ := (least_ok (p := fun m => ∃ l', fr n l = fr n l' ∧ I m l' w) ⟨m, l, rfl, hI⟩).1
  rw [e2]
  refine Code.wp_mono ?_ (round _ l2 w hI2).out
  intro e a' w' hq
  cases e with
  | normal =>
   obtain ⟨m', l', hlt, rfl, hI'⟩ := hq
   refine ⟨⟨m', l', rfl, hI'⟩, Nat.lt_of_le_of_lt ((least_ok (p := fun m => ∃ l'', fr n l' = fr n l'' ∧ I m l'' w') ⟨m', l', rfl, hI'⟩).2 m' ⟨l', rfl, hI'⟩) ?_⟩
   rw [← e2]; exact hlt
  | _ => exact hq
 exact key m l w h0
theorem xn_loop {I : Nat → List (Nat × Value) → World → Prop} {m : Nat} (m' : Nat) (hlt : m' < m) (h : I m' l w) : WX (Exit.then (fun a w' => ∃ m' l', m' < m ∧ a = fr n l' ∧ I m' l' w') Q) .normal n l w := ⟨⟨m', l, hlt, rfl, h⟩⟩
theorem wl_val (v : Value) (h : (execOp (evl n l) o).run P w = .ok (.value v) w) (hg : wnt n l ops o = true) (hk : WL P ops Q rest n (ext l o.dst v) w) : WL P ops Q (o :: rest) n l w :=
 ⟨l_step hg (o_val v h hk.out)⟩
theorem wl_mv (x : Operand) (p : Value) (ho : ∀ ρ, execOp ρ o = pure (.value (ρ x))) (hx : evl n l x = p) (hg : wnt n l ops o = true) (hk : WL P ops Q rest n (ext l o.dst p) w) : WL P ops Q (o :: rest) n l w :=
 ⟨l_step hg (o_mv x p ho hx hk.out)⟩
theorem wo_mv (x : Operand) (p : Value) (ho : ∀ ρ, execOp ρ o = pure (.value (ρ x))) (hx : evl n l x = p) (hk : K (fr n (ext l o.dst p)) w) : WO P o n l w K Q := ⟨o_mv x p ho hx hk⟩
theorem wl_un (F : Value → Sem Value) (x : Operand) (p v : Value) (ho : ∀ ρ, execOp ρ o = (do pure (.value (← F (ρ x))))) (hx : evl n l x = p) (h : (F p).run P w = .ok v w) (hg : wnt n l ops o = true) (hk : WL P ops Q rest n (ext l o.dst v) w) : WL P ops Q (o :: rest) n l w :=
 ⟨l_step hg (o_un F x p v ho hx h hk.out)⟩
theorem wo_un (F : Value → Sem Value) (x : Operand) (p v : Value) (ho : ∀ ρ, execOp ρ o = (do pure (.value (← F (ρ x))))) (hx : evl n l x = p) (h : (F p).run P w = .ok v w) (hk : K (fr n (ext l o.dst v)) w) : WO P o n l w K Q := ⟨o_un F x p v ho hx h hk⟩
theorem wl_bin (F : Value → Value → Sem Value) (x y : Operand) (p q v : Value) (ho : ∀ ρ, execOp ρ o = (do pure (.value (← F (ρ x) (ρ y))))) (hx : evl n l x = p) (hy : evl n l y = q) (h : (F p q).run P w = .ok v w) (hg : wnt n l ops o = true) (hk : WL P ops Q rest n (ext l o.dst v) w) : WL P ops Q (o :: rest) n l w :=
 ⟨l_step hg (o_bin F x y p q v ho hx hy h hk.out)⟩
theorem wl_pick (c x y : Operand) (t : Bool) (v : Value) (ho : ∀ ρ, execOp ρ o = (do pure (.value (if ← asBool (ρ c) then ρ x else ρ y)))) (hc : evl n l c = .bool t) (hv : evl n l (bif t then x else y) = v) (hg : wnt n l ops o = true) (hk : WL P ops Q rest n (ext l o.dst v) w) : WL P ops Q (o :: rest) n l w :=
 ⟨l_step hg (o_pick c x y t v ho hc hv hk.out)⟩
theorem wl_build (t : TypeId) (xs : List (Nat × Operand)) (ps : List (Nat × Value)) (v : Value) (ho : o.op = .build t xs.toArray) (hx : xs.map (fun p => (p.1, evl n l p.2)) = ps) (h : (Instr.build t ps.toArray).run P w = .ok v w) (hg : wnt n l ops o = true) (hk : WL P ops Q rest n (ext l o.dst v) w) : WL P ops Q (o :: rest) n l w :=
 ⟨l_step hg (o_build t xs ps v ho hx h hk.out)⟩
theorem wl_load (ty : TypeId) (x : Operand) (p v : Value) (ho : o.op = .load ty x) (hx : evl n l x = p) (h : (Instr.loadAt ty p).run P w = .ok v w) (hg : wnt n l ops o = true) (hk : WL P ops Q rest n (ext l o.dst v) w) : WL P ops Q (o :: rest) n l w :=
 ⟨l_step hg (o_load ty x p v ho hx h hk.out)⟩
theorem wo_load (ty : TypeId) (x : Operand) (p v : Value) (ho : o.op = .load ty x) (hx : evl n l x = p) (h : (Instr.loadAt ty p).run P w = .ok v w) (hk : K (fr n (ext l o.dst v)) w) : WO P o n l w K Q := ⟨o_load ty x p v ho hx h hk⟩
theorem wl_m (x : Operand) (p : Value) (hk : WL P ops Q rest n (ext l o.dst p) w) (ho : ∀ ρ, execOp ρ o = pure (.value (ρ x)) := by exact fun _ => rfl) (hx : evl n l x = p := by rfl) (hg : wnt n l ops o = true := by rfl) : WL P ops Q (o :: rest) n l w := wl_mv x p ho hx hg hk
theorem wl_b (b : BinOp) (t : TypeId) (x y : Operand) (p q v : Value) (h : (do eqGuard b t x y p q; binOp b t p q).run P w = .ok v w) (hk : WL P ops Q rest n (ext l o.dst v) w) (ho : ∀ ρ, execOp ρ o = (do pure (.value (← (do eqGuard b t x y (ρ x) (ρ y); binOp b t (ρ x) (ρ y))))) := by exact fun _ => rfl) (hx : evl n l x = p := by rfl) (hy : evl n l y = q := by rfl) (hg : wnt n l ops o = true := by rfl) : WL P ops Q (o :: rest) n l w := wl_bin (fun u z => do eqGuard b t x y u z; binOp b t u z) x y p q v ho hx hy h hg hk
theorem wl_f (t : TypeId) (i : Nat) (x : Operand) (p v : Value) (hk : WL P ops Q rest n (ext l o.dst v) w) (h : (Instr.fieldAt t p i).run P w = .ok v w := by kernel_rfl) (ho : ∀ ρ, execOp ρ o = (do pure (.value (← Instr.fieldAt t (ρ x) i))) := by exact fun _ => rfl) (hx : evl n l x = p := by rfl) (hg : wnt n l ops o = true := by rfl) : WL P ops Q (o :: rest) n l w := wl_un (fun v => Instr.fieldAt t v i) x p v ho hx h hg hk
theorem wl_l (t : TypeId) (x : Operand) (p v : Value) (h : (Instr.loadAt t p).run P w = .ok v w) (hk : WL P ops Q rest n (ext l o.dst v) w) (ho : o.op = .load t x := by rfl) (hx : evl n l x = p := by rfl) (hg : wnt n l ops o = true := by rfl) : WL P ops Q (o :: rest) n l w := wl_load t x p v ho hx h hg hk
theorem wl_alloc (ty : TypeId) (zs : Array Value) (ho : o.op = .alloc ty) (h : ∀ w, (Instr.alloc ty true (.tuple #[])).run P w = .ok (pt w.heap.size 0) (w.alloc (.cells zs ty))) (hg : wnt n l ops o = true) (hk : ∀ k w', w.heap.size = k → w'.heap.size = k + 1 → Mo w w' → At w' k zs.toList → WL P ops Q rest n (ext l o.dst (pt k 0)) w') : WL P ops Q (o :: rest) n l w :=
 ⟨l_step hg (o_alloc ty zs ho h (fun k w' a b c d => (hk k w' a b c d).out))⟩
theorem wo_alloc (ty : TypeId) (zs : Array Value) (ho : o.op = .alloc ty) (h : ∀ w, (Instr.alloc ty true (.tuple #[])).run P w = .ok (pt w.heap.size 0) (w.alloc (.cells zs ty))) (hk : ∀ k w', w.heap.size = k → w'.heap.size = k + 1 → Mo w w' → At w' k zs.toList → K (fr n (ext l o.dst (pt k 0))) w') : WO P o n l w K Q := ⟨o_alloc ty zs ho h (fun k w' a b c d => (hk k w' a b c d))⟩
theorem wl_box (ty : TypeId) (x : Operand) (v : Value) (cs : Array Value) (ho : o.op = .box ty x) (hx : evl n l x = v) (h : ∀ w, (Instr.box ty v).run P w = .ok (pt w.heap.size 0) (w.alloc (.cells cs ty))) (hg : wnt n l ops o = true) (hk : ∀ k w', w.heap.size = k → w'.heap.size = k + 1 → Mo w w' → At w' k cs.toList → WL P ops Q rest n (ext l o.dst (pt k 0)) w') : WL P ops Q (o :: rest) n l w :=
 ⟨l_step hg (o_box ty x v cs ho hx h (fun k w' a b c d => (hk k w' a b c d).out))⟩
theorem wl_call (g : FuncId) (xs : List Operand) (ats : Array TypeId) (args : List Value) (v : Value) (ho : o.op = .call { callee := .value (.func g), args := xs.toArray, argTypes := ats }) (hx : xs.map (evl n l) = args) (h : ∀ args w, (callFunc g args).run P w = .ok (.enter g args) w) (hc : Calls P g args.toArray w fun e w' => e = .returned v ∧ Mo w w') (hg : wnt n l ops o = true) (hk : ∀ w', Mo w w' → WL P ops Q rest n (ext l o.dst v) w') : WL P ops Q (o :: rest) n l w :=
 ⟨l_step hg (o_call g xs ats args v ho hx h hc (fun w' m => (hk w' m).out))⟩
theorem wo_call (g : FuncId) (xs : List Operand) (ats : Array TypeId) (args : List Value) (v : Value) (ho : o.op = .call { callee := .value (.func g), args := xs.toArray, argTypes := ats }) (hx : xs.map (evl n l) = args) (h : ∀ args w, (callFunc g args).run P w = .ok (.enter g args) w) (hc : Calls P g args.toArray w fun e w' => e = .returned v ∧ Mo w w') (hk : ∀ w', Mo w w' → K (fr n (ext l o.dst v)) w') : WO P o n l w K Q := ⟨o_call g xs ats args v ho hx h hc (fun w' m => (hk w' m))⟩
theorem wl_skip (hg : wnt n l ops o = false) (h : WL P ops Q rest n (ext l o.dst undef) w) : WL P ops Q (o :: rest) n l w := ⟨l_skip hg h.out⟩
theorem wl_st (ty : TypeId) (x y : Operand) (k off : Nat) (us : Array Value) (vs vs' : List Value) (hA : At w k vs) (ho : o.op = .store ty x y) (hd : o.dst = none) (hx : evl n l x = pt k off) (hy : evl n l y = .agg us)
  (hl : Nat.ble (off + us.size) vs.length = true) (hi : (P.info? ty).map (·.size) = some us.size) (h1 : us.toList.all (·.oneCell') = true) (hvs : vs' = vs.take off ++ us.toList ++ vs.drop (off + us.toList.length)) (hg : wnt n l ops o = true)
  (hk : ∀ w', St k w w' → At w' k vs' → WL P ops Q rest n l w') : WL P ops Q (o :: rest) n l w :=
 ⟨l_step hg (o_st ty x y k off us vs vs' hA ho hd hx hy hl hi h1 hvs (fun w' a b => (hk w' a b).out))⟩
structure Go1 (P : Program) (ops : List Oper) (Q : Exit → Act → World → Prop) (n : Nat) (l : List (Nat × Value)) (w : World) (K : Act → World → Prop) (o : Oper) : Prop where
 out : (wnt n l ops.toArray o = true ∧ WO P o n l w K Q) ∨ (wnt n l ops.toArray o = false ∧ K (fr n (ext l o.dst undef)) w)
theorem go_run {ol : List Oper} (hg : wnt n l ol.toArray o = true) (h : WO P o n l w K Q) : Go1 P ol Q n l w K o := ⟨Or.inl ⟨hg, h⟩⟩
structure OgW (P : Program) (ops : List Oper) (Q : Exit → Act → World → Prop) (n : Nat) (l : List (Nat × Value)) (m : Nat) (W : World) (sp : List Sp) (i : Nat) (o : Oper) : Prop where
 out : ∀ f w, Mo W w → (∀ j, depb o j = true → spDen W.heap.size (spAt sp j) (f j) w) → ∀ K : Act → World → Prop,
  (match spAt sp i with
   | .inl v => ∀ w', Mo w w' → K (fr n (ext (asg f 0 (ops.take m) l) o.dst v)) w'
   | .inr zs => ∀ k w', w.heap.size = k → w'.heap.size = k + 1 → Mo w w' → At w' k zs → K (fr n (ext (asg f 0 (ops.take m) l) o.dst (pt k 0))) w') →
  Go1 P ops Q n (asg f 0 (ops.take m) l) w K o
theorem og_eq {ol : List Oper} {m : Nat} {W : World} {sp : List Sp} {i : Nat} (v : Value) (hs : spAt sp i = .inl v)
  (h : ∀ f w, Mo W w → (∀ j, depb o j = true → spDen W.heap.size (spAt sp j) (f j) w) → ∀ K : Act → World → Prop, (∀ w', Mo w w' → K (fr n (ext (asg f 0 (ol.take m) l) o.dst v)) w') → Go1 P ol Q n (asg f 0 (ol.take m) l) w K o) : OgW P ol Q n l m W sp i o :=
 ⟨fun f w hm hd K hK => h f w hm hd K (by rw [hs] at hK; exact hK)⟩
theorem og_new {ol : List Oper} {m : Nat} {W : World} {sp : List Sp} {i : Nat} (zs : List Value) (hs : spAt sp i = .inr zs)
  (h : ∀ f w, Mo W w → (∀ j, depb o j = true → spDen W.heap.size (spAt sp j) (f j) w) → ∀ K : Act → World → Prop, (∀ k w', w.heap.size = k → w'.heap.size = k + 1 → Mo w w' → At w' k zs → K (fr n (ext (asg f 0 (ol.take m) l) o.dst (pt k 0))) w') → Go1 P ol Q n (asg f 0 (ol.take m) l) w K o) : OgW P ol Q n l m W sp i o :=
 ⟨fun f w hm hd K hK => h f w hm hd K (by rw [hs] at hK; exact hK)⟩
theorem ea_nil {F : Nat → Oper → Prop} {i : Nat} : Each F i [] := trivial
theorem ea_cons {F : Nat → Oper → Prop} {i : Nat} {o : Oper} {r : List Oper} (h : F i o) (k : Each F (i + 1) r) : Each F i (o :: r) := ⟨h, k⟩
def slo (n : Nat) (l : List (Nat × Value)) (ops : List Oper) (i : Nat) : Value :=
 match (ops[i]?).bind (·.dst) with
 | some d => bif Nat.blt d n then look l d else undef
 | none => undef
theorem slo_eq (ops : List Oper) : slots (fr n l) ops.toArray = slo n l ops := by
 funext i
 unfold slots slo
 simp only [List.getElem?_toArray]
 cases (ops[i]?).bind (·.dst) with
 | none => rfl
 | some d => exact fr_getD n l d
def isPt : Value → Bool
 | .pointer (some _) => true
 | _ => false
theorem Ds.start {sp : List Sp} {f : Nat → Value} (h : (List.range sp.length).all (fun j => !spNew (spAt sp j) || !isPt (f j)) = true) : Ds sp f w := by
 have hh : ∀ j, spNew (spAt sp j) = true → ∀ k, f j ≠ pt k 0 := fun j hj k e => by
  rcases Nat.lt_or_ge j sp.length with hl | hl
  ·have := List.all_eq_true.1 h j (List.mem_range.2 hl)
   simp [hj, e, isPt] at this
  ·unfold spAt at hj; rw [List.getElem?_eq_none hl] at hj; cases hj
 exact ⟨fun j hj k hk => (hh j hj k hk).elim, fun i j hi _ _ k hk => (hh i hi k hk).elim⟩
theorem late_nil {ol : List Oper} {m : Nat} {sp : List Sp} : ∀ i, i ∈ ([] : List Nat) → LateO P ol Q n l m sp i := fun i h => absurd h (by simp)
theorem w_any {id : Nat} {ol : List Oper} (m : Nat) (sp : List Sp) (fs : List Nat) (hm : P.follows .mixedOrders = true)
  (hb : edgesBack .any ol.toArray = true) (hd : dstsApart (ol.take m) = true) (hc : chainB ol m fs = true) (hl : Nat.ble m ol.length = true) (hf : floatB ol m fs = true) (hns : Region.noSelect ol.toArray = true)
  (hlate : ∀ i, i ∈ fs → LateO P ol Q n l m sp i)
  (hD : Ds sp (slo n l (ol.take m)) w)
  (hs : Each (OgW P ol Q n l m w sp) 0 (ol.take m))
  (hend : ∀ kf w', Mo w w' → (∀ i zs, Nat.blt i m = true → spAt sp i = .inr zs → w.heap.size ≤ kf i ∧ At w' (kf i) zs) → (∀ i j, Nat.blt i m = true → Nat.blt j m = true → spNew (spAt sp i) = true → spNew (spAt sp j) = true → i ≠ j → kf i ≠ kf j) →
   WL P ol.toArray Q (ol.drop m) n (asg (spv sp kf) 0 (ol.take m) l) w') : WC P (Code.region id ol.toArray true) Q n l w := by
 refine ⟨r_any m sp fs hm hb hd hc hl hf hns hlate (by rw [slo_eq]; exact hD) (Each.mono ?_ _ 0 hs) (fun kf w' a b c => (hend kf w' a b c).out)⟩
 intro i o h f w' hmo hdep K hK
 rcases (h.out f w' hmo hdep K hK).out with ⟨hg, h⟩ | ⟨hg, h⟩
 ·exact ct hg h.out
 ·exact cf hg h
end
end Go.Proofs.YtogomodbcjpfiaaGreatDoor

namespace Go.Proofs.YtogomodbcjpfiaaGreatDoor

theorem pp (n : Nat) : (0 : Int) < 2 ^ n := Int.pow_pos (by decide)
end Go.Proofs.YtogomodbcjpfiaaGreatDoor

namespace Go.Proofs.YtogomodbcjpfiaaGreatDoor
structure Gs (u d h l q r : Int) : Prop where
 hh : 2147483648 ≤ h
 hh2 : h < 4294967296
 hl : 0 ≤ l
 hl2 : l < 4294967296
 hd : 0 ≤ d
 hd2 : d < 4294967296
 hu : 0 ≤ u
 hu2 : u < h * 4294967296 + l
 hq : 0 ≤ q
 hr : 0 ≤ r
 hr2 : r < 4294967296
 hqr : q * h + r = u
 ht : (u * 4294967296 + d) / (h * 4294967296 + l) ≤ q
theorem Gs.qy {h l : Int} (q : Int) : q * (h * 4294967296 + l) = q * h * 4294967296 + q * l := by
 rw [Int.mul_add, Int.mul_assoc]
theorem Gs.tlt {u d h l q r : Int} (g : Gs u d h l q r) : (u * 4294967296 + d) / (h * 4294967296 + l) < 4294967296 := by
 have := g.hh; have := g.hl; have := g.hu2; have := g.hd2
 apply Int.ediv_lt_of_lt_mul (by omega)
 have : 4294967296 * (h * 4294967296 + l) ≥ 4294967296 * (u + 1) := Int.mul_le_mul_of_nonneg_left (by omega) (by decide)
 omega
theorem Gs.start {u d h l : Int} (hh : 2147483648 ≤ h) (hh2 : h < 4294967296) (hl : 0 ≤ l) (hl2 : l < 4294967296) (hd : 0 ≤ d) (hd2 : d < 4294967296) (hu : 0 ≤ u) (hu2 : u < h * 4294967296 + l) :
  Gs u d h l (u / h) (u % h) := by
 have e := Int.emod_lt_of_pos u (show 0 < h by omega)
 have e0 := Int.emod_nonneg u (show h ≠ 0 by omega)
 have e1 : u / h * h + u % h = u := by rw [Int.mul_comm]; exact Int.mul_ediv_add_emod u h
 refine ⟨hh, hh2, hl, hl2, hd, hd2, hu, hu2, Int.ediv_nonneg hu (by omega), e0, by omega, e1, ?_⟩
 have hy : 0 < h * 4294967296 + l := by omega
 have t := Int.ediv_mul_le (u * 4294967296 + d) (show h * 4294967296 + l ≠ 0 by omega)
 have tn : 0 ≤ (u * 4294967296 + d) / (h * 4294967296 + l) := Int.ediv_nonneg (by omega) (by omega)
 generalize (u * 4294967296 + d) / (h * 4294967296 + l) = T at *
 rw [Gs.qy] at t
 have : 0 ≤ T * l := Int.mul_nonneg tn hl
 exact (Int.le_ediv_iff_mul_le (by omega)).2 (by omega)
theorem Gs.fit {u d h l q r : Int} (g : Gs u d h l q r) (hq : q < 4294967296) : 0 ≤ q * l ∧ q * l < 18446744073709551616 := by
 have := g.hl; have := g.hl2; have := g.hq
 refine ⟨Int.mul_nonneg g.hq g.hl, ?_⟩
 have : q * l ≤ 4294967295 * 4294967295 := Int.mul_le_mul (by omega) (by omega) g.hl (by decide)
 omega
theorem Gs.done {u d h l q r : Int} (g : Gs u d h l q r) (ht : q * l ≤ 4294967296 * r + d) : q = (u * 4294967296 + d) / (h * 4294967296 + l) := by
 have := g.ht
 have hy : 0 < h * 4294967296 + l := by have := g.hh; have := g.hl; omega
 have : q ≤ (u * 4294967296 + d) / (h * 4294967296 + l) := by
  apply (Int.le_ediv_iff_mul_le hy).2
  rw [Gs.qy]
  have := g.hqr
  omega
 omega
theorem Gs.down {u d h l q r : Int} (g : Gs u d h l q r) (ht : 4294967296 ≤ q ∨ 4294967296 * r + d < q * l) : 1 ≤ q ∧ (u * 4294967296 + d) / (h * 4294967296 + l) ≤ q - 1 := by
 have hy : 0 < h * 4294967296 + l := by have := g.hh; have := g.hl; omega
 have tn : 0 ≤ (u * 4294967296 + d) / (h * 4294967296 + l) := by have := g.hu; have := g.hd; exact Int.ediv_nonneg (by omega) (by omega)
 have tl := g.tlt
 rcases ht with ht | ht
 ·omega
 ·have : (u * 4294967296 + d) / (h * 4294967296 + l) < q := by
   apply Int.ediv_lt_of_lt_mul hy
   rw [Gs.qy]
   have := g.hqr
   omega
  omega
theorem Gs.next {u d h l q r : Int} (g : Gs u d h l q r) (ht : 4294967296 ≤ q ∨ 4294967296 * r + d < q * l) (hr : r + h < 4294967296) : Gs u d h l (q - 1) (r + h) := by
 obtain ⟨d1, d2⟩ := g.down ht
 refine ⟨g.hh, g.hh2, g.hl, g.hl2, g.hd, g.hd2, g.hu, g.hu2, by omega, ?_, hr, ?_, d2⟩
 ·have := g.hr; have := g.hh; omega
 ·have := g.hqr; rw [Int.sub_mul]; omega
theorem Gs.stop {u d h l q r : Int} (g : Gs u d h l q r) (ht : 4294967296 ≤ q ∨ 4294967296 * r + d < q * l) (hr : 4294967296 ≤ r + h) : q - 1 = (u * 4294967296 + d) / (h * 4294967296 + l) := by
 obtain ⟨d1, d2⟩ := g.down ht
 have hy : 0 < h * 4294967296 + l := by have := g.hh; have := g.hl; omega
 have e : (q - 1) * h + (r + h) = u := by have := g.hqr; rw [Int.sub_mul]; omega
 have lt : q - 1 < 4294967296 := by
  apply Int.lt_of_not_ge
  intro hge
  have := Int.mul_le_mul_of_nonneg_right (c := h) hge (by have := g.hh; omega)
  have := g.hu2; have := g.hl2
  omega
 have m : (q - 1) * l ≤ 4294967295 * 4294967295 := Int.mul_le_mul (by omega) (by have := g.hl2; omega) g.hl (by decide)
 have : q - 1 ≤ (u * 4294967296 + d) / (h * 4294967296 + l) := by
  apply (Int.le_ediv_iff_mul_le hy).2
  rw [Gs.qy]
  have := g.hd
  omega
 omega
end Go.Proofs.YtogomodbcjpfiaaGreatDoor

namespace Go.Proofs.YtogomodbcjpfiaaGreatDoor
open Go.RowKit
set_option maxHeartbeats 1000000 in
theorem div64_0 (lo y : Int) (w : World) (h0 : 0 ≤ lo) (h1 : lo < 18446744073709551616) (h2 : 0 < y) (h3 : y < 18446744073709551616) :
  Calls Tryz.prog 130 #[.int .u64 0, .int .u64 lo, .int .u64 y] w fun e w' =>
   e = .returned (.tuple #[.int .u64 (lo / y), .int .u64 (lo % y)]) ∧ ∃ n, w' = w.drewN n := by
 have hy : (y == 0) = false := by rw [beq_eq_false_iff_ne]; omega
 have hy2 : ¬ y ≤ 0 := by omega
 have hy3 : y ≠ 0 := by omega
 go_enter Tryz.func130, Tryz.ntmps130
 go_wp2
 go_quiet (fail)
 go_wp2
 go_ret2
 exact ⟨rfl, _, rfl⟩
end Go.Proofs.YtogomodbcjpfiaaGreatDoor

namespace Go.Proofs.YtogomodbcjpfiaaGreatDoor
open Go.RowKit
theorem bitLen_zero : Lib.bitLen 0 = 0 := by decide
theorem bitLen_bd : ∀ (k x : Nat), x < 2 ^ k → k ≤ 64 → x ≠ 0 → 1 ≤ Lib.bitLen x ∧ Lib.bitLen x ≤ k ∧ 2 ^ (Lib.bitLen x - 1) ≤ x ∧ x < 2 ^ Lib.bitLen x
 | 0, x, h, _, h0 => by simp at h; omega
 | k + 1, x, h, hk, h0 => by
  have h64 : x < 2 ^ 64 := Nat.lt_of_lt_of_le h (Nat.pow_le_pow_right (n := 2) (by decide) hk)
  have e := Lib.bitLen_half x h0 h64
  by_cases hx : x / 2 = 0
  ·rw [hx, bitLen_zero] at e
   have : x = 1 := by omega
   subst this
   rw [e]; simp
  ·have h2 : x / 2 < 2 ^ k := by rw [Nat.pow_succ] at h; omega
   obtain ⟨a, b, c, d⟩ := bitLen_bd k (x / 2) h2 (by omega) hx
   rw [e]
   generalize Lib.bitLen (x / 2) = m at *
   obtain ⟨m, rfl⟩ : ∃ j, m = j + 1 := ⟨m - 1, by omega⟩
   have c' : 2 ^ m ≤ x / 2 := by simpa using c
   refine ⟨by omega, by omega, ?_, ?_⟩
   ·rw [show 1 + (m + 1) - 1 = m + 1 from by omega, Nat.pow_succ]; omega
   ·rw [show 1 + (m + 1) = m + 1 + 1 from by omega, Nat.pow_succ]; omega
theorem lead (y : Int) (h0 : 0 < y) (h1 : y < 18446744073709551616) : ∃ k : Nat, (64 - (Lib.bitLen y.toNat : Int)) = k ∧ k ≤ 63 ∧ 9223372036854775808 ≤ y * 2 ^ k ∧ y * 2 ^ k < 18446744073709551616 := by
 obtain ⟨x, rfl⟩ := Int.eq_ofNat_of_zero_le (show 0 ≤ y by omega)
 obtain ⟨a, b, c, d⟩ := bitLen_bd 64 x (by omega) (by omega) (by omega)
 refine ⟨64 - Lib.bitLen x, ?_, by omega, ?_, ?_⟩
 ·simp; omega
 ·have h : 2 ^ (Lib.bitLen x - 1) * 2 ^ (64 - Lib.bitLen x) ≤ x * 2 ^ (64 - Lib.bitLen x) := Nat.mul_le_mul_right _ c
  rw [← Nat.pow_add, show Lib.bitLen x - 1 + (64 - Lib.bitLen x) = 63 from by omega] at h
  have e : ((x * 2 ^ (64 - Lib.bitLen x) : Nat) : Int) = (x : Int) * 2 ^ (64 - Lib.bitLen x) := by rw [Int.natCast_mul, Int.natCast_pow]; rfl
  rw [← e]
  generalize x * 2 ^ (64 - Lib.bitLen x) = z at *
  omega
 ·have h : x * 2 ^ (64 - Lib.bitLen x) < 2 ^ Lib.bitLen x * 2 ^ (64 - Lib.bitLen x) := Nat.mul_lt_mul_of_pos_right d (Nat.pow_pos (by decide))
  rw [← Nat.pow_add, show Lib.bitLen x + (64 - Lib.bitLen x) = 64 from by omega] at h
  have e : ((x * 2 ^ (64 - Lib.bitLen x) : Nat) : Int) = (x : Int) * 2 ^ (64 - Lib.bitLen x) := by rw [Int.natCast_mul, Int.natCast_pow]; rfl
  rw [← e]
  generalize x * 2 ^ (64 - Lib.bitLen x) = z at *
  omega

theorem div_fit {u h : Int} (hu : 0 ≤ u) (hh : 0 < h) : 0 ≤ u / h ∧ u / h ≤ u ∧ 0 ≤ u / h * h ∧ u / h * h ≤ u := by
 have a := Int.ediv_nonneg hu (show 0 ≤ h by omega)
 have b := Int.ediv_mul_le u (show h ≠ 0 by omega)
 refine ⟨a, ?_, Int.mul_nonneg a (by omega), b⟩
 exact Int.ediv_le_self h hu
theorem mod_sub (u h : Int) : u % h = u - u / h * h := by rw [Int.emod_def, Int.mul_comm]

set_option maxHeartbeats 2000000 in
theorem div64_core (hi lo y Y h l u v d1 d0 T1 R1 T0 R0 : Int) (k : Nat) (w : World) (h0 : 0 < hi) (h1 : hi < y) (_h2 : 0 ≤ lo) (_h3 : lo < 18446744073709551616) (h4 : y < 18446744073709551616)
  (hk : Hid ((64 - (Lib.bitLen y.toNat : Int)) = k)) (hk2 : k ≤ 63)
  (eY : IntKind.u64.wrap (y * 2 ^ k) = Y) (eh : Y / 4294967296 = h) (el : bits .and .u64 Y 4294967295 = l)
  (eu : bits .or .u64 (IntKind.u64.wrap (hi * 2 ^ k)) (lo / 2 ^ (64 - k)) = u) (ev : IntKind.u64.wrap (lo * 2 ^ k) = v) (e1 : v / 4294967296 = d1) (e0 : bits .and .u64 v 4294967295 = d0)
  (hY : Hid (Y = h * 4294967296 + l)) (bh : 2147483648 ≤ h) (bh2 : h < 4294967296) (bl : 0 ≤ l) (bl2 : l < 4294967296) (bd1 : 0 ≤ d1) (bd1' : d1 < 4294967296) (bd0 : 0 ≤ d0) (bd0' : d0 < 4294967296) (bu : 0 ≤ u) (bu2 : u < Y) (bY2 : Y < 18446744073709551616)
  (q1 : Hid (T1 = (u * 4294967296 + d1) / Y)) (q2 : Hid (R1 = (u * 4294967296 + d1) % Y)) (q3 : Hid (T0 = (R1 * 4294967296 + d0) / Y)) (q4 : Hid (R0 = (R1 * 4294967296 + d0) % Y))
  (bT1 : 0 ≤ T1) (bT1' : T1 < 4294967296) (bR1 : 0 ≤ R1) (bR1' : R1 < Y) (bT0 : 0 ≤ T0) (bT0' : T0 < 4294967296) (bR0 : 0 ≤ R0) (bR0' : R0 < Y) :
  Calls Tryz.prog 130 #[.int .u64 hi, .int .u64 lo, .int .u64 y] w fun e w' =>
   e = .returned (.tuple #[.int .u64 (T1 * 4294967296 + T0), .int .u64 (R0 / 2 ^ k)]) ∧ w' = w := by
 have hy : (y == 0) = false := by rw [beq_eq_false_iff_ne]; omega
 have hy2 : ¬ y ≤ hi := by omega
 have hh : (hi == 0) = false := by rw [beq_eq_false_iff_ne]; omega
 have hh0 : h ≠ 0 := by omega
 obtain ⟨a1, a2, a3, a4⟩ := div_fit bu (show 0 < h by omega)
 obtain ⟨a5, a6, a7, a8⟩ := div_fit bR1 (show 0 < h by omega)
 have r1 : IntKind.u64.wrap (IntKind.u64.wrap (IntKind.u64.wrap (u * 4294967296) + d1) - IntKind.u64.wrap (T1 * Y)) = R1 := by
  have := q2.out; have e := q1.out
  have m := mod_sub (u * 4294967296 + d1) Y
  rw [← e] at m
  simp only [IntKind.wrap_u64]
  omega
 have r0 : IntKind.u64.wrap (IntKind.u64.wrap (IntKind.u64.wrap (R1 * 4294967296) + d0) - IntKind.u64.wrap (T0 * Y)) = R0 := by
  have := q4.out; have e := q3.out
  have m := mod_sub (R1 * 4294967296 + d0) Y
  rw [← e] at m
  simp only [IntKind.wrap_u64]
  omega
 have G1 : Gs u d1 h l (u / h) (u - u / h * h) := by
  rw [← mod_sub]; exact Gs.start bh bh2 bl bl2 bd1 bd1' bu (by rw [← hY.out]; exact bu2)
 have G0 : Gs R1 d0 h l (R1 / h) (R1 - R1 / h * h) := by
  rw [← mod_sub]; exact Gs.start bh bh2 bl bl2 bd0 bd0' bR1 (by rw [← hY.out]; exact bR1')
 have Hr1 : Hid _ := r1
 have Hr0 : Hid _ := r0
 clear r1 r0
 go_enter Tryz.func130, Tryz.ntmps130
 go_upto_block 0 with (go_at_call 151; refine (Tryz.bits_LeadingZeros64 y _ (by omega) (by omega)).mono ?_; rintro e w' ⟨rfl, rfl⟩; rw [hk.out])
 go_cut [15, 16] from 67 to 85 (fun a _ wx => a = .int .u64 T1 ∧ wx = w')
 case first =>
  go_wp2
  go_loop [15, 16] (fun a b => ∃ q r : Int, a = .int .u64 q ∧ b = .int .u64 r ∧ Gs u d1 h l q r) (fun a _ => (intOf a).toNat)
  case atStart => exact ⟨_, _, rfl, rfl, G1⟩
  case round =>
   obtain ⟨q, r, rfl, rfl, g⟩ := hrel
   have i1 := g.hq
   have i2 := g.hr
   have i3 := g.hr2
   have i4 : q ≤ u := by
    have m1 : q * 1 ≤ q * h := Int.mul_le_mul_of_nonneg_left (show (1 : Int) ≤ h by omega) i1
    have m2 := g.hqr
    omega
   by_cases hq : 4294967296 ≤ q
   ·obtain ⟨j1, _⟩ := g.down (Or.inl hq)
    by_cases hs : 4294967296 ≤ r + h
    ·have hT : q - 1 = T1 := by rw [q1.out, hY.out]; exact g.stop (Or.inl hq) hs
     have HT : Hid _ := hT
     clear hT
     go_wp2
     go_meet
     case rel => exact ⟨by rw [HT.out], rfl⟩
    ·go_wp2
     go_round
     case rel => exact ⟨_, _, rfl, rfl, g.next (Or.inl hq) (by omega)⟩
     case measure => simp [intOf]; omega
   ·obtain ⟨f1, f2⟩ := g.fit (by omega)
    by_cases ht : 4294967296 * r + d1 < q * l
    ·obtain ⟨j1, _⟩ := g.down (Or.inr ht)
     by_cases hs : 4294967296 ≤ r + h
     ·have hT : q - 1 = T1 := by rw [q1.out, hY.out]; exact g.stop (Or.inr ht) hs
      have HT : Hid _ := hT
      clear hT
      go_wp2
      go_meet
      case rel => exact ⟨by rw [HT.out], rfl⟩
     ·go_wp2
      go_round
      case rel => exact ⟨_, _, rfl, rfl, g.next (Or.inr ht) (by omega)⟩
      case measure => simp [intOf]; omega
    ·have hT : q = T1 := by rw [q1.out, hY.out]; exact g.done (by omega)
     have HT : Hid _ := hT
     clear hT
     go_wp2
     go_meet
     case rel => exact ⟨by rw [HT.out], rfl⟩
 case rest =>
  obtain ⟨rfl, rfl⟩ := hcut
  have r1 := Hr1.out
  go_upto_block 2 with fail
  go_cut [18, 16] from 102 to 120 (fun a _ wx => a = .int .u64 T0 ∧ wx = wc)
  case first =>
   go_wp2
   go_loop [18, 16] (fun a b => ∃ q r : Int, a = .int .u64 q ∧ b = .int .u64 r ∧ Gs R1 d0 h l q r) (fun a _ => (intOf a).toNat)
   case atStart => exact ⟨_, _, rfl, rfl, G0⟩
   case round =>
    obtain ⟨q, r, rfl, rfl, g⟩ := hrel
    have i1 := g.hq
    have i2 := g.hr
    have i3 := g.hr2
    have i4 : q ≤ R1 := by
     have m1 : q * 1 ≤ q * h := Int.mul_le_mul_of_nonneg_left (show (1 : Int) ≤ h by omega) i1
     have m2 := g.hqr
     omega
    by_cases hq : 4294967296 ≤ q
    ·obtain ⟨j1, _⟩ := g.down (Or.inl hq)
     by_cases hs : 4294967296 ≤ r + h
     ·have hT : q - 1 = T0 := by rw [q3.out, hY.out]; exact g.stop (Or.inl hq) hs
      have HT : Hid _ := hT
      clear hT
      go_wp2
      go_meet
      case rel => exact ⟨by rw [HT.out], rfl⟩
     ·go_wp2
      go_round
      case rel => exact ⟨_, _, rfl, rfl, g.next (Or.inl hq) (by omega)⟩
      case measure => simp [intOf]; omega
    ·obtain ⟨f1, f2⟩ := g.fit (by omega)
     by_cases ht : 4294967296 * r + d0 < q * l
     ·obtain ⟨j1, _⟩ := g.down (Or.inr ht)
      by_cases hs : 4294967296 ≤ r + h
      ·have hT : q - 1 = T0 := by rw [q3.out, hY.out]; exact g.stop (Or.inr ht) hs
       have HT : Hid _ := hT
       clear hT
       go_wp2
       go_meet
       case rel => exact ⟨by rw [HT.out], rfl⟩
      ·go_wp2
       go_round
       case rel => exact ⟨_, _, rfl, rfl, g.next (Or.inr ht) (by omega)⟩
       case measure => simp [intOf]; omega
     ·have hT : q = T0 := by rw [q3.out, hY.out]; exact g.done (by omega)
      have HT : Hid _ := hT
      clear hT
      go_wp2
      go_meet
      case rel => exact ⟨by rw [HT.out], rfl⟩
  case rest =>
   obtain ⟨rfl, rfl⟩ := hcut
   have r0 := Hr0.out
   go_wp2
   go_ret2
   exact ⟨rfl, rfl⟩

theorem mask32 (a : Int) (h0 : 0 ≤ a) (h1 : a < 18446744073709551616) : bits .and .u64 a 4294967295 = a % 4294967296 := by
 obtain ⟨x, rfl⟩ := Int.eq_ofNat_of_zero_le h0
 rw [Mul64.maskN x (by omega)]
 omega
theorem or_join (a b : Int) (k : Nat) (ha : 0 ≤ a) (hb : 0 ≤ b) (hb2 : b < 2 ^ k) (h : a * 2 ^ k + b < 18446744073709551616) : bits .or .u64 (a * 2 ^ k) b = a * 2 ^ k + b := by
 obtain ⟨x, rfl⟩ := Int.eq_ofNat_of_zero_le ha
 obtain ⟨z, rfl⟩ := Int.eq_ofNat_of_zero_le hb
 have e : ((x * 2 ^ k : Nat) : Int) = (x : Int) * 2 ^ k := by rw [Int.natCast_mul, Int.natCast_pow]; rfl
 have e2 : ((2 ^ k : Nat) : Int) = (2 : Int) ^ k := by rw [Int.natCast_pow]; rfl
 rw [← e] at h ⊢
 rw [← e2] at hb2
 have j : x * 2 ^ k ||| z = x * 2 ^ k + z := by
  rw [Nat.mul_comm x]; exact (Nat.two_pow_add_eq_or_of_lt (by omega) x).symm
 rw [bits_or_u64_nat (x * 2 ^ k) z (by omega) (by omega), j]
 omega
theorem pow_split (k : Nat) (hk : k ≤ 63) : (2 : Int) ^ (64 - k) * 2 ^ k = 18446744073709551616 := by
 rw [← Int.pow_add, show 64 - k + k = 64 from by omega]; decide

theorem div64_big (hi lo y : Int) (w : World) (h0 : 0 < hi) (h1 : hi < y) (h2 : 0 ≤ lo) (h3 : lo < 18446744073709551616) (h4 : y < 18446744073709551616) :
  Calls Tryz.prog 130 #[.int .u64 hi, .int .u64 lo, .int .u64 y] w fun e w' =>
   e = .returned (.tuple #[.int .u64 ((hi * 18446744073709551616 + lo) / y), .int .u64 ((hi * 18446744073709551616 + lo) % y)]) ∧ w' = w := by
 obtain ⟨k, hk, hk2, c1, c2⟩ := lead y (by omega) h4
 have hP : (0 : Int) < 2 ^ k := Int.pow_pos (by decide)
 have hQ : (0 : Int) < 2 ^ (64 - k) := Int.pow_pos (by decide)
 have hPQ := pow_split k hk2
 -- the words, shifted
 have lq : lo / 2 ^ (64 - k) < 2 ^ k := Int.ediv_lt_of_lt_mul hQ (by rw [Int.mul_comm, hPQ]; exact h3)
 have lq0 : 0 ≤ lo / 2 ^ (64 - k) := Int.ediv_nonneg h2 (by omega)
 have hy1 : (hi + 1) * 2 ^ k ≤ y * 2 ^ k := Int.mul_le_mul_of_nonneg_right (by omega) (by omega)
 rw [Int.add_mul, Int.one_mul] at hy1
 have hiP : 0 ≤ hi * 2 ^ k := Int.mul_nonneg (by omega) (by omega)
 have lop : lo * 2 ^ k / 18446744073709551616 = lo / 2 ^ (64 - k) := by
  rw [← hPQ]; exact Int.mul_ediv_mul_of_pos_left _ _ hP
 have eY : IntKind.u64.wrap (y * 2 ^ k) = y * 2 ^ k := by rw [IntKind.wrap_u64]; omega
 have ehi : IntKind.u64.wrap (hi * 2 ^ k) = hi * 2 ^ k := by rw [IntKind.wrap_u64]; omega
 have eu : bits .or .u64 (IntKind.u64.wrap (hi * 2 ^ k)) (lo / 2 ^ (64 - k)) = hi * 2 ^ k + lo / 2 ^ (64 - k) := by
  rw [ehi]; exact or_join hi _ k (by omega) lq0 lq (by omega)
 have ev : IntKind.u64.wrap (lo * 2 ^ k) = lo * 2 ^ k % 18446744073709551616 := by rw [IntKind.wrap_u64]
 have whole : (hi * 2 ^ k + lo / 2 ^ (64 - k)) * 18446744073709551616 + lo * 2 ^ k % 18446744073709551616 = (hi * 18446744073709551616 + lo) * 2 ^ k := by
  rw [Int.add_mul (hi * 18446744073709551616), Int.mul_right_comm hi 18446744073709551616, ← lop, Int.add_mul]; omega
 have div1 : (hi * 18446744073709551616 + lo) * 2 ^ k / (y * 2 ^ k) = (hi * 18446744073709551616 + lo) / y := Int.mul_ediv_mul_of_pos_left _ _ hP
 have mod1 : (hi * 18446744073709551616 + lo) * 2 ^ k % (y * 2 ^ k) = (hi * 18446744073709551616 + lo) % y * 2 ^ k := by
  rw [mod_sub, div1, mod_sub, Int.sub_mul, Int.mul_assoc]
 have mod2 : (hi * 18446744073709551616 + lo) % y * 2 ^ k / 2 ^ k = (hi * 18446744073709551616 + lo) % y := Int.mul_ediv_cancel _ (by omega)
 generalize hYe : y * 2 ^ k = Y at *
 generalize hue : hi * 2 ^ k + lo / 2 ^ (64 - k) = u at *
 generalize hve : lo * 2 ^ k % 18446744073709551616 = v at *
 have hv : 0 ≤ v ∧ v < 18446744073709551616 := by omega
 have hu : 0 ≤ u ∧ u < Y := by omega
 have hY0 : Y ≠ 0 := by omega
 -- the digits
 have b1 := Int.emod_nonneg (u * 4294967296 + v / 4294967296) hY0
 have b2 := Int.emod_lt_of_pos (u * 4294967296 + v / 4294967296) (show 0 < Y by omega)
 have t1 : (u * 4294967296 + v / 4294967296) / Y < 4294967296 := Int.ediv_lt_of_lt_mul (by omega) (by omega)
 have t1' : 0 ≤ (u * 4294967296 + v / 4294967296) / Y := Int.ediv_nonneg (by omega) (by omega)
 have s1 := mod_sub (u * 4294967296 + v / 4294967296) Y
 generalize hT1 : (u * 4294967296 + v / 4294967296) / Y = T1 at *
 generalize hR1 : (u * 4294967296 + v / 4294967296) % Y = R1 at *
 have b3 := Int.emod_nonneg (R1 * 4294967296 + v % 4294967296) hY0
 have b4 := Int.emod_lt_of_pos (R1 * 4294967296 + v % 4294967296) (show 0 < Y by omega)
 have t0 : (R1 * 4294967296 + v % 4294967296) / Y < 4294967296 := Int.ediv_lt_of_lt_mul (by omega) (by omega)
 have t0' : 0 ≤ (R1 * 4294967296 + v % 4294967296) / Y := Int.ediv_nonneg (by omega) (by omega)
 have s0 := mod_sub (R1 * 4294967296 + v % 4294967296) Y
 generalize hT0 : (R1 * 4294967296 + v % 4294967296) / Y = T0 at *
 generalize hR0 : (R1 * 4294967296 + v % 4294967296) % Y = R0 at *
 have key : (hi * 18446744073709551616 + lo) * 2 ^ k = R0 + Y * (T1 * 4294967296 + T0) := by
  rw [← whole, Int.mul_add, ← Int.mul_assoc, Int.mul_comm Y T1, Int.mul_comm Y T0]; omega
 have fq : (hi * 18446744073709551616 + lo) / y = T1 * 4294967296 + T0 := by
  rw [← div1, key, Int.add_mul_ediv_left _ _ hY0, Int.ediv_eq_zero_of_lt b3 b4, Int.zero_add]
 have fr : (hi * 18446744073709551616 + lo) % y = R0 / 2 ^ k := by
  rw [← mod2, ← mod1, key, Int.add_mul_emod_self_left, Int.emod_eq_of_lt b3 b4]
 rw [fq, fr]
 exact div64_core hi lo y Y (Y / 4294967296) (Y % 4294967296) u v (v / 4294967296) (v % 4294967296) T1 R1 T0 R0 k w h0 h1 h2 h3 h4 hk hk2 (by rw [hYe]; exact eY) rfl (mask32 Y (by omega) c2) eu ev rfl (mask32 v hv.1 hv.2)
  (show Y = Y / 4294967296 * 4294967296 + Y % 4294967296 by omega) (by omega) (by omega) (by omega) (by omega) (by omega) (by omega) (by omega) (by omega) hu.1 hu.2 c2 hT1.symm hR1.symm hT0.symm hR0.symm t1' t1 b1 b2 t0' t0 b3 b4

theorem div64_any (hi lo y : Int) (w : World) (h0 : 0 ≤ hi) (h1 : hi < y) (h2 : 0 ≤ lo) (h3 : lo < 18446744073709551616) (h4 : y < 18446744073709551616) :
  Calls Tryz.prog 130 #[.int .u64 hi, .int .u64 lo, .int .u64 y] w fun e w' =>
   e = .returned (.tuple #[.int .u64 ((hi * 18446744073709551616 + lo) / y), .int .u64 ((hi * 18446744073709551616 + lo) % y)]) ∧ ∃ n, w' = w.drewN n := by
 by_cases h : hi = 0
 ·subst h
  rw [Int.zero_mul, Int.zero_add]
  exact div64_0 lo y w h2 h3 (by omega) h4
 ·refine (div64_big hi lo y w (by omega) h1 h2 h3 h4).mono ?_
  rintro e w' ⟨rfl, rfl⟩
  exact ⟨rfl, 0, rfl⟩
end Go.Proofs.YtogomodbcjpfiaaGreatDoor

namespace Go.Proofs.YtogomodbcjpfiaaGreatDoor
def bln (n : Int) : Int := if n = 0 then 0 else (Nat.log2 n.toNat : Int) + 1
theorem cast_pow (k : Nat) : ((2 ^ k : Nat) : Int) = (2 : Int) ^ k := by rw [Int.natCast_pow]; rfl
theorem bln_of {n : Int} (k : Nat) (h1 : (2 : Int) ^ k ≤ n) (h2 : n < 2 ^ (k + 1)) : bln n = k + 1 := by
 have hp : (0 : Int) < 2 ^ k := Int.pow_pos (by decide)
 obtain ⟨m, rfl⟩ := Int.eq_ofNat_of_zero_le (show 0 ≤ n by omega)
 rw [← cast_pow] at h1 h2
 have : Nat.log2 m = k := (Nat.log2_eq_iff (by omega)).2 ⟨by omega, by omega⟩
 unfold bln
 rw [if_neg (by omega), Int.toNat_natCast, this]
theorem bln_join {a low : Int} (s : Nat) (ha : 0 < a) (ha2 : a < 18446744073709551616) (h0 : 0 ≤ low) (h1 : low < 2 ^ s) : bln (a * 2 ^ s + low) = s + Lib.bitLen a.toNat := by
 obtain ⟨x, rfl⟩ := Int.eq_ofNat_of_zero_le (show 0 ≤ a by omega)
 obtain ⟨b1, b2, b3, b4⟩ := bitLen_bd 64 x (by omega) (by omega) (by omega)
 rw [Int.toNat_natCast]
 generalize Lib.bitLen x = L at *
 obtain ⟨m, rfl⟩ : ∃ j, L = j + 1 := ⟨L - 1, by omega⟩
 have b3' : 2 ^ m ≤ x := by simpa using b3
 have c3 : (2 : Int) ^ m ≤ x := by rw [← cast_pow]; omega
 have c4 : (x : Int) + 1 ≤ 2 ^ (m + 1) := by rw [← cast_pow]; omega
 have hp : (0 : Int) ≤ 2 ^ s := Int.le_of_lt (Int.pow_pos (by decide))
 have e := bln_of (n := (x : Int) * 2 ^ s + low) (s + m) ?_ ?_
 ·rw [e]; omega
 ·have := Int.mul_le_mul_of_nonneg_right c3 hp
  rw [← Int.pow_add, Nat.add_comm] at this
  omega
 ·have := Int.mul_le_mul_of_nonneg_right c4 hp
  rw [← Int.pow_add, Int.add_mul, Int.one_mul, show m + 1 + s = s + m + 1 from by omega] at this
  omega
end Go.Proofs.YtogomodbcjpfiaaGreatDoor


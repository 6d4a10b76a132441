/-
  A part of the proof.
-/
import Derived.Test.YtnffhcjmpjajlaaDoorKa2
import Derived.Test.YtnffhcjmpjajlaaDoorKa1
import Derived.RegionTactic
import Derived.Test.YtnffhcjmpjajlaaDoorProg
import Derived.WalkKit
import Derived.WalkSpells
import Derived.Handy
import Derived.BigQuiet
import Derived.Deep.RegionHeld3
import Derived.Deep.MidRow
import Derived.BigCall
import Derived.Shelf.Small.Bits
import Derived.Shelf.Strconv.Itoa0
import Derived.Shelf.Bits.Mul64
import Derived.Deep.CutRange
import Derived.ChangeKeysEq
import Derived.Deep.CutBlock
import Derived.ScopeJumps
import Derived.WalkMore
import Derived.Laws.StructEq
import Derived.Lib.CutLaws
import Derived.Maps.OwnSet
import Derived.WalkArith
import Derived.StringKeys
import Derived.ProofKit
import Derived.OpenShut
import Derived.ChangeArms
import Derived.Deep.Slices
import Derived.ReadAgain
import Derived.WideKeyArgs
namespace Go.Proofs.YtnffhcjmpjajlaaDoor
open Go.RowKit
theorem exists_least {p : Nat → Prop} (h : ∃ m, p m) : ∃ m, p m ∧ ∀ k, p k → m ≤ k := by
 obtain ⟨m, hm⟩ := h
 induction m using Nat.strongRecOn with
 | ind m ih =>
  by_cases hh : ∃ k, k < m ∧ p k
  ·obtain ⟨k, hk, hp⟩ := hh; exact ih k hk hp
  ·exact ⟨m, hm, fun k hp => Nat.le_of_not_lt (fun hk => hh ⟨k, hk, hp⟩)⟩
def least (p : Nat → Prop) (m : Nat) : Prop := p m ∧ ∀ k, p k → m ≤ k
theorem least_ok {p : Nat → Prop} (h : ∃ m, p m) : least p (Classical.epsilon (least p)) := Classical.epsilon_spec (exists_least h)
structure WC (P : Program) (c : Code) (Q : Exit → Act → World → Prop) (n : Nat) (l : List (Nat × Value)) (w : World) : Prop where
 out : c.wp P Q (fr n l) w
structure WL (P : Program) (ops : Array Oper) (Q : Exit → Act → World → Prop) (r : List Oper) (n : Nat) (l : List (Nat × Value)) (w : World) : Prop where
 out : wpList P ops Q r (fr n l) w
structure WX (Q : Exit → Act → World → Prop) (e : Exit) (n : Nat) (l : List (Nat × Value)) (w : World) : Prop where
 out : Q e (fr n l) w
structure WO (P : Program) (o : Oper) (n : Nat) (l : List (Nat × Value)) (w : World) (K : Act → World → Prop) (Q : Exit → Act → World → Prop) : Prop where
 out : o.wp P (fr n l) w K Q
section
variable {P : Program} {o : Oper} {n : Nat} {l : List (Nat × Value)} {w : World} {ops : Array Oper} {rest : List Oper} {Q : Exit → Act → World → Prop} {K : Act → World → Prop}
theorem w_enter {f : FuncId} {fn : Func} {c : Code} {args : Array Value} {R : Ending → World → Prop} (n : Nat) (hf : P.funcs[f]? = some fn) (hn : fn.ntmps = n) (hb : fn.body = some c)
  (ha : Nat.ble args.size n = true) (h : WC P c (bodyPost P fn R) n (argl 0 args.toList) w) : Calls P f args w R := f_enter n hf hn hb ha h.out
theorem w_seq {x y : Code} (h : WC P x (Exit.then (y.wp P Q) Q) n l w) : WC P (Code.seq x y) Q n l w := ⟨wp_seq h.out⟩
theorem w_block {id : Nat} {c : Code} (h : WC P c (Exit.inBlock id Q) n l w) : WC P (Code.block id c) Q n l w := ⟨wp_block h.out⟩
theorem w_skip (h : WX Q .normal n l w) : WC P .skip Q n l w := ⟨wp_skip h.out⟩
theorem w_ret (h : WX Q .ret n l w) : WC P .ret Q n l w := ⟨wp_ret h.out⟩
theorem w_exit {id : Nat} (h : WX Q (.exit id) n l w) : WC P (.exit id) Q n l w := ⟨wp_exit h.out⟩
theorem w_condT {c : Operand} {x y : Code} (hc : evl n l c = .bool true) (h : WC P x Q n l w) : WC P (Code.cond c x y) Q n l w := ⟨c_cond true hc h.out⟩
theorem w_condF {c : Operand} {x y : Code} (hc : evl n l c = .bool false) (h : WC P y Q n l w) : WC P (Code.cond c x y) Q n l w := ⟨c_cond false hc h.out⟩
theorem w_reg {id : Nat} {ol : List Oper} (h : WL P ol.toArray Q ol n l w) : WC P (Code.region id ol.toArray false) Q n l w := ⟨wp_region_lit h.out⟩
theorem w_nil (h : WX Q .normal n l w) : WL P ops Q [] n l w := ⟨wpList_nil h.out⟩
theorem xn_then {y : Code} {Q' : Exit → Act → World → Prop} (h : WC P y Q n l w) : WX (Exit.then (y.wp P Q) Q') .normal n l w := ⟨n_then h.out⟩
theorem xn_blk {id : Nat} (h : WX Q .normal n l w) : WX (Exit.inBlock id Q) .normal n l w := ⟨n_blk h.out⟩
theorem xx_then {next : Act → World → Prop} {id : Nat} (h : WX Q (.exit id) n l w) : WX (Exit.then next Q) (.exit id) n l w := ⟨x_then h.out⟩
theorem xx_blk {id : Nat} (h : WX Q .normal n l w) : WX (Exit.inBlock id Q) (.exit id) n l w := ⟨x_blk h.out⟩
theorem xr_then {next : Act → World → Prop} (h : WX Q .ret n l w) : WX (Exit.then next Q) .ret n l w := ⟨r_then h.out⟩
theorem xr_blk {id : Nat} (h : WX Q .ret n l w) : WX (Exit.inBlock id Q) .ret n l w := ⟨r_blk h.out⟩
theorem w_ret1 {fn : Func} {R : Ending → World → Prop} (x : ResultVar) (v : Value) (hf : fn.results = #[x]) (h : resv n l P w v x) (hR : R (.returned v) w) : WX (bodyPost P fn R) .ret n l w := ⟨c_ret1 x v hf h hR⟩
theorem w_ret2 {fn : Func} {R : Ending → World → Prop} (x y : ResultVar) (v u : Value) (hf : fn.results = #[x, y]) (h : resv n l P w v x) (g : resv n l P w u y) (hR : R (.returned (.tuple #[v, u])) w) : WX (bodyPost P fn R) .ret n l w := ⟨c_ret2 x y v u hf h g hR⟩
theorem w_loop {c : Code} (I : Nat → List (Nat × Value) → World → Prop) (m : Nat) (h0 : I m l w)
  (round : ∀ m l w, I m l w → WC P c (Exit.then (fun a w' => ∃ m' l', m' < m ∧ a = fr n l' ∧ I m' l' w') Q) n l w) : WC P (Code.loop c) Q n l w := by
 refine ⟨?_⟩
 have key : ∀ m : Nat, ∀ l w, I m l w → (Code.loop c).wp P Q (fr n l) w := by
  intro m0 l0 w0 hI0
  refine wp_loop (fun a w => ∃ m l, a = fr n l ∧ I m l w) (fun a w => Classical.epsilon (least (fun m => ∃ l, a = fr n l ∧ I m l w))) ⟨m0, l0, rfl, hI0⟩ ?_
  rintro a w ⟨m, l, rfl, hI⟩
  obtain ⟨l2, e2, hI2⟩ := (least_ok (p := fun m => ∃ l', fr n l = fr n l' ∧ I m l' w) ⟨m, l, rfl, hI⟩).1
  rw [e2]
  refine Code.wp_mono ?_ (round _ l2 w hI2).out
  intro e a' w' hq
  cases e with
  | normal =>
   obtain ⟨m', l', hlt, rfl, hI'⟩ := hq
   refine ⟨⟨m', l', rfl, hI'⟩, Nat.lt_of_le_of_lt ((least_ok (p := fun m => ∃ l'', fr n l' = fr n l'' ∧ I m l'' w') ⟨m', l', rfl, hI'⟩).2 m' ⟨l', rfl, hI'⟩) ?_⟩
   rw [← e2]; exact hlt
  | _ => exact hq
 exact key m l w h0
theorem xn_loop {I : Nat → List (Nat × Value) → World → Prop} {m : Nat} (m' : Nat) (hlt : m' < m) (h : I m' l w) : WX (Exit.then (fun a w' => ∃ m' l', m' < m ∧ a = fr n l' ∧ I m' l' w') Q) .normal n l w := ⟨⟨m', l, hlt, rfl, h⟩⟩
theorem wl_val (v : Value) (h : (execOp (evl n l) o).run P w = .ok (.value v) w) (hg : wnt n l ops o = true) (hk : WL P ops Q rest n (ext l o.dst v) w) : WL P ops Q (o :: rest) n l w :=
 ⟨l_step hg (o_val v h hk.out)⟩
theorem wo_val (v : Value) (h : (execOp (evl n l) o).run P w = .ok (.value v) w) (hk : K (fr n (ext l o.dst v)) w) : WO P o n l w K Q := ⟨o_val v h hk⟩
theorem wl_mv (x : Operand) (p : Value) (ho : ∀ ρ, execOp ρ o = pure (.value (ρ x))) (hx : evl n l x = p) (hg : wnt n l ops o = true) (hk : WL P ops Q rest n (ext l o.dst p) w) : WL P ops Q (o :: rest) n l w :=
 ⟨l_step hg (o_mv x p ho hx hk.out)⟩
theorem wo_mv (x : Operand) (p : Value) (ho : ∀ ρ, execOp ρ o = pure (.value (ρ x))) (hx : evl n l x = p) (hk : K (fr n (ext l o.dst p)) w) : WO P o n l w K Q := ⟨o_mv x p ho hx hk⟩
theorem wl_un (F : Value → Sem Value) (x : Operand) (p v : Value) (ho : ∀ ρ, execOp ρ o = (do pure (.value (← F (ρ x))))) (hx : evl n l x = p) (h : (F p).run P w = .ok v w) (hg : wnt n l ops o = true) (hk : WL P ops Q rest n (ext l o.dst v) w) : WL P ops Q (o :: rest) n l w :=
 ⟨l_step hg (o_un F x p v ho hx h hk.out)⟩
theorem wo_un (F : Value → Sem Value) (x : Operand) (p v : Value) (ho : ∀ ρ, execOp ρ o = (do pure (.value (← F (ρ x))))) (hx : evl n l x = p) (h : (F p).run P w = .ok v w) (hk : K (fr n (ext l o.dst v)) w) : WO P o n l w K Q := ⟨o_un F x p v ho hx h hk⟩
theorem wl_bin (F : Value → Value → Sem Value) (x y : Operand) (p q v : Value) (ho : ∀ ρ, execOp ρ o = (do pure (.value (← F (ρ x) (ρ y))))) (hx : evl n l x = p) (hy : evl n l y = q) (h : (F p q).run P w = .ok v w) (hg : wnt n l ops o = true) (hk : WL P ops Q rest n (ext l o.dst v) w) : WL P ops Q (o :: rest) n l w :=
 ⟨l_step hg (o_bin F x y p q v ho hx hy h hk.out)⟩
theorem wo_bin (F : Value → Value → Sem Value) (x y : Operand) (p q v : Value) (ho : ∀ ρ, execOp ρ o = (do pure (.value (← F (ρ x) (ρ y))))) (hx : evl n l x = p) (hy : evl n l y = q) (h : (F p q).run P w = .ok v w) (hk : K (fr n (ext l o.dst v)) w) : WO P o n l w K Q := ⟨o_bin F x y p q v ho hx hy h hk⟩
theorem wl_pick (c x y : Operand) (t : Bool) (v : Value) (ho : ∀ ρ, execOp ρ o = (do pure (.value (if ← asBool (ρ c) then ρ x else ρ y)))) (hc : evl n l c = .bool t) (hv : evl n l (bif t then x else y) = v) (hg : wnt n l ops o = true) (hk : WL P ops Q rest n (ext l o.dst v) w) : WL P ops Q (o :: rest) n l w :=
 ⟨l_step hg (o_pick c x y t v ho hc hv hk.out)⟩
theorem wo_pick (c x y : Operand) (t : Bool) (v : Value) (ho : ∀ ρ, execOp ρ o = (do pure (.value (if ← asBool (ρ c) then ρ x else ρ y)))) (hc : evl n l c = .bool t) (hv : evl n l (bif t then x else y) = v) (hk : K (fr n (ext l o.dst v)) w) : WO P o n l w K Q := ⟨o_pick c x y t v ho hc hv hk⟩
theorem wl_build (t : TypeId) (xs : List (Nat × Operand)) (ps : List (Nat × Value)) (v : Value) (ho : o.op = .build t xs.toArray) (hx : xs.map (fun p => (p.1, evl n l p.2)) = ps) (h : (Instr.build t ps.toArray).run P w = .ok v w) (hg : wnt n l ops o = true) (hk : WL P ops Q rest n (ext l o.dst v) w) : WL P ops Q (o :: rest) n l w :=
 ⟨l_step hg (o_build t xs ps v ho hx h hk.out)⟩
theorem wl_load (ty : TypeId) (x : Operand) (p v : Value) (ho : o.op = .load ty x) (hx : evl n l x = p) (h : (Instr.loadAt ty p).run P w = .ok v w) (hg : wnt n l ops o = true) (hk : WL P ops Q rest n (ext l o.dst v) w) : WL P ops Q (o :: rest) n l w :=
 ⟨l_step hg (o_load ty x p v ho hx h hk.out)⟩
theorem wo_load (ty : TypeId) (x : Operand) (p v : Value) (ho : o.op = .load ty x) (hx : evl n l x = p) (h : (Instr.loadAt ty p).run P w = .ok v w) (hk : K (fr n (ext l o.dst v)) w) : WO P o n l w K Q := ⟨o_load ty x p v ho hx h hk⟩
theorem wl_m (x : Operand) (p : Value) (hk : WL P ops Q rest n (ext l o.dst p) w) (ho : ∀ ρ, execOp ρ o = pure (.value (ρ x)) := by exact fun _ => rfl) (hx : evl n l x = p := by rfl) (hg : wnt n l ops o = true := by rfl) : WL P ops Q (o :: rest) n l w := wl_mv x p ho hx hg hk
theorem wl_b (b : BinOp) (t : TypeId) (x y : Operand) (p q v : Value) (h : (do eqGuard b t x y p q; binOp b t p q).run P w = .ok v w) (hk : WL P ops Q rest n (ext l o.dst v) w) (ho : ∀ ρ, execOp ρ o = (do pure (.value (← (do eqGuard b t x y (ρ x) (ρ y); binOp b t (ρ x) (ρ y))))) := by exact fun _ => rfl) (hx : evl n l x = p := by rfl) (hy : evl n l y = q := by rfl) (hg : wnt n l ops o = true := by rfl) : WL P ops Q (o :: rest) n l w := wl_bin (fun u z => do eqGuard b t x y u z; binOp b t u z) x y p q v ho hx hy h hg hk
theorem wl_f (t : TypeId) (i : Nat) (x : Operand) (p v : Value) (hk : WL P ops Q rest n (ext l o.dst v) w) (h : (Instr.fieldAt t p i).run P w = .ok v w := by kernel_rfl) (ho : ∀ ρ, execOp ρ o = (do pure (.value (← Instr.fieldAt t (ρ x) i))) := by exact fun _ => rfl) (hx : evl n l x = p := by rfl) (hg : wnt n l ops o = true := by rfl) : WL P ops Q (o :: rest) n l w := wl_un (fun v => Instr.fieldAt t v i) x p v ho hx h hg hk
theorem wl_l (t : TypeId) (x : Operand) (p v : Value) (h : (Instr.loadAt t p).run P w = .ok v w) (hk : WL P ops Q rest n (ext l o.dst v) w) (ho : o.op = .load t x := by rfl) (hx : evl n l x = p := by rfl) (hg : wnt n l ops o = true := by rfl) : WL P ops Q (o :: rest) n l w := wl_load t x p v ho hx h hg hk
theorem wl_alloc (ty : TypeId) (zs : Array Value) (ho : o.op = .alloc ty) (h : ∀ w, (Instr.alloc ty true (.tuple #[])).run P w = .ok (pt w.heap.size 0) (w.alloc (.cells zs ty))) (hg : wnt n l ops o = true) (hk : ∀ k w', w.heap.size = k → w'.heap.size = k + 1 → Mo w w' → At w' k zs.toList → WL P ops Q rest n (ext l o.dst (pt k 0)) w') : WL P ops Q (o :: rest) n l w :=
 ⟨l_step hg (o_alloc ty zs ho h (fun k w' a b c d => (hk k w' a b c d).out))⟩
theorem wl_box (ty : TypeId) (x : Operand) (v : Value) (cs : Array Value) (ho : o.op = .box ty x) (hx : evl n l x = v) (h : ∀ w, (Instr.box ty v).run P w = .ok (pt w.heap.size 0) (w.alloc (.cells cs ty))) (hg : wnt n l ops o = true) (hk : ∀ k w', w.heap.size = k → w'.heap.size = k + 1 → Mo w w' → At w' k cs.toList → WL P ops Q rest n (ext l o.dst (pt k 0)) w') : WL P ops Q (o :: rest) n l w :=
 ⟨l_step hg (o_box ty x v cs ho hx h (fun k w' a b c d => (hk k w' a b c d).out))⟩
theorem wl_call (g : FuncId) (xs : List Operand) (ats : Array TypeId) (args : List Value) (v : Value) (ho : o.op = .call { callee := .value (.func g), args := xs.toArray, argTypes := ats }) (hx : xs.map (evl n l) = args) (h : ∀ args w, (callFunc g args).run P w = .ok (.enter g args) w) (hc : Calls P g args.toArray w fun e w' => e = .returned v ∧ Mo w w') (hg : wnt n l ops o = true) (hk : ∀ w', Mo w w' → WL P ops Q rest n (ext l o.dst v) w') : WL P ops Q (o :: rest) n l w :=
 ⟨l_step hg (o_call g xs ats args v ho hx h hc (fun w' m => (hk w' m).out))⟩
theorem wo_call (g : FuncId) (xs : List Operand) (ats : Array TypeId) (args : List Value) (v : Value) (ho : o.op = .call { callee := .value (.func g), args := xs.toArray, argTypes := ats }) (hx : xs.map (evl n l) = args) (h : ∀ args w, (callFunc g args).run P w = .ok (.enter g args) w) (hc : Calls P g args.toArray w fun e w' => e = .returned v ∧ Mo w w') (hk : ∀ w', Mo w w' → K (fr n (ext l o.dst v)) w') : WO P o n l w K Q := ⟨o_call g xs ats args v ho hx h hc (fun w' m => (hk w' m))⟩
theorem wl_skip (hg : wnt n l ops o = false) (h : WL P ops Q rest n (ext l o.dst undef) w) : WL P ops Q (o :: rest) n l w := ⟨l_skip hg h.out⟩
theorem wl_st (ty : TypeId) (x y : Operand) (k off : Nat) (us : Array Value) (vs vs' : List Value) (hA : At w k vs) (ho : o.op = .store ty x y) (hd : o.dst = none) (hx : evl n l x = pt k off) (hy : evl n l y = .agg us)
  (hl : Nat.ble (off + us.size) vs.length = true) (hi : (P.info? ty).map (·.size) = some us.size) (h1 : us.toList.all (·.oneCell') = true) (hvs : vs' = vs.take off ++ us.toList ++ vs.drop (off + us.toList.length)) (hg : wnt n l ops o = true)
  (hk : ∀ w', St k w w' → At w' k vs' → WL P ops Q rest n l w') : WL P ops Q (o :: rest) n l w :=
 ⟨l_step hg (o_st ty x y k off us vs vs' hA ho hd hx hy hl hi h1 hvs (fun w' a b => (hk w' a b).out))⟩
theorem wl_st1 (ty : TypeId) (x y : Operand) (k off : Nat) (v : Value) (vs vs' : List Value) (hA : At w k vs) (ho : o.op = .store ty x y) (hd : o.dst = none) (hx : evl n l x = pt k off) (hy : evl n l y = v)
  (hl : Nat.blt off vs.length = true) (hi : (P.info? ty).map (·.size) = some 1) (hv : v.cells = #[v]) (h1 : v.oneCell' = true) (hvs : vs' = vs.take off ++ [v] ++ vs.drop (off + 1)) (hg : wnt n l ops o = true)
  (hk : ∀ w', St k w w' → At w' k vs' → WL P ops Q rest n l w') : WL P ops Q (o :: rest) n l w :=
 ⟨l_step hg (o_st1 ty x y k off v vs vs' hA ho hd hx hy hl hi hv h1 hvs (fun w' a b => (hk w' a b).out))⟩
structure Go1 (P : Program) (ops : List Oper) (Q : Exit → Act → World → Prop) (n : Nat) (l : List (Nat × Value)) (w : World) (K : Act → World → Prop) (o : Oper) : Prop where
 out : (wnt n l ops.toArray o = true ∧ WO P o n l w K Q) ∨ (wnt n l ops.toArray o = false ∧ K (fr n (ext l o.dst undef)) w)
theorem go_run {ol : List Oper} (hg : wnt n l ol.toArray o = true) (h : WO P o n l w K Q) : Go1 P ol Q n l w K o := ⟨Or.inl ⟨hg, h⟩⟩
theorem go_pass {ol : List Oper} (hg : wnt n l ol.toArray o = false) (h : K (fr n (ext l o.dst undef)) w) : Go1 P ol Q n l w K o := ⟨Or.inr ⟨hg, h⟩⟩
structure OgW (P : Program) (ops : List Oper) (Q : Exit → Act → World → Prop) (n : Nat) (l : List (Nat × Value)) (m : Nat) (W : World) (sp : List Sp) (i : Nat) (o : Oper) : Prop where
 out : ∀ f w, Mo W w → (∀ j, depb o j = true → spDen W.heap.size (spAt sp j) (f j) w) → ∀ K : Act → World → Prop,
  (match spAt sp i with
   | .inl v => ∀ w', Mo w w' → K (fr n (ext (asg f 0 (ops.take m) l) o.dst v)) w'
   | .inr zs => ∀ k w', w.heap.size = k → w'.heap.size = k + 1 → Mo w w' → At w' k zs → K (fr n (ext (asg f 0 (ops.take m) l) o.dst (pt k 0))) w') →
  Go1 P ops Q n (asg f 0 (ops.take m) l) w K o
theorem og_eq {ol : List Oper} {m : Nat} {W : World} {sp : List Sp} {i : Nat} (v : Value) (hs : spAt sp i = .inl v)
  (h : ∀ f w, Mo W w → (∀ j, depb o j = true → spDen W.heap.size (spAt sp j) (f j) w) → ∀ K : Act → World → Prop, (∀ w', Mo w w' → K (fr n (ext (asg f 0 (ol.take m) l) o.dst v)) w') → Go1 P ol Q n (asg f 0 (ol.take m) l) w K o) : OgW P ol Q n l m W sp i o :=
 ⟨fun f w hm hd K hK => h f w hm hd K (by rw [hs] at hK; exact hK)⟩
theorem ea_nil {F : Nat → Oper → Prop} {i : Nat} : Each F i [] := trivial
theorem ea_cons {F : Nat → Oper → Prop} {i : Nat} {o : Oper} {r : List Oper} (h : F i o) (k : Each F (i + 1) r) : Each F i (o :: r) := ⟨h, k⟩
def slo (n : Nat) (l : List (Nat × Value)) (ops : List Oper) (i : Nat) : Value :=
 match (ops[i]?).bind (·.dst) with
 | some d => bif Nat.blt d n then look l d else undef
 | none => undef
theorem slo_eq (ops : List Oper) : slots (fr n l) ops.toArray = slo n l ops := by
 funext i
 unfold slots slo
 simp only [List.getElem?_toArray]
 cases (ops[i]?).bind (·.dst) with
 | none => rfl
 | some d => exact fr_getD n l d
def isPt : Value → Bool
 | .pointer (some _) => true
 | _ => false
theorem Ds.start {sp : List Sp} {f : Nat → Value} (h : (List.range sp.length).all (fun j => !spNew (spAt sp j) || !isPt (f j)) = true) : Ds sp f w := by
 have hh : ∀ j, spNew (spAt sp j) = true → ∀ k, f j ≠ pt k 0 := fun j hj k e => by
  rcases Nat.lt_or_ge j sp.length with hl | hl
  ·have := List.all_eq_true.1 h j (List.mem_range.2 hl)
   simp [hj, e, isPt] at this
  ·unfold spAt at hj; rw [List.getElem?_eq_none hl] at hj; cases hj
 exact ⟨fun j hj k hk => (hh j hj k hk).elim, fun i j hi _ _ k hk => (hh i hi k hk).elim⟩
theorem late_nil {ol : List Oper} {m : Nat} {sp : List Sp} : ∀ i, i ∈ ([] : List Nat) → LateO P ol Q n l m sp i := fun i h => absurd h (by simp)
theorem w_any {id : Nat} {ol : List Oper} (m : Nat) (sp : List Sp) (fs : List Nat) (hm : P.follows .mixedOrders = true)
  (hb : edgesBack .any ol.toArray = true) (hd : dstsApart (ol.take m) = true) (hc : chainB ol m fs = true) (hl : Nat.ble m ol.length = true) (hf : floatB ol m fs = true) (hns : Region.noSelect ol.toArray = true)
  (hlate : ∀ i, i ∈ fs → LateO P ol Q n l m sp i)
  (hD : Ds sp (slo n l (ol.take m)) w)
  (hs : Each (OgW P ol Q n l m w sp) 0 (ol.take m))
  (hend : ∀ kf w', Mo w w' → (∀ i zs, Nat.blt i m = true → spAt sp i = .inr zs → w.heap.size ≤ kf i ∧ At w' (kf i) zs) → (∀ i j, Nat.blt i m = true → Nat.blt j m = true → spNew (spAt sp i) = true → spNew (spAt sp j) = true → i ≠ j → kf i ≠ kf j) →
   WL P ol.toArray Q (ol.drop m) n (asg (spv sp kf) 0 (ol.take m) l) w') : WC P (Code.region id ol.toArray true) Q n l w := by
 refine ⟨r_any m sp fs hm hb hd hc hl hf hns hlate (by rw [slo_eq]; exact hD) (Each.mono ?_ _ 0 hs) (fun kf w' a b c => (hend kf w' a b c).out)⟩
 intro i o h f w' hmo hdep K hK
 rcases (h.out f w' hmo hdep K hK).out with ⟨hg, h⟩ | ⟨hg, h⟩
 ·exact ct hg h.out
 ·exact cf hg h
end
end Go.Proofs.YtnffhcjmpjajlaaDoor

namespace Go.Proofs.YtnffhcjmpjajlaaDoor
theorem row {p X R : Int} (_hp : 0 ≤ p) (_hp2 : p ≤ 2135987035920910082395021706169552114602704522356652769947041607822219725780640550022962086936576 - 115792089237316195423570985008687907853269984665640564039457584007913129639936) (_hX0 : 0 ≤ X) (_hX : X < MM) (_hR : R = p % MM) :
  l0 (X + R) = l0 (X + p) ∧ l1 (X + R) = l1 (X + p) ∧ l2 (X + R) = l2 (X + p) ∧ l3 (X + R) = l3 (X + p) ∧ p / MM + (X + R) / MM = l0 ((X + p) / MM) ∧ p / MM + (X + R) / MM < 18446744073709551616 ∧ 0 ≤ p / MM + (X + R) / MM ∧ l1 ((X + p) / MM) = 0 ∧ l2 ((X + p) / MM) = 0 ∧ l3 ((X + p) / MM) = 0 := by
 have e : p / MM + (X + R) / MM = (X + p) / MM := by unfold MM at *; omega
 have b1 : (X + p) / MM < 18446744073709551616 := by unfold MM at *; omega
 have b0 : 0 ≤ (X + p) / MM := by unfold MM at *; omega
 rw [e]
 refine ⟨?_, ?_, ?_, ?_, ?_, b1, b0, ?_, ?_, ?_⟩
 ·unfold l0; unfold MM at *; omega
 ·unfold l1; unfold MM at *; omega
 ·unfold l2; unfold MM at *; omega
 ·unfold l3; unfold MM at *; omega
 ·unfold l0; omega
 ·unfold l1; omega
 ·unfold l2; omega
 ·unfold l3; omega
theorem up {Y : Int} (h0 : 0 ≤ Y) (h1 : Y < 2135987035920910082395021706169552114602704522356652769947041607822219725780640550022962086936576) : vl (l1 Y) (l2 Y) (l3 Y) (l0 (Y / MM)) = Y / 18446744073709551616 := by
 have e : (Y / MM) = Y / 18446744073709551616 / 6277101735386680763835789423207666416102355444464034512896 := by unfold MM; omega
 have b : Y / 18446744073709551616 < MM := by unfold MM; omega
 have b0 : 0 ≤ Y / 18446744073709551616 := by omega
 have e1 : l1 Y = l0 (Y / 18446744073709551616) := by unfold l1 l0; rfl
 have e2 : l2 Y = l1 (Y / 18446744073709551616) := by unfold l2 l1; omega
 have e3 : l3 Y = l2 (Y / 18446744073709551616) := by unfold l3 l2; omega
 have e4 : l0 (Y / MM) = l3 (Y / 18446744073709551616) := by rw [e]; unfold l0 l3; rfl
 rw [e1, e2, e3, e4, vl_lb _ b0 b]
end Go.Proofs.YtnffhcjmpjajlaaDoor

namespace Go.Proofs.YtnffhcjmpjajlaaDoor
open Go.RowKit
theorem Fz.set {w : World} {k : Nat} (h : Fz w k) (a : Addr) (v : Value) : Fz (w.setCell a v) k := fun o => (World.frozen?_setCell _ _ _ _).trans (h o)
end Go.Proofs.YtnffhcjmpjajlaaDoor

namespace Go.Proofs.YtnffhcjmpjajlaaDoor
open Go.RowKit
abbrev dc (b : Bool) (n s : Int) : Value := .agg #[.bool b, .int .u64 (l0 n), .int .u64 (l1 n), .int .u64 (l2 n), .int .u64 (l3 n), .int .i64 s]
end Go.Proofs.YtnffhcjmpjajlaaDoor

namespace Go.Proofs.YtnffhcjmpjajlaaDoor
open Go.RowKit
abbrev er (c : Int) : Value := .tuple #[.agg #[.bool false, .int .u64 0, .int .u64 0, .int .u64 0, .int .u64 0, .int .i64 0], .int .i64 c]
end Go.Proofs.YtnffhcjmpjajlaaDoor

namespace Go.Proofs.YtnffhcjmpjajlaaDoor
open Go.RowKit
def ab (v : Int) : Int := if v < 0 then -v else v
abbrev dz (v s : Int) : Value := dc (decide (v < 0)) (ab v) s
def fz (v s : Int) : Value := if ab v < MM then .tuple #[dz v s, .int .i64 0] else er 7
end Go.Proofs.YtnffhcjmpjajlaaDoor

namespace Go.Proofs.YtnffhcjmpjajlaaDoor
open Go.RowKit
theorem Mo.there {w w' : World} {k n : Nat} (m : Mo w w') (h : w.there k 0 n) (hk : k < w.heap.size) : w'.there k 0 n := fun j hj => by
 rw [m.cell k _ hk, m.2]; exact h j hj
theorem Mo.setCells {a : World} {k : Nat} (hk : a.heap.size ≤ k) : ∀ (l : List Value) (o : Nat) (b : World), Mo a b → Mo a (b.setCells k o l)
 | [], _, _, h => h
 | v :: r, o, b, h => by rw [World.setCells]; exact Mo.setCells hk r (o + 1) _ (h.setCell hk v)
end Go.Proofs.YtnffhcjmpjajlaaDoor

namespace Go.Proofs.YtnffhcjmpjajlaaDoor
open Go.RowKit
theorem Ds.two {sp : List Sp} {f : Nat → Value} {w : World} (i j : Nat) (h : ∀ q, spNew (spAt sp q) = true → q = i ∨ q = j) (h1 : ∀ k, f i = pt k 0 → k < w.heap.size) (h2 : ∀ k, f j = pt k 0 → k < w.heap.size) (h3 : ∀ k, f i = pt k 0 → f j ≠ pt k 0) : Ds sp f w := by
 refine ⟨fun q hq k hk => ?_, fun q r hq hr hne k hk hk2 => ?_⟩
 ·rcases h q hq with rfl | rfl
  ·exact h1 k hk
  ·exact h2 k hk
 ·rcases h q hq with rfl | rfl <;> rcases h r hr with rfl | rfl
  ·exact hne rfl
  ·exact h3 k hk hk2
  ·exact h3 k hk2 hk
  ·exact hne rfl
end Go.Proofs.YtnffhcjmpjajlaaDoor

namespace Go.Proofs.YtnffhcjmpjajlaaDoor
open Go.RowKit Go.Lib
theorem Ds.one {sp : List Sp} {f : Nat → Value} {w : World} (i : Nat) (h : ∀ q, spNew (spAt sp q) = true → q = i) (h1 : ∀ k, f i = pt k 0 → k < w.heap.size) : Ds sp f w := by
 refine ⟨fun q hq k hk => ?_, fun q r hq hr hne k hk hk2 => ?_⟩
 ·rw [h q hq] at hk; exact h1 k hk
 ·exact hne ((h q hq).trans (h r hr).symm)
theorem lt3_run {a b : Int} {r : Bool} (h : decide (a < b) = r) (x y : Operand) (w : World) : (do eqGuard .lss 3 x y (.int .i64 a) (.int .i64 b); binOp .lss 3 (.int .i64 a) (.int .i64 b)).run Tryd.prog w = .ok (.bool r) w := by
 subst h; kernel_rfl
theorem gt3_run {a b : Int} {r : Bool} (h : decide (a > b) = r) (x y : Operand) (w : World) : (do eqGuard .gtr 3 x y (.int .i64 a) (.int .i64 b); binOp .gtr 3 (.int .i64 a) (.int .i64 b)).run Tryd.prog w = .ok (.bool r) w := by
 subst h; kernel_rfl
theorem add1r {k : Nat} (hk : k ≤ 9223372036854775806) (x y : Operand) (w : World) : (do eqGuard .add 3 x y (.int .i64 (k : Int)) (.int .i64 1); binOp .add 3 (.int .i64 (k : Int)) (.int .i64 1)).run Tryd.prog w = .ok (.int .i64 ((k + 1 : Nat) : Int)) w := by
 have e : (do eqGuard .add 3 x y (.int .i64 (k : Int)) (.int .i64 1); binOp .add 3 (.int .i64 (k : Int)) (.int .i64 1)).run Tryd.prog w = .ok (.int .i64 (IntKind.i64.wrap ((k : Int) + 1))) w := by kernel_rfl
 have h : IntKind.i64.wrap ((k : Int) + 1) = ((k + 1 : Nat) : Int) := by rw [IntKind.wrap_i64]; omega
 rw [e, h]
theorem len_s (ρ : Operand → Value) (x : Operand) (s : ByteArray) (hx : ρ x = .string s) (dst : Option Tmp) (type : TypeId) (pos : String) (after : Array Edge) (guard : Option (Nat × Bool)) (w : World) : (execOp ρ { dst, op := .call { callee := .builtin .len, args := #[x], argTypes := #[9] }, type, pos, after, guard }).run Tryd.prog w = .ok (.value (.int .i64 (s.size : Int))) w := by
 simp [go_sem, hx]
theorem ltN {a b : Nat} {r : Bool} (h : decide (a < b) = r) (x y : Operand) (w : World) : (do eqGuard .lss 3 x y (.int .i64 (a : Int)) (.int .i64 (b : Int)); binOp .lss 3 (.int .i64 (a : Int)) (.int .i64 (b : Int))).run Tryd.prog w = .ok (.bool r) w :=
 lt3_run (by rw [← h]; exact decide_eq_decide.2 Int.ofNat_lt) _ _ _
theorem gtN {a b : Nat} {r : Bool} (h : decide (b < a) = r) (x y : Operand) (w : World) : (do eqGuard .gtr 3 x y (.int .i64 (a : Int)) (.int .i64 (b : Int)); binOp .gtr 3 (.int .i64 (a : Int)) (.int .i64 (b : Int))).run Tryd.prog w = .ok (.bool r) w :=
 gt3_run (by rw [← h]; exact decide_eq_decide.2 Int.ofNat_lt) _ _ _
end Go.Proofs.YtnffhcjmpjajlaaDoor

namespace Go.Proofs.YtnffhcjmpjajlaaDoor
open Go.RowKit
theorem eq9 {a b : ByteArray} {r : Bool} (h : (a.toList == b.toList) = r) (x y : Operand) (w : World) : (do eqGuard .eql 9 x y (.string a) (.string b); binOp .eql 9 (.string a) (.string b)).run Tryd.prog w = .ok (.bool r) w := by
 subst h; simp [go_sem]
end Go.Proofs.YtnffhcjmpjajlaaDoor

namespace Go.Proofs.YtnffhcjmpjajlaaDoor
open Go.RowKit Go.ChangeMaps
structure Mk (D : Nat → Prop) (w w' : World) : Prop where
 os : w'.os = w.os
 tape : w'.tape = w.tape
 output : w'.output = w.output
 size : w.heap.size ≤ w'.heap.size
 block : ∀ k, k < w.heap.size → ¬ D k → w'.heap[k]? = w.heap[k]?
 fz : ∀ a, w'.frozen? a = w.frozen? a
theorem Mk.refl (D : Nat → Prop) (w : World) : Mk D w w := ⟨rfl, rfl, rfl, Nat.le_refl _, fun _ _ _ => rfl, fun _ => rfl⟩
theorem Mk.of (D : Nat → Prop) {w w' : World} (h : Mo w w') : Mk D w w' := ⟨h.1.os, h.1.tape, h.1.output, h.1.size, fun k hk _ => h.1.block k hk, h.2⟩
theorem Mk.tr {D E : Nat → Prop} {a b c : World} (h : Mk D a b) (k : Mk E b c) (hE : ∀ j, j < a.heap.size → E j → D j) : Mk D a c :=
 ⟨k.os.trans h.os, k.tape.trans h.tape, k.output.trans h.output, Nat.le_trans h.size k.size, fun j hj hd => (k.block j (Nat.lt_of_lt_of_le hj h.size) (fun e => hd (hE j hj e))).trans (h.block j hj hd), fun x => (k.fz x).trans (h.fz x)⟩
theorem Mk.trans {D : Nat → Prop} {a b c : World} (h : Mk D a b) (k : Mo b c) : Mk D a c := h.tr (Mk.of D k) (fun _ _ e => e)
theorem Mk.same {D : Nat → Prop} {a b c : World} (h : Mk D a b) (k : Mk D b c) : Mk D a c := h.tr k (fun _ _ e => e)
theorem Mk.mono {D E : Nat → Prop} {a b : World} (h : Mk D a b) (hE : ∀ j, D j → E j) : Mk E a b := ⟨h.os, h.tape, h.output, h.size, fun k hk hd => h.block k hk (fun e => hd (hE k e)), h.fz⟩
theorem Mk.at {D : Nat → Prop} {w w' : World} (h : Mk D w w') {k : Nat} {vs : List Value} (hA : At w k vs) (hk : ¬ D k) : At w' k vs :=
 ⟨fun j v hv => (World.cell?_of_block (a := ⟨k, 0 + j, none⟩) (h.block k hA.2.2 hk)).trans (hA.1 j v hv), fun o => (h.fz _).trans (hA.2.1 o), Nat.lt_of_lt_of_le hA.2.2 h.size⟩
theorem Mk.mo {D : Nat → Prop} {a b c : World} (h : Mk D b c) (m : Mo a b) (hD : ∀ k, D k → a.heap.size ≤ k) : Mo a c :=
 ⟨⟨h.os.trans m.1.os, h.tape.trans m.1.tape, h.output.trans m.1.output, Nat.le_trans m.1.size h.size, fun k hk => (h.block k (Nat.lt_of_lt_of_le hk m.1.size) (fun e => by have := hD k e; omega)).trans (m.1.block k hk)⟩, fun x => (h.fz x).trans (m.2 x)⟩
theorem eq3 {a b : Int} {r : Bool} (h : decide (a = b) = r) (x y : Operand) (w : World) : (do eqGuard .eql 3 x y (.int .i64 a) (.int .i64 b); binOp .eql 3 (.int .i64 a) (.int .i64 b)).run Tryd.prog w = .ok (.bool r) w := by
 subst h
 have e : (do eqGuard .eql 3 x y (.int .i64 a) (.int .i64 b); binOp .eql 3 (.int .i64 a) (.int .i64 b)).run Tryd.prog w = .ok (.bool (a == b)) w := by kernel_rfl
 rw [e]; congr 2
theorem ne3 {a b : Int} {r : Bool} (h : decide (a = b) = r) (x y : Operand) (w : World) : (do eqGuard .neq 3 x y (.int .i64 a) (.int .i64 b); binOp .neq 3 (.int .i64 a) (.int .i64 b)).run Tryd.prog w = .ok (.bool (!r)) w := by
 subst h
 have e : (do eqGuard .neq 3 x y (.int .i64 a) (.int .i64 b); binOp .neq 3 (.int .i64 a) (.int .i64 b)).run Tryd.prog w = .ok (.bool (!(a == b))) w := by kernel_rfl
 rw [e]; congr 2
theorem eq34 {a b : Int} {r : Bool} (h : decide (a = b) = r) (x y : Operand) (w : World) : (do eqGuard .eql 31 x y (.int .i64 a) (.int .i64 b); binOp .eql 31 (.int .i64 a) (.int .i64 b)).run Tryd.prog w = .ok (.bool r) w := by
 subst h
 have e : (do eqGuard .eql 31 x y (.int .i64 a) (.int .i64 b); binOp .eql 31 (.int .i64 a) (.int .i64 b)).run Tryd.prog w = .ok (.bool (a == b)) w := by kernel_rfl
 rw [e]; congr 2
theorem ne34 {a b : Int} {r : Bool} (h : decide (a = b) = r) (x y : Operand) (w : World) : (do eqGuard .neq 31 x y (.int .i64 a) (.int .i64 b); binOp .neq 31 (.int .i64 a) (.int .i64 b)).run Tryd.prog w = .ok (.bool (!r)) w := by
 subst h
 have e : (do eqGuard .neq 31 x y (.int .i64 a) (.int .i64 b); binOp .neq 31 (.int .i64 a) (.int .i64 b)).run Tryd.prog w = .ok (.bool (!(a == b))) w := by kernel_rfl
 rw [e]; congr 2
theorem lt3 {a b : Int} {r : Bool} (h : decide (a < b) = r) (x y : Operand) (w : World) : (do eqGuard .lss 3 x y (.int .i64 a) (.int .i64 b); binOp .lss 3 (.int .i64 a) (.int .i64 b)).run Tryd.prog w = .ok (.bool r) w := by
 subst h; kernel_rfl
theorem gt3 {a b : Int} {r : Bool} (h : decide (b < a) = r) (x y : Operand) (w : World) : (do eqGuard .gtr 3 x y (.int .i64 a) (.int .i64 b); binOp .gtr 3 (.int .i64 a) (.int .i64 b)).run Tryd.prog w = .ok (.bool r) w := by
 subst h; kernel_rfl
theorem le3 {a b : Int} {r : Bool} (h : decide (a ≤ b) = r) (x y : Operand) (w : World) : (do eqGuard .leq 3 x y (.int .i64 a) (.int .i64 b); binOp .leq 3 (.int .i64 a) (.int .i64 b)).run Tryd.prog w = .ok (.bool r) w := by
 subst h; kernel_rfl
theorem ge3 {a b : Int} {r : Bool} (h : decide (b ≤ a) = r) (x y : Operand) (w : World) : (do eqGuard .geq 3 x y (.int .i64 a) (.int .i64 b); binOp .geq 3 (.int .i64 a) (.int .i64 b)).run Tryd.prog w = .ok (.bool r) w := by
 subst h; kernel_rfl
theorem ba_eq (a b : ByteArray) : (a.toList == b.toList) = decide (a = b) := by
 rw [Lib.toList_data, Lib.toList_data, Bool.eq_iff_iff, beq_iff_eq, decide_eq_true_iff]
 constructor
 ·intro h
  obtain ⟨⟨x⟩⟩ := a
  obtain ⟨⟨y⟩⟩ := b
  simp at h
  rw [h]
 ·rintro rfl; rfl
theorem s9 {a b : ByteArray} {r : Bool} (h : decide (a = b) = r) (x y : Operand) (w : World) : (do eqGuard .eql 9 x y (.string a) (.string b); binOp .eql 9 (.string a) (.string b)).run Tryd.prog w = .ok (.bool r) w :=
 eq9 (by rw [ba_eq]; exact h) x y w
theorem sn9 {a b : ByteArray} {r : Bool} (h : decide (a = b) = r) (x y : Operand) (w : World) : (do eqGuard .neq 9 x y (.string a) (.string b); binOp .neq 9 (.string a) (.string b)).run Tryd.prog w = .ok (.bool (!r)) w := by
 subst h; rw [← ba_eq]; simp [go_sem]
theorem add1i {k : Int} (h0 : -9223372036854775808 ≤ k + 1) (h : k + 1 ≤ 9223372036854775807) (x y : Operand) (w : World) : (do eqGuard .add 3 x y (.int .i64 k) (.int .i64 1); binOp .add 3 (.int .i64 k) (.int .i64 1)).run Tryd.prog w = .ok (.int .i64 (k + 1)) w := by
 have e : (do eqGuard .add 3 x y (.int .i64 k) (.int .i64 1); binOp .add 3 (.int .i64 k) (.int .i64 1)).run Tryd.prog w = .ok (.int .i64 (IntKind.i64.wrap (k + 1))) w := by kernel_rfl
 have h : IntKind.i64.wrap (k + 1) = k + 1 := by rw [IntKind.wrap_i64]; omega
 rw [e, h]
theorem cR {P : Program} {g : FuncId} {args : Array Value} {w : World} {v v' : Value} (h : v = v') (c : Calls P g args w fun e w' => e = .returned v ∧ Mo w w') : Calls P g args w fun e w' => e = .returned v' ∧ Mo w w' := h ▸ c
theorem cB {P : Program} {g : FuncId} {args : Array Value} {w : World} {v v' : Bool} (h : v = v') (c : Calls P g args w fun e w' => e = .returned (.bool v) ∧ Mo w w') : Calls P g args w fun e w' => e = .returned (.bool v') ∧ Mo w w' := h ▸ c
section
variable {P : Program} {o : Oper} {n : Nat} {l : List (Nat × Value)} {w : World} {ops : Array Oper} {rest : List Oper} {Q : Exit → Act → World → Prop} {K : Act → World → Prop} {c : Code}
theorem wl_callx (g : FuncId) (xs : List Operand) (ats : Array TypeId) (args : List Value) {F : Ending → World → Prop} (ho : o.op = .call { callee := .value (.func g), args := xs.toArray, argTypes := ats }) (hx : xs.map (evl n l) = args)
  (h : ∀ args w, (callFunc g args).run P w = .ok (.enter g args) w)
  (hc : Calls P g args.toArray w F) (hg : wnt n l ops o = true) (hk : ∀ v w', F v w' → ∃ u, v = .returned u ∧ WL P ops Q rest n (ext l o.dst u) w') : WL P ops Q (o :: rest) n l w := by
 have e : (execOp (evl n l) o).run P w = .ok (.enter g args.toArray) w := by
  obtain ⟨dst, op, ty, pos, after, guard⟩ := o
  simp only at ho
  subst ho hx
  have e2 := execOp_call_go (fr n l) dst g xs.toArray ats ty pos after guard
  rw [fr_eval] at e2
  rw [e2, h]
  simp
 refine ⟨l_step hg ?_⟩
 unfold Oper.wp; rw [fr_eval, e, Oper.upon_enter]
 refine hc.mono ?_
 intro e w' hF
 obtain ⟨u, rfl, hW⟩ := hk e w' hF
 show wpList _ _ _ _ _ _
 rw [fr_put]
 exact hW.out
theorem wl_callv (g : FuncId) (f : Operand) (fs cs : Array Value) (xs : List Operand) (ats : Array TypeId) (args all : List Value) {F : Ending → World → Prop} (ho : o.op = .call { callee := .value f, args := xs.toArray, argTypes := ats }) (hf : evl n l f = .func (.func g) fs cs) (hx : xs.map (evl n l) = args)
  (hall : fs ++ args.toArray ++ cs = all.toArray)
  (h : ∀ args w, (callFunc g args).run P w = .ok (.enter g args) w)
  (hc : Calls P g all.toArray w F) (hg : wnt n l ops o = true) (hk : ∀ v w', F v w' → ∃ u, v = .returned u ∧ WL P ops Q rest n (ext l o.dst u) w') : WL P ops Q (o :: rest) n l w := by
 have e : (execOp (evl n l) o).run P w = .ok (.enter g all.toArray) w := by
  obtain ⟨dst, op, ty, pos, after, guard⟩ := o
  simp only at ho
  subst ho hx
  have e2 : execOp (evl n l) { dst, op := .call { callee := .value f, args := xs.toArray, argTypes := ats }, type := ty, pos, after, guard } = (do let d ← Deferred.ofValue (evl n l f) (xs.toArray.map (evl n l)); invoke d.target d.args) := rfl
  rw [e2, hf]
  show (do let d ← Deferred.ofValue (.func (.func g) fs cs) (xs.toArray.map (evl n l)); invoke d.target d.args).run P w = _
  have e3 : (do let d ← Deferred.ofValue (.func (.func g) fs cs) (xs.toArray.map (evl n l)); invoke d.target d.args) = callFunc g (fs ++ xs.toArray.map (evl n l) ++ cs) := rfl
  rw [e3, h, List.map_toArray, hall]
 refine ⟨l_step hg ?_⟩
 unfold Oper.wp; rw [fr_eval, e, Oper.upon_enter]
 refine hc.mono ?_
 intro e w' hF
 obtain ⟨u, rfl, hW⟩ := hk e w' hF
 show wpList _ _ _ _ _ _
 rw [fr_put]
 exact hW.out
theorem wl_bs (ty : TypeId) (m : Nat) (xs : List (Nat × Operand)) (ps : List (Nat × Value)) (cs : Array Value) (e : TypeId) (ho : o.op = .buildSlice ty m xs.toArray) (hx : xs.map (fun p => (p.1, evl n l p.2)) = ps)
  (h : ∀ w, (Instr.buildSlice ty m ps.toArray).run P w = .ok (.slice (some ⟨w.heap.size, 0, none⟩) m m) (w.alloc (.cells cs e))) (hg : wnt n l ops o = true)
  (hk : ∀ k w', w.heap.size = k → w'.heap.size = k + 1 → Mo w w' → At w' k cs.toList → WL P ops Q rest n (ext l o.dst (.slice (some ⟨k, 0, none⟩) m m)) w') : WL P ops Q (o :: rest) n l w := by
 subst hx
 refine ⟨l_step hg (o_val (.slice (some ⟨w.heap.size, 0, none⟩) m m) (w' := w.alloc (.cells cs e)) ?_ (hk _ _ rfl (by simp) ((Mo.refl _).alloc _ _) (At.new w cs e)).out)⟩
 simp [execOp, ho, h]
theorem w_rounds (N : Nat) (h : WC P c (Exit.then (Code.rounds P c Q N) Q) n l w) : WC P (Code.loop c) Q n l w := ⟨wp_loop_rounds (N + 1) h.out⟩
theorem xn_rounds {N : Nat} (h : WC P c (Exit.then (Code.rounds P c Q N) Q) n l w) : WX (Exit.then (Code.rounds P c Q (N + 1)) Q) .normal n l w := ⟨h.out⟩
end
/-! Maps from names to whole numbers, and from names to flags. -/
variable {w w' : World} {b : Nat} {al : List (ByteArray × Int)}
end Go.Proofs.YtnffhcjmpjajlaaDoor

namespace Go.Proofs.YtnffhcjmpjajlaaDoor
open Go.RowKit
theorem wnt_u {n : Nat} {l : List (Nat × Value)} {ops : Array Oper} {o : Oper} {j d : Nat} {want : Bool} (hg : o.guard = some (j, want)) (hd : (ops[j]?).bind (·.dst) = some d) (hn : Nat.blt d n = true) (hv : look l d = undef) : wnt n l ops o = false := by
 unfold wnt
 simp only [hg, hd, hn, cond_true, hv]
 cases want <;> rfl
end Go.Proofs.YtnffhcjmpjajlaaDoor

namespace Go.Proofs.YtnffhcjmpjajlaaDoor
open Go.ChangeShapes Go.WideShapes Go.ChangeAt Go.RowKit
namespace D
def SL (W : World) (n : Nat) {α : Type} (cells : α → List Value) (pa : Option Addr) (L : List α) : Prop := L.length ≤ maxLen ∧ ∀ i o, L[i]? = some o → ∃ b off, pa = some ⟨b, off, none⟩ ∧ b < W.heap.size ∧ W.rangeAt b (off + i * n) (cells o)
section
variable {H : Type} {enc : TypeId × Value → H} {W : World} {sp : Nat → Bool}
theorem cut_sl {fuel : Nat} {x : DataW H × List MemPlace} {t e : TypeId} (hu : Tryd.prog.underlying t = some (.slice e)) {n : Nat} (hn : 0 < n) (hcl : Tryd.prog.cellsOf e = n) {α : Type} (cells : α → List Value) (dflt : α) (ok : α → Prop) (hlen : ∀ y, (cells y).length = n)
  (hcut : ∀ {m : Nat} {cs : List Value} {y : DataW H × List MemPlace}, m < fuel → DataW.trod enc Tryd.prog W 0 sp true m e cs = some y → ∃ z, ok z ∧ cs = cells z) {v : Value} (h : DataW.trod enc Tryd.prog W 0 sp true fuel t [v] = some x) :
  ∃ (L : List α) (pa : Option Addr) (cap : Nat), v = .slice pa L.length cap ∧ (∀ o ∈ L, ok o) ∧ SL W n cells pa L ∧ L.length ≤ cap := by
 rcases DataW.trod_slice hu h with ⟨hcs, _⟩ | ⟨a, len, cap, elems, rest, k, rfl, hcs, _, _, hlc, hcm, hlen2, hel, _, _⟩
 ·simp only [List.cons.injEq, and_true] at hcs
  subst hcs
  exact ⟨[], none, 0, rfl, fun _ e => (by cases e), ⟨Nat.zero_le _, (fun _ _ e => by cases e)⟩, Nat.le_refl _⟩
 ·simp only [List.cons.injEq, and_true] at hcs
  subst hcs
  have first : ∀ o : α, ∃ u, (cells o)[0]? = some u := fun o => ⟨(cells o)[0]'(by rw [hlen]; exact hn), List.getElem?_eq_getElem _⟩
  have el : ∀ i, i < len → ∃ cs' y, W.cells? 0 (a.add (i * Tryd.prog.cellsOf e)) (Tryd.prog.cellsOf e) = some cs' ∧ DataW.trod enc Tryd.prog W 0 sp true k e cs' = some y := fun i hi => by
   have h1 := hel i hi
   rw [List.getElem?_eq_getElem (by omega)] at h1
   cases h2 : W.cells? 0 (a.add (i * Tryd.prog.cellsOf e)) (Tryd.prog.cellsOf e) with
   | none => rw [h2] at h1; cases h1
   | some cs' => rw [h2] at h1; exact ⟨cs', _, rfl, h1⟩
  have key : ∀ i : Nat, ∃ S : α, i < len → ok S ∧ ∃ b off, some a = some (⟨b, off, none⟩ : Addr) ∧ b < W.heap.size ∧ W.rangeAt b (off + i * n) (cells S) := by
   intro i
   by_cases hi : i < len
   ·obtain ⟨cs', y, hc, ht⟩ := el i hi
    obtain ⟨o, ho, rfl⟩ := hcut (Nat.lt_succ_self k) ht
    refine ⟨o, fun _ => ⟨ho, ?_⟩⟩
    rw [hcl] at hc
    have hb := World.cells?_block hc hn
    obtain ⟨_, _, hcell⟩ := World.cells?_some hc
    obtain ⟨b, off, spot⟩ := a
    have hs : spot = none := by
     obtain ⟨cs0, y0, hc0, ht0⟩ := el 0 (by omega)
     obtain ⟨o0, _, rfl⟩ := hcut (Nat.lt_succ_self k) ht0
     rw [hcl] at hc0
     have h0 := (World.cells?_some hc0).2.2 0 hn
     obtain ⟨u, hu0⟩ := first o0
     rw [hu0] at h0
     have := World.cell?_spot (show W.cell? (((⟨b, off, spot⟩ : Addr).add (0 * n)).add 0) = some u from h0)
     simpa [Addr.add] using this
    subst hs
    refine ⟨b, off, rfl, by simpa [Addr.add_mid] using hb, fun j v hv => ?_⟩
    have hj : j < n := by rw [← hlen o]; exact (List.getElem?_eq_some_iff.1 hv).1
    have := hcell j hj
    rw [Addr.add_mid, Addr.add_mid, hv] at this
    exact this
   ·exact ⟨dflt, fun e => absurd e hi⟩
  obtain ⟨f, hf2⟩ := Classical.skolem.1 key
  refine ⟨(List.range len).map f, some a, cap, by simp, fun o ho => ?_, ⟨by simpa using Nat.le_trans hlc hcm, fun i o e => ?_⟩, by simpa using hlc⟩
  ·obtain ⟨i, hi, rfl⟩ := List.mem_map.1 ho
   exact (hf2 i (by simpa using hi)).1
  ·have hi : i < len := by have := (List.getElem?_eq_some_iff.1 e).1; simpa using this
   rw [List.getElem?_map, List.getElem?_range hi] at e
   cases e
   exact (hf2 i hi).2
end
end D
end Go.Proofs.YtnffhcjmpjajlaaDoor

namespace Go.Proofs.YtnffhcjmpjajlaaDoor
open Go.ChangeShapes Go.WideShapes Go.ChangeAt Go.RowKit
structure Kp (w w' : World) : Prop where
 size : w.heap.size ≤ w'.heap.size
 cell : ∀ k o v, w.cell? ⟨k, o, none⟩ = some v → w'.cell? ⟨k, o, none⟩ = some v
theorem Kp.trans {a b c : World} (h : Kp a b) (k : Kp b c) : Kp a c := ⟨Nat.le_trans h.size k.size, fun x o v e => k.cell x o v (h.cell x o v e)⟩
theorem cell_lt {w : World} {k o : Nat} {v : Value} (h : w.cell? ⟨k, o, none⟩ = some v) : k < w.heap.size := by
 rcases Nat.lt_or_ge k w.heap.size with hk | hk
 ·exact hk
 ·have h2 : w.heap[k]? = none := Array.getElem?_eq_none hk
  simp [World.cell?, h2] at h
theorem Mo.kp {w w' : World} (m : Mo w w') : Kp w w' := ⟨m.size, fun k o _ e => (m.cell k o (cell_lt e)).trans e⟩
theorem Mk.kp {D : Nat → Prop} {w w' : World} (m : Mk D w w') (hD : ∀ k, D k → ∀ o, w.cell? ⟨k, o, none⟩ = none) : Kp w w' := ⟨m.size, fun k o _ e => (World.cell?_of_block (a := ⟨k, o, none⟩) (m.block k (cell_lt e) (fun d => by rw [hD k d o] at e; cases e))).trans e⟩
theorem At.kp {w w' : World} {k : Nat} {vs : List Value} (h : At w k vs) (m : Kp w w') (hf : ∀ a, w'.frozen? a = w.frozen? a) : At w' k vs := ⟨fun j v hv => m.cell _ _ _ (h.1 j v hv), fun o => (hf _).trans (h.2.1 o), Nat.lt_of_lt_of_le h.2.2 m.size⟩
namespace D
theorem rangeAt_kp {W W' : World} {b o : Nat} {cs : List Value} (h : W.rangeAt b o cs) (m : Kp W W') : W'.rangeAt b o cs := fun j v hv => m.cell _ _ _ (h j v hv)
theorem SL.kp {W W' : World} {n : Nat} {α : Type} {cells : α → List Value} {pa : Option Addr} {L : List α} (h : SL W n cells pa L) (m : Kp W W') : SL W' n cells pa L := ⟨h.1, fun i o e => by
 obtain ⟨b, off, hp, hb, hr⟩ := h.2 i o e
 exact ⟨b, off, hp, Nat.lt_of_lt_of_le hb m.size, rangeAt_kp hr m⟩⟩
section runs
variable {P : Program} {w : World} {b o : Nat} {cs : List Value}
theorem run_rowR (h : w.rangeAt b o cs) (ty : TypeId) {d : TypeDesc} (hu : P.underlying ty = some d) (hd : d.isRow = true) (hi : (P.info? ty).map (·.size) = some cs.length) :
  (Instr.loadAt ty (pt b o)).run P w = .ok (.agg cs.toArray) w := run_loadAt_mid w b o ty cs d (fun j v hv => h j v hv) hu hd hi
theorem run_partR (h : w.rangeAt b o cs) (ty : TypeId) (j n : Nat) (us : List Value) (hus : us = (cs.drop j).take n) {d : TypeDesc} (hu : P.underlying ty = some d) (hd : d.isRow = true) (hi : (P.info? ty).map (·.size) = some us.length) :
  (Instr.loadAt ty (pt b (o + j))).run P w = .ok (.agg us.toArray) w := by
 refine run_rowR (fun i v hv => ?_) ty hu hd hi
 subst hus
 rw [List.getElem?_take] at hv
 split at hv
 ·rw [List.getElem?_drop] at hv
  have := h (j + i) v hv
  rw [show o + j + i = o + (j + i) by omega]; exact this
 ·cases hv
theorem run_oneR (h : w.rangeAt b o cs) (ty : TypeId) (j : Nat) {v : Value} (hv : cs[j]? = some v) {d : TypeDesc} (hu : P.underlying ty = some d) (hd : d.isRow = false) :
  (Instr.loadAt ty (pt b (o + j))).run P w = .ok v w := by
 have hagg : (isAgg ty).run P w = .ok false w := by
  unfold isAgg
  rw [Sem.run_bind, run_underlying hu w]
  cases d <;> simp_all
 have hc := h j v hv
 simp [Instr.loadAt, Instr.sureAddr, loadVar, Sem.run_bind, hagg, hc]
end runs
structure Rw (w : World) (b o : Nat) (cs : List Value) : Prop where
 lt : b < w.heap.size
 at' : w.rangeAt b o cs
theorem Rw.kp {w w' : World} {b o : Nat} {cs : List Value} (h : Rw w b o cs) (m : Kp w w') : Rw w' b o cs := ⟨Nat.lt_of_lt_of_le h.lt m.size, rangeAt_kp h.at' m⟩
theorem Rw.mo {w w' : World} {b o : Nat} {cs : List Value} (h : Rw w b o cs) (m : Mo w w') : Rw w' b o cs := h.kp m.kp
theorem SL.rw {W : World} {n : Nat} {α : Type} {cells : α → List Value} {pa : Option Addr} {L : List α} (h : SL W n cells pa L) {i : Nat} {o : α} (e : L[i]? = some o) : ∃ b off, pa = some ⟨b, off, none⟩ ∧ Rw W b (off + i * n) (cells o) := by
 obtain ⟨b, off, hp, hb, hr⟩ := h.2 i o e
 exact ⟨b, off, hp, hb, hr⟩
end D
end Go.Proofs.YtnffhcjmpjajlaaDoor


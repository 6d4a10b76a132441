/-
  A part of the proof.
-/
import Derived.Test.YtnffhcjmpjajlaaDoorKa8
import Derived.Test.YtnffhcjmpjajlaaDoorKa7
import Derived.Test.YtnffhcjmpjajlaaDoorKa4
import Derived.Test.YtnffhcjmpjajlaaDoorKa3
import Derived.Test.YtnffhcjmpjajlaaDoorKa2
import Derived.Test.YtnffhcjmpjajlaaDoorKa1
import Derived.RegionTactic
import Derived.Test.YtnffhcjmpjajlaaDoorProg
import Derived.WalkKit
import Derived.WalkSpells
import Derived.Handy
import Derived.BigQuiet
import Derived.Deep.RegionHeld3
import Derived.Deep.MidRow
import Derived.BigCall
import Derived.ChangeKeysEq
import Derived.Shelf.Small.Bits
import Derived.Shelf.Strconv.Itoa0
import Derived.Shelf.Bits.Mul64
import Derived.Deep.CutRange
import Derived.Deep.CutBlock
import Derived.ScopeJumps
import Derived.WalkMore
import Derived.Laws.StructEq
import Derived.Lib.CutLaws
import Derived.Maps.OwnSet
import Derived.WalkArith
import Derived.StringKeys
import Derived.ProofKit
import Derived.OpenShut
import Derived.ChangeArms
import Derived.Deep.Slices
import Derived.ReadAgain
import Derived.WideKeyArgs
import Derived.Maps.AppendAt
import Derived.Lib.IndexBytes
import Derived.Shelf.Strconv.Itoa4
import Derived.Lib.AppendIntMem
import Derived.Lib.ItoaLen
import Derived.Test.YtnffhcjmpjajlaaDoorKa6
namespace Go.Proofs.YtnffhcjmpjajlaaDoor.V
open Go.RowKit
theorem exists_least {p : Nat → Prop} (h : ∃ m, p m) : ∃ m, p m ∧ ∀ k, p k → m ≤ k := by
 obtain ⟨m, hm⟩ := h
 induction m using Nat.strongRecOn with
 | ind m ih =>
  by_cases hh : ∃ k, k < m ∧ p k
  ·obtain ⟨k, hk, hp⟩ := hh; exact ih k hk hp
  ·exact ⟨m, hm, fun k hp => Nat.le_of_not_lt (fun hk => hh ⟨k, hk, hp⟩)⟩
def least (p : Nat → Prop) (m : Nat) : Prop := p m ∧ ∀ k, p k → m ≤ k
theorem least_ok {p : Nat → Prop} (h : ∃ m, p m) : least p (Classical.epsilon (least p)) := Classical.epsilon_spec (exists_least h)
structure WC (P : Program) (c : Code) (Q : Exit → Act → World → Prop) (n : Nat) (l : List (Nat × Value)) (w : World) : Prop where
 out : c.wp P Q (fr n l) w
structure WL (P : Program) (ops : Array Oper) (Q : Exit → Act → World → Prop) (r : List Oper) (n : Nat) (l : List (Nat × Value)) (w : World) : Prop where
 out : wpList P ops Q r (fr n l) w
structure WX (Q : Exit → Act → World → Prop) (e : Exit) (n : Nat) (l : List (Nat × Value)) (w : World) : Prop where
 out : Q e (fr n l) w
structure WO (P : Program) (o : Oper) (n : Nat) (l : List (Nat × Value)) (w : World) (K : Act → World → Prop) (Q : Exit → Act → World → Prop) : Prop where
 out : o.wp P (fr n l) w K Q
section
variable {P : Program} {o : Oper} {n : Nat} {l : List (Nat × Value)} {w : World} {ops : Array Oper} {rest : List Oper} {Q : Exit → Act → World → Prop} {K : Act → World → Prop}
theorem w_enter {f : FuncId} {fn : Func} {c : Code} {args : Array Value} {R : Ending → World → Prop} (n : Nat) (hf : P.funcs[f]? = some fn) (hn : fn.ntmps = n) (hb : fn.body = some c)
  (ha : Nat.ble args.size n = true) (h : WC P c (bodyPost P fn R) n (argl 0 args.toList) w) : Calls P f args w R := f_enter n hf hn hb ha h.out
theorem w_seq {x y : Code} (h : WC P x (Exit.then (y.wp P Q) Q) n l w) : WC P (Code.seq x y) Q n l w := ⟨wp_seq h.out⟩
theorem w_block {id : Nat} {c : Code} (h : WC P c (Exit.inBlock id Q) n l w) : WC P (Code.block id c) Q n l w := ⟨wp_block h.out⟩
theorem w_skip (h : WX Q .normal n l w) : WC P .skip Q n l w := ⟨wp_skip h.out⟩
theorem w_ret (h : WX Q .ret n l w) : WC P .ret Q n l w := ⟨wp_ret h.out⟩
theorem w_exit {id : Nat} (h : WX Q (.exit id) n l w) : WC P (.exit id) Q n l w := ⟨wp_exit h.out⟩
theorem w_condT {c : Operand} {x y : Code} (hc : evl n l c = .bool true) (h : WC P x Q n l w) : WC P (Code.cond c x y) Q n l w := ⟨c_cond true hc h.out⟩
theorem w_condF {c : Operand} {x y : Code} (hc : evl n l c = .bool false) (h : WC P y Q n l w) : WC P (Code.cond c x y) Q n l w := ⟨c_cond false hc h.out⟩
theorem w_reg {id : Nat} {ol : List Oper} (h : WL P ol.toArray Q ol n l w) : WC P (Code.region id ol.toArray false) Q n l w := ⟨wp_region_lit h.out⟩
theorem w_nil (h : WX Q .normal n l w) : WL P ops Q [] n l w := ⟨wpList_nil h.out⟩
theorem xn_then {y : Code} {Q' : Exit → Act → World → Prop} (h : WC P y Q n l w) : WX (Exit.then (y.wp P Q) Q') .normal n l w := ⟨n_then h.out⟩
theorem xn_blk {id : Nat} (h : WX Q .normal n l w) : WX (Exit.inBlock id Q) .normal n l w := ⟨n_blk h.out⟩
theorem xx_then {next : Act → World → Prop} {id : Nat} (h : WX Q (.exit id) n l w) : WX (Exit.then next Q) (.exit id) n l w := ⟨x_then h.out⟩
theorem xx_blk {id : Nat} (h : WX Q .normal n l w) : WX (Exit.inBlock id Q) (.exit id) n l w := ⟨x_blk h.out⟩
theorem xr_then {next : Act → World → Prop} (h : WX Q .ret n l w) : WX (Exit.then next Q) .ret n l w := ⟨r_then h.out⟩
theorem xr_blk {id : Nat} (h : WX Q .ret n l w) : WX (Exit.inBlock id Q) .ret n l w := ⟨r_blk h.out⟩
theorem w_ret1 {fn : Func} {R : Ending → World → Prop} (x : ResultVar) (v : Value) (hf : fn.results = #[x]) (h : resv n l P w v x) (hR : R (.returned v) w) : WX (bodyPost P fn R) .ret n l w := ⟨c_ret1 x v hf h hR⟩
theorem w_ret2 {fn : Func} {R : Ending → World → Prop} (x y : ResultVar) (v u : Value) (hf : fn.results = #[x, y]) (h : resv n l P w v x) (g : resv n l P w u y) (hR : R (.returned (.tuple #[v, u])) w) : WX (bodyPost P fn R) .ret n l w := ⟨c_ret2 x y v u hf h g hR⟩
theorem w_loop {c : Code} (I : Nat → List (Nat × Value) → World → Prop) (m : Nat) (h0 : I m l w)
  (round : ∀ m l w, I m l w → WC P c (Exit.then (fun a w' => ∃ m' l', m' < m ∧ a = fr n l' ∧ I m' l' w') Q) n l w) : WC P (Code.loop c) Q n l w := by
 refine ⟨?_⟩
 have key : ∀ m : Nat, ∀ l w, I m l w → (Code.loop c).wp P Q (fr n l) w := by
  intro m0 l0 w0 hI0
  refine wp_loop (fun a w => ∃ m l, a = fr n l ∧ I m l w) (fun a w => Classical.epsilon (least (fun m => ∃ l, a = fr n l ∧ I m l w))) ⟨m0, l0, rfl, hI0⟩ ?_
  rintro a w ⟨m, l, rfl, hI⟩
  obtain ⟨l2, e2, hI2⟩ := (least_ok (p := fun m => ∃ l', fr n l = fr n l' ∧ I m l' w) ⟨m, l, rfl, hI⟩).1
  rw [e2]
  refine Code.wp_mono ?_ (round _ l2 w hI2).out
  intro e a' w' hq
  cases e with
  | normal =>
   obtain ⟨m', l', hlt, rfl, hI'⟩ := hq
   refine ⟨⟨m', l', rfl, hI'⟩, Nat.lt_of_le_of_lt ((least_ok (p := fun m => ∃ l'', fr n l' = fr n l'' ∧ I m l'' w') ⟨m', l', rfl, hI'⟩).2 m' ⟨l', rfl, hI'⟩) ?_⟩
   rw [← e2]; exact hlt
  | _ => exact hq
 exact key m l w h0
theorem xn_loop {I : Nat → List (Nat × Value) → World → Prop} {m : Nat} (m' : Nat) (hlt : m' < m) (h : I m' l w) : WX (Exit.then (fun a w' => ∃ m' l', m' < m ∧ a = fr n l' ∧ I m' l' w') Q) .normal n l w := ⟨⟨m', l, hlt, rfl, h⟩⟩
theorem wl_val (v : Value) (h : (execOp (evl n l) o).run P w = .ok (.value v) w) (hg : wnt n l ops o = true) (hk : WL P ops Q rest n (ext l o.dst v) w) : WL P ops Q (o :: rest) n l w :=
 ⟨l_step hg (o_val v h hk.out)⟩
theorem wo_val (v : Value) (h : (execOp (evl n l) o).run P w = .ok (.value v) w) (hk : K (fr n (ext l o.dst v)) w) : WO P o n l w K Q := ⟨o_val v h hk⟩
theorem wl_mv (x : Operand) (p : Value) (ho : ∀ ρ, execOp ρ o = pure (.value (ρ x))) (hx : evl n l x = p) (hg : wnt n l ops o = true) (hk : WL P ops Q rest n (ext l o.dst p) w) : WL P ops Q (o :: rest) n l w :=
 ⟨l_step hg (o_mv x p ho hx hk.out)⟩
theorem wo_mv (x : Operand) (p : Value) (ho : ∀ ρ, execOp ρ o = pure (.value (ρ x))) (hx : evl n l x = p) (hk : K (fr n (ext l o.dst p)) w) : WO P o n l w K Q := ⟨o_mv x p ho hx hk⟩
theorem wl_un (F : Value → Sem Value) (x : Operand) (p v : Value) (ho : ∀ ρ, execOp ρ o = (do pure (.value (← F (ρ x))))) (hx : evl n l x = p) (h : (F p).run P w = .ok v w) (hg : wnt n l ops o = true) (hk : WL P ops Q rest n (ext l o.dst v) w) : WL P ops Q (o :: rest) n l w :=
 ⟨l_step hg (o_un F x p v ho hx h hk.out)⟩
theorem wo_un (F : Value → Sem Value) (x : Operand) (p v : Value) (ho : ∀ ρ, execOp ρ o = (do pure (.value (← F (ρ x))))) (hx : evl n l x = p) (h : (F p).run P w = .ok v w) (hk : K (fr n (ext l o.dst v)) w) : WO P o n l w K Q := ⟨o_un F x p v ho hx h hk⟩
theorem wl_bin (F : Value → Value → Sem Value) (x y : Operand) (p q v : Value) (ho : ∀ ρ, execOp ρ o = (do pure (.value (← F (ρ x) (ρ y))))) (hx : evl n l x = p) (hy : evl n l y = q) (h : (F p q).run P w = .ok v w) (hg : wnt n l ops o = true) (hk : WL P ops Q rest n (ext l o.dst v) w) : WL P ops Q (o :: rest) n l w :=
 ⟨l_step hg (o_bin F x y p q v ho hx hy h hk.out)⟩
theorem wo_bin (F : Value → Value → Sem Value) (x y : Operand) (p q v : Value) (ho : ∀ ρ, execOp ρ o = (do pure (.value (← F (ρ x) (ρ y))))) (hx : evl n l x = p) (hy : evl n l y = q) (h : (F p q).run P w = .ok v w) (hk : K (fr n (ext l o.dst v)) w) : WO P o n l w K Q := ⟨o_bin F x y p q v ho hx hy h hk⟩
theorem wl_pick (c x y : Operand) (t : Bool) (v : Value) (ho : ∀ ρ, execOp ρ o = (do pure (.value (if ← asBool (ρ c) then ρ x else ρ y)))) (hc : evl n l c = .bool t) (hv : evl n l (bif t then x else y) = v) (hg : wnt n l ops o = true) (hk : WL P ops Q rest n (ext l o.dst v) w) : WL P ops Q (o :: rest) n l w :=
 ⟨l_step hg (o_pick c x y t v ho hc hv hk.out)⟩
theorem wo_pick (c x y : Operand) (t : Bool) (v : Value) (ho : ∀ ρ, execOp ρ o = (do pure (.value (if ← asBool (ρ c) then ρ x else ρ y)))) (hc : evl n l c = .bool t) (hv : evl n l (bif t then x else y) = v) (hk : K (fr n (ext l o.dst v)) w) : WO P o n l w K Q := ⟨o_pick c x y t v ho hc hv hk⟩
theorem wl_build (t : TypeId) (xs : List (Nat × Operand)) (ps : List (Nat × Value)) (v : Value) (ho : o.op = .build t xs.toArray) (hx : xs.map (fun p => (p.1, evl n l p.2)) = ps) (h : (Instr.build t ps.toArray).run P w = .ok v w) (hg : wnt n l ops o = true) (hk : WL P ops Q rest n (ext l o.dst v) w) : WL P ops Q (o :: rest) n l w :=
 ⟨l_step hg (o_build t xs ps v ho hx h hk.out)⟩
theorem wl_load (ty : TypeId) (x : Operand) (p v : Value) (ho : o.op = .load ty x) (hx : evl n l x = p) (h : (Instr.loadAt ty p).run P w = .ok v w) (hg : wnt n l ops o = true) (hk : WL P ops Q rest n (ext l o.dst v) w) : WL P ops Q (o :: rest) n l w :=
 ⟨l_step hg (o_load ty x p v ho hx h hk.out)⟩
theorem wo_load (ty : TypeId) (x : Operand) (p v : Value) (ho : o.op = .load ty x) (hx : evl n l x = p) (h : (Instr.loadAt ty p).run P w = .ok v w) (hk : K (fr n (ext l o.dst v)) w) : WO P o n l w K Q := ⟨o_load ty x p v ho hx h hk⟩
theorem wl_m (x : Operand) (p : Value) (hk : WL P ops Q rest n (ext l o.dst p) w) (ho : ∀ ρ, execOp ρ o = pure (.value (ρ x)) := by exact fun _ => rfl) (hx : evl n l x = p := by rfl) (hg : wnt n l ops o = true := by rfl) : WL P ops Q (o :: rest) n l w := wl_mv x p ho hx hg hk
theorem wl_b (b : BinOp) (t : TypeId) (x y : Operand) (p q v : Value) (h : (do eqGuard b t x y p q; binOp b t p q).run P w = .ok v w) (hk : WL P ops Q rest n (ext l o.dst v) w) (ho : ∀ ρ, execOp ρ o = (do pure (.value (← (do eqGuard b t x y (ρ x) (ρ y); binOp b t (ρ x) (ρ y))))) := by exact fun _ => rfl) (hx : evl n l x = p := by rfl) (hy : evl n l y = q := by rfl) (hg : wnt n l ops o = true := by rfl) : WL P ops Q (o :: rest) n l w := wl_bin (fun u z => do eqGuard b t x y u z; binOp b t u z) x y p q v ho hx hy h hg hk
theorem wl_f (t : TypeId) (i : Nat) (x : Operand) (p v : Value) (hk : WL P ops Q rest n (ext l o.dst v) w) (h : (Instr.fieldAt t p i).run P w = .ok v w := by kernel_rfl) (ho : ∀ ρ, execOp ρ o = (do pure (.value (← Instr.fieldAt t (ρ x) i))) := by exact fun _ => rfl) (hx : evl n l x = p := by rfl) (hg : wnt n l ops o = true := by rfl) : WL P ops Q (o :: rest) n l w := wl_un (fun v => Instr.fieldAt t v i) x p v ho hx h hg hk
theorem wl_l (t : TypeId) (x : Operand) (p v : Value) (h : (Instr.loadAt t p).run P w = .ok v w) (hk : WL P ops Q rest n (ext l o.dst v) w) (ho : o.op = .load t x := by rfl) (hx : evl n l x = p := by rfl) (hg : wnt n l ops o = true := by rfl) : WL P ops Q (o :: rest) n l w := wl_load t x p v ho hx h hg hk
theorem wl_alloc (ty : TypeId) (zs : Array Value) (ho : o.op = .alloc ty) (h : ∀ w, (Instr.alloc ty true (.tuple #[])).run P w = .ok (pt w.heap.size 0) (w.alloc (.cells zs ty))) (hg : wnt n l ops o = true) (hk : ∀ k w', w.heap.size = k → w'.heap.size = k + 1 → Mw w w' → At w' k zs.toList → WL P ops Q rest n (ext l o.dst (pt k 0)) w') : WL P ops Q (o :: rest) n l w :=
 ⟨l_step hg (o_alloc ty zs ho h (fun k w' a b c d => (hk k w' a b c d).out))⟩
theorem wl_box (ty : TypeId) (x : Operand) (v : Value) (cs : Array Value) (ho : o.op = .box ty x) (hx : evl n l x = v) (h : ∀ w, (Instr.box ty v).run P w = .ok (pt w.heap.size 0) (w.alloc (.cells cs ty))) (hg : wnt n l ops o = true) (hk : ∀ k w', w.heap.size = k → w'.heap.size = k + 1 → Mw w w' → At w' k cs.toList → WL P ops Q rest n (ext l o.dst (pt k 0)) w') : WL P ops Q (o :: rest) n l w :=
 ⟨l_step hg (o_box ty x v cs ho hx h (fun k w' a b c d => (hk k w' a b c d).out))⟩
theorem wl_call (g : FuncId) (xs : List Operand) (ats : Array TypeId) (args : List Value) (v : Value) (ho : o.op = .call { callee := .value (.func g), args := xs.toArray, argTypes := ats }) (hx : xs.map (evl n l) = args) (h : ∀ args w, (callFunc g args).run P w = .ok (.enter g args) w) (hc : Calls P g args.toArray w fun e w' => e = .returned v ∧ Mw w w') (hg : wnt n l ops o = true) (hk : ∀ w', Mw w w' → WL P ops Q rest n (ext l o.dst v) w') : WL P ops Q (o :: rest) n l w :=
 ⟨l_step hg (o_call g xs ats args v ho hx h hc (fun w' m => (hk w' m).out))⟩
theorem wo_call (g : FuncId) (xs : List Operand) (ats : Array TypeId) (args : List Value) (v : Value) (ho : o.op = .call { callee := .value (.func g), args := xs.toArray, argTypes := ats }) (hx : xs.map (evl n l) = args) (h : ∀ args w, (callFunc g args).run P w = .ok (.enter g args) w) (hc : Calls P g args.toArray w fun e w' => e = .returned v ∧ Mw w w') (hk : ∀ w', Mw w w' → K (fr n (ext l o.dst v)) w') : WO P o n l w K Q := ⟨o_call g xs ats args v ho hx h hc (fun w' m => (hk w' m))⟩
theorem wl_skip (hg : wnt n l ops o = false) (h : WL P ops Q rest n (ext l o.dst undef) w) : WL P ops Q (o :: rest) n l w := ⟨l_skip hg h.out⟩
theorem wl_st (ty : TypeId) (x y : Operand) (k off : Nat) (us : Array Value) (vs vs' : List Value) (hA : At w k vs) (ho : o.op = .store ty x y) (hd : o.dst = none) (hx : evl n l x = pt k off) (hy : evl n l y = .agg us)
  (hl : Nat.ble (off + us.size) vs.length = true) (hi : (P.info? ty).map (·.size) = some us.size) (h1 : us.toList.all (·.oneCell') = true) (hvs : vs' = vs.take off ++ us.toList ++ vs.drop (off + us.toList.length)) (hg : wnt n l ops o = true)
  (hk : ∀ w', St k w w' → At w' k vs' → WL P ops Q rest n l w') : WL P ops Q (o :: rest) n l w :=
 ⟨l_step hg (o_st ty x y k off us vs vs' hA ho hd hx hy hl hi h1 hvs (fun w' a b => (hk w' a b).out))⟩
theorem wl_st1 (ty : TypeId) (x y : Operand) (k off : Nat) (v : Value) (vs vs' : List Value) (hA : At w k vs) (ho : o.op = .store ty x y) (hd : o.dst = none) (hx : evl n l x = pt k off) (hy : evl n l y = v)
  (hl : Nat.blt off vs.length = true) (hi : (P.info? ty).map (·.size) = some 1) (hv : v.cells = #[v]) (h1 : v.oneCell' = true) (hvs : vs' = vs.take off ++ [v] ++ vs.drop (off + 1)) (hg : wnt n l ops o = true)
  (hk : ∀ w', St k w w' → At w' k vs' → WL P ops Q rest n l w') : WL P ops Q (o :: rest) n l w :=
 ⟨l_step hg (o_st1 ty x y k off v vs vs' hA ho hd hx hy hl hi hv h1 hvs (fun w' a b => (hk w' a b).out))⟩
structure Go1 (P : Program) (ops : List Oper) (Q : Exit → Act → World → Prop) (n : Nat) (l : List (Nat × Value)) (w : World) (K : Act → World → Prop) (o : Oper) : Prop where
 out : (wnt n l ops.toArray o = true ∧ WO P o n l w K Q) ∨ (wnt n l ops.toArray o = false ∧ K (fr n (ext l o.dst undef)) w)
theorem go_run {ol : List Oper} (hg : wnt n l ol.toArray o = true) (h : WO P o n l w K Q) : Go1 P ol Q n l w K o := ⟨Or.inl ⟨hg, h⟩⟩
theorem go_pass {ol : List Oper} (hg : wnt n l ol.toArray o = false) (h : K (fr n (ext l o.dst undef)) w) : Go1 P ol Q n l w K o := ⟨Or.inr ⟨hg, h⟩⟩
structure OgW (P : Program) (ops : List Oper) (Q : Exit → Act → World → Prop) (n : Nat) (l : List (Nat × Value)) (m : Nat) (W : World) (sp : List Sp) (i : Nat) (o : Oper) : Prop where
 out : ∀ f w, Mw W w → (∀ j, depb o j = true → spDen W.heap.size (spAt sp j) (f j) w) → ∀ K : Act → World → Prop,
  (match spAt sp i with
   | .inl v => ∀ w', Mw w w' → K (fr n (ext (asg f 0 (ops.take m) l) o.dst v)) w'
   | .inr zs => ∀ k w', w.heap.size = k → w'.heap.size = k + 1 → Mw w w' → At w' k zs → K (fr n (ext (asg f 0 (ops.take m) l) o.dst (pt k 0))) w') →
  Go1 P ops Q n (asg f 0 (ops.take m) l) w K o
theorem og_eq {ol : List Oper} {m : Nat} {W : World} {sp : List Sp} {i : Nat} (v : Value) (hs : spAt sp i = .inl v)
  (h : ∀ f w, Mw W w → (∀ j, depb o j = true → spDen W.heap.size (spAt sp j) (f j) w) → ∀ K : Act → World → Prop, (∀ w', Mw w w' → K (fr n (ext (asg f 0 (ol.take m) l) o.dst v)) w') → Go1 P ol Q n (asg f 0 (ol.take m) l) w K o) : OgW P ol Q n l m W sp i o :=
 ⟨fun f w hm hd K hK => h f w hm hd K (by rw [hs] at hK; exact hK)⟩
theorem ea_nil {F : Nat → Oper → Prop} {i : Nat} : Each F i [] := trivial
theorem ea_cons {F : Nat → Oper → Prop} {i : Nat} {o : Oper} {r : List Oper} (h : F i o) (k : Each F (i + 1) r) : Each F i (o :: r) := ⟨h, k⟩
def slo (n : Nat) (l : List (Nat × Value)) (ops : List Oper) (i : Nat) : Value :=
 match (ops[i]?).bind (·.dst) with
 | some d => bif Nat.blt d n then look l d else undef
 | none => undef
theorem slo_eq (ops : List Oper) : slots (fr n l) ops.toArray = slo n l ops := by
 funext i
 unfold slots slo
 simp only [List.getElem?_toArray]
 cases (ops[i]?).bind (·.dst) with
 | none => rfl
 | some d => exact fr_getD n l d
def isPt : Value → Bool
 | .pointer (some _) => true
 | _ => false
theorem Ds.start {sp : List Sp} {f : Nat → Value} (h : (List.range sp.length).all (fun j => !spNew (spAt sp j) || !isPt (f j)) = true) : Ds sp f w := by
 have hh : ∀ j, spNew (spAt sp j) = true → ∀ k, f j ≠ pt k 0 := fun j hj k e => by
  rcases Nat.lt_or_ge j sp.length with hl | hl
  ·have := List.all_eq_true.1 h j (List.mem_range.2 hl)
   simp [hj, e, isPt] at this
  ·unfold spAt at hj; rw [List.getElem?_eq_none hl] at hj; cases hj
 exact ⟨fun j hj k hk => (hh j hj k hk).elim, fun i j hi _ _ k hk => (hh i hi k hk).elim⟩
theorem late_nil {ol : List Oper} {m : Nat} {sp : List Sp} : ∀ i, i ∈ ([] : List Nat) → LateO P ol Q n l m sp i := fun i h => absurd h (by simp)
theorem w_any {id : Nat} {ol : List Oper} (m : Nat) (sp : List Sp) (fs : List Nat) (hm : P.follows .mixedOrders = true)
  (hb : edgesBack .any ol.toArray = true) (hd : dstsApart (ol.take m) = true) (hc : chainB ol m fs = true) (hl : Nat.ble m ol.length = true) (hf : floatB ol m fs = true) (hns : Region.noSelect ol.toArray = true)
  (hlate : ∀ i, i ∈ fs → LateO P ol Q n l m sp i)
  (hD : Ds sp (slo n l (ol.take m)) w)
  (hs : Each (OgW P ol Q n l m w sp) 0 (ol.take m))
  (hend : ∀ kf w', Mw w w' → (∀ i zs, Nat.blt i m = true → spAt sp i = .inr zs → w.heap.size ≤ kf i ∧ At w' (kf i) zs) → (∀ i j, Nat.blt i m = true → Nat.blt j m = true → spNew (spAt sp i) = true → spNew (spAt sp j) = true → i ≠ j → kf i ≠ kf j) →
   WL P ol.toArray Q (ol.drop m) n (asg (spv sp kf) 0 (ol.take m) l) w') : WC P (Code.region id ol.toArray true) Q n l w := by
 refine ⟨r_any m sp fs hm hb hd hc hl hf hns hlate (by rw [slo_eq]; exact hD) (Each.mono ?_ _ 0 hs) (fun kf w' a b c => (hend kf w' a b c).out)⟩
 intro i o h f w' hmo hdep K hK
 rcases (h.out f w' hmo hdep K hK).out with ⟨hg, h⟩ | ⟨hg, h⟩
 ·exact ct hg h.out
 ·exact cf hg h
end
end Go.Proofs.YtnffhcjmpjajlaaDoor.V

namespace Go.Proofs.YtnffhcjmpjajlaaDoor
open Go.RowKit D
theorem cat9 {a b : ByteArray} (h : a.size + b.size ≤ 9223372036854775807) (x y : Operand) (w : World) : (do eqGuard .add 9 x y (.string a) (.string b); binOp .add 9 (.string a) (.string b)).run Tryd.prog w = .ok (.string (a ++ b)) w := by
 rw [binOp_string_add]
 have e : (eqGuard .add 9 x y (.string a) (.string b)).run Tryd.prog w = .ok () w := by kernel_rfl
 rw [Sem.run_bind, e, Result.andThen_ok, run_string_add_sum w a b h]
theorem par_ck {l : List S5} {r : Ro} (h : ckR l r = 0) (h0 : ¬ r.s = 0) : ckR l (parU l r) = 0 := by
 obtain ⟨hsn, a0, a1, hi⟩ := ck_0 h
 obtain ⟨y, hy⟩ := get_of_lt (show r.s.toNat < l.length by omega)
 obtain ⟨p, hp, p0, p1, hd, hd2, hd4⟩ := pr_at hsn hy (by omega)
 rw [dpA_at hy] at hi
 have e : parU l r = ⟨y.pr, (setR y.dp r 0).a, (setR y.dp r 0).b, (setR y.dp r 0).c⟩ := by unfold parU; rw [dpA_at hy, prA_at hy]
 have hlp := lt_of_get hp
 rw [e]
 refine ck_yes (y := p) hsn p0 (by show y.pr < _; omega) hp ?_
 have hpd : p.dp = y.dp - 1 := by omega
 unfold ids at hi ⊢
 simp only [Bool.and_eq_true] at hi ⊢
 obtain ⟨i0, i1, i2⟩ := hi
 have hc : y.dp = 2 ∨ y.dp = 3 ∨ y.dp = 4 := by omega
 rcases hc with q | q | q <;> (rw [hpd, q]; rw [q] at i0 i1 i2; simp [idu, setR] at i0 i1 i2 ⊢) <;> simp_all
theorem par_v' {l : List S5} {r : Ro} (h : ckR l r = 0) (h0 : ¬ r.s = 0) : parO l r = true := by unfold parO; simp [h, h0]
def seg (l : List S5) (r : Ro) : ByteArray := ((⟨#[47]⟩ ++ (match l[r.s.toNat]? with | some y => y.nm | none => ⟨#[]⟩)) ++ ⟨#[58]⟩) ++ ⟨(Lib.itoa (idA l r)).toArray⟩
def txN (l : List S5) : Nat → Ro → ByteArray → ByteArray
 | 0, _, b => b
 | n + 1, r, b => if r.s = 0 then b else txN l n (parR l r) (seg l r ++ b)
def txW (l : List S5) (r : Ro) : ByteArray := txN l r.s.toNat r ⟨#[]⟩
def txR (l : List S5) (r : Ro) : ByteArray := if ckR l r = 0 then (if txW l r = ⟨#[]⟩ then ⟨#[47]⟩ else txW l r) else ⟨#[63]⟩
theorem txN_fuel {l : List S5} : ∀ (n m : Nat) (r : Ro) (b : ByteArray), ckR l r = 0 → r.s.toNat ≤ n → r.s.toNat ≤ m → txN l n r b = txN l m r b
 | 0, 0, _, _, _, _, _ => rfl
 | 0, m + 1, r, b, h, h1, _ => by
  obtain ⟨_, a, _⟩ := ck_0 h
  rw [txN, txN, if_pos (by omega)]
 | n + 1, 0, r, b, h, _, h1 => by
  obtain ⟨_, a, _⟩ := ck_0 h
  rw [txN, txN, if_pos (by omega)]
 | n + 1, m + 1, r, b, h, h1, h2 => by
  rw [txN, txN]
  split
  ·rfl
  next e =>
   have hp := (par_v' h e)
   have q := par_t hp
   rw [par_u hp]
   exact txN_fuel n m _ _ (par_ck h e) (by omega) (by omega)
theorem tx_up {l : List S5} {r : Ro} {b : ByteArray} (h : ckR l r = 0) (h0 : ¬ r.s = 0) : txN l r.s.toNat r b = txN l (parU l r).s.toNat (parU l r) (seg l r ++ b) := by
 have hp := par_v' h h0
 have q := par_t hp
 obtain ⟨k, hk⟩ : ∃ k, r.s.toNat = k + 1 := ⟨r.s.toNat - 1, by omega⟩
 rw [hk, txN, if_neg h0, par_u hp]
 exact txN_fuel _ _ _ _ (par_ck h h0) (by omega) (by omega)
abbrev TB (w : World) : Prop := Lib.TabIs Tryd.prog w "internal/strconv.uint64pow10" .u64 Lib.pow10Tab
namespace V
theorem Mw.kp {w w' : World} (m : Mw w w') : Kp w w' := ⟨m.size, fun k o _ e => (m.cell k o (cell_lt e)).trans e⟩
end V
theorem D.Rw.mw {w w' : World} {b o : Nat} {cs : List Value} (h : Rw w b o cs) (m : V.Mw w w') : Rw w' b o cs := h.kp m.kp
theorem LL.mw {W W' : World} {pl : Option Addr} {l : List S5} (h : LL W pl l) (m : V.Mw W W') : LL W' pl l := h.kp m.kp
theorem TB.mw {w w' : World} (h : TB w) (m : V.Mw w w') : TB w' := by
 have hg : ∃ g, Tryd.prog.globalNamed "internal/strconv.uint64pow10" = some g := Option.isSome_iff_exists.1 (by kernel_rfl)
 obtain ⟨g, hg⟩ := hg
 unfold TB Lib.TabIs World.var? at h ⊢
 rw [hg] at h ⊢
 simp only [Option.bind_some] at h ⊢
 have hlt : g < w.heap.size := by
  apply Classical.byContradiction
  intro q
  have : w.heap[g]? = none := Array.getElem?_eq_none (by omega)
  rw [this] at h; cases h
 rw [show w'.heap[g]? = w.heap[g]? from Below.block m g hlt]
 exact h
theorem fmt_n {n : Int} {w : World} (h0 : -9223372036854775808 ≤ n) (h1 : n ≤ 9223372036854775807) (hT : TB w) : Calls Tryd.prog 35 #[.int .i64 n, .int .i64 10] w fun e w' => e = .returned (.string ⟨(Lib.itoa n).toArray⟩) ∧ V.Mw w w' :=
 (Tryd.strconv_FormatInt_10 n h0 h1 w hT).mono (fun e w' h => ⟨h.1, by obtain ⟨k, os, hw⟩ := h.2; rw [hw]; exact Go.Lib.below_grow _ w (Nat.le_refl _) k os⟩)
theorem id_bd {l : List S5} {r : Ro} (h : ckR l r = 0) (h0 : ¬ r.s = 0) : 1 ≤ idA l r ∧ idA l r ≤ 9007199254740992 := by
 obtain ⟨hsn, a0, a1, hi⟩ := ck_0 h
 obtain ⟨y, hy⟩ := get_of_lt (show r.s.toNat < l.length by omega)
 obtain ⟨p, hp, p0, p1, hd, hd2, hd4⟩ := pr_at hsn hy (by omega)
 rw [dpA_at hy] at hi
 rw [id_v h h0 hy]
 unfold ids at hi
 simp only [Bool.and_eq_true] at hi
 obtain ⟨i0, i1, i2⟩ := hi
 have hc : y.dp = 2 ∨ y.dp = 3 ∨ y.dp = 4 := by omega
 rcases hc with q | q | q <;> (rw [q] at i0 i1 i2 ⊢; simp [idu, idk, idR] at i0 i1 i2 ⊢; omega)
end Go.Proofs.YtnffhcjmpjajlaaDoor

namespace Go.Proofs.YtnffhcjmpjajlaaDoor.V
open Go.RowKit D
def catB (a b : ByteArray) : ByteArray := a ++ b
theorem catc {a b : ByteArray} (h : a.size + b.size ≤ 9223372036854775807) (x y : Operand) (w : World) : (do eqGuard .add 9 x y (.string a) (.string b); binOp .add 9 (.string a) (.string b)).run Tryd.prog w = .ok (.string (catB a b)) w := cat9 h x y w
theorem itz {l : List S5} {r : Ro} (h : ckR l r = 0) (h0 : ¬ r.s = 0) : (⟨(Lib.itoa (idA l r)).toArray⟩ : ByteArray).size ≤ 21 := by
 have b := id_bd h h0
 have := Lib.itoa_length_le (idA l r) (by omega) (by omega)
 show (Lib.itoa (idA l r)).toArray.size ≤ 21
 simpa using this
theorem seg_at {l : List S5} {r : Ro} {y : S5} (hy : l[r.s.toNat]? = some y) : seg l r = catB (catB (catB ⟨#[47]⟩ y.nm) ⟨#[58]⟩) ⟨(Lib.itoa (idA l r)).toArray⟩ := by unfold seg catB; rw [hy]
theorem seg_cat {l : List S5} {r : Ro} {y : S5} (b : ByteArray) (hy : l[r.s.toNat]? = some y) : seg l r ++ b = catB (catB (catB (catB ⟨#[47]⟩ y.nm) ⟨#[58]⟩) ⟨(Lib.itoa (idA l r)).toArray⟩) b := by rw [seg_at hy]; rfl
theorem s47 : (⟨#[47]⟩ : ByteArray).size = 1 := rfl
theorem s58 : (⟨#[58]⟩ : ByteArray).size = 1 := rfl
theorem szn {a b c : ByteArray} {d : Int} (h : (c.size : Int) + d * 200000000000000 ≤ 1000000000000000) (ha : a.size ≤ 140737488355328) (hb : b.size ≤ 21) : ((catB (catB (catB (catB ⟨#[47]⟩ a) ⟨#[58]⟩) b) c).size : Int) + (d - 1) * 200000000000000 ≤ 1000000000000000 := by
 unfold catB; simp only [ByteArray.size_append, s47, s58]; omega
theorem s46 : (⟨#[46]⟩ : ByteArray).size = 1 := rfl
theorem tx_sz {l : List S5} {r : Ro} (h : ckR l r = 0) : ((⟨#[]⟩ : ByteArray).size : Int) + dpA l r.s.toNat * 200000000000000 ≤ 1000000000000000 := by
 obtain ⟨hsn, a0, a1, _⟩ := ck_0 h
 obtain ⟨y, hy⟩ := get_of_lt (show r.s.toNat < l.length by omega)
 have := dp_at hsn hy
 rw [dpA_at hy, show (⟨#[]⟩ : ByteArray).size = 0 from rfl]
 omega
theorem par_dp {l : List S5} {r : Ro} (h : ckR l r = 0) (h0 : ¬ r.s = 0) : dpA l (parU l r).s.toNat = dpA l r.s.toNat - 1 := by
 obtain ⟨hsn, a0, a1, _⟩ := ck_0 h
 obtain ⟨y, hy⟩ := get_of_lt (show r.s.toNat < l.length by omega)
 obtain ⟨p, hp, p0, p1, hd, hd2, hd4⟩ := pr_at hsn hy (by omega)
 have e : (parU l r).s = y.pr := by show prA l r.s.toNat = y.pr; exact prA_at hy
 rw [e, dpA_at hp, dpA_at hy]
 omega
end Go.Proofs.YtnffhcjmpjajlaaDoor.V

namespace Go.Proofs.YtnffhcjmpjajlaaDoor
open Go.RowKit D
def bt (s : ByteArray) (k : Nat) : Int := if h : k < s.size then (s[k].toNat : Int) else 0
theorem bt_in {s : ByteArray} {k : Nat} (h : k < s.size) : bt s k = (s[k].toNat : Int) := dif_pos h
theorem bt_bd (s : ByteArray) (k : Nat) : 0 ≤ bt s k ∧ bt s k ≤ 255 := by
 unfold bt
 split
 ·have := s[k].toNat_lt; omega
 ·omega
theorem idx_b {s : ByteArray} {k : Nat} (h : k < s.size) (w : World) : (Instr.index 9 (.string s) (.int .i64 (k : Int))).run Tryd.prog w = .ok (.int .u8 (bt s k)) w := by
 rw [bt_in h]
 simp [go_sem, h]
theorem ge5 {a b : Int} {r : Bool} (h : decide (b ≤ a) = r) (x y : Operand) (w : World) : (do eqGuard .geq 5 x y (.int .u8 a) (.int .u8 b); binOp .geq 5 (.int .u8 a) (.int .u8 b)).run Tryd.prog w = .ok (.bool r) w := by subst h; simp [go_sem]
theorem le5 {a b : Int} {r : Bool} (h : decide (a ≤ b) = r) (x y : Operand) (w : World) : (do eqGuard .leq 5 x y (.int .u8 a) (.int .u8 b); binOp .leq 5 (.int .u8 a) (.int .u8 b)).run Tryd.prog w = .ok (.bool r) w := by subst h; simp [go_sem]
theorem sub5 {a : Int} (h0 : 48 ≤ a) (h1 : a ≤ 255) (x y : Operand) (w : World) : (do eqGuard .sub 5 x y (.int .u8 a) (.int .u8 48); binOp .sub 5 (.int .u8 a) (.int .u8 48)).run Tryd.prog w = .ok (.int .u8 (a - 48)) w := by
 have q : IntKind.u8.wrap (a - 48) = a - 48 := by rw [IntKind.wrap_u8]; omega
 simp [go_sem, q]
theorem cv52 {a : Int} (h0 : 0 ≤ a) (h1 : a ≤ 255) (w : World) : (convert 5 2 (.int .u8 a)).run Tryd.prog w = .ok (.int .i64 a) w := by
 have q : IntKind.i64.wrap a = a := by rw [IntKind.wrap_i64]; omega
 simp [go_sem, q]
theorem mul2 {a : Int} (h0 : 0 ≤ a) (h1 : a ≤ 9007199254740992) (x y : Operand) (w : World) : (do eqGuard .mul 2 x y (.int .i64 10) (.int .i64 a); binOp .mul 2 (.int .i64 10) (.int .i64 a)).run Tryd.prog w = .ok (.int .i64 (10 * a)) w := by
 have q : IntKind.i64.wrap (10 * a) = 10 * a := by rw [IntKind.wrap_i64]; omega
 simp [go_sem, q]
theorem add2 {a b : Int} (h0 : 0 ≤ a + b) (h1 : a + b ≤ 9223372036854775807) (x y : Operand) (w : World) : (do eqGuard .add 2 x y (.int .i64 a) (.int .i64 b); binOp .add 2 (.int .i64 a) (.int .i64 b)).run Tryd.prog w = .ok (.int .i64 (a + b)) w := by
 have q : IntKind.i64.wrap (a + b) = a + b := by rw [IntKind.wrap_i64]; omega
 simp [go_sem, q]
def dgC (s : ByteArray) (i : Nat) (n : Int) : Bool := decide (i < s.size) && (decide (48 ≤ bt s i) && (decide (bt s i ≤ 57) && decide (n ≤ 9007199254740992)))
def dgF (s : ByteArray) : Nat → Nat → Int → Int × Nat
 | 0, i, n => (n, i)
 | f + 1, i, n => if dgC s i n then dgF s f (i + 1) (10 * n + (bt s i - 48)) else (n, i)
def dgR (s : ByteArray) : Int × Nat := dgF s s.size 0 0
theorem dgF_le (s : ByteArray) : ∀ (f i : Nat) (n : Int), i ≤ s.size → (dgF s f i n).2 ≤ s.size
 | 0, i, n, h => h
 | f + 1, i, n, h => by
  rw [dgF]
  split
  next e => unfold dgC at e; simp at e; exact dgF_le s f (i + 1) _ (by omega)
  next => exact h
theorem dg_stop {s : ByteArray} {f i : Nat} {n : Int} (h : dgC s i n = false) : dgF s f i n = (n, i) := by
 cases f with
 | zero => rfl
 | succ f => rw [dgF, h]; rfl
theorem dg_on {s : ByteArray} {i : Nat} {n : Int} (h : dgC s i n = true) : dgF s (s.size - i) i n = dgF s (s.size - (i + 1)) (i + 1) (10 * n + (bt s i - 48)) := by
 have hi : i < s.size := by unfold dgC at h; simp at h; exact h.1
 rw [show s.size - i = s.size - (i + 1) + 1 by omega, dgF, if_pos h]
def hdz (l : List S5) (z : Int) : ByteArray := V.catB (V.catB ⟨#[47]⟩ (match l[z.toNat]? with | some y => y.nm | none => ⟨#[]⟩)) ⟨#[58]⟩
theorem hdz_at {l : List S5} {z : Int} {y : S5} (hy : l[z.toNat]? = some y) : hdz l z = V.catB (V.catB ⟨#[47]⟩ y.nm) ⟨#[58]⟩ := by unfold hdz; rw [hy]
def putK (r : Ro) (k : Nat) (n : Int) : Ro := if k = 0 then ⟨r.s, n, r.b, r.c⟩ else if k = 1 then ⟨r.s, r.a, n, r.c⟩ else ⟨r.s, r.a, r.b, n⟩
def mtL (l : List S5) : List Int → Nat → ByteArray → Ro → Option (Ro × ByteArray)
 | [], _, s, r => some (r, s)
 | z :: cs, k, s, r => match bgn s (hdz l z) with
  | none => none
  | some u => mtL l cs (k + 1) (u.extract (dgR u).2 u.size) (putK r k (dgR u).1)
def mtc (l : List S5) (z : Int) (s : ByteArray) : Option (Ro × ByteArray) := if chn l z = [] then (bgn s ⟨#[47]⟩).map (fun u => (⟨z, 0, 0, 0⟩, u)) else mtL l (chn l z) 0 s ⟨z, 0, 0, 0⟩
theorem chN_len {l : List S5} (hs : snd l = true) : ∀ (n : Nat) (z : Int) (acc : List Int), z.toNat ≤ n → 0 ≤ z → z < (l.length : Int) → ((chN l n z acc).length : Int) = acc.length + dpA l z.toNat - 1
 | 0, z, acc, h, h0, h1 => by
  obtain ⟨y, hy⟩ := get_of_lt (show 0 < l.length by omega)
  rw [chN, show z.toNat = 0 by omega, dpA_at hy, dp_root hs hy]; omega
 | n + 1, z, acc, h, h0, h1 => by
  obtain ⟨y, hy⟩ := get_of_lt (show z.toNat < l.length by omega)
  rw [chN]
  split
  next e => subst e; rw [dpA_at hy, dp_root hs hy]; omega
  next e =>
   obtain ⟨p, hp, a, b, hd, _⟩ := pr_at hs hy (by omega)
   have ih := chN_len hs n y.pr (z :: acc) (by omega) a (by omega)
   rw [prA_at hy, ih, dpA_at hp, dpA_at hy, List.length_cons]
   omega
theorem bgB_t {s h : ByteArray} (e : bgB s h = true) : bgn s h = some (bgS s h) := by
 unfold bgB at e; unfold bgS
 obtain ⟨x, hx⟩ := Option.isSome_iff_exists.1 e
 rw [hx]; rfl
theorem bgB_f {s h : ByteArray} (e : bgB s h = false) : bgn s h = none := by
 unfold bgB at e
 cases q : bgn s h with
 | none => rfl
 | some x => rw [q] at e; cases e
end Go.Proofs.YtnffhcjmpjajlaaDoor

namespace Go.Proofs.YtnffhcjmpjajlaaDoor
open Go.RowKit D
theorem w_ret3 {P : Program} {n : Nat} {l : List (Nat × Value)} {w : World} {fn : Func} {R : Ending → World → Prop} (x y z : ResultVar) (v u s : Value) (hf : fn.results = #[x, y, z]) (h : resv n l P w v x) (g : resv n l P w u y) (k : resv n l P w s z) (hR : R (.returned (.tuple #[v, u, s])) w) : WX (bodyPost P fn R) .ret n l w := by
 refine ⟨bodyPost_ret (v := .tuple #[v, u, s]) ?_ rfl hR⟩
 cases x with
 | cell a t => cases y <;> cases z <;> first | (obtain ⟨_, h1, h2⟩ := resv_cell h; first | (have g1 := resv_tmp g; first | (have k1 := resv_tmp k; simp [results, hf, h1, h2, g1, k1, asAddr]) | (obtain ⟨_, k1, k2⟩ := resv_cell k; simp [results, hf, h1, h2, g1, k1, k2, asAddr])) | (obtain ⟨_, g1, g2⟩ := resv_cell g; first | (have k1 := resv_tmp k; simp [results, hf, h1, h2, g1, g2, k1, asAddr]) | (obtain ⟨_, k1, k2⟩ := resv_cell k; simp [results, hf, h1, h2, g1, g2, k1, k2, asAddr])))
 | tmp t => cases y <;> cases z <;> first | (have h1 := resv_tmp h; first | (have g1 := resv_tmp g; first | (have k1 := resv_tmp k; simp [results, hf, h1, g1, k1]) | (obtain ⟨_, k1, k2⟩ := resv_cell k; simp [results, hf, h1, g1, k1, k2, asAddr])) | (obtain ⟨_, g1, g2⟩ := resv_cell g; first | (have k1 := resv_tmp k; simp [results, hf, h1, g1, g2, k1, asAddr]) | (obtain ⟨_, k1, k2⟩ := resv_cell k; simp [results, hf, h1, g1, g2, k1, k2, asAddr])))
def RwN (w : World) (b o : Nat) (cs : List Value) : Prop := Rw w b o cs
theorem rwn {w : World} {b o : Nat} {cs : List Value} (h : Rw w b o cs) : RwN w b o cs := h
theorem RwN.mo {w a c : World} {b o : Nat} {cs : List Value} (h : RwN w b o cs) (_ : Mo a c) : Rw w b o cs := h
theorem ex_sz (u : ByteArray) (a b : Nat) : (u.extract a b).size ≤ u.size := by rw [ByteArray.size_extract]; omega
theorem bgS_sz (s h : ByteArray) : (bgS s h).size ≤ s.size := by
 unfold bgS bgn
 split
 ·exact Nat.zero_le _
 ·split
  ·exact ex_sz _ _ _
  ·exact Nat.zero_le _
theorem mtc_nil {l : List S5} {z : Int} {s : ByteArray} (h : chn l z = []) : mtc l z s = (bgn s ⟨#[47]⟩).map (fun u => (⟨z, 0, 0, 0⟩, u)) := by unfold mtc; rw [if_pos h]
end Go.Proofs.YtnffhcjmpjajlaaDoor


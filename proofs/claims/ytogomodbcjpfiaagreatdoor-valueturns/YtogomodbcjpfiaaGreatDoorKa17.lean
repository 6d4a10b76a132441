/-
  A part of the proof.
-/
import Derived.Test.YtogomodbcjpfiaaGreatDoorKa16
import Derived.Test.YtogomodbcjpfiaaGreatDoorKa15
import Derived.Test.YtogomodbcjpfiaaGreatDoorKa14
import Derived.Test.YtogomodbcjpfiaaGreatDoorKa1
import Derived.Shelf.Strings.Builder1
import Derived.Shelf.Strings.Builder2
import Derived.Shelf.Small.Bits
import Derived.Shelf.Small.Wraps
import Derived.Shelf.Strings.BuilderF
import Derived.Shelf.Strings.BuilderK
import Derived.Shelf.Strings.Prefix
import Derived.Shelf.Bits.Mul64
import Derived.Shelf.Strings.Repeat
import Derived.Test.YtogomodbcjpfiaaGreatDoorProg
import Derived.Shelf.Strconv.Itoa0
import Derived.Test.YtogomodbcjpfiaaGreatDoorKa11
import Derived.Test.YtogomodbcjpfiaaGreatDoorKa9
import Derived.Test.YtogomodbcjpfiaaGreatDoorKa4
import Derived.Test.YtogomodbcjpfiaaGreatDoorKa3
import Derived.Test.YtogomodbcjpfiaaGreatDoorKa2
import Derived.RegionTactic
import Derived.WalkKit
import Derived.WalkSpells
import Derived.Handy
import Derived.BigQuiet
import Derived.Deep.RegionHeld3
import Derived.Deep.MidRow
import Derived.BigCall
import Derived.Test.YtogomodbcjpfiaaGreatDoorKa8
import Derived.Test.YtogomodbcjpfiaaGreatDoorKa5
import Derived.Deep.CutBlock
import Derived.Deep.CutRange
import Derived.Test.YtogomodbcjpfiaaGreatDoorKa7
import Derived.Test.YtogomodbcjpfiaaGreatDoorKa6
import Derived.ChangeKeysEq
import Derived.ScopeJumps
import Derived.WalkMore
import Derived.Laws.StructEq
import Derived.Test.YtogomodbcjpfiaaGreatDoorKa10
import Derived.Test.YtogomodbcjpfiaaGreatDoorKa13
import Derived.Test.YtogomodbcjpfiaaGreatDoorKa12
import Derived.Lib.CutLaws
import Derived.Lib.IndexBytes
import Derived.Maps.OwnSet
import Derived.WalkArith
import Derived.StringKeys
namespace Go.Proofs.YtogomodbcjpfiaaGreatDoor.V
open Go.RowKit
theorem exists_least {p : Nat → Prop} (h : ∃ m, p m) : ∃ m, p m ∧ ∀ k, p k → m ≤ k := by
 obtain ⟨m, hm⟩ := h
 induction m using Nat.strongRecOn with
 | ind m ih =>
  by_cases hh : ∃ k, k < m ∧ p k
  ·obtain ⟨k, hk, hp⟩ := hh; exact ih k hk hp
  ·exact ⟨m, hm, fun k hp => Nat.le_of_not_lt (fun hk => hh ⟨k, hk, hp⟩)⟩
def least (p : Nat → Prop) (m : Nat) : Prop := p m ∧ ∀ k, p k → m ≤ k
theorem least_ok {p : Nat → Prop} (h : ∃ m, p m) : least p (Classical.epsilon (least p)) := Classical.epsilon_spec (exists_least h)
structure WC (P : Program) (c : Code) (Q : Exit → Act → World → Prop) (n : Nat) (l : List (Nat × Value)) (w : World) : Prop where
 out : c.wp P Q (fr n l) w
structure WL (P : Program) (ops : Array Oper) (Q : Exit → Act → World → Prop) (r : List Oper) (n : Nat) (l : List (Nat × Value)) (w : World) : Prop where
 out : wpList P ops Q r (fr n l) w
structure WX (Q : Exit → Act → World → Prop) (e : Exit) (n : Nat) (l : List (Nat × Value)) (w : World) : Prop where
 out : Q e (fr n l) w
structure WO (P : Program) (o : Oper) (n : Nat) (l : List (Nat × Value)) (w : World) (K : Act → World → Prop) (Q : Exit → Act → World → Prop) : Prop where
 out : o.wp P (fr n l) w K Q
section
variable {P : Program} {o : Oper} {n : Nat} {l : List (Nat × Value)} {w : World} {ops : Array Oper} {rest : List Oper} {Q : Exit → Act → World → Prop} {K : Act → World → Prop}
theorem w_enter {f : FuncId} {fn : Func} {c : Code} {args : Array Value} {R : Ending → World → Prop} (n : Nat) (hf : P.funcs[f]? = some fn) (hn : fn.ntmps = n) (hb : fn.body = some c)
  (ha : Nat.ble args.size n = true) (h : WC P c (bodyPost P fn R) n (argl 0 args.toList) w) : Calls P f args w R := f_enter n hf hn hb ha h.out
theorem w_seq {x y : Code} (h : WC P x (Exit.then (y.wp P Q) Q) n l w) : WC P (Code.seq x y) Q n l w := ⟨wp_seq h.out⟩
theorem w_block {id : Nat} {c : Code} (h : WC P c (Exit.inBlock id Q) n l w) : WC P (Code.block id c) Q n l w := ⟨wp_block h.out⟩
theorem w_skip (h : WX Q .normal n l w) : WC P .skip Q n l w := ⟨wp_skip h.out⟩
theorem w_ret (h : WX Q .ret n l w) : WC P .ret Q n l w := ⟨wp_ret h.out⟩
theorem w_exit {id : Nat} (h : WX Q (.exit id) n l w) : WC P (.exit id) Q n l w := ⟨wp_exit h.out⟩
theorem w_condT {c : Operand} {x y : Code} (hc : evl n l c = .bool true) (h : WC P x Q n l w) : WC P (Code.cond c x y) Q n l w := ⟨c_cond true hc h.out⟩
theorem w_condF {c : Operand} {x y : Code} (hc : evl n l c = .bool false) (h : WC P y Q n l w) : WC P (Code.cond c x y) Q n l w := ⟨c_cond false hc h.out⟩
theorem w_reg {id : Nat} {ol : List Oper} (h : WL P ol.toArray Q ol n l w) : WC P (Code.region id ol.toArray false) Q n l w := ⟨wp_region_lit h.out⟩
theorem w_nil (h : WX Q .normal n l w) : WL P ops Q [] n l w := ⟨wpList_nil h.out⟩
theorem xn_then {y : Code} {Q' : Exit → Act → World → Prop} (h : WC P y Q n l w) : WX (Exit.then (y.wp P Q) Q') .normal n l w := ⟨n_then h.out⟩
theorem xn_blk {id : Nat} (h : WX Q .normal n l w) : WX (Exit.inBlock id Q) .normal n l w := ⟨n_blk h.out⟩
theorem xx_then {next : Act → World → Prop} {id : Nat} (h : WX Q (.exit id) n l w) : WX (Exit.then next Q) (.exit id) n l w := ⟨x_then h.out⟩
theorem xx_blk {id : Nat} (h : WX Q .normal n l w) : WX (Exit.inBlock id Q) (.exit id) n l w := ⟨x_blk h.out⟩
theorem xr_then {next : Act → World → Prop} (h : WX Q .ret n l w) : WX (Exit.then next Q) .ret n l w := ⟨r_then h.out⟩
theorem xr_blk {id : Nat} (h : WX Q .ret n l w) : WX (Exit.inBlock id Q) .ret n l w := ⟨r_blk h.out⟩
theorem w_ret1 {fn : Func} {R : Ending → World → Prop} (x : ResultVar) (v : Value) (hf : fn.results = #[x]) (h : resv n l P w v x) (hR : R (.returned v) w) : WX (bodyPost P fn R) .ret n l w := ⟨c_ret1 x v hf h hR⟩
theorem w_ret2 {fn : Func} {R : Ending → World → Prop} (x y : ResultVar) (v u : Value) (hf : fn.results = #[x, y]) (h : resv n l P w v x) (g : resv n l P w u y) (hR : R (.returned (.tuple #[v, u])) w) : WX (bodyPost P fn R) .ret n l w := ⟨c_ret2 x y v u hf h g hR⟩
theorem w_loop {c : Code} (I : Nat → List (Nat × Value) → World → Prop) (m : Nat) (h0 : I m l w)
  (round : ∀ m l w, I m l w → WC P c (Exit.then (fun a w' => ∃ m' l', m' < m ∧ a = fr n l' ∧ I m' l' w') Q) n l w) : WC P (Code.loop c) Q n l w := by
 refine ⟨?_⟩
 have key : ∀ m : Nat, ∀ l w, I m l w → (Code.loop c).wp P Q (fr n l) w := by
  intro m0 l0 w0 hI0
  refine wp_loop (fun a w => ∃ m l, a = fr n l ∧ I m l w) (fun a w => Classical.epsilon (least (fun m => ∃ l, a = fr n l ∧ I m l w))) ⟨m0, l0, rfl, hI0⟩ ?_
  rintro a w ⟨m, l, rfl, hI⟩
  obtain ⟨l2, e2, hI2⟩ := (least_ok (p := fun m => ∃ l', fr n l = fr n l' ∧ I m l' w) ⟨m, l, rfl, hI⟩).1
  rw [e2]
  refine Code.wp_mono ?_ (round _ l2 w hI2).out
  intro e a' w' hq
  cases e with
  | normal =>
   obtain ⟨m', l', hlt, rfl, hI'⟩ := hq
   refine ⟨⟨m', l', rfl, hI'⟩, Nat.lt_of_le_of_lt ((least_ok (p := fun m => ∃ l'', fr n l' = fr n l'' ∧ I m l'' w') ⟨m', l', rfl, hI'⟩).2 m' ⟨l', rfl, hI'⟩) ?_⟩
   rw [← e2]; exact hlt
  | _ => exact hq
 exact key m l w h0
theorem xn_loop {I : Nat → List (Nat × Value) → World → Prop} {m : Nat} (m' : Nat) (hlt : m' < m) (h : I m' l w) : WX (Exit.then (fun a w' => ∃ m' l', m' < m ∧ a = fr n l' ∧ I m' l' w') Q) .normal n l w := ⟨⟨m', l, hlt, rfl, h⟩⟩
theorem wl_val (v : Value) (h : (execOp (evl n l) o).run P w = .ok (.value v) w) (hg : wnt n l ops o = true) (hk : WL P ops Q rest n (ext l o.dst v) w) : WL P ops Q (o :: rest) n l w :=
 ⟨l_step hg (o_val v h hk.out)⟩
theorem wl_mv (x : Operand) (p : Value) (ho : ∀ ρ, execOp ρ o = pure (.value (ρ x))) (hx : evl n l x = p) (hg : wnt n l ops o = true) (hk : WL P ops Q rest n (ext l o.dst p) w) : WL P ops Q (o :: rest) n l w :=
 ⟨l_step hg (o_mv x p ho hx hk.out)⟩
theorem wo_mv (x : Operand) (p : Value) (ho : ∀ ρ, execOp ρ o = pure (.value (ρ x))) (hx : evl n l x = p) (hk : K (fr n (ext l o.dst p)) w) : WO P o n l w K Q := ⟨o_mv x p ho hx hk⟩
theorem wl_un (F : Value → Sem Value) (x : Operand) (p v : Value) (ho : ∀ ρ, execOp ρ o = (do pure (.value (← F (ρ x))))) (hx : evl n l x = p) (h : (F p).run P w = .ok v w) (hg : wnt n l ops o = true) (hk : WL P ops Q rest n (ext l o.dst v) w) : WL P ops Q (o :: rest) n l w :=
 ⟨l_step hg (o_un F x p v ho hx h hk.out)⟩
theorem wo_un (F : Value → Sem Value) (x : Operand) (p v : Value) (ho : ∀ ρ, execOp ρ o = (do pure (.value (← F (ρ x))))) (hx : evl n l x = p) (h : (F p).run P w = .ok v w) (hk : K (fr n (ext l o.dst v)) w) : WO P o n l w K Q := ⟨o_un F x p v ho hx h hk⟩
theorem wl_bin (F : Value → Value → Sem Value) (x y : Operand) (p q v : Value) (ho : ∀ ρ, execOp ρ o = (do pure (.value (← F (ρ x) (ρ y))))) (hx : evl n l x = p) (hy : evl n l y = q) (h : (F p q).run P w = .ok v w) (hg : wnt n l ops o = true) (hk : WL P ops Q rest n (ext l o.dst v) w) : WL P ops Q (o :: rest) n l w :=
 ⟨l_step hg (o_bin F x y p q v ho hx hy h hk.out)⟩
theorem wl_pick (c x y : Operand) (t : Bool) (v : Value) (ho : ∀ ρ, execOp ρ o = (do pure (.value (if ← asBool (ρ c) then ρ x else ρ y)))) (hc : evl n l c = .bool t) (hv : evl n l (bif t then x else y) = v) (hg : wnt n l ops o = true) (hk : WL P ops Q rest n (ext l o.dst v) w) : WL P ops Q (o :: rest) n l w :=
 ⟨l_step hg (o_pick c x y t v ho hc hv hk.out)⟩
theorem wl_build (t : TypeId) (xs : List (Nat × Operand)) (ps : List (Nat × Value)) (v : Value) (ho : o.op = .build t xs.toArray) (hx : xs.map (fun p => (p.1, evl n l p.2)) = ps) (h : (Instr.build t ps.toArray).run P w = .ok v w) (hg : wnt n l ops o = true) (hk : WL P ops Q rest n (ext l o.dst v) w) : WL P ops Q (o :: rest) n l w :=
 ⟨l_step hg (o_build t xs ps v ho hx h hk.out)⟩
theorem wl_load (ty : TypeId) (x : Operand) (p v : Value) (ho : o.op = .load ty x) (hx : evl n l x = p) (h : (Instr.loadAt ty p).run P w = .ok v w) (hg : wnt n l ops o = true) (hk : WL P ops Q rest n (ext l o.dst v) w) : WL P ops Q (o :: rest) n l w :=
 ⟨l_step hg (o_load ty x p v ho hx h hk.out)⟩
theorem wo_load (ty : TypeId) (x : Operand) (p v : Value) (ho : o.op = .load ty x) (hx : evl n l x = p) (h : (Instr.loadAt ty p).run P w = .ok v w) (hk : K (fr n (ext l o.dst v)) w) : WO P o n l w K Q := ⟨o_load ty x p v ho hx h hk⟩
theorem wl_m (x : Operand) (p : Value) (hk : WL P ops Q rest n (ext l o.dst p) w) (ho : ∀ ρ, execOp ρ o = pure (.value (ρ x)) := by exact fun _ => rfl) (hx : evl n l x = p := by rfl) (hg : wnt n l ops o = true := by rfl) : WL P ops Q (o :: rest) n l w := wl_mv x p ho hx hg hk
theorem wl_b (b : BinOp) (t : TypeId) (x y : Operand) (p q v : Value) (h : (do eqGuard b t x y p q; binOp b t p q).run P w = .ok v w) (hk : WL P ops Q rest n (ext l o.dst v) w) (ho : ∀ ρ, execOp ρ o = (do pure (.value (← (do eqGuard b t x y (ρ x) (ρ y); binOp b t (ρ x) (ρ y))))) := by exact fun _ => rfl) (hx : evl n l x = p := by rfl) (hy : evl n l y = q := by rfl) (hg : wnt n l ops o = true := by rfl) : WL P ops Q (o :: rest) n l w := wl_bin (fun u z => do eqGuard b t x y u z; binOp b t u z) x y p q v ho hx hy h hg hk
theorem wl_f (t : TypeId) (i : Nat) (x : Operand) (p v : Value) (hk : WL P ops Q rest n (ext l o.dst v) w) (h : (Instr.fieldAt t p i).run P w = .ok v w := by kernel_rfl) (ho : ∀ ρ, execOp ρ o = (do pure (.value (← Instr.fieldAt t (ρ x) i))) := by exact fun _ => rfl) (hx : evl n l x = p := by rfl) (hg : wnt n l ops o = true := by rfl) : WL P ops Q (o :: rest) n l w := wl_un (fun v => Instr.fieldAt t v i) x p v ho hx h hg hk
theorem wl_l (t : TypeId) (x : Operand) (p v : Value) (h : (Instr.loadAt t p).run P w = .ok v w) (hk : WL P ops Q rest n (ext l o.dst v) w) (ho : o.op = .load t x := by rfl) (hx : evl n l x = p := by rfl) (hg : wnt n l ops o = true := by rfl) : WL P ops Q (o :: rest) n l w := wl_load t x p v ho hx h hg hk
theorem wl_alloc (ty : TypeId) (zs : Array Value) (ho : o.op = .alloc ty) (h : ∀ w, (Instr.alloc ty true (.tuple #[])).run P w = .ok (pt w.heap.size 0) (w.alloc (.cells zs ty))) (hg : wnt n l ops o = true) (hk : ∀ k w', w.heap.size = k → w'.heap.size = k + 1 → Mw w w' → At w' k zs.toList → WL P ops Q rest n (ext l o.dst (pt k 0)) w') : WL P ops Q (o :: rest) n l w :=
 ⟨l_step hg (o_alloc ty zs ho h (fun k w' a b c d => (hk k w' a b c d).out))⟩
theorem wo_alloc (ty : TypeId) (zs : Array Value) (ho : o.op = .alloc ty) (h : ∀ w, (Instr.alloc ty true (.tuple #[])).run P w = .ok (pt w.heap.size 0) (w.alloc (.cells zs ty))) (hk : ∀ k w', w.heap.size = k → w'.heap.size = k + 1 → Mw w w' → At w' k zs.toList → K (fr n (ext l o.dst (pt k 0))) w') : WO P o n l w K Q := ⟨o_alloc ty zs ho h (fun k w' a b c d => (hk k w' a b c d))⟩
theorem wl_box (ty : TypeId) (x : Operand) (v : Value) (cs : Array Value) (ho : o.op = .box ty x) (hx : evl n l x = v) (h : ∀ w, (Instr.box ty v).run P w = .ok (pt w.heap.size 0) (w.alloc (.cells cs ty))) (hg : wnt n l ops o = true) (hk : ∀ k w', w.heap.size = k → w'.heap.size = k + 1 → Mw w w' → At w' k cs.toList → WL P ops Q rest n (ext l o.dst (pt k 0)) w') : WL P ops Q (o :: rest) n l w :=
 ⟨l_step hg (o_box ty x v cs ho hx h (fun k w' a b c d => (hk k w' a b c d).out))⟩
theorem wl_call (g : FuncId) (xs : List Operand) (ats : Array TypeId) (args : List Value) (v : Value) (ho : o.op = .call { callee := .value (.func g), args := xs.toArray, argTypes := ats }) (hx : xs.map (evl n l) = args) (h : ∀ args w, (callFunc g args).run P w = .ok (.enter g args) w) (hc : Calls P g args.toArray w fun e w' => e = .returned v ∧ Mw w w') (hg : wnt n l ops o = true) (hk : ∀ w', Mw w w' → WL P ops Q rest n (ext l o.dst v) w') : WL P ops Q (o :: rest) n l w :=
 ⟨l_step hg (o_call g xs ats args v ho hx h hc (fun w' m => (hk w' m).out))⟩
theorem wo_call (g : FuncId) (xs : List Operand) (ats : Array TypeId) (args : List Value) (v : Value) (ho : o.op = .call { callee := .value (.func g), args := xs.toArray, argTypes := ats }) (hx : xs.map (evl n l) = args) (h : ∀ args w, (callFunc g args).run P w = .ok (.enter g args) w) (hc : Calls P g args.toArray w fun e w' => e = .returned v ∧ Mw w w') (hk : ∀ w', Mw w w' → K (fr n (ext l o.dst v)) w') : WO P o n l w K Q := ⟨o_call g xs ats args v ho hx h hc (fun w' m => (hk w' m))⟩
theorem wl_skip (hg : wnt n l ops o = false) (h : WL P ops Q rest n (ext l o.dst undef) w) : WL P ops Q (o :: rest) n l w := ⟨l_skip hg h.out⟩
theorem wl_st (ty : TypeId) (x y : Operand) (k off : Nat) (us : Array Value) (vs vs' : List Value) (hA : At w k vs) (ho : o.op = .store ty x y) (hd : o.dst = none) (hx : evl n l x = pt k off) (hy : evl n l y = .agg us)
  (hl : Nat.ble (off + us.size) vs.length = true) (hi : (P.info? ty).map (·.size) = some us.size) (h1 : us.toList.all (·.oneCell') = true) (hvs : vs' = vs.take off ++ us.toList ++ vs.drop (off + us.toList.length)) (hg : wnt n l ops o = true)
  (hk : ∀ w', St k w w' → At w' k vs' → WL P ops Q rest n l w') : WL P ops Q (o :: rest) n l w :=
 ⟨l_step hg (o_st ty x y k off us vs vs' hA ho hd hx hy hl hi h1 hvs (fun w' a b => (hk w' a b).out))⟩
structure Go1 (P : Program) (ops : List Oper) (Q : Exit → Act → World → Prop) (n : Nat) (l : List (Nat × Value)) (w : World) (K : Act → World → Prop) (o : Oper) : Prop where
 out : (wnt n l ops.toArray o = true ∧ WO P o n l w K Q) ∨ (wnt n l ops.toArray o = false ∧ K (fr n (ext l o.dst undef)) w)
theorem go_run {ol : List Oper} (hg : wnt n l ol.toArray o = true) (h : WO P o n l w K Q) : Go1 P ol Q n l w K o := ⟨Or.inl ⟨hg, h⟩⟩
structure OgW (P : Program) (ops : List Oper) (Q : Exit → Act → World → Prop) (n : Nat) (l : List (Nat × Value)) (m : Nat) (W : World) (sp : List Sp) (i : Nat) (o : Oper) : Prop where
 out : ∀ f w, Mw W w → (∀ j, depb o j = true → spDen W.heap.size (spAt sp j) (f j) w) → ∀ K : Act → World → Prop,
  (match spAt sp i with
   | .inl v => ∀ w', Mw w w' → K (fr n (ext (asg f 0 (ops.take m) l) o.dst v)) w'
   | .inr zs => ∀ k w', w.heap.size = k → w'.heap.size = k + 1 → Mw w w' → At w' k zs → K (fr n (ext (asg f 0 (ops.take m) l) o.dst (pt k 0))) w') →
  Go1 P ops Q n (asg f 0 (ops.take m) l) w K o
theorem og_eq {ol : List Oper} {m : Nat} {W : World} {sp : List Sp} {i : Nat} (v : Value) (hs : spAt sp i = .inl v)
  (h : ∀ f w, Mw W w → (∀ j, depb o j = true → spDen W.heap.size (spAt sp j) (f j) w) → ∀ K : Act → World → Prop, (∀ w', Mw w w' → K (fr n (ext (asg f 0 (ol.take m) l) o.dst v)) w') → Go1 P ol Q n (asg f 0 (ol.take m) l) w K o) : OgW P ol Q n l m W sp i o :=
 ⟨fun f w hm hd K hK => h f w hm hd K (by rw [hs] at hK; exact hK)⟩
theorem og_new {ol : List Oper} {m : Nat} {W : World} {sp : List Sp} {i : Nat} (zs : List Value) (hs : spAt sp i = .inr zs)
  (h : ∀ f w, Mw W w → (∀ j, depb o j = true → spDen W.heap.size (spAt sp j) (f j) w) → ∀ K : Act → World → Prop, (∀ k w', w.heap.size = k → w'.heap.size = k + 1 → Mw w w' → At w' k zs → K (fr n (ext (asg f 0 (ol.take m) l) o.dst (pt k 0))) w') → Go1 P ol Q n (asg f 0 (ol.take m) l) w K o) : OgW P ol Q n l m W sp i o :=
 ⟨fun f w hm hd K hK => h f w hm hd K (by rw [hs] at hK; exact hK)⟩
theorem ea_nil {F : Nat → Oper → Prop} {i : Nat} : Each F i [] := trivial
theorem ea_cons {F : Nat → Oper → Prop} {i : Nat} {o : Oper} {r : List Oper} (h : F i o) (k : Each F (i + 1) r) : Each F i (o :: r) := ⟨h, k⟩
def slo (n : Nat) (l : List (Nat × Value)) (ops : List Oper) (i : Nat) : Value :=
 match (ops[i]?).bind (·.dst) with
 | some d => bif Nat.blt d n then look l d else undef
 | none => undef
theorem slo_eq (ops : List Oper) : slots (fr n l) ops.toArray = slo n l ops := by
 funext i
 unfold slots slo
 simp only [List.getElem?_toArray]
 cases (ops[i]?).bind (·.dst) with
 | none => rfl
 | some d => exact fr_getD n l d
def isPt : Value → Bool
 | .pointer (some _) => true
 | _ => false
theorem Ds.start {sp : List Sp} {f : Nat → Value} (h : (List.range sp.length).all (fun j => !spNew (spAt sp j) || !isPt (f j)) = true) : Ds sp f w := by
 have hh : ∀ j, spNew (spAt sp j) = true → ∀ k, f j ≠ pt k 0 := fun j hj k e => by
  rcases Nat.lt_or_ge j sp.length with hl | hl
  ·have := List.all_eq_true.1 h j (List.mem_range.2 hl)
   simp [hj, e, isPt] at this
  ·unfold spAt at hj; rw [List.getElem?_eq_none hl] at hj; cases hj
 exact ⟨fun j hj k hk => (hh j hj k hk).elim, fun i j hi _ _ k hk => (hh i hi k hk).elim⟩
theorem late_nil {ol : List Oper} {m : Nat} {sp : List Sp} : ∀ i, i ∈ ([] : List Nat) → LateO P ol Q n l m sp i := fun i h => absurd h (by simp)
theorem w_any {id : Nat} {ol : List Oper} (m : Nat) (sp : List Sp) (fs : List Nat) (hm : P.follows .mixedOrders = true)
  (hb : edgesBack .any ol.toArray = true) (hd : dstsApart (ol.take m) = true) (hc : chainB ol m fs = true) (hl : Nat.ble m ol.length = true) (hf : floatB ol m fs = true) (hns : Region.noSelect ol.toArray = true)
  (hlate : ∀ i, i ∈ fs → LateO P ol Q n l m sp i)
  (hD : Ds sp (slo n l (ol.take m)) w)
  (hs : Each (OgW P ol Q n l m w sp) 0 (ol.take m))
  (hend : ∀ kf w', Mw w w' → (∀ i zs, Nat.blt i m = true → spAt sp i = .inr zs → w.heap.size ≤ kf i ∧ At w' (kf i) zs) → (∀ i j, Nat.blt i m = true → Nat.blt j m = true → spNew (spAt sp i) = true → spNew (spAt sp j) = true → i ≠ j → kf i ≠ kf j) →
   WL P ol.toArray Q (ol.drop m) n (asg (spv sp kf) 0 (ol.take m) l) w') : WC P (Code.region id ol.toArray true) Q n l w := by
 refine ⟨r_any m sp fs hm hb hd hc hl hf hns hlate (by rw [slo_eq]; exact hD) (Each.mono ?_ _ 0 hs) (fun kf w' a b c => (hend kf w' a b c).out)⟩
 intro i o h f w' hmo hdep K hK
 rcases (h.out f w' hmo hdep K hK).out with ⟨hg, h⟩ | ⟨hg, h⟩
 ·exact ct hg h.out
 ·exact cf hg h
end
end Go.Proofs.YtogomodbcjpfiaaGreatDoor.V

namespace Go.Proofs.YtogomodbcjpfiaaGreatDoor
open Go.RowKit Go.Lib
theorem by8_len (a : ByteArray) : (by8 a).length = a.size := (Lib.size_eq a).symm
end Go.Proofs.YtogomodbcjpfiaaGreatDoor

namespace Go.Proofs.YtogomodbcjpfiaaGreatDoor
open Go.RowKit
theorem lt3_run {a b : Int} {r : Bool} (h : decide (a < b) = r) (x y : Operand) (w : World) : (do eqGuard .lss 3 x y (.int .i64 a) (.int .i64 b); binOp .lss 3 (.int .i64 a) (.int .i64 b)).run Tryz.prog w = .ok (.bool r) w := by
 subst h; kernel_rfl
end Go.Proofs.YtogomodbcjpfiaaGreatDoor

namespace Go.Proofs.YtogomodbcjpfiaaGreatDoor
open Go.RowKit
theorem Ds.one {sp : List Sp} {f : Nat → Value} {w : World} (i : Nat) (h : ∀ q, spNew (spAt sp q) = true → q = i) (h1 : ∀ k, f i = pt k 0 → k < w.heap.size) : Ds sp f w := by
 refine ⟨fun q hq k hk => ?_, fun q r hq hr hne k hk hk2 => ?_⟩
 ·rw [h q hq] at hk; exact h1 k hk
 ·exact hne ((h q hq).trans (h r hr).symm)
end Go.Proofs.YtogomodbcjpfiaaGreatDoor

namespace Go.Proofs.YtogomodbcjpfiaaGreatDoor
open Go.RowKit
theorem len_s (ρ : Operand → Value) (x : Operand) (s : ByteArray) (hx : ρ x = .string s) (dst : Option Tmp) (type : TypeId) (pos : String) (after : Array Edge) (guard : Option (Nat × Bool)) (w : World) : (execOp ρ { dst, op := .call { callee := .builtin .len, args := #[x], argTypes := #[9] }, type, pos, after, guard }).run Tryz.prog w = .ok (.value (.int .i64 (s.size : Int))) w := by
 simp [go_sem, hx]
theorem ltN {a b : Nat} {r : Bool} (h : decide (a < b) = r) (x y : Operand) (w : World) : (do eqGuard .lss 3 x y (.int .i64 (a : Int)) (.int .i64 (b : Int)); binOp .lss 3 (.int .i64 (a : Int)) (.int .i64 (b : Int))).run Tryz.prog w = .ok (.bool r) w :=
 lt3_run (by rw [← h]; exact decide_eq_decide.2 Int.ofNat_lt) _ _ _
theorem idx_b {s : ByteArray} {k : Nat} (h : k < s.size) (w : World) : (Instr.index 9 (.string s) (.int .i64 (k : Int))).run Tryz.prog w = .ok (.int .u8 (bt s k)) w := by
 rw [bt_in h]
 simp [go_sem, h]
end Go.Proofs.YtogomodbcjpfiaaGreatDoor

namespace Go.Proofs.YtogomodbcjpfiaaGreatDoor
open Go.RowKit
theorem addk {a b c : Nat} (h : a + b = c) (hc : c ≤ 9223372036854775807) (x y : Operand) (w : World) : (do eqGuard .add 3 x y (.int .i64 (a : Int)) (.int .i64 (b : Int)); binOp .add 3 (.int .i64 (a : Int)) (.int .i64 (b : Int))).run Tryz.prog w = .ok (.int .i64 ((c : Nat) : Int)) w := by
 have e : (do eqGuard .add 3 x y (.int .i64 (a : Int)) (.int .i64 (b : Int)); binOp .add 3 (.int .i64 (a : Int)) (.int .i64 (b : Int))).run Tryz.prog w = .ok (.int .i64 (IntKind.i64.wrap ((a : Int) + b))) w := by kernel_rfl
 have h2 : IntKind.i64.wrap ((a : Int) + b) = ((c : Nat) : Int) := by rw [IntKind.wrap_i64]; omega
 rw [e, h2]
end Go.Proofs.YtogomodbcjpfiaaGreatDoor

namespace Go.Proofs.YtogomodbcjpfiaaGreatDoor
open Go.RowKit

theorem prn_c {c : Int} {r : Bool} (h : prn c = r) (w : World) : Calls Tryz.prog 79 #[.int .u8 c] w fun e w' => e = .returned (.bool r) ∧ Mo w w' := h ▸ isPrinted_n c w
end Go.Proofs.YtogomodbcjpfiaaGreatDoor

namespace Go.Proofs.YtogomodbcjpfiaaGreatDoor
open Go.RowKit
theorem eq9 {a b : ByteArray} {r : Bool} (h : (a.toList == b.toList) = r) (x y : Operand) (w : World) : (do eqGuard .eql 9 x y (.string a) (.string b); binOp .eql 9 (.string a) (.string b)).run Tryz.prog w = .ok (.bool r) w := by
 subst h; simp [go_sem]
end Go.Proofs.YtogomodbcjpfiaaGreatDoor

namespace Go.Proofs.YtogomodbcjpfiaaGreatDoor
open Go.RowKit Go.ChangeMaps
theorem eq3 {a b : Int} {r : Bool} (h : decide (a = b) = r) (x y : Operand) (w : World) : (do eqGuard .eql 3 x y (.int .i64 a) (.int .i64 b); binOp .eql 3 (.int .i64 a) (.int .i64 b)).run Tryz.prog w = .ok (.bool r) w := by
 subst h
 have e : (do eqGuard .eql 3 x y (.int .i64 a) (.int .i64 b); binOp .eql 3 (.int .i64 a) (.int .i64 b)).run Tryz.prog w = .ok (.bool (a == b)) w := by kernel_rfl
 rw [e]; congr 2
theorem ne3 {a b : Int} {r : Bool} (h : decide (a = b) = r) (x y : Operand) (w : World) : (do eqGuard .neq 3 x y (.int .i64 a) (.int .i64 b); binOp .neq 3 (.int .i64 a) (.int .i64 b)).run Tryz.prog w = .ok (.bool (!r)) w := by
 subst h
 have e : (do eqGuard .neq 3 x y (.int .i64 a) (.int .i64 b); binOp .neq 3 (.int .i64 a) (.int .i64 b)).run Tryz.prog w = .ok (.bool (!(a == b))) w := by kernel_rfl
 rw [e]; congr 2
theorem eq34 {a b : Int} {r : Bool} (h : decide (a = b) = r) (x y : Operand) (w : World) : (do eqGuard .eql 32 x y (.int .i64 a) (.int .i64 b); binOp .eql 32 (.int .i64 a) (.int .i64 b)).run Tryz.prog w = .ok (.bool r) w := by
 subst h
 have e : (do eqGuard .eql 32 x y (.int .i64 a) (.int .i64 b); binOp .eql 32 (.int .i64 a) (.int .i64 b)).run Tryz.prog w = .ok (.bool (a == b)) w := by kernel_rfl
 rw [e]; congr 2
theorem ne34 {a b : Int} {r : Bool} (h : decide (a = b) = r) (x y : Operand) (w : World) : (do eqGuard .neq 32 x y (.int .i64 a) (.int .i64 b); binOp .neq 32 (.int .i64 a) (.int .i64 b)).run Tryz.prog w = .ok (.bool (!r)) w := by
 subst h
 have e : (do eqGuard .neq 32 x y (.int .i64 a) (.int .i64 b); binOp .neq 32 (.int .i64 a) (.int .i64 b)).run Tryz.prog w = .ok (.bool (!(a == b))) w := by kernel_rfl
 rw [e]; congr 2
theorem lt3 {a b : Int} {r : Bool} (h : decide (a < b) = r) (x y : Operand) (w : World) : (do eqGuard .lss 3 x y (.int .i64 a) (.int .i64 b); binOp .lss 3 (.int .i64 a) (.int .i64 b)).run Tryz.prog w = .ok (.bool r) w := by
 subst h; kernel_rfl
theorem gt3 {a b : Int} {r : Bool} (h : decide (b < a) = r) (x y : Operand) (w : World) : (do eqGuard .gtr 3 x y (.int .i64 a) (.int .i64 b); binOp .gtr 3 (.int .i64 a) (.int .i64 b)).run Tryz.prog w = .ok (.bool r) w := by
 subst h; kernel_rfl
theorem le3 {a b : Int} {r : Bool} (h : decide (a ≤ b) = r) (x y : Operand) (w : World) : (do eqGuard .leq 3 x y (.int .i64 a) (.int .i64 b); binOp .leq 3 (.int .i64 a) (.int .i64 b)).run Tryz.prog w = .ok (.bool r) w := by
 subst h; kernel_rfl
theorem ge3 {a b : Int} {r : Bool} (h : decide (b ≤ a) = r) (x y : Operand) (w : World) : (do eqGuard .geq 3 x y (.int .i64 a) (.int .i64 b); binOp .geq 3 (.int .i64 a) (.int .i64 b)).run Tryz.prog w = .ok (.bool r) w := by
 subst h; kernel_rfl
theorem ba_eq (a b : ByteArray) : (a.toList == b.toList) = decide (a = b) := by
 rw [Lib.toList_data, Lib.toList_data, Bool.eq_iff_iff, beq_iff_eq, decide_eq_true_iff]
 constructor
 ·intro h
  obtain ⟨⟨x⟩⟩ := a
  obtain ⟨⟨y⟩⟩ := b
  simp at h
  rw [h]
 ·rintro rfl; rfl
theorem s9 {a b : ByteArray} {r : Bool} (h : decide (a = b) = r) (x y : Operand) (w : World) : (do eqGuard .eql 9 x y (.string a) (.string b); binOp .eql 9 (.string a) (.string b)).run Tryz.prog w = .ok (.bool r) w :=
 eq9 (by rw [ba_eq]; exact h) x y w
theorem cB {P : Program} {g : FuncId} {args : Array Value} {w : World} {v v' : Bool} (h : v = v') (c : Calls P g args w fun e w' => e = .returned (.bool v) ∧ Mo w w') : Calls P g args w fun e w' => e = .returned (.bool v') ∧ Mo w w' := h ▸ c
section
variable {P : Program} {o : Oper} {n : Nat} {l : List (Nat × Value)} {w : World} {ops : Array Oper} {rest : List Oper} {Q : Exit → Act → World → Prop} {K : Act → World → Prop} {c : Code}
theorem wl_callx (g : FuncId) (xs : List Operand) (ats : Array TypeId) (args : List Value) {F : Ending → World → Prop} (ho : o.op = .call { callee := .value (.func g), args := xs.toArray, argTypes := ats }) (hx : xs.map (evl n l) = args)
  (h : ∀ args w, (callFunc g args).run P w = .ok (.enter g args) w)
  (hc : Calls P g args.toArray w F) (hg : wnt n l ops o = true) (hk : ∀ v w', F v w' → ∃ u, v = .returned u ∧ WL P ops Q rest n (ext l o.dst u) w') : WL P ops Q (o :: rest) n l w := by
 have e : (execOp (evl n l) o).run P w = .ok (.enter g args.toArray) w := by
  obtain ⟨dst, op, ty, pos, after, guard⟩ := o
  simp only at ho
  subst ho hx
  have e2 := execOp_call_go (fr n l) dst g xs.toArray ats ty pos after guard
  rw [fr_eval] at e2
  rw [e2, h]
  simp
 refine ⟨l_step hg ?_⟩
 unfold Oper.wp; rw [fr_eval, e, Oper.upon_enter]
 refine hc.mono ?_
 intro e w' hF
 obtain ⟨u, rfl, hW⟩ := hk e w' hF
 show wpList _ _ _ _ _ _
 rw [fr_put]
 exact hW.out
theorem wl_bs (ty : TypeId) (m : Nat) (xs : List (Nat × Operand)) (ps : List (Nat × Value)) (cs : Array Value) (e : TypeId) (ho : o.op = .buildSlice ty m xs.toArray) (hx : xs.map (fun p => (p.1, evl n l p.2)) = ps)
  (h : ∀ w, (Instr.buildSlice ty m ps.toArray).run P w = .ok (.slice (some ⟨w.heap.size, 0, none⟩) m m) (w.alloc (.cells cs e))) (hg : wnt n l ops o = true)
  (hk : ∀ k w', w.heap.size = k → w'.heap.size = k + 1 → Mo w w' → At w' k cs.toList → WL P ops Q rest n (ext l o.dst (.slice (some ⟨k, 0, none⟩) m m)) w') : WL P ops Q (o :: rest) n l w := by
 subst hx
 refine ⟨l_step hg (o_val (.slice (some ⟨w.heap.size, 0, none⟩) m m) (w' := w.alloc (.cells cs e)) ?_ (hk _ _ rfl (by simp) ((Mo.refl _).alloc _ _) (At.new w cs e)).out)⟩
 simp [execOp, ho, h]
theorem w_rounds (N : Nat) (h : WC P c (Exit.then (Code.rounds P c Q N) Q) n l w) : WC P (Code.loop c) Q n l w := ⟨wp_loop_rounds (N + 1) h.out⟩
theorem xn_rounds {N : Nat} (h : WC P c (Exit.then (Code.rounds P c Q N) Q) n l w) : WX (Exit.then (Code.rounds P c Q (N + 1)) Q) .normal n l w := ⟨h.out⟩
end
/-! Maps from names to whole numbers, and from names to flags. -/
variable {w w' : World} {b : Nat} {al : List (ByteArray × Int)}
end Go.Proofs.YtogomodbcjpfiaaGreatDoor

namespace Go.Proofs.YtogomodbcjpfiaaGreatDoor
open Go.RowKit
def s4 (n0 n1 n2 n3 m0 m1 m2 m3 : Int) : Bool := n0 == m0 && (n1 == m1 && (n2 == m2 && n3 == m3))
theorem ht40 : Tryz.prog.underlying 26 = some (.struct (Tryz.prog.fieldsOf 26)) := by kernel_rfl
theorem hp40 : Tryz.prog.stoodInHeld 26 = false := by kernel_rfl
theorem fo40 : (Tryz.prog.fieldsOf 26).toList.map (fun f => (f.name, f.type, f.offset)) = [("Neg", 4, 0), ("N", 24, 1), ("Scale", 3, 5)] := by kernel_rfl
theorem pt40 (x0 x1 x2 x3 x4 x5 : Value) (w : World) : (part 4 #[x0, x1, x2, x3, x4, x5] 0).run Tryz.prog w = .ok x0 w := by kernel_rfl
theorem pt41 (x0 x1 x2 x3 x4 x5 : Value) (w : World) : (part 24 #[x0, x1, x2, x3, x4, x5] 1).run Tryz.prog w = .ok (.agg #[x1, x2, x3, x4]) w := by kernel_rfl
theorem pt45 (x0 x1 x2 x3 x4 x5 : Value) (w : World) : (part 3 #[x0, x1, x2, x3, x4, x5] 5).run Tryz.prog w = .ok x5 w := by kernel_rfl
theorem ht28 : Tryz.prog.underlying 28 = some (.struct (Tryz.prog.fieldsOf 28)) := by kernel_rfl
theorem hp28 : Tryz.prog.stoodInHeld 28 = false := by kernel_rfl
theorem fo28 : (Tryz.prog.fieldsOf 28).toList.map (fun f => (f.name, f.type, f.offset)) = [("Kind", 3, 0), ("Num", 26, 1), ("Flag", 4, 7), ("Text", 9, 8), ("Err", 3, 9)] := by kernel_rfl
theorem p28_0 (x0 x1 x2 x3 x4 x5 x6 x7 x8 x9 : Value) (w : World) : (part 3 #[x0, x1, x2, x3, x4, x5, x6, x7, x8, x9] 0).run Tryz.prog w = .ok x0 w := by kernel_rfl
theorem p28_1 (x0 x1 x2 x3 x4 x5 x6 x7 x8 x9 : Value) (w : World) : (part 26 #[x0, x1, x2, x3, x4, x5, x6, x7, x8, x9] 1).run Tryz.prog w = .ok (.agg #[x1, x2, x3, x4, x5, x6]) w := by kernel_rfl
theorem p28_7 (x0 x1 x2 x3 x4 x5 x6 x7 x8 x9 : Value) (w : World) : (part 4 #[x0, x1, x2, x3, x4, x5, x6, x7, x8, x9] 7).run Tryz.prog w = .ok x7 w := by kernel_rfl
theorem p28_8 (x0 x1 x2 x3 x4 x5 x6 x7 x8 x9 : Value) (w : World) : (part 9 #[x0, x1, x2, x3, x4, x5, x6, x7, x8, x9] 8).run Tryz.prog w = .ok x8 w := by kernel_rfl
theorem p28_9 (x0 x1 x2 x3 x4 x5 x6 x7 x8 x9 : Value) (w : World) : (part 3 #[x0, x1, x2, x3, x4, x5, x6, x7, x8, x9] 9).run Tryz.prog w = .ok x9 w := by kernel_rfl
theorem gt28 : Tryz.prog.eqGuardType Tryz.prog.depth 28 = false := by kernel_rfl
def svl (k : Int) (b : Bool) (n0 n1 n2 n3 s : Int) (f : Bool) (t : ByteArray) (e : Int) (k' : Int) (b' : Bool) (m0 m1 m2 m3 s' : Int) (f' : Bool) (t' : ByteArray) (e' : Int) : Bool :=
 k == k' && ((b == b' && (s4 n0 n1 n2 n3 m0 m1 m2 m3 && s == s')) && (f == f' && (t == t' && e == e')))
theorem eq26 (d : Nat) (b c : Bool) (n0 n1 n2 n3 m0 m1 m2 m3 s t : Int) (w : World) : (Op.equalIn (d + 1 + 1 + 1) 26 (.agg #[.bool b, .int .u64 n0, .int .u64 n1, .int .u64 n2, .int .u64 n3, .int .i64 s]) (.agg #[.bool c, .int .u64 m0, .int .u64 m1, .int .u64 m2, .int .u64 m3, .int .i64 t])).run Tryz.prog w = .ok (b == c && (s4 n0 n1 n2 n3 m0 m1 m2 m3 && s == t)) w := by
 rw [run_equalIn_struct w (d + 1 + 1) 26 _ _ ht40 hp40]
 have h := fo40
 generalize (Tryz.prog.fieldsOf 26).toList = L at h
 have hl : L.length = 3 := by have := congrArg List.length h; simpa using this
 match L, hl with
 | [f0, f1, f2], _ =>
  simp at h
  obtain ⟨⟨a0, a1, a2⟩, ⟨b0, b1, b2⟩, ⟨c0, c1, c2⟩⟩ := h
  have q1 : (Op.equalIn (d + 1 + 1) 4 (.bool b) (.bool c)).run Tryz.prog w = .ok (b == c) w := by kernel_rfl
  have q2 : _ = Result.ok (s4 n0 n1 n2 n3 m0 m1 m2 m3) w := eq4d d n0 n1 n2 n3 m0 m1 m2 m3 w
  have q3 : (Op.equalIn (d + 1 + 1) 3 (.int .i64 s) (.int .i64 t)).run Tryz.prog w = .ok (s == t) w := run_equalIn_int w (d + 1) 3 .i64 .i64 s t Tryz.underlying3
  generalize s4 n0 n1 n2 n3 m0 m1 m2 m3 = z at q2 ⊢
  simp only [Op.eqFields, a0, a1, a2, b0, b1, b2, c0, c1, c2]
  cases h1 : (b == c) <;> cases z <;> cases h3 : (s == t) <;> simp [Sem.run_bind, pt40, pt41, pt45, Result.andThen_ok, q1, q2, q3, h1, h3, Sem.run_pure]
theorem eq28 (k : Int) (b : Bool) (n0 n1 n2 n3 s : Int) (f : Bool) (t : ByteArray) (e : Int) (k' : Int) (b' : Bool) (m0 m1 m2 m3 s' : Int) (f' : Bool) (t' : ByteArray) (e' : Int) (w : World) : (Op.equalIn 10000 28 (.agg #[.int .i64 k, .bool b, .int .u64 n0, .int .u64 n1, .int .u64 n2, .int .u64 n3, .int .i64 s, .bool f, .string t, .int .i64 e]) (.agg #[.int .i64 k', .bool b', .int .u64 m0, .int .u64 m1, .int .u64 m2, .int .u64 m3, .int .i64 s', .bool f', .string t', .int .i64 e'])).run Tryz.prog w = .ok (svl k b n0 n1 n2 n3 s f t e k' b' m0 m1 m2 m3 s' f' t' e') w := by
 rw [show (10000 : Nat) = 9999 + 1 from rfl, run_equalIn_struct w 9999 28 _ _ ht28 hp28]
 have h := fo28
 generalize (Tryz.prog.fieldsOf 28).toList = L at h
 have hl : L.length = 5 := by have := congrArg List.length h; simpa using this
 match L, hl with
 | [f0, f1, f2, f3, f4], _ =>
  simp at h
  obtain ⟨⟨a0, a1, a2⟩, ⟨b0, b1, b2⟩, ⟨c0, c1, c2⟩, ⟨g0, g1, g2⟩, ⟨i0, i1, i2⟩⟩ := h
  have qi : ∀ x y : Int, (Op.equalIn 9999 3 (.int .i64 x) (.int .i64 y)).run Tryz.prog w = .ok (x == y) w := fun x y => run_equalIn_int w 9998 3 .i64 .i64 x y Tryz.underlying3
  have q2 : (Op.equalIn 9999 26 _ _).run Tryz.prog w = _ := eq26 9996 b b' n0 n1 n2 n3 m0 m1 m2 m3 s s' w
  have q3 : (Op.equalIn 9999 4 (.bool f) (.bool f')).run Tryz.prog w = .ok (f == f') w := by kernel_rfl
  have q4 : (Op.equalIn 9999 9 (.string t) (.string t')).run Tryz.prog w = .ok (t == t') w := by kernel_rfl
  unfold svl
  generalize (b == b' && (s4 n0 n1 n2 n3 m0 m1 m2 m3 && s == s')) = z at q2 ⊢
  simp only [Op.eqFields, a0, a1, a2, b0, b1, b2, c0, c1, c2, g0, g1, g2, i0, i1, i2]
  cases h1 : (k == k') <;> cases z <;> cases h3 : (f == f') <;> cases h4 : (t == t') <;> cases h5 : (e == e') <;> simp [Sem.run_bind, p28_0, p28_1, p28_7, p28_8, p28_9, Result.andThen_ok, qi, q2, q3, q4, h1, h3, h4, h5, Sem.run_pure]
section
variable {k : Int} {b : Bool} {n0 n1 n2 n3 s : Int} {f : Bool} {t : ByteArray} {e : Int} {k' : Int} {b' : Bool} {m0 m1 m2 m3 s' : Int} {f' : Bool} {t' : ByteArray} {e' : Int} {r : Bool}
theorem eqV (h : svl k b n0 n1 n2 n3 s f t e k' b' m0 m1 m2 m3 s' f' t' e' = r) (x y : Operand) (w : World) : (do eqGuard .eql 28 x y (.agg #[.int .i64 k, .bool b, .int .u64 n0, .int .u64 n1, .int .u64 n2, .int .u64 n3, .int .i64 s, .bool f, .string t, .int .i64 e]) (.agg #[.int .i64 k', .bool b', .int .u64 m0, .int .u64 m1, .int .u64 m2, .int .u64 m3, .int .i64 s', .bool f', .string t', .int .i64 e']); binOp .eql 28 (.agg #[.int .i64 k, .bool b, .int .u64 n0, .int .u64 n1, .int .u64 n2, .int .u64 n3, .int .i64 s, .bool f, .string t, .int .i64 e]) (.agg #[.int .i64 k', .bool b', .int .u64 m0, .int .u64 m1, .int .u64 m2, .int .u64 m3, .int .i64 s', .bool f', .string t', .int .i64 e'])).run Tryz.prog w = .ok (.bool r) w := eqa_run gt28 (by rw [← h]; exact eq28 ..) x y
theorem neV (h : svl k b n0 n1 n2 n3 s f t e k' b' m0 m1 m2 m3 s' f' t' e' = r) (x y : Operand) (w : World) : (do eqGuard .neq 28 x y (.agg #[.int .i64 k, .bool b, .int .u64 n0, .int .u64 n1, .int .u64 n2, .int .u64 n3, .int .i64 s, .bool f, .string t, .int .i64 e]) (.agg #[.int .i64 k', .bool b', .int .u64 m0, .int .u64 m1, .int .u64 m2, .int .u64 m3, .int .i64 s', .bool f', .string t', .int .i64 e']); binOp .neq 28 (.agg #[.int .i64 k, .bool b, .int .u64 n0, .int .u64 n1, .int .u64 n2, .int .u64 n3, .int .i64 s, .bool f, .string t, .int .i64 e]) (.agg #[.int .i64 k', .bool b', .int .u64 m0, .int .u64 m1, .int .u64 m2, .int .u64 m3, .int .i64 s', .bool f', .string t', .int .i64 e'])).run Tryz.prog w = .ok (.bool (!r)) w := nea_run gt28 (by rw [← h]; exact eq28 ..) x y
end
theorem sz26 : (Tryz.prog.info? 26).map (·.size) = some 6 := by kernel_rfl
theorem sz28 : (Tryz.prog.info? 28).map (·.size) = some 10 := by kernel_rfl
end Go.Proofs.YtogomodbcjpfiaaGreatDoor

namespace Go.Proofs.YtogomodbcjpfiaaGreatDoor
open Go.RowKit
theorem ba_beq (a b : ByteArray) : (a == b) = decide (a = b) := by
 obtain ⟨a⟩ := a
 obtain ⟨b⟩ := b
 have h : ((⟨a⟩ : ByteArray) == ⟨b⟩) = (a == b) := rfl
 rw [h]
 by_cases q : a = b
 ·subst q; simp
 ·have : ¬ (⟨a⟩ : ByteArray) = ⟨b⟩ := fun e => q (by injection e)
  simp [this, q]
structure VL where
 k : Int
 b : Bool
 n : Int
 s : Int
 f : Bool
 t : ByteArray
 e : Int
def VL.cells (v : VL) : List Value := [.int .i64 v.k, .bool v.b, .int .u64 (l0 v.n), .int .u64 (l1 v.n), .int .u64 (l2 v.n), .int .u64 (l3 v.n), .int .i64 v.s, .bool v.f, .string v.t, .int .i64 v.e]
abbrev VL.v (v : VL) : Value := .agg v.cells.toArray
def VL.ok (v : VL) : Prop := 0 ≤ v.n ∧ v.n < MM
abbrev E0 : ByteArray := ⟨#[]⟩
def vBl : VL := ⟨0, false, 0, 0, false, E0, 0⟩
def vEr (e : Int) : VL := ⟨4, false, 0, 0, false, E0, e⟩
def vFl (f : Bool) : VL := ⟨2, false, 0, 0, f, E0, 0⟩
def vNu (b : Bool) (n s : Int) : VL := ⟨1, b, n, s, false, E0, 0⟩
def vTx (t : ByteArray) : VL := ⟨3, false, 0, 0, false, t, 0⟩
def isE (e : Int) : Bool := decide (1 ≤ e) && decide (e ≤ 5)
def vBad (e : Int) : VL := vEr (if isE e then e else 2)
def svv (x y : VL) : Bool := svl x.k x.b (l0 x.n) (l1 x.n) (l2 x.n) (l3 x.n) x.s x.f x.t x.e y.k y.b (l0 y.n) (l1 y.n) (l2 y.n) (l3 y.n) y.s y.f y.t y.e
theorem eqW {x y : VL} {r : Bool} (h : svv x y = r) (p q : Operand) (w : World) : (do eqGuard .eql 28 p q x.v y.v; binOp .eql 28 x.v y.v).run Tryz.prog w = .ok (.bool r) w := eqV h p q w
theorem neW {x y : VL} {r : Bool} (h : svv x y = r) (p q : Operand) (w : World) : (do eqGuard .neq 28 p q x.v y.v; binOp .neq 28 x.v y.v).run Tryz.prog w = .ok (.bool (!r)) w := neV h p q w
theorem svv_self (x : VL) : svv x x = true := by simp [svv, svl, s4, ba_beq]
theorem svv_eq {x y : VL} (hx : x.ok) (hy : y.ok) (h : svv x y = true) : x = y := by
 obtain ⟨k, b, n, s, f, t, e⟩ := x
 obtain ⟨k', b', n', s', f', t', e'⟩ := y
 simp only [svv, svl, s4, ba_beq, Bool.and_eq_true, beq_iff_eq, decide_eq_true_eq] at h
 have hn : n = n' := nv_inj hx.1 hx.2 hy.1 hy.2 (by simp_all)
 simp_all
def bareV (v : VL) : VL := if v.k = 1 then vNu v.b v.n v.s else if v.k = 2 then vFl v.f else if v.k = 3 then vTx v.t else if v.k = 4 then vEr v.e else vBl
def inB (v : VL) : Bool := if v.k = 1 then decide (ck v.b v.n v.s = 0) else if v.k = 3 then decide (v.t.size ≤ 64) else if v.k = 4 then isE v.e else true
def ckv (v : VL) : Bool := svv v (bareV v) && inB v
def ckI (v : VL) : Int := if ckv v then 0 else 1
theorem ok_0 (k : Int) (b : Bool) (s : Int) (f : Bool) (t : ByteArray) (e : Int) : VL.ok ⟨k, b, 0, s, f, t, e⟩ := ⟨Int.le_refl 0, by show (0 : Int) < MM; decide⟩
theorem bare_ok {v : VL} (h : v.ok) : (bareV v).ok := by
 unfold bareV
 split; · exact h
 split; · exact ok_0 _ _ _ _ _ _
 split; · exact ok_0 _ _ _ _ _ _
 split; · exact ok_0 _ _ _ _ _ _
 exact ok_0 _ _ _ _ _ _
theorem ckv_eq {v : VL} (h : v.ok) (c : ckv v = true) : v = bareV v := svv_eq h (bare_ok h) (by unfold ckv at c; simp at c; exact c.1)
theorem ckv_in {v : VL} (c : ckv v = true) : inB v = true := by unfold ckv at c; simp at c; exact c.2
theorem ckv_num {v : VL} (h : v.ok) (c : ckv v = true) (k : v.k = 1) : v = vNu v.b v.n v.s ∧ ck v.b v.n v.s = 0 := by
 refine ⟨?_, ?_⟩
 ·have q := ckv_eq h c; unfold bareV at q; rw [if_pos k] at q; exact q
 ·have q := ckv_in c; unfold inB at q; rw [if_pos k] at q; exact of_decide_eq_true q
theorem ckv_err {v : VL} (h : v.ok) (c : ckv v = true) (k : v.k = 4) : v = vEr v.e ∧ isE v.e = true := by
 refine ⟨?_, ?_⟩
 ·have q := ckv_eq h c; unfold bareV at q; simp [k] at q; exact q
 ·have q := ckv_in c; unfold inB at q; simp [k] at q; exact q
theorem bad_of {e : Int} (h : isE e = true) : vBad e = vEr e := by unfold vBad; rw [if_pos h]
theorem ckv_vNu {b : Bool} {n s : Int} (h : ck b n s = 0) : ckv (vNu b n s) = true := by
 have : bareV (vNu b n s) = vNu b n s := by unfold bareV vNu; simp
 unfold ckv; rw [this, svv_self]; unfold inB vNu; simp [h]
def ask (v : VL) : Int := if ckv v then (if v.k = 4 then v.e else if v.k = 0 then 3 else 0) else 2
def ask2 (x y : VL) : Int := if ask x = 0 then ask y else ask x
theorem ask_0 {v : VL} (h : v.ok) (a : ask v = 0) : ckv v = true ∧ v.k ≠ 4 ∧ v.k ≠ 0 := by
 unfold ask at a
 split at a
 next c =>
  refine ⟨c, ?_, ?_⟩
  ·intro k; rw [if_pos k] at a; have := (ckv_err h c k).2; rw [a] at this; exact absurd this (by decide)
  ·intro k
   rw [if_neg (by omega), if_pos k] at a
   exact absurd a (by decide)
 next => exact absurd a (by decide)
structure DR where
 b : Bool
 n : Int
 s : Int
 e : Int
abbrev DR.v (r : DR) : Value := .tuple #[dc r.b r.n r.s, .int .i64 r.e]
def erR (c : Int) : DR := ⟨false, 0, 0, c⟩
def fzR (V S : Int) : DR := if ab V < MM then ⟨decide (V < 0), ab V, S, 0⟩ else erR 7
def fxR (b : Bool) (V S : Int) : DR := if V < MM then ⟨b && !decide (V = 0), V, S, 0⟩ else erR 7
theorem fz_v (V S : Int) : fz V S = (fzR V S).v := by unfold fz fzR; split <;> rfl
theorem fx_v (b : Bool) (V S : Int) : fx b V S = (fxR b V S).v := by unfold fx fxR; split <;> rfl
def sgn (b : Bool) (n : Int) : Int := if b then -n else n
theorem dz_sgn {b : Bool} {n s : Int} (h0 : 0 ≤ n) (h : ck b n s = 0) : decide (sgn b n < 0) = b ∧ ab (sgn b n) = n := by
 unfold ck at h
 split at h
 next hh =>
  simp at hh
  unfold sgn ab
  cases b
  ·simp; omega
  ·simp at hh; simp; omega
 next => exact absurd h (by decide)
theorem ck_s {b : Bool} {n s : Int} (h : ck b n s = 0) : sc s = true := by
 unfold ck at h
 split at h
 next hh => simp at hh; exact hh.1
 next => exact absurd h (by decide)
def addR (b : Bool) (n s : Int) (c : Bool) (m t : Int) : DR := fzR (addV (sgn b n) s (sgn c m) t) (max s t)
def subR (b : Bool) (n s : Int) (c : Bool) (m t : Int) : DR := fzR (addV (sgn b n) s (-(sgn c m)) t) (max s t)
def mulR (b : Bool) (n s : Int) (c : Bool) (m t : Int) : DR := fxR (b != c) (rdV (b != c) (n * m) (s + t) (min (s + t) 18) 2) (min (s + t) 18)
def cmpR (b : Bool) (n s : Int) (c : Bool) (m t : Int) : Int := cm (sgn b n * pw (max s t - s)) (sgn c m * pw (max s t - t))
def numV (r : DR) : VL := if r.e = 0 then vNu r.b r.n r.s else if r.e = 7 then vBad 1 else vBad 2
def ordV (op o : Int) : VL :=
 if op = 4 then vFl (decide (o = 0)) else if op = 5 then vFl (!decide (o = 0)) else if op = 6 then vFl (decide (o < 0)) else if op = 7 then vFl (decide (o ≤ 0))
 else if op = 8 then vFl (decide (0 < o)) else if op = 9 then vFl (decide (0 ≤ o)) else vBad 2
def opN (op : Int) (b : Bool) (n s : Int) (c : Bool) (m t : Int) : VL :=
 if op = 1 then numV (addR b n s c m t) else if op = 2 then numV (subR b n s c m t) else if op = 3 then numV (mulR b n s c m t) else ordV op (cmpR b n s c m t)
def opF (op : Int) (f g : Bool) : VL := if op = 10 then vFl (f && g) else if op = 11 then vFl (f || g) else vBad 2
def opV (op : Int) (x y : VL) : VL :=
 if ask2 x y = 0 then
  (if x.k = y.k then (if x.k = 1 then opN op x.b x.n x.s y.b y.n y.s else if op = 4 then vFl (svv x y) else if op = 5 then vFl (!svv x y) else if x.k = 2 then opF op x.f y.f else vBad 2) else vBad 2)
 else vBad (ask2 x y)
theorem vrt {v : Value} {x y : VL} (h : v = x.v) (e : x = y) : Ending.returned v = .returned y.v := by rw [h, e]
theorem ix45 {pa : Option Addr} {b off i n c : Nat} (hp : pa = some ⟨b, off, none⟩) (h : i < n) (w : World) : (Instr.indexAt 45 (.slice pa n c) (.int .i64 (i : Int))).run Tryz.prog w = .ok (pt b (off + i * 10)) w := by
 subst hp
 have e : (Instr.indexAt 45 (.slice (some ⟨b, off, none⟩) n c) (.int .i64 (i : Int))).run Tryz.prog w = .ok (.pointer (some ((⟨b, off, none⟩ : Addr).add (i * 10)))) w := by simp [go_sem, h]
 rw [e, Addr.add_mid]
theorem len45 (ρ : Operand → Value) (x : Operand) (p : Option Addr) (m c : Nat) (hx : ρ x = .slice p m c) (dst : Option Tmp) (type : TypeId) (pos : String) (after : Array Edge) (guard : Option (Nat × Bool)) (w : World) : (execOp ρ { dst, op := .call { callee := .builtin .len, args := #[x], argTypes := #[45] }, type, pos, after, guard }).run Tryz.prog w = .ok (.value (.int .i64 (m : Int))) w := by
 simp [go_sem, hx]
end Go.Proofs.YtogomodbcjpfiaaGreatDoor

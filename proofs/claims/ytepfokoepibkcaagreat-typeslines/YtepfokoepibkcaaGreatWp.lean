/-
  The laws of the steps over propositions that nothing unfolds by itself.
-/
import Derived.Test.YtepfokoepibkcaaGreatWo
namespace Go.Proofs.YtepfokoepibkcaaGreat
open Go.RowKit
/-- The least number with a property. -/
theorem exists_least {p : Nat → Prop} (h : ∃ m, p m) : ∃ m, p m ∧ ∀ k, p k → m ≤ k := by
  obtain ⟨m, hm⟩ := h
  induction m using Nat.strongRecOn with
  | ind m ih =>
    by_cases hh : ∃ k, k < m ∧ p k
    · obtain ⟨k, hk, hp⟩ := hh; exact ih k hk hp
    · exact ⟨m, hm, fun k hp => Nat.le_of_not_lt (fun hk => hh ⟨k, hk, hp⟩)⟩
def least (p : Nat → Prop) (m : Nat) : Prop := p m ∧ ∀ k, p k → m ≤ k
theorem least_ok {p : Nat → Prop} (h : ∃ m, p m) : least p (Classical.epsilon (least p)) := Classical.epsilon_spec (exists_least h)
structure WC (P : Program) (c : Code) (Q : Exit → Act → World → Prop) (n : Nat) (l : List (Nat × Value)) (w : World) : Prop where
  out : c.wp P Q (fr n l) w
structure WL (P : Program) (ops : Array Oper) (Q : Exit → Act → World → Prop) (r : List Oper) (n : Nat) (l : List (Nat × Value)) (w : World) : Prop where
  out : wpList P ops Q r (fr n l) w
structure WX (Q : Exit → Act → World → Prop) (e : Exit) (n : Nat) (l : List (Nat × Value)) (w : World) : Prop where
  out : Q e (fr n l) w
structure WO (P : Program) (o : Oper) (n : Nat) (l : List (Nat × Value)) (w : World) (K : Act → World → Prop) (Q : Exit → Act → World → Prop) : Prop where
  out : o.wp P (fr n l) w K Q
section
variable {P : Program} {o : Oper} {n : Nat} {l : List (Nat × Value)} {w : World} {ops : Array Oper} {rest : List Oper} {Q : Exit → Act → World → Prop} {K : Act → World → Prop}
theorem w_enter {f : FuncId} {fn : Func} {c : Code} {args : Array Value} {R : Ending → World → Prop} (n : Nat) (hf : P.funcs[f]? = some fn) (hn : fn.ntmps = n) (hb : fn.body = some c)
    (ha : Nat.ble args.size n = true) (h : WC P c (bodyPost P fn R) n (argl 0 args.toList) w) : Calls P f args w R := f_enter n hf hn hb ha h.out
theorem w_seq {x y : Code} (h : WC P x (Exit.then (y.wp P Q) Q) n l w) : WC P (Code.seq x y) Q n l w := ⟨wp_seq h.out⟩
theorem w_block {id : Nat} {c : Code} (h : WC P c (Exit.inBlock id Q) n l w) : WC P (Code.block id c) Q n l w := ⟨wp_block h.out⟩
theorem w_skip (h : WX Q .normal n l w) : WC P .skip Q n l w := ⟨wp_skip h.out⟩
theorem w_label {i : Nat} (h : WX Q .normal n l w) : WC P (.label i) Q n l w := ⟨wp_label h.out⟩
theorem w_ret (h : WX Q .ret n l w) : WC P .ret Q n l w := ⟨wp_ret h.out⟩
theorem w_exit {id : Nat} (h : WX Q (.exit id) n l w) : WC P (.exit id) Q n l w := ⟨wp_exit h.out⟩
theorem w_condT {c : Operand} {x y : Code} (hc : evl n l c = .bool true) (h : WC P x Q n l w) : WC P (Code.cond c x y) Q n l w := ⟨c_cond true hc h.out⟩
theorem w_condF {c : Operand} {x y : Code} (hc : evl n l c = .bool false) (h : WC P y Q n l w) : WC P (Code.cond c x y) Q n l w := ⟨c_cond false hc h.out⟩
theorem w_reg {id : Nat} {ol : List Oper} (h : WL P ol.toArray Q ol n l w) : WC P (Code.region id ol.toArray false) Q n l w := ⟨wp_region_lit h.out⟩
theorem w_nil (h : WX Q .normal n l w) : WL P ops Q [] n l w := ⟨wpList_nil h.out⟩
theorem xn_then {y : Code} {Q' : Exit → Act → World → Prop} (h : WC P y Q n l w) : WX (Exit.then (y.wp P Q) Q') .normal n l w := ⟨n_then h.out⟩
theorem xn_blk {id : Nat} (h : WX Q .normal n l w) : WX (Exit.inBlock id Q) .normal n l w := ⟨n_blk h.out⟩
theorem xx_then {next : Act → World → Prop} {id : Nat} (h : WX Q (.exit id) n l w) : WX (Exit.then next Q) (.exit id) n l w := ⟨x_then h.out⟩
theorem xx_blk {id : Nat} (h : WX Q .normal n l w) : WX (Exit.inBlock id Q) (.exit id) n l w := ⟨x_blk h.out⟩
theorem xx_out {id i : Nat} (hne : Nat.beq i id = false) (h : WX Q (.exit i) n l w) : WX (Exit.inBlock id Q) (.exit i) n l w := ⟨x_out hne h.out⟩
theorem xr_then {next : Act → World → Prop} (h : WX Q .ret n l w) : WX (Exit.then next Q) .ret n l w := ⟨r_then h.out⟩
theorem xr_blk {id : Nat} (h : WX Q .ret n l w) : WX (Exit.inBlock id Q) .ret n l w := ⟨r_blk h.out⟩
theorem w_ret1 {fn : Func} {R : Ending → World → Prop} (x : ResultVar) (v : Value) (hf : fn.results = #[x]) (h : resv n l P w v x) (hR : R (.returned v) w) : WX (bodyPost P fn R) .ret n l w := ⟨c_ret1 x v hf h hR⟩
theorem w_ret2 {fn : Func} {R : Ending → World → Prop} (x y : ResultVar) (v u : Value) (hf : fn.results = #[x, y]) (h : resv n l P w v x) (g : resv n l P w u y) (hR : R (.returned (.tuple #[v, u])) w) : WX (bodyPost P fn R) .ret n l w := ⟨c_ret2 x y v u hf h g hR⟩
/-- A loop: what holds ahead of each round, of the frame's list and the world, with a number that falls. -/
theorem w_loop {c : Code} (I : Nat → List (Nat × Value) → World → Prop) (m : Nat) (h0 : I m l w)
    (round : ∀ m l w, I m l w → WC P c (Exit.then (fun a w' => ∃ m' l', m' < m ∧ a = fr n l' ∧ I m' l' w') Q) n l w) : WC P (Code.loop c) Q n l w := by
  refine ⟨?_⟩
  have key : ∀ m : Nat, ∀ l w, I m l w → (Code.loop c).wp P Q (fr n l) w := by
    intro m0 l0 w0 hI0
    refine wp_loop (fun a w => ∃ m l, a = fr n l ∧ I m l w) (fun a w => Classical.epsilon (least (fun m => ∃ l, a = fr n l ∧ I m l w))) ⟨m0, l0, rfl, hI0⟩ ?_
    rintro a w ⟨m, l, rfl, hI⟩
    obtain ⟨l2, e2, hI2⟩ := (least_ok (p := fun m => ∃ l', fr n l = fr n l' ∧ I m l' w) ⟨m, l, rfl, hI⟩).1
    rw [e2]
    refine Code.wp_mono ?_ (round _ l2 w hI2).out
    intro e a' w' hq
    cases e with
    | normal =>
      obtain ⟨m', l', hlt, rfl, hI'⟩ := hq
      refine ⟨⟨m', l', rfl, hI'⟩, Nat.lt_of_le_of_lt ((least_ok (p := fun m => ∃ l'', fr n l' = fr n l'' ∧ I m l'' w') ⟨m', l', rfl, hI'⟩).2 m' ⟨l', rfl, hI'⟩) ?_⟩
      rw [← e2]; exact hlt
    | _ => exact hq
  exact key m l w h0
theorem xn_loop {I : Nat → List (Nat × Value) → World → Prop} {m : Nat} (m' : Nat) (hlt : m' < m) (h : I m' l w) : WX (Exit.then (fun a w' => ∃ m' l', m' < m ∧ a = fr n l' ∧ I m' l' w') Q) .normal n l w := ⟨⟨m', l, hlt, rfl, h⟩⟩
theorem wl_val (v : Value) (h : (execOp (evl n l) o).run P w = .ok (.value v) w) (hg : wnt n l ops o = true) (hk : WL P ops Q rest n (ext l o.dst v) w) : WL P ops Q (o :: rest) n l w :=
  ⟨l_step hg (o_val v h hk.out)⟩
theorem wo_val (v : Value) (h : (execOp (evl n l) o).run P w = .ok (.value v) w) (hk : K (fr n (ext l o.dst v)) w) : WO P o n l w K Q := ⟨o_val v h hk⟩
theorem wl_mv (x : Operand) (p : Value) (ho : ∀ ρ, execOp ρ o = pure (.value (ρ x))) (hx : evl n l x = p) (hg : wnt n l ops o = true) (hk : WL P ops Q rest n (ext l o.dst p) w) : WL P ops Q (o :: rest) n l w :=
  ⟨l_step hg (o_mv x p ho hx hk.out)⟩
theorem wo_mv (x : Operand) (p : Value) (ho : ∀ ρ, execOp ρ o = pure (.value (ρ x))) (hx : evl n l x = p) (hk : K (fr n (ext l o.dst p)) w) : WO P o n l w K Q := ⟨o_mv x p ho hx hk⟩
theorem wl_un (F : Value → Sem Value) (x : Operand) (p v : Value) (ho : ∀ ρ, execOp ρ o = (do pure (.value (← F (ρ x))))) (hx : evl n l x = p) (h : (F p).run P w = .ok v w) (hg : wnt n l ops o = true) (hk : WL P ops Q rest n (ext l o.dst v) w) : WL P ops Q (o :: rest) n l w :=
  ⟨l_step hg (o_un F x p v ho hx h hk.out)⟩
theorem wo_un (F : Value → Sem Value) (x : Operand) (p v : Value) (ho : ∀ ρ, execOp ρ o = (do pure (.value (← F (ρ x))))) (hx : evl n l x = p) (h : (F p).run P w = .ok v w) (hk : K (fr n (ext l o.dst v)) w) : WO P o n l w K Q := ⟨o_un F x p v ho hx h hk⟩
theorem wl_bin (F : Value → Value → Sem Value) (x y : Operand) (p q v : Value) (ho : ∀ ρ, execOp ρ o = (do pure (.value (← F (ρ x) (ρ y))))) (hx : evl n l x = p) (hy : evl n l y = q) (h : (F p q).run P w = .ok v w) (hg : wnt n l ops o = true) (hk : WL P ops Q rest n (ext l o.dst v) w) : WL P ops Q (o :: rest) n l w :=
  ⟨l_step hg (o_bin F x y p q v ho hx hy h hk.out)⟩
theorem wo_bin (F : Value → Value → Sem Value) (x y : Operand) (p q v : Value) (ho : ∀ ρ, execOp ρ o = (do pure (.value (← F (ρ x) (ρ y))))) (hx : evl n l x = p) (hy : evl n l y = q) (h : (F p q).run P w = .ok v w) (hk : K (fr n (ext l o.dst v)) w) : WO P o n l w K Q := ⟨o_bin F x y p q v ho hx hy h hk⟩
theorem wl_pick (c x y : Operand) (t : Bool) (v : Value) (ho : ∀ ρ, execOp ρ o = (do pure (.value (if ← asBool (ρ c) then ρ x else ρ y)))) (hc : evl n l c = .bool t) (hv : evl n l (bif t then x else y) = v) (hg : wnt n l ops o = true) (hk : WL P ops Q rest n (ext l o.dst v) w) : WL P ops Q (o :: rest) n l w :=
  ⟨l_step hg (o_pick c x y t v ho hc hv hk.out)⟩
theorem wo_pick (c x y : Operand) (t : Bool) (v : Value) (ho : ∀ ρ, execOp ρ o = (do pure (.value (if ← asBool (ρ c) then ρ x else ρ y)))) (hc : evl n l c = .bool t) (hv : evl n l (bif t then x else y) = v) (hk : K (fr n (ext l o.dst v)) w) : WO P o n l w K Q := ⟨o_pick c x y t v ho hc hv hk⟩
theorem wl_build (t : TypeId) (xs : List (Nat × Operand)) (ps : List (Nat × Value)) (v : Value) (ho : o.op = .build t xs.toArray) (hx : xs.map (fun p => (p.1, evl n l p.2)) = ps) (h : (Instr.build t ps.toArray).run P w = .ok v w) (hg : wnt n l ops o = true) (hk : WL P ops Q rest n (ext l o.dst v) w) : WL P ops Q (o :: rest) n l w :=
  ⟨l_step hg (o_build t xs ps v ho hx h hk.out)⟩
theorem wo_build (t : TypeId) (xs : List (Nat × Operand)) (ps : List (Nat × Value)) (v : Value) (ho : o.op = .build t xs.toArray) (hx : xs.map (fun p => (p.1, evl n l p.2)) = ps) (h : (Instr.build t ps.toArray).run P w = .ok v w) (hk : K (fr n (ext l o.dst v)) w) : WO P o n l w K Q := ⟨o_build t xs ps v ho hx h hk⟩
theorem wl_load (ty : TypeId) (x : Operand) (p v : Value) (ho : o.op = .load ty x) (hx : evl n l x = p) (h : (Instr.loadAt ty p).run P w = .ok v w) (hg : wnt n l ops o = true) (hk : WL P ops Q rest n (ext l o.dst v) w) : WL P ops Q (o :: rest) n l w :=
  ⟨l_step hg (o_load ty x p v ho hx h hk.out)⟩
theorem wo_load (ty : TypeId) (x : Operand) (p v : Value) (ho : o.op = .load ty x) (hx : evl n l x = p) (h : (Instr.loadAt ty p).run P w = .ok v w) (hk : K (fr n (ext l o.dst v)) w) : WO P o n l w K Q := ⟨o_load ty x p v ho hx h hk⟩
theorem wl_alloc (ty : TypeId) (zs : Array Value) (ho : o.op = .alloc ty) (h : ∀ w, (Instr.alloc ty true (.tuple #[])).run P w = .ok (pt w.heap.size 0) (w.alloc (.cells zs ty))) (hg : wnt n l ops o = true) (hk : ∀ k w', w.heap.size = k → w'.heap.size = k + 1 → Mo w w' → At w' k zs.toList → WL P ops Q rest n (ext l o.dst (pt k 0)) w') : WL P ops Q (o :: rest) n l w :=
  ⟨l_step hg (o_alloc ty zs ho h (fun k w' a b c d => (hk k w' a b c d).out))⟩
theorem wo_alloc (ty : TypeId) (zs : Array Value) (ho : o.op = .alloc ty) (h : ∀ w, (Instr.alloc ty true (.tuple #[])).run P w = .ok (pt w.heap.size 0) (w.alloc (.cells zs ty))) (hk : ∀ k w', w.heap.size = k → w'.heap.size = k + 1 → Mo w w' → At w' k zs.toList → K (fr n (ext l o.dst (pt k 0))) w') : WO P o n l w K Q := ⟨o_alloc ty zs ho h (fun k w' a b c d => (hk k w' a b c d))⟩
theorem wl_box (ty : TypeId) (x : Operand) (v : Value) (cs : Array Value) (ho : o.op = .box ty x) (hx : evl n l x = v) (h : ∀ w, (Instr.box ty v).run P w = .ok (pt w.heap.size 0) (w.alloc (.cells cs ty))) (hg : wnt n l ops o = true) (hk : ∀ k w', w.heap.size = k → w'.heap.size = k + 1 → Mo w w' → At w' k cs.toList → WL P ops Q rest n (ext l o.dst (pt k 0)) w') : WL P ops Q (o :: rest) n l w :=
  ⟨l_step hg (o_box ty x v cs ho hx h (fun k w' a b c d => (hk k w' a b c d).out))⟩
theorem wo_box (ty : TypeId) (x : Operand) (v : Value) (cs : Array Value) (ho : o.op = .box ty x) (hx : evl n l x = v) (h : ∀ w, (Instr.box ty v).run P w = .ok (pt w.heap.size 0) (w.alloc (.cells cs ty))) (hk : ∀ k w', w.heap.size = k → w'.heap.size = k + 1 → Mo w w' → At w' k cs.toList → K (fr n (ext l o.dst (pt k 0))) w') : WO P o n l w K Q := ⟨o_box ty x v cs ho hx h (fun k w' a b c d => (hk k w' a b c d))⟩
theorem wl_call (g : FuncId) (xs : List Operand) (ats : Array TypeId) (args : List Value) (v : Value) (ho : o.op = .call { callee := .value (.func g), args := xs.toArray, argTypes := ats }) (hx : xs.map (evl n l) = args) (h : ∀ args w, (callFunc g args).run P w = .ok (.enter g args) w) (hc : Calls P g args.toArray w fun e w' => e = .returned v ∧ Mo w w') (hg : wnt n l ops o = true) (hk : ∀ w', Mo w w' → WL P ops Q rest n (ext l o.dst v) w') : WL P ops Q (o :: rest) n l w :=
  ⟨l_step hg (o_call g xs ats args v ho hx h hc (fun w' m => (hk w' m).out))⟩
theorem wo_call (g : FuncId) (xs : List Operand) (ats : Array TypeId) (args : List Value) (v : Value) (ho : o.op = .call { callee := .value (.func g), args := xs.toArray, argTypes := ats }) (hx : xs.map (evl n l) = args) (h : ∀ args w, (callFunc g args).run P w = .ok (.enter g args) w) (hc : Calls P g args.toArray w fun e w' => e = .returned v ∧ Mo w w') (hk : ∀ w', Mo w w' → K (fr n (ext l o.dst v)) w') : WO P o n l w K Q := ⟨o_call g xs ats args v ho hx h hc (fun w' m => (hk w' m))⟩
theorem wl_skip (hg : wnt n l ops o = false) (h : WL P ops Q rest n (ext l o.dst undef) w) : WL P ops Q (o :: rest) n l w := ⟨l_skip hg h.out⟩
theorem wl_st (ty : TypeId) (x y : Operand) (k off : Nat) (us : Array Value) (vs vs' : List Value) (hA : At w k vs) (ho : o.op = .store ty x y) (hd : o.dst = none) (hx : evl n l x = pt k off) (hy : evl n l y = .agg us)
    (hl : Nat.ble (off + us.size) vs.length = true) (hi : (P.info? ty).map (·.size) = some us.size) (h1 : us.toList.all (·.oneCell') = true) (hvs : vs' = vs.take off ++ us.toList ++ vs.drop (off + us.toList.length)) (hg : wnt n l ops o = true)
    (hk : ∀ w', St k w w' → At w' k vs' → WL P ops Q rest n l w') : WL P ops Q (o :: rest) n l w :=
  ⟨l_step hg (o_st ty x y k off us vs vs' hA ho hd hx hy hl hi h1 hvs (fun w' a b => (hk w' a b).out))⟩
theorem wl_st1 (ty : TypeId) (x y : Operand) (k off : Nat) (v : Value) (vs vs' : List Value) (hA : At w k vs) (ho : o.op = .store ty x y) (hd : o.dst = none) (hx : evl n l x = pt k off) (hy : evl n l y = v)
    (hl : Nat.blt off vs.length = true) (hi : (P.info? ty).map (·.size) = some 1) (hv : v.cells = #[v]) (h1 : v.oneCell' = true) (hvs : vs' = vs.take off ++ [v] ++ vs.drop (off + 1)) (hg : wnt n l ops o = true)
    (hk : ∀ w', St k w w' → At w' k vs' → WL P ops Q rest n l w') : WL P ops Q (o :: rest) n l w :=
  ⟨l_step hg (o_st1 ty x y k off v vs vs' hA ho hd hx hy hl hi hv h1 hvs (fun w' a b => (hk w' a b).out))⟩
/-- Is it run, or passed by? -/
structure Go1 (P : Program) (ops : List Oper) (Q : Exit → Act → World → Prop) (n : Nat) (l : List (Nat × Value)) (w : World) (K : Act → World → Prop) (o : Oper) : Prop where
  out : (wnt n l ops.toArray o = true ∧ WO P o n l w K Q) ∨ (wnt n l ops.toArray o = false ∧ K (fr n (ext l o.dst undef)) w)
theorem go_run {ol : List Oper} (hg : wnt n l ol.toArray o = true) (h : WO P o n l w K Q) : Go1 P ol Q n l w K o := ⟨Or.inl ⟨hg, h⟩⟩
theorem go_pass {ol : List Oper} (hg : wnt n l ol.toArray o = false) (h : K (fr n (ext l o.dst undef)) w) : Go1 P ol Q n l w K o := ⟨Or.inr ⟨hg, h⟩⟩
structure OgW (P : Program) (ops : List Oper) (Q : Exit → Act → World → Prop) (n : Nat) (l : List (Nat × Value)) (m : Nat) (W : World) (sp : List Sp) (i : Nat) (o : Oper) : Prop where
  out : ∀ f w, Mo W w → (∀ j, depb o j = true → spDen W.heap.size (spAt sp j) (f j) w) → ∀ K : Act → World → Prop,
    (match spAt sp i with
      | .inl v => ∀ w', Mo w w' → K (fr n (ext (asg f 0 (ops.take m) l) o.dst v)) w'
      | .inr zs => ∀ k w', w.heap.size = k → w'.heap.size = k + 1 → Mo w w' → At w' k zs → K (fr n (ext (asg f 0 (ops.take m) l) o.dst (pt k 0))) w') →
    Go1 P ops Q n (asg f 0 (ops.take m) l) w K o
theorem og_eq {ol : List Oper} {m : Nat} {W : World} {sp : List Sp} {i : Nat} (v : Value) (hs : spAt sp i = .inl v)
    (h : ∀ f w, Mo W w → (∀ j, depb o j = true → spDen W.heap.size (spAt sp j) (f j) w) → ∀ K : Act → World → Prop, (∀ w', Mo w w' → K (fr n (ext (asg f 0 (ol.take m) l) o.dst v)) w') → Go1 P ol Q n (asg f 0 (ol.take m) l) w K o) : OgW P ol Q n l m W sp i o :=
  ⟨fun f w hm hd K hK => h f w hm hd K (by rw [hs] at hK; exact hK)⟩
theorem og_new {ol : List Oper} {m : Nat} {W : World} {sp : List Sp} {i : Nat} (zs : List Value) (hs : spAt sp i = .inr zs)
    (h : ∀ f w, Mo W w → (∀ j, depb o j = true → spDen W.heap.size (spAt sp j) (f j) w) → ∀ K : Act → World → Prop, (∀ k w', w.heap.size = k → w'.heap.size = k + 1 → Mo w w' → At w' k zs → K (fr n (ext (asg f 0 (ol.take m) l) o.dst (pt k 0))) w') → Go1 P ol Q n (asg f 0 (ol.take m) l) w K o) : OgW P ol Q n l m W sp i o :=
  ⟨fun f w hm hd K hK => h f w hm hd K (by rw [hs] at hK; exact hK)⟩
/-- Something of each operation, with its number. -/
theorem ea_nil {F : Nat → Oper → Prop} {i : Nat} : Each F i [] := trivial
theorem ea_cons {F : Nat → Oper → Prop} {i : Nat} {o : Oper} {r : List Oper} (h : F i o) (k : Each F (i + 1) r) : Each F i (o :: r) := ⟨h, k⟩
/-- What lies in the slots, by the list. -/
def slo (n : Nat) (l : List (Nat × Value)) (ops : List Oper) (i : Nat) : Value :=
  match (ops[i]?).bind (·.dst) with
  | some d => bif Nat.blt d n then look l d else undef
  | none => undef
theorem slo_eq (ops : List Oper) : slots (fr n l) ops.toArray = slo n l ops := by
  funext i
  unfold slots slo
  simp only [List.getElem?_toArray]
  cases (ops[i]?).bind (·.dst) with
  | none => rfl
  | some d => exact fr_getD n l d
def isPt : Value → Bool
  | .pointer (some _) => true
  | _ => false
theorem Ds.start {sp : List Sp} {f : Nat → Value} (h : (List.range sp.length).all (fun j => !spNew (spAt sp j) || !isPt (f j)) = true) : Ds sp f w := by
  have hh : ∀ j, spNew (spAt sp j) = true → ∀ k, f j ≠ pt k 0 := fun j hj k e => by
    rcases Nat.lt_or_ge j sp.length with hl | hl
    · have := List.all_eq_true.1 h j (List.mem_range.2 hl)
      simp [hj, e, isPt] at this
    · unfold spAt at hj; rw [List.getElem?_eq_none hl] at hj; cases hj
  exact ⟨fun j hj k hk => (hh j hj k hk).elim, fun i j hi _ _ k hk => (hh i hi k hk).elim⟩
theorem la_mv (x : Operand) (p : Value) (ho : ∀ ρ, execOp ρ o = pure (.value (ρ x))) (hx : evl n l x = p) : ∀ w, (execOp (evl n l) o).run P w = .ok (.value p) w := fun w => by rw [ho, hx]; rfl
theorem la_un (F : Value → Sem Value) (x : Operand) (p v : Value) (ho : ∀ ρ, execOp ρ o = (do pure (.value (← F (ρ x))))) (hx : evl n l x = p) (h : ∀ w, (F p).run P w = .ok v w) : ∀ w, (execOp (evl n l) o).run P w = .ok (.value v) w := fun w => by
  rw [ho, hx]; simp [h]
theorem late_nil {ol : List Oper} {m : Nat} {sp : List Sp} : ∀ i, i ∈ ([] : List Nat) → LateO P ol Q n l m sp i := fun i h => absurd h (by simp)
theorem late_cons {ol : List Oper} {m : Nat} {sp : List Sp} {j : Nat} {r : List Nat} (h : LateO P ol Q n l m sp j) (k : ∀ i, i ∈ r → LateO P ol Q n l m sp i) : ∀ i, i ∈ j :: r → LateO P ol Q n l m sp i := fun i hi => by
  rcases List.mem_cons.1 hi with rfl | hi
  · exact h
  · exact k i hi
theorem w_any {id : Nat} {ol : List Oper} (m : Nat) (sp : List Sp) (fs : List Nat) (hm : P.follows .mixedOrders = true)
    (hb : edgesBack .any ol.toArray = true) (hd : dstsApart (ol.take m) = true) (hc : chainB ol m fs = true) (hl : Nat.ble m ol.length = true) (hf : floatB ol m fs = true) (hns : Region.noSelect ol.toArray = true)
    (hlate : ∀ i, i ∈ fs → LateO P ol Q n l m sp i)
    (hD : Ds sp (slo n l (ol.take m)) w)
    (hs : Each (OgW P ol Q n l m w sp) 0 (ol.take m))
    (hend : ∀ kf w', Mo w w' → (∀ i zs, Nat.blt i m = true → spAt sp i = .inr zs → w.heap.size ≤ kf i ∧ At w' (kf i) zs) → (∀ i j, Nat.blt i m = true → Nat.blt j m = true → spNew (spAt sp i) = true → spNew (spAt sp j) = true → i ≠ j → kf i ≠ kf j) →
      WL P ol.toArray Q (ol.drop m) n (asg (spv sp kf) 0 (ol.take m) l) w') : WC P (Code.region id ol.toArray true) Q n l w := by
  refine ⟨r_any m sp fs hm hb hd hc hl hf hns hlate (by rw [slo_eq]; exact hD) (Each.mono ?_ _ 0 hs) (fun kf w' a b c => (hend kf w' a b c).out)⟩
  intro i o h f w' hmo hdep K hK
  rcases (h.out f w' hmo hdep K hK).out with ⟨hg, h⟩ | ⟨hg, h⟩
  · exact ct hg h.out
  · exact cf hg h
end
end Go.Proofs.YtepfokoepibkcaaGreat


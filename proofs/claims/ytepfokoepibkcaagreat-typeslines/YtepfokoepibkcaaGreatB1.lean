/-
  Laws of steps for scope: comparisons, nil checks, calls, functions as values, maps by names, slices built.
-/
import Derived.Test.YtepfokoepibkcaaGreatLx3
import Derived.Maps.OwnSet
import Derived.WalkArith
import Derived.StringKeys
namespace Go.Proofs.YtepfokoepibkcaaGreat
open Go.RowKit Go.ChangeMaps
/-- The world behind a call that makes new blocks, and writes into those of D. -/
structure Mk (D : Nat → Prop) (w w' : World) : Prop where
  os : w'.os = w.os
  tape : w'.tape = w.tape
  output : w'.output = w.output
  size : w.heap.size ≤ w'.heap.size
  block : ∀ k, k < w.heap.size → ¬ D k → w'.heap[k]? = w.heap[k]?
  fz : ∀ a, w'.frozen? a = w.frozen? a
theorem Mk.refl (D : Nat → Prop) (w : World) : Mk D w w := ⟨rfl, rfl, rfl, Nat.le_refl _, fun _ _ _ => rfl, fun _ => rfl⟩
theorem Mk.of (D : Nat → Prop) {w w' : World} (h : Mo w w') : Mk D w w' := ⟨h.1.os, h.1.tape, h.1.output, h.1.size, fun k hk _ => h.1.block k hk, h.2⟩
theorem Mk.tr {D E : Nat → Prop} {a b c : World} (h : Mk D a b) (k : Mk E b c) (hE : ∀ j, j < a.heap.size → E j → D j) : Mk D a c :=
  ⟨k.os.trans h.os, k.tape.trans h.tape, k.output.trans h.output, Nat.le_trans h.size k.size, fun j hj hd => (k.block j (Nat.lt_of_lt_of_le hj h.size) (fun e => hd (hE j hj e))).trans (h.block j hj hd), fun x => (k.fz x).trans (h.fz x)⟩
theorem Mk.trans {D : Nat → Prop} {a b c : World} (h : Mk D a b) (k : Mo b c) : Mk D a c := h.tr (Mk.of D k) (fun _ _ e => e)
theorem Mk.same {D : Nat → Prop} {a b c : World} (h : Mk D a b) (k : Mk D b c) : Mk D a c := h.tr k (fun _ _ e => e)
theorem Mk.mono {D E : Nat → Prop} {a b : World} (h : Mk D a b) (hE : ∀ j, D j → E j) : Mk E a b := ⟨h.os, h.tape, h.output, h.size, fun k hk hd => h.block k hk (fun e => hd (hE k e)), h.fz⟩
theorem Mk.at {D : Nat → Prop} {w w' : World} (h : Mk D w w') {k : Nat} {vs : List Value} (hA : At w k vs) (hk : ¬ D k) : At w' k vs :=
  ⟨fun j v hv => (World.cell?_of_block (a := ⟨k, 0 + j, none⟩) (h.block k hA.2.2 hk)).trans (hA.1 j v hv), fun o => (h.fz _).trans (hA.2.1 o), Nat.lt_of_lt_of_le hA.2.2 h.size⟩
theorem Mk.mo {D : Nat → Prop} {a b c : World} (h : Mk D b c) (m : Mo a b) (hD : ∀ k, D k → a.heap.size ≤ k) : Mo a c :=
  ⟨⟨h.os.trans m.1.os, h.tape.trans m.1.tape, h.output.trans m.1.output, Nat.le_trans m.1.size h.size, fun k hk => (h.block k (Nat.lt_of_lt_of_le hk m.1.size) (fun e => by have := hD k e; omega)).trans (m.1.block k hk)⟩, fun x => (h.fz x).trans (m.2 x)⟩
/-- Comparisons of whole numbers. -/
theorem eq3 {a b : Int} {r : Bool} (h : decide (a = b) = r) (x y : Operand) (w : World) : (do eqGuard .eql 3 x y (.int .i64 a) (.int .i64 b); binOp .eql 3 (.int .i64 a) (.int .i64 b)).run Tryz.prog w = .ok (.bool r) w := by
  subst h
  have e : (do eqGuard .eql 3 x y (.int .i64 a) (.int .i64 b); binOp .eql 3 (.int .i64 a) (.int .i64 b)).run Tryz.prog w = .ok (.bool (a == b)) w := by kernel_rfl
  rw [e]; congr 2
theorem ne3 {a b : Int} {r : Bool} (h : decide (a = b) = r) (x y : Operand) (w : World) : (do eqGuard .neq 3 x y (.int .i64 a) (.int .i64 b); binOp .neq 3 (.int .i64 a) (.int .i64 b)).run Tryz.prog w = .ok (.bool (!r)) w := by
  subst h
  have e : (do eqGuard .neq 3 x y (.int .i64 a) (.int .i64 b); binOp .neq 3 (.int .i64 a) (.int .i64 b)).run Tryz.prog w = .ok (.bool (!(a == b))) w := by kernel_rfl
  rw [e]; congr 2
theorem eq34 {a b : Int} {r : Bool} (h : decide (a = b) = r) (x y : Operand) (w : World) : (do eqGuard .eql 32 x y (.int .i64 a) (.int .i64 b); binOp .eql 32 (.int .i64 a) (.int .i64 b)).run Tryz.prog w = .ok (.bool r) w := by
  subst h
  have e : (do eqGuard .eql 32 x y (.int .i64 a) (.int .i64 b); binOp .eql 32 (.int .i64 a) (.int .i64 b)).run Tryz.prog w = .ok (.bool (a == b)) w := by kernel_rfl
  rw [e]; congr 2
theorem ne34 {a b : Int} {r : Bool} (h : decide (a = b) = r) (x y : Operand) (w : World) : (do eqGuard .neq 32 x y (.int .i64 a) (.int .i64 b); binOp .neq 32 (.int .i64 a) (.int .i64 b)).run Tryz.prog w = .ok (.bool (!r)) w := by
  subst h
  have e : (do eqGuard .neq 32 x y (.int .i64 a) (.int .i64 b); binOp .neq 32 (.int .i64 a) (.int .i64 b)).run Tryz.prog w = .ok (.bool (!(a == b))) w := by kernel_rfl
  rw [e]; congr 2
theorem lt3 {a b : Int} {r : Bool} (h : decide (a < b) = r) (x y : Operand) (w : World) : (do eqGuard .lss 3 x y (.int .i64 a) (.int .i64 b); binOp .lss 3 (.int .i64 a) (.int .i64 b)).run Tryz.prog w = .ok (.bool r) w := by
  subst h; kernel_rfl
theorem gt3 {a b : Int} {r : Bool} (h : decide (b < a) = r) (x y : Operand) (w : World) : (do eqGuard .gtr 3 x y (.int .i64 a) (.int .i64 b); binOp .gtr 3 (.int .i64 a) (.int .i64 b)).run Tryz.prog w = .ok (.bool r) w := by
  subst h; kernel_rfl
theorem le3 {a b : Int} {r : Bool} (h : decide (a ≤ b) = r) (x y : Operand) (w : World) : (do eqGuard .leq 3 x y (.int .i64 a) (.int .i64 b); binOp .leq 3 (.int .i64 a) (.int .i64 b)).run Tryz.prog w = .ok (.bool r) w := by
  subst h; kernel_rfl
theorem ge3 {a b : Int} {r : Bool} (h : decide (b ≤ a) = r) (x y : Operand) (w : World) : (do eqGuard .geq 3 x y (.int .i64 a) (.int .i64 b); binOp .geq 3 (.int .i64 a) (.int .i64 b)).run Tryz.prog w = .ok (.bool r) w := by
  subst h; kernel_rfl
theorem ba_eq (a b : ByteArray) : (a.toList == b.toList) = decide (a = b) := by
  rw [Lib.toList_data, Lib.toList_data, Bool.eq_iff_iff, beq_iff_eq, decide_eq_true_iff]
  constructor
  · intro h
    obtain ⟨⟨x⟩⟩ := a
    obtain ⟨⟨y⟩⟩ := b
    simp at h
    rw [h]
  · rintro rfl; rfl
theorem s9 {a b : ByteArray} {r : Bool} (h : decide (a = b) = r) (x y : Operand) (w : World) : (do eqGuard .eql 9 x y (.string a) (.string b); binOp .eql 9 (.string a) (.string b)).run Tryz.prog w = .ok (.bool r) w :=
  eq9 (by rw [ba_eq]; exact h) x y w
theorem sn9 {a b : ByteArray} {r : Bool} (h : decide (a = b) = r) (x y : Operand) (w : World) : (do eqGuard .neq 9 x y (.string a) (.string b); binOp .neq 9 (.string a) (.string b)).run Tryz.prog w = .ok (.bool (!r)) w := by
  subst h; rw [← ba_eq]; simp [go_sem]
theorem add1i {k : Int} (h0 : -9223372036854775808 ≤ k + 1) (h : k + 1 ≤ 9223372036854775807) (x y : Operand) (w : World) : (do eqGuard .add 3 x y (.int .i64 k) (.int .i64 1); binOp .add 3 (.int .i64 k) (.int .i64 1)).run Tryz.prog w = .ok (.int .i64 (k + 1)) w := by
  have e : (do eqGuard .add 3 x y (.int .i64 k) (.int .i64 1); binOp .add 3 (.int .i64 k) (.int .i64 1)).run Tryz.prog w = .ok (.int .i64 (IntKind.i64.wrap (k + 1))) w := by kernel_rfl
  have h : IntKind.i64.wrap (k + 1) = k + 1 := by rw [IntKind.wrap_i64]; omega
  rw [e, h]
theorem notb (r : Bool) (w : World) : (Op.unary .not (.bool r)).run Tryz.prog w = .ok (.bool (!r)) w := by kernel_rfl
/-- An ending's value is another word for the same. -/
theorem cR {P : Program} {g : FuncId} {args : Array Value} {w : World} {v v' : Value} (h : v = v') (c : Calls P g args w fun e w' => e = .returned v ∧ Mo w w') : Calls P g args w fun e w' => e = .returned v' ∧ Mo w w' := h ▸ c
theorem cB {P : Program} {g : FuncId} {args : Array Value} {w : World} {v v' : Bool} (h : v = v') (c : Calls P g args w fun e w' => e = .returned (.bool v) ∧ Mo w w') : Calls P g args w fun e w' => e = .returned (.bool v') ∧ Mo w w' := h ▸ c
section
variable {P : Program} {o : Oper} {n : Nat} {l : List (Nat × Value)} {w : World} {ops : Array Oper} {rest : List Oper} {Q : Exit → Act → World → Prop} {K : Act → World → Prop} {c : Code}
theorem wl_nc (x : Operand) (k off : Nat) (ho : o.op = .nilCheck x) (hx : evl n l x = pt k off) (hg : wnt n l ops o = true) (hk : WL P ops Q rest n (ext l o.dst (pt k off)) w) : WL P ops Q (o :: rest) n l w :=
  wl_val (pt k off) (by simp [execOp, ho, hx]) hg hk
theorem wo_nc (x : Operand) (k off : Nat) (ho : o.op = .nilCheck x) (hx : evl n l x = pt k off) (hk : K (fr n (ext l o.dst (pt k off))) w) : WO P o n l w K Q :=
  wo_val (pt k off) (by simp [execOp, ho, hx]) hk
theorem lkp (t : TypeId) (m x : Operand) (c : Bool) (a b v : Value) (ho : o.op = .lookup t m x c) (hm : evl n l m = a) (hx : evl n l x = b) (h : (Instr.lookup t a b c).run P w = .ok v w) : (execOp (evl n l) o).run P w = .ok (.value v) w := by
  simp [execOp, ho, hm, hx, h]
theorem wl_callx (g : FuncId) (xs : List Operand) (ats : Array TypeId) (args : List Value) {F : Ending → World → Prop} (ho : o.op = .call { callee := .value (.func g), args := xs.toArray, argTypes := ats }) (hx : xs.map (evl n l) = args)
    (h : ∀ args w, (callFunc g args).run P w = .ok (.enter g args) w)
    (hc : Calls P g args.toArray w F) (hg : wnt n l ops o = true) (hk : ∀ v w', F v w' → ∃ u, v = .returned u ∧ WL P ops Q rest n (ext l o.dst u) w') : WL P ops Q (o :: rest) n l w := by
  have e : (execOp (evl n l) o).run P w = .ok (.enter g args.toArray) w := by
    obtain ⟨dst, op, ty, pos, after, guard⟩ := o
    simp only at ho
    subst ho hx
    have e2 := execOp_call_go (fr n l) dst g xs.toArray ats ty pos after guard
    rw [fr_eval] at e2
    rw [e2, h]
    simp
  refine ⟨l_step hg ?_⟩
  unfold Oper.wp; rw [fr_eval, e, Oper.upon_enter]
  refine hc.mono ?_
  intro e w' hF
  obtain ⟨u, rfl, hW⟩ := hk e w' hF
  show wpList _ _ _ _ _ _
  rw [fr_put]
  exact hW.out
/-- A call of a function that is a value. -/
theorem wl_callv (g : FuncId) (f : Operand) (fs cs : Array Value) (xs : List Operand) (ats : Array TypeId) (args all : List Value) {F : Ending → World → Prop} (ho : o.op = .call { callee := .value f, args := xs.toArray, argTypes := ats }) (hf : evl n l f = .func (.func g) fs cs) (hx : xs.map (evl n l) = args)
    (hall : fs ++ args.toArray ++ cs = all.toArray)
    (h : ∀ args w, (callFunc g args).run P w = .ok (.enter g args) w)
    (hc : Calls P g all.toArray w F) (hg : wnt n l ops o = true) (hk : ∀ v w', F v w' → ∃ u, v = .returned u ∧ WL P ops Q rest n (ext l o.dst u) w') : WL P ops Q (o :: rest) n l w := by
  have e : (execOp (evl n l) o).run P w = .ok (.enter g all.toArray) w := by
    obtain ⟨dst, op, ty, pos, after, guard⟩ := o
    simp only at ho
    subst ho hx
    have e2 : execOp (evl n l) { dst, op := .call { callee := .value f, args := xs.toArray, argTypes := ats }, type := ty, pos, after, guard } = (do let d ← Deferred.ofValue (evl n l f) (xs.toArray.map (evl n l)); invoke d.target d.args) := rfl
    rw [e2, hf]
    show (do let d ← Deferred.ofValue (.func (.func g) fs cs) (xs.toArray.map (evl n l)); invoke d.target d.args).run P w = _
    have e3 : (do let d ← Deferred.ofValue (.func (.func g) fs cs) (xs.toArray.map (evl n l)); invoke d.target d.args) = callFunc g (fs ++ xs.toArray.map (evl n l) ++ cs) := rfl
    rw [e3, h, List.map_toArray, hall]
  refine ⟨l_step hg ?_⟩
  unfold Oper.wp; rw [fr_eval, e, Oper.upon_enter]
  refine hc.mono ?_
  intro e w' hF
  obtain ⟨u, rfl, hW⟩ := hk e w' hF
  show wpList _ _ _ _ _ _
  rw [fr_put]
  exact hW.out
/-- A slice that is built. -/
theorem wl_bs (ty : TypeId) (m : Nat) (xs : List (Nat × Operand)) (ps : List (Nat × Value)) (cs : Array Value) (e : TypeId) (ho : o.op = .buildSlice ty m xs.toArray) (hx : xs.map (fun p => (p.1, evl n l p.2)) = ps)
    (h : ∀ w, (Instr.buildSlice ty m ps.toArray).run P w = .ok (.slice (some ⟨w.heap.size, 0, none⟩) m m) (w.alloc (.cells cs e))) (hg : wnt n l ops o = true)
    (hk : ∀ k w', w.heap.size = k → w'.heap.size = k + 1 → Mo w w' → At w' k cs.toList → WL P ops Q rest n (ext l o.dst (.slice (some ⟨k, 0, none⟩) m m)) w') : WL P ops Q (o :: rest) n l w := by
  subst hx
  refine ⟨l_step hg (o_val (.slice (some ⟨w.heap.size, 0, none⟩) m m) (w' := w.alloc (.cells cs e)) ?_ (hk _ _ rfl (by simp) ((Mo.refl _).alloc _ _) (At.new w cs e)).out)⟩
  simp [execOp, ho, h]
theorem w_rounds (N : Nat) (h : WC P c (Exit.then (Code.rounds P c Q N) Q) n l w) : WC P (Code.loop c) Q n l w := ⟨wp_loop_rounds (N + 1) h.out⟩
theorem xn_rounds {N : Nat} (h : WC P c (Exit.then (Code.rounds P c Q N) Q) n l w) : WX (Exit.then (Code.rounds P c Q (N + 1)) Q) .normal n l w := ⟨h.out⟩
theorem w_ret0 {fn : Func} {R : Ending → World → Prop} (hf : fn.results = #[]) (hR : R (.returned (.tuple #[])) w) : WX (bodyPost P fn R) .ret n l w :=
  ⟨⟨rfl, .tuple #[], by simp [results, hf], hR⟩⟩
theorem w_end0 {fn : Func} {R : Ending → World → Prop} (hf : fn.results = #[]) (hR : R (.returned (.tuple #[])) w) : WX (bodyPost P fn R) .normal n l w :=
  ⟨⟨rfl, .tuple #[], by simp [results, hf], hR⟩⟩
end
/-! Maps from names to whole numbers, and from names to flags. -/
/-- What a list of pairs says of a name. -/
def lk (al : List (ByteArray × Int)) (k : ByteArray) : Option Int := (al.find? (fun p => decide (p.1 = k))).map (·.2)
theorem lk_nil (k : ByteArray) : lk [] k = none := rfl
theorem lk_cons (a : ByteArray) (v : Int) (al : List (ByteArray × Int)) (k : ByteArray) : lk ((a, v) :: al) k = if a = k then some v else lk al k := by
  unfold lk
  rw [List.find?_cons]
  by_cases h : a = k
  · simp [h]
  · simp [h]
def RI (v : Value) : Option (DataW Unit × List MemPlace) := match v with
  | .int .i64 k => some (.lit (.int .i64 k), [])
  | _ => none
theorem RI_inv {v : Value} {x : Int} {ps : List MemPlace} (h : RI v = some (.lit (.int .i64 x), ps)) : v = .int .i64 x := by
  unfold RI at h
  split at h
  · simp at h; rw [h.1]
  · cases h
theorem keyd : Maps.Keyed Tryz.prog 9 := Maps.string_keyed Tryz.underlying9
theorem key_mk {s : ByteArray} (h : s.size ≤ maxLen) : keyOf Tryz.prog 9 (.string s) = some (.string s.data.toList) := WideMaps.keyOf_string_mk Tryz.underlying9 h
theorem key_ne {a b : ByteArray} (h : a ≠ b) : (Lit.string a.data.toList) ≠ .string b.data.toList := fun e => h (by
  obtain ⟨⟨x⟩⟩ := a
  obtain ⟨⟨y⟩⟩ := b
  simp at e
  rw [e])
/-- The map in the block b says what the pairs say. -/
def OM (w : World) (b : Nat) (al : List (ByteArray × Int)) : Prop :=
  ∃ D0 : DataW Unit, w.ownsMap Tryz.prog 9 RI b al.length D0 ∧ Maps.size D0 = al.length ∧ (∀ s, Maps.has D0 (.string s.data.toList) = (lk al s).isSome) ∧ ∀ s k, lk al s = some k → ∀ z, D0.atKey (.string s.data.toList) z = .lit (.int .i64 k)
variable {w w' : World} {b : Nat} {al : List (ByteArray × Int)}
theorem owns_tight {D0 : DataW Unit} {m : Nat} (h : w.ownsMap Tryz.prog 9 RI b m D0) : w.ownsMap Tryz.prog 9 RI b (Maps.size D0) D0 := by
  obtain ⟨es, clock, hb, F, _, rfl⟩ := h
  exact ⟨es, clock, hb, F, by simp [Maps.size, length_sorted], rfl⟩
theorem OM.mk {D : Nat → Prop} (h : OM w b al) (m : Mk D w w') (hb : ¬ D b) : OM w' b al := by
  obtain ⟨D0, h1, h2⟩ := h
  refine ⟨D0, ?_, h2⟩
  have hlt := h1.lt
  obtain ⟨es, clock, hb', F, hs, hD⟩ := h1
  exact ⟨es, clock, (m.block b hlt hb).trans hb', F, hs, hD⟩
theorem OM.mo (h : OM w b al) (m : Mo w w') : OM w' b al := h.mk (Mk.of (fun _ => False) m) (fun e => e)
theorem OM.lt (h : OM w b al) : b < w.heap.size := by obtain ⟨D0, h1, _⟩ := h; exact h1.lt
/-- No cell lies in a map's block. -/
theorem OM.nocell (h : OM w b al) (o : Nat) : w.cell? ⟨b, o, none⟩ = none := by
  obtain ⟨D0, ⟨es, clock, hb, _⟩, _⟩ := h
  simp [World.cell?, hb]
theorem turned_mk (h : w.mapTurned w' b) : Mk (fun k => k = b) w w' := by
  have g := h.grown
  exact ⟨g.os, g.tape, g.output, g.size, fun k hk hd => g.block k hk (fun e => hd (Option.some.inj e)), h.frozen⟩
theorem OM.new (w : World) : OM (w.alloc (.map #[] 0)) w.heap.size [] :=
  ⟨_, World.ownsMap_made w Tryz.prog 9 RI, rfl, fun _ => rfl, fun _ _ h => by cases h⟩
theorem Mo.allocm (w : World) : Mo w (w.alloc (.map #[] 0)) :=
  ⟨(Below.refl _ _).alloc (Nat.le_refl _) _, fun a => by
    rcases Nat.lt_trichotomy a.block w.heap.size with h | h | h
    · exact World.frozen?_of_block (Below.heap_alloc w _ _ h)
    · have h1 := heap_alloc_new w (.map #[] 0)
      rw [← h] at h1
      have h2 : w.heap[a.block]? = none := Array.getElem?_eq_none (by omega)
      unfold World.frozen?
      rw [h1, h2]
    · have h1 : (w.alloc (.map #[] 0)).heap[a.block]? = none := Array.getElem?_eq_none (by simp; omega)
      have h2 : w.heap[a.block]? = none := Array.getElem?_eq_none (by omega)
      unfold World.frozen?
      rw [h1, h2]⟩
section
variable {o : Oper} {n : Nat} {l : List (Nat × Value)} {w : World} {ops : Array Oper} {rest : List Oper} {Q : Exit → Act → World → Prop} {K : Act → World → Prop}
theorem mm_run (t : TypeId) (w : World) : (Instr.makeMap t none).run Tryz.prog w = .ok (.map (some w.heap.size)) (w.alloc (.map #[] 0)) := rfl
theorem wl_mm (t : TypeId) (ho : o.op = .makeMap t none) (hg : wnt n l ops o = true)
    (hk : ∀ b w', w.heap.size = b → w'.heap.size = b + 1 → Mo w w' → OM w' b [] → WL Tryz.prog ops Q rest n (ext l o.dst (.map (some b))) w') : WL Tryz.prog ops Q (o :: rest) n l w := by
  refine ⟨l_step hg (o_val (.map (some w.heap.size)) (w' := w.alloc (.map #[] 0)) ?_ (hk _ _ rfl (by simp) (Mo.allocm w) (OM.new w)).out)⟩
  simp [execOp, ho, mm_run]
end
end Go.Proofs.YtepfokoepibkcaaGreat


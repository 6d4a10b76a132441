/-
  The heap of a tree: its block, its records; what a call leaves as it was.
-/
import Derived.Test.YtbmbldloeblbbaaWp
import Derived.LaidEqlPtr
namespace Go.Proofs.Ytbmbldloeblbbaa
open Go.RowKit
/-- The address of a record, or none. -/
def pp : Option Nat → Value
  | none => .pointer none
  | some k => pt k 0
theorem pp_cells (x : Option Nat) : (pp x).cells = #[pp x] := by cases x <;> rfl
theorem pp_one (x : Option Nat) : (pp x).oneCell' = true := by cases x <;> rfl
/-- A record: what it hangs on, what hangs on it, its size, its id. -/
structure Rc where
  u : Option Nat
  l : Option Nat
  r : Option Nat
  s : Int
  i : Int
abbrev Rc.cells (r : Rc) : List Value := [pp r.u, pp r.l, pp r.r, .int .i64 r.s, .int .i64 r.i]
abbrev Mp := Nat → Option Rc
def ud (M : Mp) (k : Nat) (r : Rc) : Mp := fun j => if j = k then some r else M j
theorem ud_same (M : Mp) (k : Nat) (r : Rc) : ud M k r k = some r := if_pos rfl
theorem ud_ne (M : Mp) {k j : Nat} (r : Rc) (h : j ≠ k) : ud M k r j = M j := if_neg h
/-- The world behind a call that makes new blocks, and writes into those of D. -/
structure Mk (D : Nat → Prop) (w w' : World) : Prop where
  os : w'.os = w.os
  tape : w'.tape = w.tape
  output : w'.output = w.output
  size : w.heap.size ≤ w'.heap.size
  block : ∀ k, k < w.heap.size → ¬ D k → w'.heap[k]? = w.heap[k]?
  fz : ∀ a, w'.frozen? a = w.frozen? a
theorem Mk.refl (D : Nat → Prop) (w : World) : Mk D w w := ⟨rfl, rfl, rfl, Nat.le_refl _, fun _ _ _ => rfl, fun _ => rfl⟩
theorem Mk.of (D : Nat → Prop) {w w' : World} (h : Mo w w') : Mk D w w' := ⟨h.1.os, h.1.tape, h.1.output, h.1.size, fun k hk _ => h.1.block k hk, h.2⟩
theorem Mk.tr {D E : Nat → Prop} {a b c : World} (h : Mk D a b) (k : Mk E b c) (hE : ∀ j, j < a.heap.size → E j → D j) : Mk D a c :=
  ⟨k.os.trans h.os, k.tape.trans h.tape, k.output.trans h.output, Nat.le_trans h.size k.size, fun j hj hd => (k.block j (Nat.lt_of_lt_of_le hj h.size) (fun e => hd (hE j hj e))).trans (h.block j hj hd), fun x => (k.fz x).trans (h.fz x)⟩
theorem Mk.trans {D : Nat → Prop} {a b c : World} (h : Mk D a b) (k : Mo b c) : Mk D a c := h.tr (Mk.of D k) (fun _ _ e => e)
theorem Mk.same {D : Nat → Prop} {a b c : World} (h : Mk D a b) (k : Mk D b c) : Mk D a c := h.tr k (fun _ _ e => e)
theorem Mk.at {D : Nat → Prop} {w w' : World} (h : Mk D w w') {k : Nat} {vs : List Value} (hA : At w k vs) (hk : ¬ D k) : At w' k vs :=
  ⟨fun j v hv => (World.cell?_of_block (a := ⟨k, 0 + j, none⟩) (h.block k hA.2.2 hk)).trans (hA.1 j v hv), fun o => (h.fz _).trans (hA.2.1 o), Nat.lt_of_lt_of_le hA.2.2 h.size⟩
theorem Mk.mo {D : Nat → Prop} {a b c : World} (h : Mk D b c) (m : Mo a b) (hD : ∀ k, D k → a.heap.size ≤ k) : Mo a c :=
  ⟨⟨h.os.trans m.1.os, h.tape.trans m.1.tape, h.output.trans m.1.output, Nat.le_trans m.1.size h.size, fun k hk => (h.block k (Nat.lt_of_lt_of_le hk m.1.size) (fun e => by have := hD k e; omega)).trans (m.1.block k hk)⟩, fun x => (h.fz x).trans (m.2 x)⟩
/-- The block k is a row of cells, none of them frozen. -/
def Cb (w : World) (k : Nat) : Prop := ∃ cs ty, w.heap[k]? = some (.cells cs ty (0, 0))
theorem Cb.lt {w : World} {k : Nat} (h : Cb w k) : k < w.heap.size := by
  obtain ⟨cs, ty, h⟩ := h
  exact (Array.getElem?_eq_some_iff.1 h).1
theorem Cb.mo {w w' : World} {k : Nat} (h : Cb w k) (m : Mo w w') : Cb w' k := by
  have hl := h.lt
  obtain ⟨cs, ty, h⟩ := h
  exact ⟨cs, ty, (m.1.block k hl).trans h⟩
theorem Cb.mk {D : Nat → Prop} {w w' : World} {k : Nat} (h : Cb w k) (m : Mk D w w') (hk : ¬ D k) : Cb w' k := by
  have hl := h.lt
  obtain ⟨cs, ty, h⟩ := h
  exact ⟨cs, ty, (m.block k hl hk).trans h⟩
theorem Cb.new (w : World) (cs : Array Value) (t : TypeId) : Cb (w.alloc (.cells cs t)) w.heap.size := ⟨cs, t, heap_alloc_new w _⟩
theorem Cb.set1 {w : World} {k : Nat} (h : Cb w k) (j o : Nat) (v : Value) : Cb (w.setCell ⟨j, o, none⟩ v) k := by
  obtain ⟨cs, ty, h⟩ := h
  by_cases e : j = k
  · subst e
    exact ⟨_, ty, by simp [World.setCell, Array.getElem?_modify, h]; rfl⟩
  · exact ⟨cs, ty, by simp [World.setCell, Array.getElem?_modify, e, h]⟩
theorem Cb.sets {k j : Nat} : ∀ (l : List Value) (o : Nat) (w : World), Cb w k → Cb (w.setCells j o l) k
  | [], _, _, h => h
  | v :: r, o, w, h => by rw [World.setCells]; exact Cb.sets r (o + 1) _ (h.set1 j o v)
/-- What a store into the block k leaves as it was, block by block. -/
structure St2 (k : Nat) (w w' : World) : Prop extends St k w w' where
  os : w'.os = w.os
  tape : w'.tape = w.tape
  output : w'.output = w.output
  block : ∀ j, j ≠ k → w'.heap[j]? = w.heap[j]?
  fz : ∀ a, w'.frozen? a = w.frozen? a
  cb : ∀ j, Cb w j → Cb w' j
theorem heap_setCells (k j : Nat) (hj : j ≠ k) : ∀ (l : List Value) (o : Nat) (w : World), (w.setCells k o l).heap[j]? = w.heap[j]? ∧ (w.setCells k o l).os = w.os ∧ (w.setCells k o l).tape = w.tape ∧ (w.setCells k o l).output = w.output
  | [], _, _ => ⟨rfl, rfl, rfl, rfl⟩
  | v :: r, o, w => by
    have h := heap_setCells k j hj r (o + 1) (w.setCell ⟨k, o, none⟩ v)
    rw [World.setCells]
    refine ⟨h.1.trans ?_, h.2.1.trans rfl, h.2.2.1.trans rfl, h.2.2.2.trans rfl⟩
    simp [World.setCell, Array.getElem?_modify, Ne.symm hj]
theorem St2.mk2 (w : World) (k o : Nat) (l : List Value) : St2 k w (w.setCells k o l) :=
  { St.mk' w k o l with
    os := (heap_setCells k (k + 1) (by omega) l o w).2.1
    tape := (heap_setCells k (k + 1) (by omega) l o w).2.2.1
    output := (heap_setCells k (k + 1) (by omega) l o w).2.2.2
    block := fun j hj => (heap_setCells k j hj l o w).1
    fz := fun a => World.frozen?_setCells _ _ _ _ _
    cb := fun j h => Cb.sets l o w h }
theorem Mk.st {D : Nat → Prop} {a b c : World} {k : Nat} (h : Mk D a b) (s : St2 k b c) (hk : D k) : Mk D a c :=
  h.same ⟨s.os, s.tape, s.output, Nat.le_of_eq s.size.symm, fun j _ hd => s.block j (fun e => hd (by rw [e]; exact hk)), s.fz⟩
/-- The tree's block, its records' blocks; D: which blocks are the tree's. -/
structure HS (D : Nat → Prop) (w : World) (t mb : Nat) (M : Mp) (root : Option Nat) (lk : Int) : Prop where
  tr : At w t [pp root, .map (some mb), .int .i64 lk]
  rc : ∀ k r, M k = some r → At w k r.cells
  cb : ∀ k r, M k = some r → Cb w k
  mt : M t = none
  dm : ∀ k, D k ↔ k = t ∨ M k ≠ none
  nb : ¬ D mb
variable {D : Nat → Prop} {w w' : World} {t mb : Nat} {M : Mp} {root : Option Nat} {lk : Int}
theorem HS.mo (h : HS D w t mb M root lk) (m : Mo w w') : HS D w' t mb M root lk := ⟨h.tr.mo m, fun k r e => (h.rc k r e).mo m, fun k r e => (h.cb k r e).mo m, h.mt, h.dm, h.nb⟩
theorem HS.dt (h : HS D w t mb M root lk) : D t := (h.dm t).2 (Or.inl rfl)
theorem HS.dk (h : HS D w t mb M root lk) {k : Nat} {r : Rc} (e : M k = some r) : D k := (h.dm k).2 (Or.inr (by rw [e]; simp))
theorem HS.ne (h : HS D w t mb M root lk) {k : Nat} {r : Rc} (e : M k = some r) : k ≠ t := fun q => by rw [q, h.mt] at e; cases e
theorem HS.lt (h : HS D w t mb M root lk) {k : Nat} (e : D k) : k < w.heap.size := by
  rcases (h.dm k).1 e with rfl | e
  · exact h.tr.lt
  · cases hk : M k with
    | none => exact absurd hk e
    | some r => exact (h.rc k r hk).lt
/-- A record is written. -/
theorem HS.put (h : HS D w t mb M root lk) {k : Nat} {r : Rc} (e : M k = some r) (r' : Rc) (s : St2 k w w') (hA : At w' k r'.cells) : HS D w' t mb (ud M k r') root lk := by
  refine ⟨s.other t _ (Ne.symm (h.ne e)) h.tr, fun j q hj => ?_, fun j q hj => ?_, ?_, fun j => ?_, h.nb⟩
  · unfold ud at hj
    split at hj
    · rename_i hjk; subst hjk; cases hj; exact hA
    · rename_i hjk; exact s.other j _ hjk (h.rc j q hj)
  · unfold ud at hj
    split at hj
    · rename_i hjk; subst hjk; exact s.cb _ (h.cb _ r e)
    · exact s.cb _ (h.cb j q hj)
  · rw [ud_ne _ _ (Ne.symm (h.ne e))]; exact h.mt
  · rw [h.dm]
    unfold ud
    by_cases hjk : j = k
    · subst hjk; rw [if_pos rfl, e]; simp
    · rw [if_neg hjk]
/-- The tree's own block is written. -/
theorem HS.top (h : HS D w t mb M root lk) (root' : Option Nat) (lk' : Int) (s : St2 t w w') (hA : At w' t [pp root', .map (some mb), .int .i64 lk']) : HS D w' t mb M root' lk' :=
  ⟨hA, fun j q hj => s.other j _ (h.ne hj) (h.rc j q hj), fun j q hj => s.cb _ (h.cb j q hj), h.mt, h.dm, h.nb⟩
section
variable {P : Program} {o : Oper} {n : Nat} {l : List (Nat × Value)} {w : World} {ops : Array Oper} {rest : List Oper} {Q : Exit → Act → World → Prop}
theorem wl_st1x (ty : TypeId) (x y : Operand) (k off : Nat) (v : Value) (vs vs' : List Value) (hA : At w k vs) (ho : o.op = .store ty x y) (hd : o.dst = none) (hx : evl n l x = pt k off) (hy : evl n l y = v)
    (hl : Nat.blt off vs.length = true) (hi : (P.info? ty).map (·.size) = some 1) (hv : v.cells = #[v]) (h1 : v.oneCell' = true) (hvs : vs' = vs.take off ++ [v] ++ vs.drop (off + 1)) (hg : wnt n l ops o = true)
    (hk : ∀ w', St2 k w w' → At w' k vs' → WL P ops Q rest n l w') : WL P ops Q (o :: rest) n l w :=
  have hl' : off < vs.length := by rw [Nat.blt_eq] at hl; exact hl
  ⟨l_step hg (o_store ty x y _ _ ho hd hx hy (run_put1 hA ty off v hl' hi hv h1) (hk _ (St2.mk2 w k off [v]) (hA.set off [v] (by simp; omega) vs' hvs)).out)⟩
theorem wl_callg (g : FuncId) (xs : List Operand) (ats : Array TypeId) (args : List Value) (v : Value) {F : World → Prop} (ho : o.op = .call { callee := .value (.func g), args := xs.toArray, argTypes := ats }) (hx : xs.map (evl n l) = args)
    (h : ∀ args w, (callFunc g args).run P w = .ok (.enter g args) w)
    (hc : Calls P g args.toArray w fun e w' => e = .returned v ∧ F w') (hg : wnt n l ops o = true) (hk : ∀ w', F w' → WL P ops Q rest n (ext l o.dst v) w') : WL P ops Q (o :: rest) n l w := by
  have e : (execOp (evl n l) o).run P w = .ok (.enter g args.toArray) w := by
    obtain ⟨dst, op, ty, pos, after, guard⟩ := o
    simp only at ho
    subst ho hx
    have e2 := execOp_call_go (fr n l) dst g xs.toArray ats ty pos after guard
    rw [fr_eval] at e2
    rw [e2, h]
    simp
  refine ⟨l_step hg ?_⟩
  unfold Oper.wp; rw [fr_eval, e, Oper.upon_enter]
  refine hc.mono ?_
  rintro e w' ⟨rfl, h⟩
  show wpList _ _ _ _ _ _
  rw [fr_put]
  exact (hk w' h).out
/-- A slice of addresses, laid in a new block. -/
theorem wl_bsl (xs : List (Nat × Operand)) (vs : List Value) (m : Nat) (ho : o.op = .buildSlice 79 m xs.toArray) (hx : (xs.map fun p => (p.1, evl n l p.2)) = (List.range m).zip vs)
    (hb : ∀ w, (Instr.buildSlice 79 m ((List.range m).zip vs).toArray).run P w = .ok (.slice (some ⟨w.heap.size, 0, none⟩) m m) (w.alloc (.cells vs.toArray 56))) (hg : wnt n l ops o = true)
    (hk : ∀ k w', w.heap.size = k → w'.heap.size = k + 1 → Mo w w' → At w' k vs → WL P ops Q rest n (ext l o.dst (.slice (some ⟨k, 0, none⟩) m m)) w') : WL P ops Q (o :: rest) n l w :=
  ⟨l_step hg (o_val (.slice (some ⟨w.heap.size, 0, none⟩) m m) (w' := w.alloc (.cells vs.toArray 56)) (by
    simp only [execOp, ho]
    rw [show (xs.toArray.map fun p => (p.1, evl n l p.2)) = ((List.range m).zip vs).toArray by rw [List.map_toArray, hx]]
    simp [hb]) (hk _ _ rfl (by simp) ((Mo.refl _).alloc _ _) (At.new w vs.toArray 56)).out)⟩
end
section
variable {P : Program} {o : Oper} {n : Nat} {l : List (Nat × Value)} {w : World} {ops : Array Oper} {rest : List Oper} {Q : Exit → Act → World → Prop} {K : Act → World → Prop}
theorem wl_nc (x : Operand) (k off : Nat) (ho : o.op = .nilCheck x) (hx : evl n l x = pt k off) (hg : wnt n l ops o = true) (hk : WL P ops Q rest n (ext l o.dst (pt k off)) w) : WL P ops Q (o :: rest) n l w :=
  wl_val (pt k off) (by simp [execOp, ho, hx]) hg hk
theorem wo_nc (x : Operand) (k off : Nat) (ho : o.op = .nilCheck x) (hx : evl n l x = pt k off) (hk : K (fr n (ext l o.dst (pt k off))) w) : WO P o n l w K Q :=
  wo_val (pt k off) (by simp [execOp, ho, hx]) hk
end
theorem fa66_0 (k o : Nat) (w : World) : (Instr.fieldAt 66 (pt k o) 0).run Try.prog w = .ok (pt k o) w := by kernel_rfl
theorem fa66_1 (k : Nat) (w : World) : (Instr.fieldAt 66 (pt k 0) 1).run Try.prog w = .ok (pt k 4) w := by kernel_rfl
theorem fa64_0 (k : Nat) (w : World) : (Instr.fieldAt 64 (pt k 0) 0).run Try.prog w = .ok (pt k 0) w := by kernel_rfl
theorem fa64_1 (k : Nat) (w : World) : (Instr.fieldAt 64 (pt k 0) 1).run Try.prog w = .ok (pt k 1) w := by kernel_rfl
theorem fa64_2 (k : Nat) (w : World) : (Instr.fieldAt 64 (pt k 0) 2).run Try.prog w = .ok (pt k 3) w := by kernel_rfl
theorem fa59_0 (k : Nat) (w : World) : (Instr.fieldAt 59 (pt k 0) 0).run Try.prog w = .ok (pt k 0) w := by kernel_rfl
theorem fa59_1 (k : Nat) (w : World) : (Instr.fieldAt 59 (pt k 0) 1).run Try.prog w = .ok (pt k 1) w := by kernel_rfl
theorem fa59_2 (k : Nat) (w : World) : (Instr.fieldAt 59 (pt k 0) 2).run Try.prog w = .ok (pt k 2) w := by kernel_rfl
theorem ia62_0 (k : Nat) (w : World) : (Instr.indexAt 62 (pt k 1) (.int .i64 0)).run Try.prog w = .ok (pt k 1) w := by kernel_rfl
theorem ia62_1 (k : Nat) (w : World) : (Instr.indexAt 62 (pt k 1) (.int .i64 1)).run Try.prog w = .ok (pt k 2) w := by kernel_rfl
theorem ne56 (x : Option Nat) (a b : Operand) (w : World) : (do eqGuard .neq 56 a b (pp x) (.pointer none); binOp .neq 56 (pp x) (.pointer none)).run Try.prog w = .ok (.bool x.isSome) w := by
  cases x <;> kernel_rfl
theorem eq56 (x : Option Nat) (a b : Operand) (w : World) : (do eqGuard .eql 56 a b (pp x) (.pointer none); binOp .eql 56 (pp x) (.pointer none)).run Try.prog w = .ok (.bool x.isNone) w := by
  cases x <;> kernel_rfl
theorem eq56a (y : Option Nat) (a b : Operand) (w : World) : (do eqGuard .eql 56 a b (pp none) (pp y); binOp .eql 56 (pp none) (pp y)).run Try.prog w = .ok (.bool y.isNone) w := by
  cases y <;> kernel_rfl
theorem eq56p {x y : Option Nat} {r : Bool} (h : decide (x = y) = r) (w : World) (hx : ∀ k, x = some k → Cb w k) (hy : ∀ k, y = some k → Cb w k) (a b : Operand) : (do eqGuard .eql 56 a b (pp x) (pp y); binOp .eql 56 (pp x) (pp y)).run Try.prog w = .ok (.bool r) w := by
  subst h
  have hp : Try.prog.underlying 56 = some (.pointer 66) := by kernel_rfl
  have hg : (eqGuard .eql 56 a b (pp x) (pp y)).run Try.prog w = .ok () w := by cases x <;> cases y <;> kernel_rfl
  cases hi : Try.prog.info? 66 with
  | none => have h2 : (Try.prog.info? 66).isSome = true := by kernel_rfl
            rw [hi] at h2; cases h2
  | some j =>
    have hsz : j.size ≠ 0 := by
      have h2 : (Try.prog.info? 66).map (·.size) = some 5 := by kernel_rfl
      rw [hi] at h2; simp at h2; omega
    cases x with
    | none =>
      have h3 := eq56a y a b w
      rw [h3]
      cases y <;> rfl
    | some k =>
      cases y with
      | none => exact eq56 (some k) a b w
      | some m =>
        rw [Sem.run_bind, hg]
        by_cases e : k = m
        · subst e
          rw [decide_eq_true rfl]
          exact run_eql_ptr_same w _ hp hi
        · rw [decide_eq_false (fun q => e (Option.some.inj q))]
          obtain ⟨ca, ta, ha⟩ := hx k rfl
          obtain ⟨cb, tb, hb⟩ := hy m rfl
          exact run_eql_ptr_other w hp hi hsz (fun q => e (congrArg Addr.block q)) ha hb
theorem sz56 : (Try.prog.info? 56).map (·.size) = some 1 := by kernel_rfl
theorem sz3 : (Try.prog.info? 3).map (·.size) = some 1 := by kernel_rfl
theorem sz2 : (Try.prog.info? 2).map (·.size) = some 1 := by kernel_rfl
theorem bs1 (a : Option Nat) (w : World) : (Instr.buildSlice 79 1 ((List.range 1).zip [pp a]).toArray).run Try.prog w = .ok (.slice (some ⟨w.heap.size, 0, none⟩) 1 1) (w.alloc (.cells #[pp a] 56)) := by
  cases a <;> kernel_rfl
theorem bs2 (a b : Option Nat) (w : World) : (Instr.buildSlice 79 2 ((List.range 2).zip [pp a, pp b]).toArray).run Try.prog w = .ok (.slice (some ⟨w.heap.size, 0, none⟩) 2 2) (w.alloc (.cells #[pp a, pp b] 56)) := by
  cases a <;> cases b <;> kernel_rfl
theorem bs3 (a b c : Option Nat) (w : World) : (Instr.buildSlice 79 3 ((List.range 3).zip [pp a, pp b, pp c]).toArray).run Try.prog w = .ok (.slice (some ⟨w.heap.size, 0, none⟩) 3 3) (w.alloc (.cells #[pp a, pp b, pp c] 56)) := by
  cases a <;> cases b <;> cases c <;> kernel_rfl
theorem w_ret0 {P : Program} {n : Nat} {l : List (Nat × Value)} {w : World} {fn : Func} {R : Ending → World → Prop} (hf : fn.results = #[]) (hR : R (.returned (.tuple #[])) w) : WX (bodyPost P fn R) .ret n l w :=
  ⟨⟨rfl, .tuple #[], by simp [results, hf], hR⟩⟩
theorem w_end0 {P : Program} {n : Nat} {l : List (Nat × Value)} {w : World} {fn : Func} {R : Ending → World → Prop} (hf : fn.results = #[]) (hR : R (.returned (.tuple #[])) w) : WX (bodyPost P fn R) .normal n l w :=
  ⟨⟨rfl, .tuple #[], by simp [results, hf], hR⟩⟩
end Go.Proofs.Ytbmbldloeblbbaa

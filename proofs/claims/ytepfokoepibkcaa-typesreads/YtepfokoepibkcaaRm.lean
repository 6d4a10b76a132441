/-
  What an expression reads, as lists; == of what is read; a map by it.
-/
import Derived.Test.YtepfokoepibkcaaRb
import Derived.MapKept
namespace Go.Proofs.Ytepfokoepibkcaa
open Go.RowKit D
/-- What is read: a section's name and a name. -/
abbrev Rd := ByteArray × ByteArray
abbrev rdv (p : Rd) : Value := .agg #[.string p.1, .string p.2]
abbrev rdc (p : Rd) : List Value := [.string p.1, .string p.2]
abbrev hasR (o : List Rd) (r : Rd) : Bool := o.any (fun x => decide (x = r))
def ins (o : List Rd) (r : Rd) : List Rd := if hasR o r then o else o ++ [r]
def ownR (k : Int) (nm se : ByteArray) : List Rd := if k = 2 then [(⟨#[]⟩, nm)] else if k = 10 then [(se, nm)] else []
/-- The document's list. -/
def rds : Ex → List Rd
  | .mk k _ nm se _ _ _ _ _ args => args.foldl (fun o a => (rds a).foldl ins o) (ownR k nm se)
theorem rds_eq : ∀ x : Ex, rds x = x.args.foldl (fun o a => (rds a).foldl ins o) (ownR x.k x.nm x.se)
  | .mk k op nm se v sc po pa cap args => by
    rw [rds]
/-- The program's walk. -/
def vis : Ex → List Rd → List Rd
  | .mk k _ nm se _ _ _ _ _ args, o => args.foldl (fun o a => vis a o) ((ownR k nm se).foldl ins o)
theorem vis_eq : ∀ (x : Ex) (o : List Rd), vis x o = x.args.foldl (fun o a => vis a o) ((ownR x.k x.nm x.se).foldl ins o)
  | .mk k op nm se v sc po pa cap args, o => by
    rw [vis]
/-- How many nodes. -/
def nd : Ex → Nat
  | .mk _ _ _ _ _ _ _ _ _ args => args.foldl (fun n a => n + nd a) 1
theorem nd_eq : ∀ x : Ex, nd x = x.args.foldl (fun n a => n + nd a) 1
  | .mk k op nm se v sc po pa cap args => by
    rw [nd]
theorem ins_has {o : List Rd} {r : Rd} (h : hasR o r = true) : ins o r = o := by unfold ins; rw [h]; rfl
theorem ins_not {o : List Rd} {r : Rd} (h : hasR o r = false) : ins o r = o ++ [r] := by unfold ins; rw [h]; rfl
theorem ins_len (o : List Rd) (r : Rd) : (ins o r).length ≤ o.length + 1 := by unfold ins; split <;> simp
theorem insl_len : ∀ (l o : List Rd), (l.foldl ins o).length ≤ o.length + l.length
  | [], o => by simp
  | r :: l, o => by have := insl_len l (ins o r); have := ins_len o r; simp only [List.foldl_cons, List.length_cons]; omega
theorem ownR_len (k : Int) (nm se : ByteArray) : (ownR k nm se).length ≤ 1 := by unfold ownR; split <;> (try split) <;> simp
/-- A sum over a list's beginning. -/
theorem sum_take (L : List Ex) : ∀ (i : Nat) (x : Ex) (b : Nat), L[i]? = some x → (L.take i).foldl (fun n a => n + nd a) b + nd x ≤ L.foldl (fun n a => n + nd a) b := by
  have mono : ∀ (l : List Ex) (b : Nat), b ≤ l.foldl (fun n a => n + nd a) b := by
    intro l
    induction l with
    | nil => intro b; exact Nat.le_refl _
    | cons a l ih => intro b; have := ih (b + nd a); simp only [List.foldl_cons]; omega
  induction L with
  | nil => intro i x b h; simp at h
  | cons a L ih =>
    intro i x b h
    cases i with
    | zero => simp at h; subst h; simpa using mono L (b + nd a)
    | succ i => simp at h; simpa using ih i x (b + nd a) h
theorem foldl_s {α β : Type} {f : β → α → β} {b : β} {l : List α} {i : Nat} {x : α} (h : l[i]? = some x) : (l.take (i + 1)).foldl f b = f ((l.take i).foldl f b) x := by rw [List.take_add_one, h, List.foldl_append]; rfl
theorem vis_len : ∀ (x : Ex) (o : List Rd), (vis x o).length ≤ o.length + nd x := by
  refine Ex.ind2 ?_
  intro x ih o
  rw [vis_eq, nd_eq]
  have h0 : ((ownR x.k x.nm x.se).foldl ins o).length ≤ o.length + 1 := Nat.le_trans (insl_len _ _) (by have := ownR_len x.k x.nm x.se; omega)
  have key : ∀ (l : List Ex), (∀ a ∈ l, a ∈ x.args) → ∀ (q : List Rd) (b : Nat), q.length ≤ o.length + b → (l.foldl (fun o a => vis a o) q).length ≤ o.length + l.foldl (fun n a => n + nd a) b := by
    intro l
    induction l with
    | nil => intro _ q b h; exact h
    | cons a l il => intro hm q b h; exact il (fun y hy => hm y (List.mem_cons_of_mem _ hy)) _ _ (by have := ih a (hm a (List.mem_cons_self ..)) q; show (vis a q).length ≤ o.length + (b + nd a); omega)
  exact key x.args (fun _ h => h) _ 1 h0
theorem visl_len (l : List Ex) : ∀ (q : List Rd) (b n : Nat), q.length ≤ n + b → (l.foldl (fun o a => vis a o) q).length ≤ n + l.foldl (fun n a => n + nd a) b := by
  induction l with
  | nil => intro q b n h; exact h
  | cons a l il => intro q b n h; exact il _ _ _ (by have := vis_len a q; show (vis a q).length ≤ n + (b + nd a); omega)
theorem any_ins {q : Rd → Bool} {o : List Rd} {r : Rd} (h : o.any q = true) : (ins o r).any q = true := by
  unfold ins; split
  · exact h
  · rw [List.any_append, h]; rfl
theorem any_insl {q : Rd → Bool} : ∀ (l o : List Rd), o.any q = true → (l.foldl ins o).any q = true
  | [], _, h => h
  | r :: l, o, h => any_insl l (ins o r) (any_ins h)
theorem has_ins (o : List Rd) (r : Rd) : hasR (ins o r) r = true := by
  unfold ins; split
  · assumption
  · simp [hasR]
theorem has_insl {r : Rd} : ∀ (l o : List Rd), hasR l r = true → hasR (l.foldl ins o) r = true
  | [], _, h => by simp [hasR] at h
  | x :: l, o, h => by
    simp only [hasR, List.any_cons, Bool.or_eq_true, decide_eq_true_eq] at h
    rcases h with rfl | h
    · exact any_insl l _ (has_ins o x)
    · exact has_insl l _ h
theorem insl_ins (o1 o : List Rd) (r : Rd) : (ins o1 r).foldl ins o = ins (o1.foldl ins o) r := by
  cases h : hasR o1 r with
  | true => rw [ins_has h, ins_has (has_insl o1 o h)]
  | false => rw [ins_not h, List.foldl_append]; rfl
theorem insl_insl : ∀ (l o1 o : List Rd), (l.foldl ins o1).foldl ins o = l.foldl ins (o1.foldl ins o)
  | [], _, _ => rfl
  | r :: l, o1, o => by simp only [List.foldl_cons]; rw [insl_insl l, insl_ins]
theorem vis_rds : ∀ (x : Ex) (o : List Rd), vis x o = (rds x).foldl ins o := by
  refine Ex.ind2 ?_
  intro x ih o
  rw [vis_eq, rds_eq]
  have key : ∀ (l : List Ex), (∀ a ∈ l, a ∈ x.args) → ∀ q : List Rd, l.foldl (fun o a => vis a o) (q.foldl ins o) = (l.foldl (fun o a => (rds a).foldl ins o) q).foldl ins o := by
    intro l
    induction l with
    | nil => intro _ q; rfl
    | cons a l il =>
      intro hm q
      simp only [List.foldl_cons]
      rw [ih a (hm a (List.mem_cons_self ..)), ← insl_insl, il (fun y hy => hm y (List.mem_cons_of_mem _ hy))]
  exact key x.args (fun _ h => h) _
theorem own_own (k : Int) (nm se : ByteArray) : (ownR k nm se).foldl ins [] = ownR k nm se := by
  unfold ownR; split
  · rfl
  · split <;> rfl
theorem vis_nil (x : Ex) : vis x [] = rds x := by
  rw [vis_eq, rds_eq, own_own]
  congr 1
  funext o a
  exact vis_rds a o
theorem rds_len (x : Ex) : (rds x).length ≤ nd x := by have := vis_len x []; rw [vis_nil] at this; simpa using this
/-! == of what is read; a map by what is read. -/
theorem ht42 : Try.prog.underlying 42 = some (.struct (Try.prog.fieldsOf 42)) := by kernel_rfl
theorem hp42 : Try.prog.stoodInHeld 42 = false := by kernel_rfl
theorem fo42 : (Try.prog.fieldsOf 42).toList.map (fun f => (f.name, f.type, f.offset)) = [("Section", 9, 0), ("Name", 9, 1)] := by kernel_rfl
theorem p42_0 (x0 x1 : Value) (w : World) : (part 9 #[x0, x1] 0).run Try.prog w = .ok x0 w := by kernel_rfl
theorem p42_1 (x0 x1 : Value) (w : World) : (part 9 #[x0, x1] 1).run Try.prog w = .ok x1 w := by kernel_rfl
theorem gt42 : Try.prog.eqGuardType Try.prog.depth 42 = false := by kernel_rfl
theorem beq_dec (a b : ByteArray) : (a == b) = decide (a = b) := by
  obtain ⟨x⟩ := a
  obtain ⟨y⟩ := b
  show (x == y) = _
  rw [Bool.eq_iff_iff, beq_iff_eq, decide_eq_true_iff]
  exact ⟨fun h => by rw [h], fun h => by injection h⟩
theorem eq42 (p q : Rd) (w : World) : (Op.equalIn 10000 42 (rdv p) (rdv q)).run Try.prog w = .ok (decide (p = q)) w := by
  obtain ⟨a, b⟩ := p
  obtain ⟨c, d⟩ := q
  rw [show (10000 : Nat) = 9999 + 1 from rfl, run_equalIn_struct w 9999 42 _ _ ht42 hp42]
  have h := fo42
  generalize (Try.prog.fieldsOf 42).toList = L at h
  have hl : L.length = 2 := by have := congrArg List.length h; simpa using this
  match L, hl with
  | [f0, f1], _ =>
    simp at h
    obtain ⟨⟨a0, a1, a2⟩, ⟨b0, b1, b2⟩⟩ := h
    have q4 : ∀ t t' : ByteArray, (Op.equalIn 9999 9 (.string t) (.string t')).run Try.prog w = .ok (decide (t = t')) w := fun t t' => by rw [← beq_dec]; kernel_rfl
    simp only [Op.eqFields, a0, a1, a2, b0, b1, b2]
    by_cases h1 : a = c <;> by_cases h2 : b = d <;> simp [Sem.run_bind, p42_0, p42_1, Result.andThen_ok, q4, h1, h2, Sem.run_pure]
theorem eqR {p q : Rd} {r : Bool} (h : decide (p = q) = r) (x y : Operand) (w : World) : (do eqGuard .eql 42 x y (rdv p) (rdv q); binOp .eql 42 (rdv p) (rdv q)).run Try.prog w = .ok (.bool r) w := eqa_run gt42 (by rw [← h]; exact eq42 p q w) x y
theorem neR {p q : Rd} {r : Bool} (h : decide (p = q) = r) (x y : Operand) (w : World) : (do eqGuard .neq 42 x y (rdv p) (rdv q); binOp .neq 42 (rdv p) (rdv q)).run Try.prog w = .ok (.bool (!r)) w := nea_run gt42 (by rw [← h]; exact eq42 p q w) x y
def OR (w : World) (b : Nat) (o : List Rd) : Prop := ∃ es clock, w.heap[b]? = some (.map es clock) ∧ es.toList.map (fun e => e.key) = o.map rdv ∧ ∀ e ∈ es.toList, ∃ k : Int, e.val = .int .i64 k
theorem OR.lt {w : World} {b : Nat} {o : List Rd} (h : OR w b o) : b < w.heap.size := by obtain ⟨_, _, hb, _⟩ := h; exact (Array.getElem?_eq_some_iff.1 hb).1
theorem OR.nocell {w : World} {b : Nat} {o : List Rd} (h : OR w b o) (j : Nat) : w.cell? ⟨b, j, none⟩ = none := by
  obtain ⟨_, _, hb, _⟩ := h
  simp [World.cell?, hb]
theorem OR.mk {D : Nat → Prop} {w w' : World} {b : Nat} {o : List Rd} (h : OR w b o) (m : Mk D w w') (hb : ¬ D b) : OR w' b o := by
  have hlt := h.lt
  obtain ⟨es, c, h1, h2⟩ := h
  exact ⟨es, c, (m.block b hlt hb).trans h1, h2⟩
theorem OR.mo {w w' : World} {b : Nat} {o : List Rd} (h : OR w b o) (m : Mo w w') : OR w' b o := h.mk (Mk.of (fun _ => False) m) (fun e => e)
theorem OR.new (w : World) : OR (w.alloc (.map #[] 0)) w.heap.size [] := ⟨#[], 0, heap_alloc_new w _, rfl, fun e h => by simp at h⟩
theorem ck42 (e : Bool) (p : Rd) (w : World) : (Instr.checkKey e 10000 42 (rdv p)).run Try.prog w = .ok () w := by
  cases e <;> kernel_rfl
theorem find_n (p : Rd) (w : World) : ∀ (es : List MapEntry) (o : List Rd) (i : Nat), es.map (fun e => e.key) = o.map rdv → (∀ e ∈ es, ∃ k : Int, e.val = .int .i64 k) → ∃ r, (Instr.findAsking 42 (rdv p) es i).run Try.prog w = .ok r w ∧ r.isSome = hasR o p ∧ ∀ q, r = some q → ∃ k : Int, q.2 = .int .i64 k
  | [], o, i, h, _ => by
    cases o with
    | nil => exact ⟨none, rfl, rfl, fun q e => by cases e⟩
    | cons _ _ => simp at h
  | e :: es, o, i, h, hv => by
    cases o with
    | nil => simp at h
    | cons x o =>
      simp only [List.map_cons, List.cons.injEq] at h
      obtain ⟨hk, h⟩ := h
      obtain ⟨r, h1, h2, h3⟩ := find_n p w es o (i + 1) h (fun e he => hv e (List.mem_cons_of_mem _ he))
      have q : (Op.equal 42 (rdv p) e.key).run Try.prog w = .ok (decide (p = x)) w := by rw [hk]; exact eq42 p x w
      unfold Instr.findAsking
      rw [Sem.run_bind, q, Result.andThen_ok]
      by_cases hp : p = x
      · refine ⟨some (i, e.val), by simp [hp, Sem.run_pure], by simp [hasR, hp], fun q hq => ?_⟩
        cases hq; exact hv e (List.mem_cons_self ..)
      · have hp2 : ¬ x = p := fun e => hp e.symm
        exact ⟨r, by simp [hp, h1], by rw [h2]; simp [hasR, hp2], h3⟩
theorem key_n (p : Rd) (w : World) (es : List MapEntry) (o : List Rd) (h : es.map (fun e => e.key) = o.map rdv) (hv : ∀ e ∈ es, ∃ k : Int, e.val = .int .i64 k) : ∃ r, (Instr.findKey 42 (rdv p) es).run Try.prog w = .ok r w ∧ r.isSome = hasR o p ∧ ∀ q, r = some q → ∃ k : Int, q.2 = .int .i64 k := by
  unfold Instr.findKey
  rw [Sem.run_bind, run_underlying ht42, Result.andThen_ok]
  cases es with
  | nil =>
    cases o with
    | nil => exact ⟨none, rfl, rfl, fun q e => by cases e⟩
    | cons _ _ => simp at h
  | cons e es => exact find_n p w (e :: es) o 0 h hv
theorem z3 (w : World) : (zeroValue 3).run Try.prog w = .ok (.int .i64 0) w := by kernel_rfl
theorem OR.look {w : World} {b : Nat} {o : List Rd} (h : OR w b o) (p : Rd) : ∃ k : Int, (Instr.lookup 84 (.map (some b)) (rdv p) true).run Try.prog w = .ok (.tuple #[.int .i64 k, .bool (hasR o p)]) w := by
  obtain ⟨es, c, hb, hk, hv⟩ := h
  obtain ⟨r, h1, h2, h3⟩ := key_n p w es.toList o hk hv
  unfold Instr.lookup
  cases r with
  | none =>
    refine ⟨0, ?_⟩
    rw [← h2]
    simp [run_underlying Try.underlying84, MapKept.run_getObj_map hb, ck42, h1, Result.andThen]
  | some q =>
    obtain ⟨k, hq⟩ := h3 q rfl
    refine ⟨k, ?_⟩
    rw [← h2]
    obtain ⟨i, v⟩ := q
    simp at hq
    subst hq
    simp [run_underlying Try.underlying84, MapKept.run_getObj_map hb, ck42, h1, Result.andThen]
theorem OR.put {w : World} {b : Nat} {o : List Rd} (h : OR w b o) {p : Rd} (hp : hasR o p = false) (k : Int) : ∃ w', (Instr.mapUpdate 84 (.map (some b)) (rdv p) (.int .i64 k)).run Try.prog w = .ok () w' ∧ OR w' b (o ++ [p]) ∧ Mk (fun j => j = b) w w' := by
  have hlt := h.lt
  obtain ⟨es, c, hb, hk, hv⟩ := h
  obtain ⟨r, h1, h2, h3⟩ := key_n p w es.toList o hk hv
  cases r with
  | some q => rw [hp] at h2; cases h2
  | none =>
    refine ⟨{ w with heap := w.heap.setIfInBounds b (.map (es.push { key := rdv p, val := .int .i64 k, born := c }) (c + 1)) }, ?_, ⟨es.push { key := rdv p, val := .int .i64 k, born := c }, c + 1, by simp [hlt], ?_, ?_⟩, ⟨rfl, rfl, rfl, by simp, fun j hj hd => ?_, fun a => ?_⟩⟩
    · unfold Instr.mapUpdate
      simp [run_underlying Try.underlying84, MapKept.run_getObj_map hb, ck42, h1, MapKept.run_setObj_map _ hb, Result.andThen]
    · simp [hk]
    · intro e he
      simp at he
      rcases he with he | rfl
      · exact hv e (by simpa using he)
      · exact ⟨k, rfl⟩
    · show (w.heap.setIfInBounds b _)[j]? = _
      rw [Array.getElem?_setIfInBounds_ne (fun e => hd e.symm)]
    · by_cases e : a.block = b
      · have h9 : (w.heap.setIfInBounds b (.map (es.push { key := rdv p, val := .int .i64 k, born := c }) (c + 1)))[b]? = some (.map (es.push { key := rdv p, val := .int .i64 k, born := c }) (c + 1)) := by simp [hlt]
        simp only [World.frozen?, e, h9, hb]
      · refine World.frozen?_of_block ?_
        show (w.heap.setIfInBounds b _)[a.block]? = _
        rw [Array.getElem?_setIfInBounds_ne (fun e2 => e e2.symm)]
end Go.Proofs.Ytepfokoepibkcaa

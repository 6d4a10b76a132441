/-
  Blocks of one's own by their types; maps by any keys; slices that are made. Keys of this seat's maps; slices of whole numbers; small laws.
-/
import Derived.Test.YthghblgbjgghcaaRb
import Derived.MapKept
import Derived.Laws.MakeOwn
namespace Go.Proofs.Ythghblgbjgghcaa
open Go.RowKit D
/-- The block k holds these cells, of elements of the type t. -/
def Ob (w : World) (k : Nat) (t : TypeId) (vs : List Value) : Prop := w.heap[k]? = some (.cells vs.toArray t)
theorem Ob.lt {w : World} {k : Nat} {t : TypeId} {vs : List Value} (h : Ob w k t vs) : k < w.heap.size := (Array.getElem?_eq_some_iff.1 h).1
theorem Ob.at {w : World} {k : Nat} {t : TypeId} {vs : List Value} (h : Ob w k t vs) : At w k vs := by
  refine ⟨fun j v hv => ?_, fun o => ?_, h.lt⟩
  · unfold Ob at h; simp only [World.cell?, h]; simpa using hv
  · unfold Ob at h; simp [World.frozen?, h]
theorem Ob.mk {D : Nat → Prop} {w w' : World} {k : Nat} {t : TypeId} {vs : List Value} (h : Ob w k t vs) (m : Mk D w w') (hk : ¬ D k) : Ob w' k t vs := (m.block k h.lt hk).trans h
theorem Ob.mo {w w' : World} {k : Nat} {t : TypeId} {vs : List Value} (h : Ob w k t vs) (m : Mo w w') : Ob w' k t vs := h.mk (Mk.of (fun _ => False) m) (fun e => e)
/-- It holds cells of the type t. -/
def Ty (w : World) (k : Nat) (t : TypeId) : Prop := ∃ vs, Ob w k t vs
theorem Ob.ty {w : World} {k : Nat} {t : TypeId} {vs : List Value} (h : Ob w k t vs) : Ty w k t := ⟨vs, h⟩
theorem Ob.ne {w : World} {k k' : Nat} {t t' : TypeId} {vs vs' : List Value} (h : Ob w k t vs) (h' : Ob w k' t' vs') (hn : t ≠ t') : k ≠ k' := fun e => by
  subst e; unfold Ob at h h'; rw [h] at h'; simp at h'; exact hn h'.2
theorem Ob.set {w : World} {k : Nat} {t : TypeId} {vs : List Value} (h : Ob w k t vs) (o : Nat) : ∀ (l us : List Value), o + l.length ≤ vs.length → us = vs.take o ++ l ++ vs.drop (o + l.length) → Ob (w.setCells k o l) k t us := by
  intro l
  induction l generalizing w vs o with
  | nil => intro us hl e; subst e; simp only [List.append_nil, List.length_nil, Nat.add_zero, List.take_append_drop]; exact h
  | cons v l ih =>
    intro us hl e
    rw [World.setCells]
    simp only [List.length_cons] at hl
    have h1 : Ob (w.setCell ⟨k, o, none⟩ v) k t (vs.set o v) := by
      unfold Ob at h ⊢
      have hk := (Array.getElem?_eq_some_iff.1 h).1
      simp [World.setCell, Array.getElem?_modify, h]
    refine ih (vs := vs.set o v) h1 (o + 1) us (by simp; omega) ?_
    subst e
    rw [List.take_add_one, List.getElem?_set_self (by omega)]
    simp only [List.take_set_of_le (Nat.le_refl o), List.drop_set_of_lt (show o < o + 1 + l.length by omega), List.length_cons, Option.toList_some]
    rw [show o + (l.length + 1) = o + 1 + l.length by omega]
    simp
theorem Ob.new (w : World) (cs : List Value) (t : TypeId) : Ob (w.alloc (.cells cs.toArray t)) w.heap.size t cs := heap_alloc_new w _
section
variable {P : Program} {o : Oper} {n : Nat} {l : List (Nat × Value)} {w : World} {ops : Array Oper} {rest : List Oper} {Q : Exit → Act → World → Prop}
/-- A store of one cell at any place of a block of one's own. -/
theorem wl_sti (ty : TypeId) (x y : Operand) (k off : Nat) (v : Value) (t : TypeId) (vs : List Value) (hA : Ob w k t vs) (ho : o.op = .store ty x y) (hd : o.dst = none) (hx : evl n l x = pt k off) (hy : evl n l y = v)
    (hl : off < vs.length) (hi : (P.info? ty).map (·.size) = some 1) (hv : v.cells = #[v]) (h1 : v.oneCell' = true) (hg : wnt n l ops o = true)
    (hk : ∀ w', Mk (fun j => j = k) w w' → Ob w' k t (vs.set off v) → WL P ops Q rest n l w') : WL P ops Q (o :: rest) n l w :=
  ⟨l_step hg (o_store ty x y _ _ ho hd hx hy (run_put1 hA.at ty off v hl hi hv h1) (hk _ (mk_setCells k [v] off w) (hA.set off [v] (vs.set off v) (by simp; omega) (by rw [List.set_eq_take_append_cons_drop, if_pos hl]; simp))).out)⟩
theorem wl_makeS (ty e : TypeId) (x y : Operand) (N : Nat) (z : Value) (bys : Nat) (hu : P.underlying ty = some (.slice e)) (hin : ∃ i, P.info? e = some i ∧ i.zero = some z ∧ i.size = 1 ∧ i.bytes = bys) (hz : z.cells = #[z]) (hb : bys * N ≤ 281474976710656) (hN : N ≤ 4611686018427387904)
    (ho : o.op = .makeSlice ty x y) (hx : evl n l x = .int .i64 ((N : Nat) : Int)) (hy : evl n l y = .int .i64 ((N : Nat) : Int)) (hg : wnt n l ops o = true)
    (hk : ∀ k w', w.heap.size = k → w'.heap.size = k + 1 → Mo w w' → Ob w' k e (List.replicate N z) → WL P ops Q rest n (ext l o.dst (.slice (some ⟨k, 0, none⟩) N N)) w') : WL P ops Q (o :: rest) n l w := by
  obtain ⟨i, hi, hzz, hs, hby⟩ := hin
  have hrow : ((Array.range N).map fun x => z.cells[x % z.cells.size]!) = (List.replicate N z).toArray := by
    apply Array.ext
    · simp
    · intro j h1 h2
      simp [hz, Nat.mod_one]
  have hr : (Instr.makeSlice ty (.int .i64 (N : Int)) (.int .i64 (N : Int))).run P w = .ok (.slice (some ⟨w.heap.size, 0, none⟩) N N) (w.alloc (.cells (List.replicate N z).toArray e)) := by
    have h9 : (bys : Int) * (N : Int) ≤ 281474976710656 := by rw [← Int.natCast_mul]; omega
    have h := run_make (P := P) w ty e i z hu hi hzz .i64 .i64 (N : Int) (N : Int) (by omega) (Int.le_refl _) (by rw [hby]; exact h9) (by omega)
    simp only [Int.toNat_natCast, hs, Nat.mul_one] at h
    rw [h, madeCells, hrow]
  refine ⟨l_step hg (o_val (.slice (some ⟨w.heap.size, 0, none⟩) N N) (w' := w.alloc (.cells (List.replicate N z).toArray e)) ?_ (hk _ _ rfl (by simp) ((Mo.refl _).alloc _ _) (Ob.new w _ e)).out)⟩
  simp [execOp, ho, hx, hy, hr]
end
section
variable {κ : Type}
/-- The map in the block b says what the pairs say. -/
def Mp (enc : κ → Value) (w : World) (b : Nat) (al : List (κ × Int)) : Prop := ∃ es clock, w.heap[b]? = some (.map es clock) ∧ es.toList.map (fun e => (e.key, e.val)) = al.map (fun p => (enc p.1, .int .i64 p.2))
variable {enc : κ → Value} {w w' : World} {b : Nat} {al : List (κ × Int)}
theorem Mp.lt (h : Mp enc w b al) : b < w.heap.size := by obtain ⟨_, _, hb, _⟩ := h; exact (Array.getElem?_eq_some_iff.1 hb).1
theorem Mp.mk {D : Nat → Prop} (h : Mp enc w b al) (m : Mk D w w') (hb : ¬ D b) : Mp enc w' b al := by
  have hlt := h.lt
  obtain ⟨es, c, h1, h2⟩ := h
  exact ⟨es, c, (m.block b hlt hb).trans h1, h2⟩
theorem Mp.mo (h : Mp enc w b al) (m : Mo w w') : Mp enc w' b al := h.mk (Mk.of (fun _ => False) m) (fun e => e)
theorem Mp.new (w : World) : Mp enc (w.alloc (.map #[] 0)) w.heap.size [] := ⟨#[], 0, heap_alloc_new w _, rfl⟩
theorem Mp.nec (h : Mp enc w b al) {k : Nat} {t : TypeId} {vs : List Value} (h' : Ob w k t vs) : k ≠ b := fun e => by
  subst e; obtain ⟨_, _, hb, _⟩ := h; unfold Ob at h'; rw [hb] at h'; cases h'
theorem Mp.nea (h : Mp enc w b al) {k : Nat} {v : Value} {vs : List Value} (h' : At w k (v :: vs)) : k ≠ b := fun e => by
  subst e
  obtain ⟨_, _, hb, _⟩ := h
  have h1 := h'.1 0 v rfl
  simp [World.cell?, hb] at h1
theorem Mp.nty (h : Mp enc w b al) {k : Nat} {t : TypeId} (h' : Ty w k t) : k ≠ b := by obtain ⟨vs, h'⟩ := h'; exact h.nec h'
end
theorem map_mod {α β : Type} {f : α → α} {g : α → β} {h : β → β} (hh : ∀ x, g (f x) = h (g x)) : ∀ (l : List α) (i : Nat), (l.modify i f).map g = (l.map g).modify i h
  | [], i => by simp
  | x :: l, 0 => by simp [hh]
  | x :: l, i + 1 => by simp [map_mod hh l i]
/-! Maps by keys of any kind, to whole numbers. -/
section maps
variable {κ : Type} [DecidableEq κ]
/-- What a list of pairs says of a key. -/
def lkq : List (κ × Int) → κ → Option Int
  | [], _ => none
  | (b, u) :: r, a => if b = a then some u else lkq r a
/-- The first of a key is changed, or it comes at the end. -/
def putq : List (κ × Int) → κ → Int → List (κ × Int)
  | [], a, v => [(a, v)]
  | (b, u) :: r, a, v => if b = a then (a, v) :: r else (b, u) :: putq r a v
theorem lkq_put : ∀ (al : List (κ × Int)) (a : κ) (v : Int) (c : κ), lkq (putq al a v) c = if a = c then some v else lkq al c
  | [], a, v, c => by simp [putq, lkq]
  | (b, u) :: r, a, v, c => by
    by_cases h : b = a
    · subst h; by_cases h2 : b = c <;> simp [putq, lkq, h2]
    · simp only [putq, if_neg h, lkq, lkq_put r a v c]
      by_cases h2 : b = c
      · subst h2; have h3 : ¬ a = b := fun e => h (Eq.symm e); simp [h3]
      · simp [h2]
theorem putq_len : ∀ (al : List (κ × Int)) (a : κ) (v : Int), (putq al a v).length = if (lkq al a).isSome then al.length else al.length + 1
  | [], a, v => by simp [putq, lkq]
  | (b, u) :: r, a, v => by
    by_cases h : b = a
    · simp [putq, lkq, h]
    · simp only [putq, if_neg h, lkq, List.length_cons, putq_len r a v]; split <;> rfl
def fdq : List (κ × Int) → κ → Nat → Option (Nat × Value)
  | [], _, _ => none
  | (b, u) :: r, a, i => if b = a then some (i, .int .i64 u) else fdq r a (i + 1)
theorem fdq_none : ∀ (al : List (κ × Int)) (a : κ) (i : Nat), fdq al a i = none → lkq al a = none
  | [], _, _, _ => rfl
  | (b, u) :: r, a, i, h => by
    by_cases e : b = a
    · simp [fdq, e] at h
    · simp only [fdq, if_neg e] at h; simp only [lkq, if_neg e]; exact fdq_none r a (i + 1) h
theorem fdq_some : ∀ (al : List (κ × Int)) (a : κ) (i j : Nat) (v : Value), fdq al a i = some (j, v) → ∃ u, v = .int .i64 u ∧ lkq al a = some u ∧ i ≤ j ∧ (al[j - i]?).map (·.1) = some a ∧ ∀ x, putq al a x = al.modify (j - i) (fun _ => (a, x))
  | [], _, _, _, _, h => by cases h
  | (b, u) :: r, a, i, j, v, h => by
    by_cases e : b = a
    · simp only [fdq, if_pos e] at h; cases h; subst e
      exact ⟨u, rfl, by simp [lkq], Nat.le_refl _, by simp, fun x => by simp [putq]⟩
    · simp only [fdq, if_neg e] at h
      obtain ⟨u', h1, h2, h3, h4, h5⟩ := fdq_some r a (i + 1) j v h
      refine ⟨u', h1, by simp only [lkq, if_neg e]; exact h2, by omega, ?_, fun x => ?_⟩
      · rw [show j - i = (j - (i + 1)) + 1 by omega, List.getElem?_cons_succ]; exact h4
      · rw [show j - i = (j - (i + 1)) + 1 by omega]; simp only [putq, if_neg e, h5 x, List.modify_succ_cons]
theorem putq_none : ∀ (al : List (κ × Int)) (a : κ) (v : Int), lkq al a = none → putq al a v = al ++ [(a, v)]
  | [], _, _, _ => rfl
  | (b, u) :: r, a, v, h => by
    by_cases e : b = a
    · simp [lkq, e] at h
    · simp only [lkq, if_neg e] at h; simp only [putq, if_neg e, putq_none r a v h, List.cons_append]
/-- What keys are: how they are found. -/
structure KT (kt : TypeId) (enc : κ → Value) : Prop where
  fd : ∀ (a : κ) (es : List MapEntry) (al : List (κ × Int)) (w : World), es.map (fun e => (e.key, e.val)) = al.map (fun p => (enc p.1, .int .i64 p.2)) → (Instr.findKey kt (enc a) es).run Try.prog w = .ok (fdq al a 0) w
  ck : ∀ (e : Bool) (a : κ) (w : World), (Instr.checkKey e 10000 kt (enc a)).run Try.prog w = .ok () w
  sb : ∀ a, Instr.sameBits 10000 (enc a) (enc a) = true
variable {enc : κ → Value} {w w' : World} {b : Nat} {al : List (κ × Int)}
theorem Mp.look {mt kt : TypeId} (h : Mp enc w b al) (K : KT kt enc) (hu : Try.prog.underlying mt = some (.map kt 3)) (a : κ) (ok : Bool) : (Instr.lookup mt (.map (some b)) (enc a) ok).run Try.prog w = .ok (if ok then .tuple #[.int .i64 ((lkq al a).getD 0), .bool (lkq al a).isSome] else .int .i64 ((lkq al a).getD 0)) w := by
  obtain ⟨es, c, hb, he⟩ := h
  have z3 : (zeroValue 3).run Try.prog w = .ok (.int .i64 0) w := by kernel_rfl
  have hf := K.fd a es.toList al w he
  unfold Instr.lookup
  cases e : fdq al a 0 with
  | none =>
    rw [e] at hf
    rw [fdq_none al a 0 e]
    cases ok <;> simp [run_underlying hu, MapKept.run_getObj_map hb, K.ck, hf, z3, Result.andThen]
  | some q =>
    obtain ⟨j, v⟩ := q
    rw [e] at hf
    obtain ⟨u, rfl, h2, _⟩ := fdq_some al a 0 j v e
    rw [h2]
    cases ok <;> simp [run_underlying hu, MapKept.run_getObj_map hb, K.ck, hf, Result.andThen]
theorem Mp.looks {mt kt : TypeId} (h : Mp enc w b al) (K : KT kt enc) (hu : Try.prog.underlying mt = some (.map kt 3)) (a : κ) {r : Bool} (hr : (lkq al a).isSome = r) : (Instr.lookup mt (.map (some b)) (enc a) true).run Try.prog w = .ok (.tuple #[.int .i64 ((lkq al a).getD 0), .bool r]) w := by
  subst hr; exact h.look K hu a true
theorem Mp.put {mt kt : TypeId} (h : Mp enc w b al) (K : KT kt enc) (hu : Try.prog.underlying mt = some (.map kt 3)) (a : κ) (x : Int) : ∃ w', (Instr.mapUpdate mt (.map (some b)) (enc a) (.int .i64 x)).run Try.prog w = .ok () w' ∧ Mp enc w' b (putq al a x) ∧ Mk (fun j => j = b) w w' := by
  have hlt := h.lt
  obtain ⟨es, c, hb, he⟩ := h
  have hf := K.fd a es.toList al w he
  have mkk : ∀ (es' : Array MapEntry) (c' : Nat), Mk (fun j => j = b) w { w with heap := w.heap.setIfInBounds b (.map es' c') } := fun es' c' => by
    refine ⟨rfl, rfl, rfl, by simp, fun j hj hd => ?_, fun a _ => ?_⟩
    · show (w.heap.setIfInBounds b _)[j]? = _
      rw [Array.getElem?_setIfInBounds_ne (fun e => hd e.symm)]
    · by_cases e : a.block = b
      · have h9 : (w.heap.setIfInBounds b (.map es' c'))[b]? = some (.map es' c') := by simp [hlt]
        simp only [World.frozen?, e, h9, hb]
      · refine World.frozen?_of_block ?_
        show (w.heap.setIfInBounds b _)[a.block]? = _
        rw [Array.getElem?_setIfInBounds_ne (fun e2 => e e2.symm)]
  cases e : fdq al a 0 with
  | none =>
    rw [e] at hf
    refine ⟨_, ?_, ⟨es.push { key := enc a, val := .int .i64 x, born := c }, c + 1, ?_, ?_⟩, mkk (es.push { key := enc a, val := .int .i64 x, born := c }) (c + 1)⟩
    · unfold Instr.mapUpdate
      simp [run_underlying hu, MapKept.run_getObj_map hb, K.ck, hf, MapKept.run_setObj_map _ hb, Result.andThen]
    · simp [hlt]
    · rw [putq_none al a x (fdq_none al a 0 e)]
      simp [he]
  | some q =>
    obtain ⟨j, v⟩ := q
    rw [e] at hf
    obtain ⟨u, rfl, h2, _, h4, h5⟩ := fdq_some al a 0 j v e
    rw [Nat.sub_zero] at h4 h5
    have hkey : (es[j]?).map (·.key) = some (enc a) := by
      have h6 := congrArg (fun L => (L[j]?).map (·.1)) he
      simp only [List.getElem?_map, Option.map_map] at h6
      rw [← Array.getElem?_toList]
      have h7 : Option.map (fun e : MapEntry => e.key) es.toList[j]? = (al[j]?).map (fun p => enc p.1) := h6
      rw [h7]
      cases hj : al[j]? with
      | none => rw [hj] at h4; cases h4
      | some p => rw [hj] at h4; simp at h4; simp [h4]
    refine ⟨_, ?_, ⟨es.modify j fun e => { e with key := enc a, val := .int .i64 x }, c, ?_, ?_⟩, mkk (es.modify j fun e => { e with key := enc a, val := .int .i64 x }) c⟩
    · unfold Instr.mapUpdate
      simp only [Sem.run_bind, run_underlying hu, MapKept.run_getObj_map hb, K.ck, hf, Result.andThen_ok, hkey, Option.getD_some, Instr.keyThatStays, K.sb a, if_true, Sem.run_pure, MapKept.run_setObj_map _ hb]
    · simp [hlt]
    · rw [h5 x, Array.toList_modify]
      exact (map_mod (f := fun e : MapEntry => { e with key := enc a, val := .int .i64 x }) (g := fun e => (e.key, e.val)) (h := fun _ => (enc a, .int .i64 x)) (fun _ => rfl) es.toList j).trans (by rw [he]; exact (map_mod (f := fun _ => (a, x)) (g := fun p : κ × Int => (enc p.1, Value.int .i64 p.2)) (h := fun _ => (enc a, .int .i64 x)) (fun _ => rfl) al j).symm)
section
variable {o : Oper} {n : Nat} {l : List (Nat × Value)} {ops : Array Oper} {rest : List Oper} {Q : Exit → Act → World → Prop}
theorem wl_mupq {mt kt : TypeId} (m x v : Operand) (a : κ) (k : Int) (hM : Mp enc w b al) (K : KT kt enc) (hu : Try.prog.underlying mt = some (.map kt 3)) (ho : o.op = .mapUpdate mt m x v) (hd : o.dst = none) (hm : evl n l m = .map (some b)) (hx : evl n l x = enc a) (hv : evl n l v = .int .i64 k) (hg : wnt n l ops o = true)
    (hk : ∀ w', Mp enc w' b (putq al a k) → Mk (fun j => j = b) w w' → WL Try.prog ops Q rest n l w') : WL Try.prog ops Q (o :: rest) n l w := by
  obtain ⟨w', hr, h1, h2⟩ := hM.put K hu a k
  refine ⟨l_step hg ?_⟩
  have e : (execOp (evl n l) o).run Try.prog w = .ok .skip w' := by simp [execOp, ho, hm, hx, hv, hr]
  unfold Oper.wp; rw [fr_eval, e, Oper.upon_skip, hd]; exact (hk w' h1 h2).out
end
end maps
section
variable {κ : Type} {o : Oper} {n : Nat} {l : List (Nat × Value)} {w : World} {ops : Array Oper} {rest : List Oper} {Q : Exit → Act → World → Prop}
theorem wl_mmq (enc : κ → Value) (t : TypeId) (ho : o.op = .makeMap t none) (hg : wnt n l ops o = true)
    (hk : ∀ b w', w.heap.size = b → w'.heap.size = b + 1 → Mo w w' → Mp enc w' b [] → WL Try.prog ops Q rest n (ext l o.dst (.map (some b))) w') : WL Try.prog ops Q (o :: rest) n l w := by
  refine ⟨l_step hg (o_val (.map (some w.heap.size)) (w' := w.alloc (.map #[] 0)) ?_ (hk _ _ rfl (by simp) (Mo.allocm w) (Mp.new w)).out)⟩
  simp [execOp, ho, mm_run]
theorem wl_mmh (enc : κ → Value) (t : TypeId) (x : Operand) (c : Int) {kt et : TypeId} (hu : Try.prog.underlying t = some (.map kt et)) (hx : evl n l x = .int .i64 c) (ho : o.op = .makeMap t (some x)) (hg : wnt n l ops o = true)
    (hk : ∀ b w', w.heap.size = b → w'.heap.size = b + 1 → Mo w w' → Mp enc w' b [] → WL Try.prog ops Q rest n (ext l o.dst (.map (some b))) w') : WL Try.prog ops Q (o :: rest) n l w := by
  refine ⟨l_step hg (o_val (.map (some w.heap.size)) (w' := w.alloc (.map #[] 0)) ?_ (hk _ _ rfl (by simp) (Mo.allocm w) (Mp.new w)).out)⟩
  have e : (Instr.makeMap t (some (.int .i64 c))).run Try.prog w = .ok (.map (some w.heap.size)) (w.alloc (.map #[] 0)) := by
    unfold Instr.makeMap
    simp [run_underlying hu, asInt, asIntOf, newObj, Sem.run]
  simp [execOp, ho, hx, e]
end
theorem kt_now {κ : Type} [DecidableEq κ] {kt : TypeId} {d : TypeDesc} {enc : κ → Value} (hu : Try.prog.underlying kt = some d) (hs : ∀ a b : κ, Instr.sameNow d (enc a) (enc b) = some (decide (a = b))) (a : κ) (es : List MapEntry) (al : List (κ × Int)) (w : World) (h : es.map (fun e => (e.key, e.val)) = al.map (fun p => (enc p.1, .int .i64 p.2))) : (Instr.findKey kt (enc a) es).run Try.prog w = .ok (fdq al a 0) w := by
  have key : ∀ (es : List MapEntry) (al : List (κ × Int)) (i : Nat), es.map (fun e => (e.key, e.val)) = al.map (fun p => (enc p.1, .int .i64 p.2)) → Instr.findNow d (enc a) es i = some (fdq al a i) := by
    intro es
    induction es with
    | nil => intro al i h; cases al with
      | nil => rfl
      | cons _ _ => simp at h
    | cons e es ih =>
      intro al i h
      cases al with
      | nil => simp at h
      | cons p al =>
        simp only [List.map_cons, List.cons.injEq, Prod.mk.injEq] at h
        obtain ⟨⟨h1, h2⟩, h3⟩ := h
        obtain ⟨q, u⟩ := p
        unfold Instr.findNow
        rw [h1, hs a q]
        by_cases e2 : a = q
        · subst e2; simp [fdq, h2]
        · simp only [decide_eq_false e2, fdq, if_neg (fun e3 => e2 (Eq.symm e3))]; exact ih al (i + 1) h3
  unfold Instr.findKey
  rw [Sem.run_bind, run_underlying hu, Result.andThen_ok, key es al 0 h]
  rfl
theorem kt_ask {κ : Type} [DecidableEq κ] {kt : TypeId} {d : TypeDesc} {enc : κ → Value} (hu : Try.prog.underlying kt = some d) (hs : ∀ (a b : κ), Instr.sameNow d (enc a) (enc b) = none) (he : ∀ (a b : κ) (w : World), (Op.equal kt (enc a) (enc b)).run Try.prog w = .ok (decide (a = b)) w) (a : κ) (es : List MapEntry) (al : List (κ × Int)) (w : World) (h : es.map (fun e => (e.key, e.val)) = al.map (fun p => (enc p.1, .int .i64 p.2))) : (Instr.findKey kt (enc a) es).run Try.prog w = .ok (fdq al a 0) w := by
  have key : ∀ (es : List MapEntry) (al : List (κ × Int)) (i : Nat), es.map (fun e => (e.key, e.val)) = al.map (fun p => (enc p.1, .int .i64 p.2)) → (Instr.findAsking kt (enc a) es i).run Try.prog w = .ok (fdq al a i) w := by
    intro es
    induction es with
    | nil => intro al i h; cases al with
      | nil => rfl
      | cons _ _ => simp at h
    | cons e es ih =>
      intro al i h
      cases al with
      | nil => simp at h
      | cons p al =>
        simp only [List.map_cons, List.cons.injEq, Prod.mk.injEq] at h
        obtain ⟨⟨h1, h2⟩, h3⟩ := h
        obtain ⟨q, u⟩ := p
        unfold Instr.findAsking
        rw [Sem.run_bind, h1, he a q w, Result.andThen_ok]
        by_cases e2 : a = q
        · subst e2; simp [fdq, h2, Sem.run_pure]
        · simp only [decide_eq_false e2, fdq, if_neg (fun e3 => e2 (Eq.symm e3))]; exact ih al (i + 1) h3
  unfold Instr.findKey
  rw [Sem.run_bind, run_underlying hu, Result.andThen_ok]
  cases es with
  | nil => cases al with
    | nil => rfl
    | cons _ _ => simp at h
  | cons e es =>
    cases al with
    | nil => simp at h
    | cons p al =>
      have h' := h
      simp only [List.map_cons, List.cons.injEq, Prod.mk.injEq] at h'
      have : Instr.findNow d (enc a) (e :: es) 0 = none := by unfold Instr.findNow; rw [h'.1.1, hs]
      rw [this]
      exact key (e :: es) (p :: al) 0 h
end Go.Proofs.Ythghblgbjgghcaa
namespace Go.Proofs.Ythghblgbjgghcaa
open Go.RowKit D
theorem beq_dec (a b : ByteArray) : (a == b) = decide (a = b) := by
  obtain ⟨x⟩ := a
  obtain ⟨y⟩ := b
  show (x == y) = _
  rw [Bool.eq_iff_iff, beq_iff_eq, decide_eq_true_iff]
  exact ⟨fun h => by rw [h], fun h => by injection h⟩
abbrev ei (a : Int) : Value := .int .i64 a
/-- A name within a section. -/
abbrev Spo := Int × ByteArray
abbrev es (p : Spo) : Value := .agg #[.int .i64 p.1, .string p.2]
theorem kt9 : KT 9 (κ := ByteArray) Value.string where
  fd := kt_now Try.underlying9 (fun a b => by show some (a == b) = _; rw [beq_dec])
  ck := fun e a w => by cases e <;> kernel_rfl
  sb := fun a => by show (a == a) = true; rw [beq_dec]; simp
theorem kt3 : KT 3 ei where
  fd := kt_now Try.underlying3 (fun a b => by
    show (if IntKind.i64 = IntKind.i64 then some (a == b) else none) = _
    rw [if_pos rfl]
    by_cases h : a = b <;> simp [h])
  ck := fun e a w => by cases e <;> kernel_rfl
  sb := fun a => by show (IntKind.i64 == IntKind.i64 && a == a) = true; simp
theorem ht98 : Try.prog.underlying 98 = some (.struct (Try.prog.fieldsOf 98)) := by kernel_rfl
theorem hp98 : Try.prog.stoodInHeld 98 = false := by kernel_rfl
theorem fo98 : (Try.prog.fieldsOf 98).toList.map (fun f => (f.name, f.type, f.offset)) = [("section", 3, 0), ("name", 9, 1)] := by kernel_rfl
theorem p98_0 (x0 x1 : Value) (w : World) : (part 3 #[x0, x1] 0).run Try.prog w = .ok x0 w := by kernel_rfl
theorem p98_1 (x0 x1 : Value) (w : World) : (part 9 #[x0, x1] 1).run Try.prog w = .ok x1 w := by kernel_rfl
theorem eq98 (p q : Spo) (w : World) : (Op.equalIn 10000 98 (es p) (es q)).run Try.prog w = .ok (decide (p = q)) w := by
  obtain ⟨a, b⟩ := p
  obtain ⟨c, d⟩ := q
  rw [show (10000 : Nat) = 9999 + 1 from rfl, run_equalIn_struct w 9999 98 _ _ ht98 hp98]
  have h := fo98
  generalize (Try.prog.fieldsOf 98).toList = L at h
  have hl : L.length = 2 := by have := congrArg List.length h; simpa using this
  match L, hl with
  | [f0, f1], _ =>
    simp at h
    obtain ⟨⟨a0, a1, a2⟩, ⟨b0, b1, b2⟩⟩ := h
    have q4 : ∀ t t' : ByteArray, (Op.equalIn 9999 9 (.string t) (.string t')).run Try.prog w = .ok (decide (t = t')) w := fun t t' => by rw [← beq_dec]; kernel_rfl
    have q3 : ∀ t t' : Int, (Op.equalIn 9999 3 (.int .i64 t) (.int .i64 t')).run Try.prog w = .ok (decide (t = t')) w := fun t t' => by
      have e1 : (Op.equalIn 9999 3 (.int .i64 t) (.int .i64 t')).run Try.prog w = .ok (t == t') w := by kernel_rfl
      have e2 : (t == t') = decide (t = t') := by by_cases h : t = t' <;> simp [h]
      rw [e1, e2]
    simp only [Op.eqFields, a0, a1, a2, b0, b1, b2]
    by_cases h1 : a = c <;> by_cases h2 : b = d <;> simp [Sem.run_bind, p98_0, p98_1, Result.andThen_ok, q3, q4, h1, h2, Sem.run_pure]
theorem sb98 (x : Int) (y : ByteArray) : Instr.sameBits 10000 (.agg #[.int .i64 x, .string y]) (.agg #[.int .i64 x, .string y]) = true := by
  show ((2 == 2) && (((IntKind.i64 == IntKind.i64) && (x == x)) && ((y == y) && true))) = true
  rw [beq_dec]; simp
theorem ck98 (e : Bool) (p : Spo) (w : World) : (Instr.checkKey e 10000 98 (es p)).run Try.prog w = .ok () w := by
  cases e <;> kernel_rfl
theorem kt98 : KT 98 es where
  fd := kt_ask ht98 (fun _ _ => rfl) (fun a b w => eq98 a b w)
  ck := ck98
  sb := fun a => sb98 a.1 a.2
theorem inf3 : ∃ i, Try.prog.info? 3 = some i ∧ i.zero = some (.int .i64 0) ∧ i.size = 1 ∧ i.bytes = 8 := by
  have h : (Try.prog.info? 3).map (fun i => (i.zero, i.size, i.bytes)) = some (some (.int .i64 0), 1, 8) := by kernel_rfl
  cases hi : Try.prog.info? 3 with
  | none => rw [hi] at h; cases h
  | some i => rw [hi] at h; simp at h; exact ⟨i, rfl, h.1, h.2.1, h.2.2⟩
theorem inf4 : ∃ i, Try.prog.info? 4 = some i ∧ i.zero = some (.bool false) ∧ i.size = 1 ∧ i.bytes = 1 := by
  have h : (Try.prog.info? 4).map (fun i => (i.zero, i.size, i.bytes)) = some (some (.bool false), 1, 1) := by kernel_rfl
  cases hi : Try.prog.info? 4 with
  | none => rw [hi] at h; cases h
  | some i => rw [hi] at h; simp at h; exact ⟨i, rfl, h.1, h.2.1, h.2.2⟩
theorem inf32 : ∃ i, Try.prog.info? 32 = some i ∧ i.zero = some (.slice none 0 0) ∧ i.size = 1 ∧ i.bytes = 24 := by
  have h : (Try.prog.info? 32).map (fun i => (i.zero, i.size, i.bytes)) = some (some (.slice none 0 0), 1, 24) := by kernel_rfl
  cases hi : Try.prog.info? 32 with
  | none => rw [hi] at h; cases h
  | some i => rw [hi] at h; simp at h; exact ⟨i, rfl, h.1, h.2.1, h.2.2⟩
theorem inf105 : ∃ i, Try.prog.info? 105 = some i ∧ i.zero = some (.agg #[.string ⟨#[]⟩, .int .i64 0]) ∧ i.size = 2 ∧ i.bytes = 24 := by
  have h : (Try.prog.info? 105).map (fun i => (i.zero, i.size, i.bytes)) = some (some (.agg #[.string ⟨#[]⟩, .int .i64 0]), 2, 24) := by kernel_rfl
  cases hi : Try.prog.info? 105 with
  | none => rw [hi] at h; cases h
  | some i => rw [hi] at h; simp at h; exact ⟨i, rfl, h.1, h.2.1, h.2.2⟩
theorem addN {a b : Nat} (h : a + b ≤ 9223372036854775807) (x y : Operand) (w : World) : (do eqGuard .add 3 x y (.int .i64 (a : Int)) (.int .i64 (b : Int)); binOp .add 3 (.int .i64 (a : Int)) (.int .i64 (b : Int))).run Try.prog w = .ok (.int .i64 ((a + b : Nat) : Int)) w := by
  have e : (do eqGuard .add 3 x y (.int .i64 (a : Int)) (.int .i64 (b : Int)); binOp .add 3 (.int .i64 (a : Int)) (.int .i64 (b : Int))).run Try.prog w = .ok (.int .i64 (IntKind.i64.wrap ((a : Int) + (b : Int)))) w := by kernel_rfl
  have h : IntKind.i64.wrap ((a : Int) + (b : Int)) = ((a + b : Nat) : Int) := by rw [IntKind.wrap_i64]; omega
  rw [e, h]
theorem addZ {a b : Int} (h0 : -9223372036854775808 ≤ a + b) (h : a + b ≤ 9223372036854775807) (x y : Operand) (w : World) : (do eqGuard .add 3 x y (.int .i64 a) (.int .i64 b); binOp .add 3 (.int .i64 a) (.int .i64 b)).run Try.prog w = .ok (.int .i64 (a + b)) w := by
  have e : (do eqGuard .add 3 x y (.int .i64 a) (.int .i64 b); binOp .add 3 (.int .i64 a) (.int .i64 b)).run Try.prog w = .ok (.int .i64 (IntKind.i64.wrap (a + b))) w := by kernel_rfl
  have h : IntKind.i64.wrap (a + b) = a + b := by rw [IntKind.wrap_i64]; omega
  rw [e, h]
theorem subZ {a b : Int} (h0 : -9223372036854775808 ≤ a - b) (h : a - b ≤ 9223372036854775807) (x y : Operand) (w : World) : (do eqGuard .sub 3 x y (.int .i64 a) (.int .i64 b); binOp .sub 3 (.int .i64 a) (.int .i64 b)).run Try.prog w = .ok (.int .i64 (a - b)) w := by
  have e : (do eqGuard .sub 3 x y (.int .i64 a) (.int .i64 b); binOp .sub 3 (.int .i64 a) (.int .i64 b)).run Try.prog w = .ok (.int .i64 (IntKind.i64.wrap (a - b))) w := by kernel_rfl
  have h : IntKind.i64.wrap (a - b) = a - b := by rw [IntKind.wrap_i64]; omega
  rw [e, h]
theorem not4 (r : Bool) (w : World) : (Op.unary .not (.bool r)).run Try.prog w = .ok (.bool (!r)) w := by kernel_rfl
/-- Whole numbers lie there. -/
abbrev ic (n : Nat) : List Value := [.int .i64 (n : Int)]
/-- A slice of whole numbers. -/
structure Iz where
  pa : Option Addr
  cap : Nat
  L : List Nat
abbrev Iz.v (x : Iz) : Value := .slice x.pa x.L.length x.cap
abbrev zc (x : Iz) : List Value := [x.v]
/-- It lies there, in a block of its type. -/
structure Li (w : World) (pa : Option Addr) (L : List Nat) : Prop where
  sl : SL w 1 ic pa L
  ty : ∀ a, pa = some a → Ty w a.block 3
theorem Ty.mk {D : Nat → Prop} {w w' : World} {k : Nat} {t : TypeId} (h : Ty w k t) (m : Mk D w w') (hk : ¬ D k) : Ty w' k t := by obtain ⟨vs, h⟩ := h; exact ⟨vs, h.mk m hk⟩
theorem Ty.lt {w : World} {k : Nat} {t : TypeId} (h : Ty w k t) : k < w.heap.size := by obtain ⟨vs, h⟩ := h; exact h.lt
theorem Ty.mo {w w' : World} {k : Nat} {t : TypeId} (h : Ty w k t) (m : Mo w w') : Ty w' k t := h.mk (Mk.of (fun _ => False) m) (fun e => e)
theorem Ty.two {w : World} {k : Nat} {t t' : TypeId} (h : Ty w k t) (h' : Ty w k t') : t = t' := by
  obtain ⟨vs, h⟩ := h; obtain ⟨vs', h'⟩ := h'
  unfold Ob at h h'; rw [h] at h'; simp at h'; exact h'.2
theorem SL.mk {D : Nat → Prop} {w w' : World} {n : Nat} {α : Type} {cells : α → List Value} {pa : Option Addr} {L : List α} (h : SL w n cells pa L) (m : Mk D w w') (hD : ∀ a, pa = some a → ¬ D a.block) : SL w' n cells pa L := ⟨h.1, fun i o e => by
  obtain ⟨b, off, hp, hb, hr⟩ := h.2 i o e
  refine ⟨b, off, hp, Nat.lt_of_lt_of_le hb m.size, fun j v hv => ?_⟩
  exact (World.cell?_of_block (a := ⟨b, off + i * n + j, none⟩) (m.block b hb (hD _ hp))).trans (hr j v hv)⟩
theorem Li.kk {D : Nat → Prop} {w w' : World} {pa : Option Addr} {L : List Nat} (h : Li w pa L) (m : Mk D w w') (hD : ∀ a, pa = some a → ¬ D a.block) : Li w' pa L := ⟨SL.mk h.sl m hD, fun a e => (h.ty a e).mk m (hD a e)⟩
theorem Li.mo {w w' : World} {pa : Option Addr} {L : List Nat} (h : Li w pa L) (m : Mo w w') : Li w' pa L := h.kk (Mk.of (fun _ => False) m) (fun _ _ e => e)
theorem own_ty {w : World} {N e sz : Nat} {v : Value} {n : Nat} {xs : List Value} (h : w.ownsRow N e sz v n xs) {k : Nat} (hk : v.ownBlock = some k) : Ty w k e := by
  rcases h.2 with ⟨rfl, rfl⟩ | ⟨g, cap, cur, rfl, hg, hb, _⟩
  · cases hk
  · cases hk; exact ⟨cur.toList, by unfold Ob; rw [Array.toArray_toList]; exact hb⟩
theorem Li.own {w : World} {N : Nat} {pa : Option Addr} {cap : Nat} {L : List Nat} (h : w.ownsRow N 3 1 (.slice pa L.length cap) L.length (L.flatMap ic)) (hz : L.length ≤ maxLen) : Li w pa L := by
  refine ⟨own_sl (cells := ic) (fun _ => rfl) hz h, fun a e => ?_⟩
  subst e
  rcases h.2 with ⟨e, h0⟩ | ⟨g, c2, cur, e, hg, hb, _⟩
  · cases e
  · cases e; exact ⟨cur.toList, by unfold Ob; rw [Array.toArray_toList]; exact hb⟩
theorem flat_ic (L : List Nat) : L.flatMap ic = L.map (fun n => .int .i64 ((n : Nat) : Int)) := by induction L <;> simp_all
theorem Li.ob {w : World} {k : Nat} {L : List Nat} (h : Ob w k 3 (L.map (fun n => .int .i64 ((n : Nat) : Int)))) (hz : L.length ≤ maxLen) : Li w (some ⟨k, 0, none⟩) L :=
  ⟨SL.of_at (cells := ic) (fun _ => rfl) hz (by have := h.at; rw [show L.flatMap ic = L.map (fun n => .int .i64 ((n : Nat) : Int)) from flat_ic L] ; exact this), fun a e => by cases e; exact h.ty⟩
theorem Li.nil (w : World) : Li w none [] := ⟨⟨Nat.zero_le _, fun i o e => by simp at e⟩, fun a e => by cases e⟩
end Go.Proofs.Ythghblgbjgghcaa

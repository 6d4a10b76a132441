/-
  Maps to flags. Sets of numbers as maps to flags; who reads, last step first.
-/
import Derived.Test.YthghblgbjgghcaaG22
namespace Go.Proofs.Ythghblgbjgghcaa
open Go.RowKit D
namespace B
section
variable {κ : Type}
/-- The map in the block b says what the pairs say. -/
def Mp (enc : κ → Value) (w : World) (b : Nat) (al : List (κ × Bool)) : Prop := ∃ es clock, w.heap[b]? = some (.map es clock) ∧ es.toList.map (fun e => (e.key, e.val)) = al.map (fun p => (enc p.1, .bool p.2))
variable {enc : κ → Value} {w w' : World} {b : Nat} {al : List (κ × Bool)}
theorem Mp.lt (h : Mp enc w b al) : b < w.heap.size := by obtain ⟨_, _, hb, _⟩ := h; exact (Array.getElem?_eq_some_iff.1 hb).1
theorem Mp.mk {D : Nat → Prop} (h : Mp enc w b al) (m : Mk D w w') (hb : ¬ D b) : Mp enc w' b al := by
  have hlt := h.lt
  obtain ⟨es, c, h1, h2⟩ := h
  exact ⟨es, c, (m.block b hlt hb).trans h1, h2⟩
theorem Mp.mo (h : Mp enc w b al) (m : Mo w w') : Mp enc w' b al := h.mk (Mk.of (fun _ => False) m) (fun e => e)
theorem Mp.new (w : World) : Mp enc (w.alloc (.map #[] 0)) w.heap.size [] := ⟨#[], 0, heap_alloc_new w _, rfl⟩
theorem Mp.nec (h : Mp enc w b al) {k : Nat} {t : TypeId} {vs : List Value} (h' : Ob w k t vs) : k ≠ b := fun e => by
  subst e; obtain ⟨_, _, hb, _⟩ := h; unfold Ob at h'; rw [hb] at h'; cases h'
theorem Mp.nea (h : Mp enc w b al) {k : Nat} {v : Value} {vs : List Value} (h' : At w k (v :: vs)) : k ≠ b := fun e => by
  subst e
  obtain ⟨_, _, hb, _⟩ := h
  have h1 := h'.1 0 v rfl
  simp [World.cell?, hb] at h1
theorem Mp.nty (h : Mp enc w b al) {k : Nat} {t : TypeId} (h' : Ty w k t) : k ≠ b := by obtain ⟨vs, h'⟩ := h'; exact h.nec h'
end
/-! Maps by keys of any kind, to whole numbers. -/
section maps
variable {κ : Type} [DecidableEq κ]
/-- What a list of pairs says of a key. -/
def lkq : List (κ × Bool) → κ → Option Bool
  | [], _ => none
  | (b, u) :: r, a => if b = a then some u else lkq r a
/-- The first of a key is changed, or it comes at the end. -/
def putq : List (κ × Bool) → κ → Bool → List (κ × Bool)
  | [], a, v => [(a, v)]
  | (b, u) :: r, a, v => if b = a then (a, v) :: r else (b, u) :: putq r a v
theorem lkq_put : ∀ (al : List (κ × Bool)) (a : κ) (v : Bool) (c : κ), lkq (putq al a v) c = if a = c then some v else lkq al c
  | [], a, v, c => by simp [putq, lkq]
  | (b, u) :: r, a, v, c => by
    by_cases h : b = a
    · subst h; by_cases h2 : b = c <;> simp [putq, lkq, h2]
    · simp only [putq, if_neg h, lkq, lkq_put r a v c]
      by_cases h2 : b = c
      · subst h2; have h3 : ¬ a = b := fun e => h (Eq.symm e); simp [h3]
      · simp [h2]
theorem putq_len : ∀ (al : List (κ × Bool)) (a : κ) (v : Bool), (putq al a v).length = if (lkq al a).isSome then al.length else al.length + 1
  | [], a, v => by simp [putq, lkq]
  | (b, u) :: r, a, v => by
    by_cases h : b = a
    · simp [putq, lkq, h]
    · simp only [putq, if_neg h, lkq, List.length_cons, putq_len r a v]; split <;> rfl
def fdq : List (κ × Bool) → κ → Nat → Option (Nat × Value)
  | [], _, _ => none
  | (b, u) :: r, a, i => if b = a then some (i, .bool u) else fdq r a (i + 1)
theorem fdq_none : ∀ (al : List (κ × Bool)) (a : κ) (i : Nat), fdq al a i = none → lkq al a = none
  | [], _, _, _ => rfl
  | (b, u) :: r, a, i, h => by
    by_cases e : b = a
    · simp [fdq, e] at h
    · simp only [fdq, if_neg e] at h; simp only [lkq, if_neg e]; exact fdq_none r a (i + 1) h
theorem fdq_some : ∀ (al : List (κ × Bool)) (a : κ) (i j : Nat) (v : Value), fdq al a i = some (j, v) → ∃ u, v = .bool u ∧ lkq al a = some u ∧ i ≤ j ∧ (al[j - i]?).map (·.1) = some a ∧ ∀ x, putq al a x = al.modify (j - i) (fun _ => (a, x))
  | [], _, _, _, _, h => by cases h
  | (b, u) :: r, a, i, j, v, h => by
    by_cases e : b = a
    · simp only [fdq, if_pos e] at h; cases h; subst e
      exact ⟨u, rfl, by simp [lkq], Nat.le_refl _, by simp, fun x => by simp [putq]⟩
    · simp only [fdq, if_neg e] at h
      obtain ⟨u', h1, h2, h3, h4, h5⟩ := fdq_some r a (i + 1) j v h
      refine ⟨u', h1, by simp only [lkq, if_neg e]; exact h2, by omega, ?_, fun x => ?_⟩
      · rw [show j - i = (j - (i + 1)) + 1 by omega, List.getElem?_cons_succ]; exact h4
      · rw [show j - i = (j - (i + 1)) + 1 by omega]; simp only [putq, if_neg e, h5 x, List.modify_succ_cons]
theorem putq_none : ∀ (al : List (κ × Bool)) (a : κ) (v : Bool), lkq al a = none → putq al a v = al ++ [(a, v)]
  | [], _, _, _ => rfl
  | (b, u) :: r, a, v, h => by
    by_cases e : b = a
    · simp [lkq, e] at h
    · simp only [lkq, if_neg e] at h; simp only [putq, if_neg e, putq_none r a v h, List.cons_append]
/-- What keys are: how they are found. -/
structure KT (kt : TypeId) (enc : κ → Value) : Prop where
  fd : ∀ (a : κ) (es : List MapEntry) (al : List (κ × Bool)) (w : World), es.map (fun e => (e.key, e.val)) = al.map (fun p => (enc p.1, .bool p.2)) → (Instr.findKey kt (enc a) es).run Try.prog w = .ok (fdq al a 0) w
  ck : ∀ (e : Bool) (a : κ) (w : World), (Instr.checkKey e 10000 kt (enc a)).run Try.prog w = .ok () w
  sb : ∀ a, Instr.sameBits 10000 (enc a) (enc a) = true
variable {enc : κ → Value} {w w' : World} {b : Nat} {al : List (κ × Bool)}
theorem Mp.look {mt kt : TypeId} (h : Mp enc w b al) (K : KT kt enc) (hu : Try.prog.underlying mt = some (.map kt 4)) (a : κ) (ok : Bool) : (Instr.lookup mt (.map (some b)) (enc a) ok).run Try.prog w = .ok (if ok then .tuple #[.bool ((lkq al a).getD false), .bool (lkq al a).isSome] else .bool ((lkq al a).getD false)) w := by
  obtain ⟨es, c, hb, he⟩ := h
  have z3 : (zeroValue 4).run Try.prog w = .ok (.bool false) w := by kernel_rfl
  have hf := K.fd a es.toList al w he
  unfold Instr.lookup
  cases e : fdq al a 0 with
  | none =>
    rw [e] at hf
    rw [fdq_none al a 0 e]
    cases ok <;> simp [run_underlying hu, MapKept.run_getObj_map hb, K.ck, hf, z3, Result.andThen]
  | some q =>
    obtain ⟨j, v⟩ := q
    rw [e] at hf
    obtain ⟨u, rfl, h2, _⟩ := fdq_some al a 0 j v e
    rw [h2]
    cases ok <;> simp [run_underlying hu, MapKept.run_getObj_map hb, K.ck, hf, Result.andThen]
theorem Mp.looks {mt kt : TypeId} (h : Mp enc w b al) (K : KT kt enc) (hu : Try.prog.underlying mt = some (.map kt 4)) (a : κ) {r : Bool} (hr : (lkq al a).isSome = r) : (Instr.lookup mt (.map (some b)) (enc a) true).run Try.prog w = .ok (.tuple #[.bool ((lkq al a).getD false), .bool r]) w := by
  subst hr; exact h.look K hu a true
theorem Mp.put {mt kt : TypeId} (h : Mp enc w b al) (K : KT kt enc) (hu : Try.prog.underlying mt = some (.map kt 4)) (a : κ) (x : Bool) : ∃ w', (Instr.mapUpdate mt (.map (some b)) (enc a) (.bool x)).run Try.prog w = .ok () w' ∧ Mp enc w' b (putq al a x) ∧ Mk (fun j => j = b) w w' := by
  have hlt := h.lt
  obtain ⟨es, c, hb, he⟩ := h
  have hf := K.fd a es.toList al w he
  have mkk : ∀ (es' : Array MapEntry) (c' : Nat), Mk (fun j => j = b) w { w with heap := w.heap.setIfInBounds b (.map es' c') } := fun es' c' => by
    refine ⟨rfl, rfl, rfl, by simp, fun j hj hd => ?_, fun a _ => ?_⟩
    · show (w.heap.setIfInBounds b _)[j]? = _
      rw [Array.getElem?_setIfInBounds_ne (fun e => hd e.symm)]
    · by_cases e : a.block = b
      · have h9 : (w.heap.setIfInBounds b (.map es' c'))[b]? = some (.map es' c') := by simp [hlt]
        simp only [World.frozen?, e, h9, hb]
      · refine World.frozen?_of_block ?_
        show (w.heap.setIfInBounds b _)[a.block]? = _
        rw [Array.getElem?_setIfInBounds_ne (fun e2 => e e2.symm)]
  cases e : fdq al a 0 with
  | none =>
    rw [e] at hf
    refine ⟨_, ?_, ⟨es.push { key := enc a, val := .bool x, born := c }, c + 1, ?_, ?_⟩, mkk (es.push { key := enc a, val := .bool x, born := c }) (c + 1)⟩
    · unfold Instr.mapUpdate
      simp [run_underlying hu, MapKept.run_getObj_map hb, K.ck, hf, MapKept.run_setObj_map _ hb, Result.andThen]
    · simp [hlt]
    · rw [putq_none al a x (fdq_none al a 0 e)]
      simp [he]
  | some q =>
    obtain ⟨j, v⟩ := q
    rw [e] at hf
    obtain ⟨u, rfl, h2, _, h4, h5⟩ := fdq_some al a 0 j v e
    rw [Nat.sub_zero] at h4 h5
    have hkey : (es[j]?).map (·.key) = some (enc a) := by
      have h6 := congrArg (fun L => (L[j]?).map (·.1)) he
      simp only [List.getElem?_map, Option.map_map] at h6
      rw [← Array.getElem?_toList]
      have h7 : Option.map (fun e : MapEntry => e.key) es.toList[j]? = (al[j]?).map (fun p => enc p.1) := h6
      rw [h7]
      cases hj : al[j]? with
      | none => rw [hj] at h4; cases h4
      | some p => rw [hj] at h4; simp at h4; simp [h4]
    refine ⟨_, ?_, ⟨es.modify j fun e => { e with key := enc a, val := .bool x }, c, ?_, ?_⟩, mkk (es.modify j fun e => { e with key := enc a, val := .bool x }) c⟩
    · unfold Instr.mapUpdate
      simp only [Sem.run_bind, run_underlying hu, MapKept.run_getObj_map hb, K.ck, hf, Result.andThen_ok, hkey, Option.getD_some, Instr.keyThatStays, K.sb a, if_true, Sem.run_pure, MapKept.run_setObj_map _ hb]
    · simp [hlt]
    · rw [h5 x, Array.toList_modify]
      exact (map_mod (f := fun e : MapEntry => { e with key := enc a, val := .bool x }) (g := fun e => (e.key, e.val)) (h := fun _ => (enc a, .bool x)) (fun _ => rfl) es.toList j).trans (by rw [he]; exact (map_mod (f := fun _ => (a, x)) (g := fun p : κ × Bool => (enc p.1, Value.bool p.2)) (h := fun _ => (enc a, .bool x)) (fun _ => rfl) al j).symm)
section
variable {o : Oper} {n : Nat} {l : List (Nat × Value)} {ops : Array Oper} {rest : List Oper} {Q : Exit → Act → World → Prop}
theorem wl_mupq {mt kt : TypeId} (m x v : Operand) (a : κ) (k : Bool) (hM : Mp enc w b al) (K : KT kt enc) (hu : Try.prog.underlying mt = some (.map kt 4)) (ho : o.op = .mapUpdate mt m x v) (hd : o.dst = none) (hm : evl n l m = .map (some b)) (hx : evl n l x = enc a) (hv : evl n l v = .bool k) (hg : wnt n l ops o = true)
    (hk : ∀ w', Mp enc w' b (putq al a k) → Mk (fun j => j = b) w w' → WL Try.prog ops Q rest n l w') : WL Try.prog ops Q (o :: rest) n l w := by
  obtain ⟨w', hr, h1, h2⟩ := hM.put K hu a k
  refine ⟨l_step hg ?_⟩
  have e : (execOp (evl n l) o).run Try.prog w = .ok .skip w' := by simp [execOp, ho, hm, hx, hv, hr]
  unfold Oper.wp; rw [fr_eval, e, Oper.upon_skip, hd]; exact (hk w' h1 h2).out
end
end maps
section
variable {κ : Type} {o : Oper} {n : Nat} {l : List (Nat × Value)} {w : World} {ops : Array Oper} {rest : List Oper} {Q : Exit → Act → World → Prop}
theorem wl_mmq (enc : κ → Value) (t : TypeId) (ho : o.op = .makeMap t none) (hg : wnt n l ops o = true)
    (hk : ∀ b w', w.heap.size = b → w'.heap.size = b + 1 → Mo w w' → Mp enc w' b [] → WL Try.prog ops Q rest n (ext l o.dst (.map (some b))) w') : WL Try.prog ops Q (o :: rest) n l w := by
  refine ⟨l_step hg (o_val (.map (some w.heap.size)) (w' := w.alloc (.map #[] 0)) ?_ (hk _ _ rfl (by simp) (Mo.allocm w) (Mp.new w)).out)⟩
  simp [execOp, ho, mm_run]
end
theorem kt_now {κ : Type} [DecidableEq κ] {kt : TypeId} {d : TypeDesc} {enc : κ → Value} (hu : Try.prog.underlying kt = some d) (hs : ∀ a b : κ, Instr.sameNow d (enc a) (enc b) = some (decide (a = b))) (a : κ) (es : List MapEntry) (al : List (κ × Bool)) (w : World) (h : es.map (fun e => (e.key, e.val)) = al.map (fun p => (enc p.1, .bool p.2))) : (Instr.findKey kt (enc a) es).run Try.prog w = .ok (fdq al a 0) w := by
  have key : ∀ (es : List MapEntry) (al : List (κ × Bool)) (i : Nat), es.map (fun e => (e.key, e.val)) = al.map (fun p => (enc p.1, .bool p.2)) → Instr.findNow d (enc a) es i = some (fdq al a i) := by
    intro es
    induction es with
    | nil => intro al i h; cases al with
      | nil => rfl
      | cons _ _ => simp at h
    | cons e es ih =>
      intro al i h
      cases al with
      | nil => simp at h
      | cons p al =>
        simp only [List.map_cons, List.cons.injEq, Prod.mk.injEq] at h
        obtain ⟨⟨h1, h2⟩, h3⟩ := h
        obtain ⟨q, u⟩ := p
        unfold Instr.findNow
        rw [h1, hs a q]
        by_cases e2 : a = q
        · subst e2; simp [fdq, h2]
        · simp only [decide_eq_false e2, fdq, if_neg (fun e3 => e2 (Eq.symm e3))]; exact ih al (i + 1) h3
  unfold Instr.findKey
  rw [Sem.run_bind, run_underlying hu, Result.andThen_ok, key es al 0 h]
  rfl
theorem kt3 : KT 3 ei where
  fd := kt_now Try.underlying3 (fun a b => by
    show (if IntKind.i64 = IntKind.i64 then some (a == b) else none) = _
    rw [if_pos rfl]
    by_cases h : a = b <;> simp [h])
  ck := fun e a w => by cases e <;> kernel_rfl
  sb := fun a => by show (IntKind.i64 == IntKind.i64 && a == a) = true; simp
end B
end Go.Proofs.Ythghblgbjgghcaa
namespace Go.Proofs.Ythghblgbjgghcaa
open Go.RowKit D Go.Lib
def prs (K : List Nat) : List (Int × Bool) := K.map (fun k => (((k : Nat) : Int), true))
abbrev Cl (w : World) (mb : Nat) (K : List Nat) : Prop := B.Mp ei w mb (prs K)
def ins (K : List Nat) (a : Nat) : List Nat := if a ∈ K then K else K ++ [a]
theorem mem_ins {K : List Nat} {a k : Nat} : k ∈ ins K a ↔ k ∈ K ∨ k = a := by
  unfold ins; split
  · exact ⟨Or.inl, fun h => h.elim id (fun e => e ▸ by assumption)⟩
  · simp
theorem ins_nd {K : List Nat} (h : K.Nodup) (a : Nat) : (ins K a).Nodup := by
  unfold ins; split
  · exact h
  · rename_i hn
    rw [List.nodup_append]
    exact ⟨h, by simp, fun x hx y hy e => by simp at hy; subst hy; subst e; exact hn hx⟩
theorem lkq_prs : ∀ (K : List Nat) (a : Nat), B.lkq (prs K) ((a : Nat) : Int) = if a ∈ K then some true else none
  | [], a => by simp [prs, B.lkq]
  | b :: K, a => by
    show (if ((b : Nat) : Int) = ((a : Nat) : Int) then some true else B.lkq (prs K) ((a : Nat) : Int)) = _
    rw [lkq_prs K a]
    by_cases e : b = a
    · subst e; simp
    · rw [if_neg (by omega)]
      have : (a ∈ b :: K) ↔ a ∈ K := by simp; exact fun q => absurd q.symm e
      simp only [this]
theorem put_prs : ∀ (K : List Nat) (a : Nat), B.putq (prs K) ((a : Nat) : Int) true = prs (ins K a)
  | [], a => by simp [prs, B.putq, ins]
  | b :: K, a => by
    show (if ((b : Nat) : Int) = ((a : Nat) : Int) then (((a : Nat) : Int), true) :: prs K else (((b : Nat) : Int), true) :: B.putq (prs K) ((a : Nat) : Int) true) = _
    by_cases e : b = a
    · subst e; simp [ins, prs]
    · rw [if_neg (by omega), put_prs K a]
      unfold ins
      have : (a ∈ b :: K) ↔ a ∈ K := by simp; exact fun q => absurd q.symm e
      simp only [this]
      split <;> simp [prs]
theorem Cl.hit {w : World} {mb : Nat} {K : List Nat} (h : Cl w mb K) {a : Nat} (ha : a ∈ K) : (Instr.lookup 49 (.map (some mb)) (.int .i64 ((a : Nat) : Int)) false).run Try.prog w = .ok (.bool true) w := by
  have h1 := h.look B.kt3 Try.underlying49 ((a : Nat) : Int) false
  rw [lkq_prs, if_pos ha] at h1
  exact h1
theorem lenB {al : List (Int × Bool)} {b : Nat} (ρ : Operand → Value) (x : Operand) (w : World) (h : B.Mp ei w b al) (hx : ρ x = .map (some b)) (dst : Option Tmp) (type : TypeId) (pos : String) (after : Array Edge) (guard : Option (Nat × Bool)) : (execOp ρ { dst, op := .call { callee := .builtin .len, args := #[x], argTypes := #[49] }, type, pos, after, guard }).run Try.prog w = .ok (.value (.int .i64 ((al.length : Nat) : Int))) w := by
  obtain ⟨es, c, hb, he⟩ := h
  have hl : es.size = al.length := by have := congrArg List.length he; simpa using this
  simp [go_sem, hx, Builtin.len_, run_underlying Try.underlying49, MapKept.run_getObj_map hb, hl]
theorem prs_len (K : List Nat) : (prs K).length = K.length := by simp [prs]
theorem Rch.last {R : List (List Nat)} {k m : Nat} (h : Rch R k m) : m ∈ row R k ∨ ∃ u, Rch R k u ∧ m ∈ row R u := by
  obtain ⟨f, h⟩ := h
  induction f generalizing k with
  | zero => exact Or.inl h
  | succ f ih =>
    obtain ⟨c, h1, h2⟩ := h
    rcases ih h2 with q | ⟨u, q1, q2⟩
    · exact Or.inr ⟨c, Rch.one h1, q⟩
    · exact Or.inr ⟨u, Rch.cons h1 q1, q2⟩
theorem ris_up (n : Nat) (p : Nat → Bool) : (ris n p).Pairwise (· < ·) := by
  unfold ris; exact List.Pairwise.filter _ List.pairwise_lt_range
section
variable {w : World} {l : List S5} {pl : Option Addr} {cl : Nat}
/-- Users and Below at whatever number. -/
theorem users_any (hL : SL w 5 S5.cells pl l) (hLx : ∀ x ∈ l, LS5 w x) (hz : l.length < 400000) (hzI : nI l < 400000) (hnd : ∀ y ∈ l, ∀ z ∈ y.items, nd z.ex ≤ 3000000) (n : Int) : Calls Try.prog 17 #[.slice pl l.length cl, .int .i64 n] w fun e w' => ∃ (U : List Nat) (pa : Option Addr) (cap : Nat), e = .returned (.slice pa U.length cap) ∧ Ow w.heap.size 3 1 ic w' pa cap U ∧ U.length ≤ nI l ∧ (∀ u, u ∈ U ↔ 0 ≤ n ∧ n.toNat ∈ row (RA l) u) ∧ Mo w w' := by
  rcases Int.lt_or_le n 0 with h | h
  · refine (users_neg hL hLx hz hzI hnd n h).mono ?_
    rintro e w' ⟨rfl, hq⟩
    exact ⟨[], none, 0, rfl, Ow.nil _ _ _ _ _, Nat.zero_le _, fun u => ⟨fun q => by simp at q, fun q => by omega⟩, hq⟩
  · obtain ⟨m, rfl⟩ := Int.eq_ofNat_of_zero_le h
    refine (users_nat hL hLx hz hzI hnd m).mono ?_
    rintro e w' ⟨pa, cap, rfl, ho, hq⟩
    refine ⟨_, pa, cap, rfl, ho, ris_len _ _, fun u => ?_, hq⟩
    rw [mem_ris, decide_eq_true_eq, Int.toNat_natCast]
    exact ⟨fun q => ⟨by omega, q.2⟩, fun q => ⟨by rw [← RA_len]; exact row_lt q.2, q.2⟩⟩
theorem below_any (hL : SL w 5 S5.cells pl l) (hLx : ∀ x ∈ l, LS5 w x) (hz : l.length < 400000) (hzI : nI l < 400000) (hnd : ∀ y ∈ l, ∀ z ∈ y.items, nd z.ex ≤ 3000000) (n : Int) : Calls Try.prog 19 #[.slice pl l.length cl, .int .i64 n] w fun e w' => ∃ (U : List Nat) (pa : Option Addr) (cap : Nat), e = .returned (.slice pa U.length cap) ∧ Ow w.heap.size 3 1 ic w' pa cap U ∧ U.length ≤ nI l ∧ U.Pairwise (· < ·) ∧ (∀ u, u ∈ U ↔ 0 ≤ n ∧ Rch (RA l) u n.toNat) ∧ Mo w w' := by
  rcases Int.lt_or_le n 0 with h | h
  · refine (below_neg hL hLx hz hzI hnd n h).mono ?_
    rintro e w' ⟨rfl, hq⟩
    exact ⟨[], none, 0, rfl, Ow.nil _ _ _ _ _, Nat.zero_le _, List.Pairwise.nil, fun u => ⟨fun q => by simp at q, fun q => by omega⟩, hq⟩
  · obtain ⟨m, rfl⟩ := Int.eq_ofNat_of_zero_le h
    refine (below_nat hL hLx hz hzI hnd m).mono ?_
    rintro e w' ⟨p, pa, cap, hp, rfl, ho, hq⟩
    refine ⟨_, pa, cap, rfl, ho, ris_len _ _, ris_up _ _, fun u => ?_, hq⟩
    rw [mem_ris, hp, Int.toNat_natCast]
    exact ⟨fun q => ⟨by omega, q.2⟩, fun q => ⟨by obtain ⟨f, hf⟩ := q.2; rw [← RA_len]; cases f with | zero => exact row_lt hf | succ f => obtain ⟨c, h1, _⟩ := hf; exact row_lt h1, q.2⟩⟩
end
theorem same_len {K U : List Nat} (hK : K.Nodup) (hU : U.Pairwise (· < ·)) (h : ∀ k, k ∈ K ↔ k ∈ U) : U.length = K.length :=
  ((List.perm_ext_iff_of_nodup hK (hU.imp (fun q => Nat.ne_of_lt q))).2 h).length_eq.symm
end Go.Proofs.Ythghblgbjgghcaa

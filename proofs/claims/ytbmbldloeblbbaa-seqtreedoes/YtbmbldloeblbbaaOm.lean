/-
  The map of ids: what it says, and what its operations leave.
-/
import Derived.Test.YtbmbldloeblbbaaHs
import Derived.Maps.OwnSet
import Derived.WalkArith
namespace Go.Proofs.Ytbmbldloeblbbaa
open Go.RowKit Go.ChangeMaps
/-- How a record's address reads. -/
def dat : Option Nat → DataW Unit
  | none => .lit (.bool false)
  | some k => .lit (.int .i64 k)
def RR (v : Value) : Option (DataW Unit × List MemPlace) := match v with
  | .pointer none => some (dat none, [])
  | .pointer (some ⟨k, 0, none⟩) => some (dat (some k), [])
  | _ => none
theorem RR_pp (x : Option Nat) : RR (pp x) = some (dat x, []) := by cases x <;> rfl
theorem dat_inj {x y : Option Nat} (h : dat x = dat y) : x = y := by
  cases x <;> cases y <;> simp [dat] at h ⊢
  omega
theorem RR_inv {v : Value} {x : Option Nat} {ps : List MemPlace} (h : RR v = some (dat x, ps)) : v = pp x := by
  unfold RR at h
  split at h
  · rename_i e; simp at h; rw [← dat_inj h.1]; rfl
  · rename_i e k; simp at h; rw [← dat_inj h.1]; rfl
  · cases h
theorem keyd : Maps.Keyed Try.prog 2 := Maps.int_keyed Try.underlying2
theorem key_mk {id : Int} (h : (Lit.int .i64 id).wf = true) : keyOf Try.prog 2 (.int .i64 id) = some (.int .i64 id) := Maps.keyOf_int_mk Try.underlying2 h
theorem wf64 {id : Int} (h1 : -9223372036854775808 ≤ id) (h2 : id ≤ 9223372036854775807) : (Lit.int .i64 id).wf = true := WalkArith.wf_i64 ⟨h1, h2⟩
def fu (f : Int → Option Nat) (id : Int) (x : Option Nat) (j : Int) : Option Nat := if j = id then x else f j
theorem fu_same (f : Int → Option Nat) (id : Int) (x : Option Nat) : fu f id x id = x := if_pos rfl
theorem fu_ne (f : Int → Option Nat) {id j : Int} (x : Option Nat) (h : j ≠ id) : fu f id x j = f j := if_neg h
/-- The map in the block b says f, and has n entries. -/
def OM (w : World) (b : Nat) (f : Int → Option Nat) (n : Nat) : Prop :=
  ∃ D0 : DataW Unit, w.ownsMap Try.prog 2 RR b n D0 ∧ Maps.size D0 = n ∧ (∀ id, Maps.has D0 (.int .i64 id) = (f id).isSome) ∧ ∀ id k, f id = some k → ∀ z, D0.atKey (.int .i64 id) z = dat (some k)
variable {w w' : World} {b : Nat} {f : Int → Option Nat} {n : Nat}
theorem owns_tight {D0 : DataW Unit} {m : Nat} (h : w.ownsMap Try.prog 2 RR b m D0) : w.ownsMap Try.prog 2 RR b (Maps.size D0) D0 := by
  obtain ⟨es, clock, hb, F, _, rfl⟩ := h
  exact ⟨es, clock, hb, F, by simp [Maps.size, length_sorted], rfl⟩
theorem OM.mk {D : Nat → Prop} (h : OM w b f n) (m : Mk D w w') (hb : ¬ D b) : OM w' b f n := by
  obtain ⟨D0, h1, h2⟩ := h
  refine ⟨D0, ?_, h2⟩
  have hlt := h1.lt
  obtain ⟨es, clock, hb', F, hs, hD⟩ := h1
  exact ⟨es, clock, (m.block b hlt hb).trans hb', F, hs, hD⟩
theorem OM.mo (h : OM w b f n) (m : Mo w w') : OM w' b f n := h.mk (Mk.of (fun _ => False) m) (fun e => e)
theorem OM.lt (h : OM w b f n) : b < w.heap.size := by obtain ⟨D0, h1, _⟩ := h; exact h1.lt
theorem OM.look (h : OM w b f n) {id : Int} (hw : (Lit.int .i64 id).wf = true) : (Instr.lookup 57 (.map (some b)) (.int .i64 id) false).run Try.prog w = .ok (pp (f id)) w := by
  obtain ⟨D0, h1, _, h3, h4⟩ := h
  have hz : (zeroValue 56).run Try.prog w = .ok (pp none) w := by kernel_rfl
  obtain ⟨v, ps, hr, hv⟩ := h1.lookup keyd Try.underlying57 hz (RR_pp none) (key_mk hw)
  have e : D0.atKey (.int .i64 id) (dat none) = dat (f id) := by
    cases hf : f id with
    | none => exact Maps.atKey_of_not_has (by rw [h3, hf]; rfl) _
    | some k => exact h4 id k hf _
  rw [e] at hv
  rw [hr, RR_inv hv]
theorem OM.len (h : OM w b f n) (ty : TypeId) : (Builtin.len_ #[57] ty #[.map (some b)]).run Try.prog w = .ok (.int .i64 (n : Int)) w := by
  obtain ⟨D0, h1, h2, _⟩ := h
  have := h1.len Try.underlying57 ty
  rw [h2] at this
  exact this
theorem turned_mk (h : w.mapTurned w' b) : Mk (fun k => k = b) w w' := by
  have g := h.grown
  exact ⟨g.os, g.tape, g.output, g.size, fun k hk hd => g.block k hk (fun e => hd (Option.some.inj e)), h.frozen⟩
theorem ne_lit {a c : Int} (h : a ≠ c) : (Lit.int .i64 a) ≠ .int .i64 c := fun e => h (by cases e; rfl)
theorem OM.put (h : OM w b f n) (hn : n < 1000000) {id : Int} (hw : (Lit.int .i64 id).wf = true) (k : Nat) :
    ∃ w', (Instr.mapUpdate 57 (.map (some b)) (.int .i64 id) (pt k 0)).run Try.prog w = .ok () w' ∧ OM w' b (fu f id (some k)) (if (f id).isSome then n else n + 1) ∧ Mk (fun j => j = b) w w' := by
  obtain ⟨D0, h1, h2, h3, h4⟩ := h
  obtain ⟨w', hr, ho, ht⟩ := h1.store keyd Try.underlying57 (by unfold maxLen; omega) (key_mk hw) (RR_pp (some k))
  have hkl : WideAt.IsKeyLit (Lit.int .i64 id) := trivial
  have hsz := Maps.size_put (h1.tidy keyd) (k := .int .i64 id) (dat (some k))
  rw [h3, h2] at hsz
  refine ⟨w', hr, ⟨_, ?_, hsz, fun j => ?_, fun j q hq z => ?_⟩, turned_mk ht⟩
  · have := owns_tight ho
    rw [hsz] at this
    exact this
  · by_cases e : j = id
    · subst e; rw [fu_same, Maps.has_put_same h1.isMap hkl]; rfl
    · rw [fu_ne _ _ e, Maps.has_put_other (ne_lit e), h3]
  · by_cases e : j = id
    · subst e; rw [fu_same] at hq; cases hq; exact Maps.atKey_put_same h1.isMap hkl _ _
    · rw [fu_ne _ _ e] at hq; rw [Maps.atKey_put_other (ne_lit e)]; exact h4 j q hq z
theorem OM.del (h : OM w b f n) {id : Int} (hw : (Lit.int .i64 id).wf = true) (hf : (f id).isSome = true) (ty : TypeId) :
    ∃ w', (Builtin.delete_ #[57, 2] ty #[.map (some b), .int .i64 id]).run Try.prog w = .ok (.tuple #[]) w' ∧ OM w' b (fu f id none) (n - 1) ∧ Mk (fun j => j = b) w w' := by
  obtain ⟨D0, h1, h2, h3, h4⟩ := h
  obtain ⟨w', hr, ho, ht⟩ := h1.drop keyd Try.underlying57 (key_mk hw) ty
  have hsz := Maps.size_del (h1.tidy keyd) (k := .int .i64 id)
  rw [h3, hf, h2] at hsz
  have hsz2 : Maps.size (D0.del (.int .i64 id)) = n - 1 := by simp at hsz; omega
  refine ⟨w', hr, ⟨_, ?_, hsz2, fun j => ?_, fun j q hq z => ?_⟩, turned_mk ht⟩
  · have := owns_tight ho
    rw [hsz2] at this
    exact this
  · by_cases e : j = id
    · subst e; rw [fu_same, Maps.has_del_same]; rfl
    · rw [fu_ne _ _ e, Maps.has_del_other (ne_lit e), h3]
  · by_cases e : j = id
    · subst e; rw [fu_same] at hq; cases hq
    · rw [fu_ne _ _ e] at hq; rw [Maps.atKey_del_other (ne_lit e)]; exact h4 j q hq z
theorem OM.new (w : World) : OM (w.alloc (.map #[] 0)) w.heap.size (fun _ => none) 0 :=
  ⟨_, World.ownsMap_made w Try.prog 2 RR, rfl, fun _ => rfl, fun _ _ h => by cases h⟩
section
variable {o : Oper} {n : Nat} {l : List (Nat × Value)} {w : World} {ops : Array Oper} {rest : List Oper} {Q : Exit → Act → World → Prop}
theorem wl_mup (m x v : Operand) (b : Nat) (id : Int) (k : Nat) {c : Nat} {f : Int → Option Nat} (hM : OM w b f c) (hc : c < 1000000) (hw : (Lit.int .i64 id).wf = true) (ho : o.op = .mapUpdate 57 m x v) (hd : o.dst = none) (hm : evl n l m = .map (some b)) (hx : evl n l x = .int .i64 id) (hv : evl n l v = pt k 0) (hg : wnt n l ops o = true)
    (hk : ∀ w', OM w' b (fu f id (some k)) (if (f id).isSome then c else c + 1) → Mk (fun j => j = b) w w' → WL Try.prog ops Q rest n l w') : WL Try.prog ops Q (o :: rest) n l w := by
  obtain ⟨w', hr, h1, h2⟩ := hM.put hc hw k
  refine ⟨l_step hg ?_⟩
  have e : (execOp (evl n l) o).run Try.prog w = .ok .skip w' := by simp [execOp, ho, hm, hx, hv, hr]
  unfold Oper.wp; rw [fr_eval, e, Oper.upon_skip, hd]; exact (hk w' h1 h2).out
theorem wl_del (m x : Operand) (b : Nat) (id : Int) {c : Nat} {f : Int → Option Nat} (hM : OM w b f c) (hf : (f id).isSome = true) (hw : (Lit.int .i64 id).wf = true) (ho : o.op = .call { callee := .builtin .delete, args := #[m, x], argTypes := #[57, 2] }) (hd : o.dst = none) (hm : evl n l m = .map (some b)) (hx : evl n l x = .int .i64 id) (hg : wnt n l ops o = true)
    (hk : ∀ w', OM w' b (fu f id none) (c - 1) → Mk (fun j => j = b) w w' → WL Try.prog ops Q rest n l w') : WL Try.prog ops Q (o :: rest) n l w := by
  obtain ⟨w', hr, h1, h2⟩ := hM.del hw hf o.type
  have hk2 := hk w' h1 h2
  refine ⟨l_step hg (o_val (.tuple #[]) (w' := w') ?_ (by rw [hd]; exact hk2.out))⟩
  unfold execOp
  simp only [ho, resolve, invoke, builtin, Sem.run_bind, Sem.run_pure, Result.andThen_ok, List.map_toArray, List.map_cons, List.map_nil, hm, hx, hr]
end
end Go.Proofs.Ytbmbldloeblbbaa

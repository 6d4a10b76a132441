/-
  Maps from names to flags; names along a way up.
-/
import Derived.Test.YtbanldffohopiaaRc
namespace Go.Proofs.Ytbanldffohopiaa
open Go.RowKit D
section
def RB (v : Value) : Option (DataW Unit × List MemPlace) := match v with
  | .bool k => some (.lit (.bool k), [])
  | _ => none
theorem RB_inv {v : Value} {x : Bool} {ps : List MemPlace} (h : RB v = some (.lit (.bool x), ps)) : v = .bool x := by
  unfold RB at h
  split at h
  · simp at h; rw [h.1]
  · cases h
/-- The map in the block b has the names of a list. -/
def OB (w : World) (b : Nat) (S : List ByteArray) : Prop :=
  ∃ D0 : DataW Unit, w.ownsMap Try.prog 9 RB b S.length D0 ∧ Maps.size D0 = S.length ∧ ∀ s, Maps.has D0 (.string s.data.toList) = S.any (fun x => decide (x = s))
theorem any_nm {S : List ByteArray} {s : ByteArray} (h : s ∉ S) : S.any (fun x => decide (x = s)) = false := by
  rw [List.any_eq_false]
  intro x hx e
  exact h (of_decide_eq_true e ▸ hx)
variable {w w' : World} {b : Nat} {S : List ByteArray}
theorem owns_tightB {D0 : DataW Unit} {m : Nat} (h : w.ownsMap Try.prog 9 RB b m D0) : w.ownsMap Try.prog 9 RB b (Maps.size D0) D0 := by
  obtain ⟨es, clock, hb, F, _, rfl⟩ := h
  exact ⟨es, clock, hb, F, by simp [Maps.size, length_sorted], rfl⟩
theorem OB.mk {D : Nat → Prop} (h : OB w b S) (m : Mk D w w') (hb : ¬ D b) : OB w' b S := by
  obtain ⟨D0, h1, h2⟩ := h
  refine ⟨D0, ?_, h2⟩
  have hlt := h1.lt
  obtain ⟨es, clock, hb', F, hs, hD⟩ := h1
  exact ⟨es, clock, (m.block b hlt hb).trans hb', F, hs, hD⟩
theorem OB.mo (h : OB w b S) (m : Mo w w') : OB w' b S := h.mk (Mk.of (fun _ => False) m) (fun e => e)
theorem OB.look (h : OB w b S) {s : ByteArray} (hs : s.size ≤ maxLen) (hf : s ∉ S) : (Instr.lookup 50 (.map (some b)) (.string s) false).run Try.prog w = .ok (.bool false) w := by
  obtain ⟨D0, h1, _, h3⟩ := h
  have hz : (zeroValue 4).run Try.prog w = .ok (.bool false) w := by kernel_rfl
  obtain ⟨v, ps, hr, hv⟩ := h1.lookup keyd Try.underlying50 hz (zd := .lit (.bool false)) (zp := []) rfl (key_mk hs)
  rw [Maps.atKey_of_not_has (by rw [h3]; exact any_nm hf)] at hv
  rw [hr, RB_inv hv]
theorem OB.put (h : OB w b S) (hn : S.length < 1000000) {s : ByteArray} (hs : s.size ≤ maxLen) (hf : s ∉ S) :
    ∃ w', (Instr.mapUpdate 50 (.map (some b)) (.string s) (.bool true)).run Try.prog w = .ok () w' ∧ OB w' b (s :: S) ∧ Mk (fun j => j = b) w w' := by
  obtain ⟨D0, h1, h2, h3⟩ := h
  obtain ⟨w', hr, ho, ht⟩ := h1.store keyd Try.underlying50 (by unfold maxLen; omega) (key_mk hs) (show RB (.bool true) = some (.lit (.bool true), []) from rfl)
  have hkl : WideAt.IsKeyLit (Lit.string s.data.toList) := trivial
  have hsz := Maps.size_put (h1.tidy keyd) (k := .string s.data.toList) (.lit (.bool true))
  rw [h3, h2, any_nm hf] at hsz
  simp at hsz
  refine ⟨w', hr, ⟨_, ?_, hsz, fun j => ?_⟩, turned_mk ht⟩
  · have := owns_tightB ho
    rw [hsz] at this
    exact this
  · by_cases e : s = j
    · subst e; rw [Maps.has_put_same h1.isMap hkl, List.any_cons, decide_eq_true rfl]; rfl
    · rw [Maps.has_put_other (key_ne (Ne.symm e)), h3, List.any_cons, decide_eq_false e]; rfl
theorem OB.new (w : World) : OB (w.alloc (.map #[] 0)) w.heap.size [] :=
  ⟨_, World.ownsMap_made w Try.prog 9 RB, rfl, fun _ => rfl⟩
end
section
variable {o : Oper} {n : Nat} {l : List (Nat × Value)} {w : World} {ops : Array Oper} {rest : List Oper} {Q : Exit → Act → World → Prop} {K : Act → World → Prop}
theorem wl_mupb (m x v : Operand) (b : Nat) (s : ByteArray) {S : List ByteArray} (hM : OB w b S) (hc : S.length < 1000000) (hs : s.size ≤ maxLen) (hf : s ∉ S) (ho : o.op = .mapUpdate 50 m x v) (hd : o.dst = none) (hm : evl n l m = .map (some b)) (hx : evl n l x = .string s) (hv : evl n l v = .bool true) (hg : wnt n l ops o = true)
    (hk : ∀ w', OB w' b (s :: S) → Mk (fun j => j = b) w w' → WL Try.prog ops Q rest n l w') : WL Try.prog ops Q (o :: rest) n l w := by
  obtain ⟨w', hr, h1, h2⟩ := hM.put hc hs hf
  refine ⟨l_step hg ?_⟩
  have e : (execOp (evl n l) o).run Try.prog w = .ok .skip w' := by simp [execOp, ho, hm, hx, hv, hr]
  unfold Oper.wp; rw [fr_eval, e, Oper.upon_skip, hd]; exact (hk w' h1 h2).out
theorem wl_mmb (t : TypeId) (ho : o.op = .makeMap t none) (hg : wnt n l ops o = true)
    (hk : ∀ b w', w.heap.size = b → w'.heap.size = b + 1 → Mo w w' → OB w' b [] → WL Try.prog ops Q rest n (ext l o.dst (.map (some b))) w') : WL Try.prog ops Q (o :: rest) n l w := by
  refine ⟨l_step hg (o_val (.map (some w.heap.size)) (w' := w.alloc (.map #[] 0)) ?_ (hk _ _ rfl (by simp) (Mo.allocm w) (OB.new w)).out)⟩
  simp [execOp, ho, mm_run]
end
/-! Names along a way up are apart. -/
theorem or_nn {α : Type} {a b : Option α} (h : a.or b = none) : a = none ∧ b = none := by
  cases a with
  | none => exact ⟨rfl, h⟩
  | some x => cases h
theorem chk_se {d : Df} (h : chk d = none) : seR (tbA d.tb d.tb.length) (fla d) = none := by
  unfold chk at h
  obtain ⟨_, h⟩ := or_nn h
  obtain ⟨_, h⟩ := or_nn h
  exact (or_nn h).1
def nmsO (L : List S5) (a : Nat) : List ByteArray := (itO L a).map (·.nm)
theorem anc_split {L : List S5} (hw : Wf L) : ∀ (n : Nat) (x : S5), L[n]? = some x → ∀ P R, anc L n = P ++ R → ∀ b ∈ P, ∀ c ∈ R, c < b ∧ c ∈ anc L b := by
  intro n
  induction n using Nat.strongRecOn with
  | ind n ih =>
    intro x hx P R h b hb c hc
    obtain ⟨A, hA, hU⟩ := anc_step hw hx
    have hn := (hw n x hx).1
    cases P with
    | nil => cases hb
    | cons p P =>
      rw [hA, List.cons_append, List.cons.injEq] at h
      obtain ⟨rfl, h⟩ := h
      rcases hU with ⟨_, rfl⟩ | ⟨k, hk, hkl, rfl⟩
      · have := List.append_eq_nil_iff.1 h.symm
        rw [this.2] at hc; cases hc
      · rcases List.mem_cons.1 hb with rfl | hb
        · have hca : c ∈ anc L k := by rw [h]; exact List.mem_append_right _ hc
          have := anc_le L k c hca
          exact ⟨by omega, by rw [hA]; exact List.mem_cons_of_mem _ hca⟩
        · obtain ⟨y, hy⟩ := get_of_lt hkl
          exact ih k (by omega) y hy P R h b hb c hc
section
variable {T : List (ByteArray × Int)} {L : List S5}
theorem ap1 (h : seR T L = none) {b c : Nat} (hc : c < b) (hca : c ∈ anc L b) (hb : b < L.length) {q : ByteArray} (hq : q ∈ nmsO L b) : q ∉ nmsO L c := fun hq2 => by
  obtain ⟨x, hx⟩ := get_of_lt hb
  unfold nmsO at hq hq2
  rw [itO_of hx] at hq
  obtain ⟨y, hy, rfl⟩ := List.mem_map.1 hq
  obtain ⟨z, hz, e⟩ := List.mem_map.1 hq2
  obtain ⟨j, hj⟩ := List.getElem?_of_mem hy
  have h1 := (itE_0 ((se_n h hx).2 j y hj)).2
  unfold tkn at h1
  rw [List.any_eq_false] at h1
  apply h1 c hca
  rw [stI_lt hc, itA_any, List.take_length, List.any_eq_true.2 ⟨z, hz, decide_eq_true e⟩, Bool.or_true]
theorem ap2 (h : seR T L = none) (hw : Wf L) {a : Nat} {x : S5} (hx : L[a]? = some x) {j : Nat} {q : ByteArray} (hq : (nmsO L a)[j]? = some q) : q ∉ (nmsO L a).take j := fun h2 => by
  unfold nmsO at hq h2
  rw [itO_of hx] at hq h2
  rw [List.getElem?_map] at hq
  obtain ⟨y, hy, rfl⟩ := Option.map_eq_some_iff.1 hq
  have h1 := un_of h hw hx j y hy
  rw [← List.map_take] at h2
  obtain ⟨z, hz, e⟩ := List.mem_map.1 h2
  rw [List.any_eq_false] at h1
  exact h1 z hz (decide_eq_true e)
theorem ap3 (h : seR T L = none) {a : Nat} {x : S5} (hx : L[a]? = some x) {q : ByteArray} (hq : q ∈ nmsO L a) : q.size ≤ maxLen := by
  unfold nmsO at hq
  rw [itO_of hx] at hq
  obtain ⟨y, hy, rfl⟩ := List.mem_map.1 hq
  obtain ⟨j, hj⟩ := List.getElem?_of_mem hy
  exact Nat.le_trans (may_sz (itE_0 ((se_n h hx).2 j y hj)).1) (by decide)
theorem ap4 (h : seR T L = none) {a : Nat} {x : S5} (hx : L[a]? = some x) : x.items.length ≤ 64 := by
  have h1 := (se_n h hx).1
  unfold seE at h1
  split at h1
  · split at h1
    · cases h1
    · rename_i h2
      simp at h2
      omega
  · rename_i h2; exact absurd h1 h2
theorem br {R : List S5} (h : R.map key5 = L.map key5) {a : Nat} {x : S5} (hx : R[a]? = some x) : ∃ z, L[a]? = some z ∧ x.pr = z.pr ∧ nmsO L a = x.items.map (·.nm) := by
  have h1 : (R.map key5)[a]? = (L.map key5)[a]? := by rw [h]
  rw [List.getElem?_map, List.getElem?_map, hx] at h1
  obtain ⟨z, hz, e⟩ := Option.map_eq_some_iff.1 h1.symm
  unfold key5 at e
  simp only [Prod.mk.injEq] at e
  refine ⟨z, hz, e.1.symm, ?_⟩
  have h2 := congrArg (List.map Prod.fst) e.2.2.2.2
  unfold nmsO
  rw [itO_of hz]
  simpa [List.map_map, Function.comp_def] using h2
end
end Go.Proofs.Ytbanldffohopiaa

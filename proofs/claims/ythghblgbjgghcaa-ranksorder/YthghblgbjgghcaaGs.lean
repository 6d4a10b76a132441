/-
  All sections gone through: where the state lies.
-/
import Derived.Test.YthghblgbjgghcaaGx
namespace Go.Proofs.Ythghblgbjgghcaa
open Go.RowKit D
/-- Where the variables lie. -/
structure Gd where
  kE : Nat
  kQ : Nat
  kL : Nat
  kA : Nat
  kG : Nat
  ke : Nat
  ka : Nat
abbrev Gd.fn (G : Gd) : Value := .func (.func 65) #[] #[pt G.kE 0, pt G.kQ 0, pt G.kL 0, pt G.kA 0, pt G.kG 0]
structure Gs (w0 : World) (l : List S5) (A : Ra) (G : Gd) (w : World) (E : List Bool) (V : List Iz) (F : Fn) (hid : List (ByteArray × Int)) : Prop where
  bE : Ob w G.kE 81 [.slice (some ⟨G.ke, 0, none⟩) l.length l.length]
  bQ : Ob w G.kQ 72 [pt A.r 0]
  bL : Ob w G.kL 22 [.slice A.pl l.length A.cl]
  bA : Ob w G.kA 79 [.slice (some ⟨G.ka, 0, none⟩) (nI l) (nI l)]
  bG : Ob w G.kG 82 [G.fn]
  en : Ob w G.ke 4 (E.map Value.bool)
  al : Ob w G.ka 32 (V.map Iz.v)
  le : E.length = l.length
  lv : V.length = nI l
  li : ∀ x ∈ V, Li w x.pa x.L
  rd : Rdr l A w F hid
  nk : ∀ a, A.pk = some a → a.block ≠ G.ka
  ne : A.N ≤ G.ke
  na : A.N ≤ G.ka
  kp : Kp w0 w
/-- What may be written. -/
def DG (A : Ra) (G : Gd) (w : World) (k : Nat) : Prop := DE A w k ∨ k = G.ke ∨ k = G.ka
theorem DG.tr {A : Ra} {G : Gd} {a b c : World} (h : Mk (DG A G a) a b) (k : Mk (DG A G b) b c) : Mk (DG A G a) a c := h.tr k (fun j hj e => by
  rcases e with (e | e | e) | e | e
  · exact Or.inl (Or.inl e)
  · exact Or.inl (Or.inr (Or.inl e))
  · refine Classical.byContradiction fun hn => hn ?_
    obtain ⟨h1, vs, h2⟩ := e
    exact Or.inl (Or.inr (Or.inr ⟨h1, vs, (h.block j hj hn).symm.trans h2⟩))
  · exact Or.inr (Or.inl e)
  · exact Or.inr (Or.inr e))
theorem Kp.kk {w0 w w' : World} {D : Nat → Prop} (k : Kp w0 w) (m : Mk D w w') (h : ∀ j, D j → w0.heap.size ≤ j) : Kp w0 w' :=
  ⟨Nat.le_trans k.size m.size, fun x o v e => by
    have h1 := k.cell x o v e
    have hx := cell_lt e
    exact (World.cell?_of_block (a := ⟨x, o, none⟩) (m.block x (cell_lt h1) (fun s => by have := h x s; omega))).trans h1⟩
section
variable {w0 w w' : World} {l : List S5} {A : Ra} {G : Gd} {E : List Bool} {V : List Iz} {F F' : Fn} {hid hid' : List (ByteArray × Int)}
theorem Gs.mo (h : Gs w0 l A G w E V F hid) (m : Mo w w') : Gs w0 l A G w' E V F hid := ⟨h.bE.mo m, h.bQ.mo m, h.bL.mo m, h.bA.mo m, h.bG.mo m, h.en.mo m, h.al.mo m, h.le, h.lv, fun x hx => (h.li x hx).mo m, h.rd.mo m, h.nk, h.ne, h.na, h.kp.trans m.kp⟩
theorem Gs.de (h : Gs w0 l A G w E V F hid) (hN : w0.heap.size ≤ A.N) (m : Mk (DE A w) w w') (hr : Rdr l A w' F' hid') : Gs w0 l A G w' E V F' hid' := by
  have q : ∀ {b : Nat} {t : TypeId}, Ty w b t → t ≠ 95 → t ≠ 105 → ¬ DE A w b := fun hb h1 h2 => DE.ty h.rd hb h1 h2
  exact ⟨h.bE.mk m (q h.bE.ty (by decide) (by decide)), h.bQ.mk m (q h.bQ.ty (by decide) (by decide)), h.bL.mk m (q h.bL.ty (by decide) (by decide)), h.bA.mk m (q h.bA.ty (by decide) (by decide)), h.bG.mk m (q h.bG.ty (by decide) (by decide)), h.en.mk m (q h.en.ty (by decide) (by decide)), h.al.mk m (q h.al.ty (by decide) (by decide)), h.le, h.lv, fun x hx => (h.li x hx).kk m (fun a e => q ((h.li x hx).ty a e) (by decide) (by decide)), hr, h.nk, h.ne, h.na, h.kp.kk m (fun j e => Nat.le_trans hN (DE.N h.rd e))⟩
theorem Gs.sete (h : Gs w0 l A G w E V F hid) (hN : w0.heap.size ≤ A.N) {s : Nat} (m : Mk (fun k => k = G.ke) w w') (ho : Ob w' G.ke 4 ((E.map Value.bool).set s (.bool true))) : Gs w0 l A G w' (E.set s true) V F hid := by
  obtain ⟨hv, r1, r2⟩ := h.rd.rc
  obtain ⟨am, m1, _⟩ := h.rd.mt
  obtain ⟨an, n1, _⟩ := h.rd.st.nm
  obtain ⟨ao, o1, _⟩ := h.rd.st.ow
  have q : ∀ {b : Nat} {t : TypeId}, Ty w b t → t ≠ 4 → ¬ b = G.ke := fun hb h1 e => h1 (hb.two (e ▸ h.en.ty))
  exact ⟨h.bE.mk m (q h.bE.ty (by decide)), h.bQ.mk m (q h.bQ.ty (by decide)), h.bL.mk m (q h.bL.ty (by decide)), h.bA.mk m (q h.bA.ty (by decide)), h.bG.mk m (q h.bG.ty (by decide)), by rw [List.map_set]; exact ho, h.al.mk m (q h.al.ty (by decide)), by simp [h.le], h.lv, fun x hx => (h.li x hx).kk m (fun a e => q ((h.li x hx).ty a e) (by decide)),
    h.rd.kk m (q r1.ty (by decide)) (fun e => m1.nec h.en e.symm) (fun e => n1.nec h.en e.symm) (fun e => o1.nec h.en e.symm) (fun b hb => q hb (by decide)) (fun a e => q (h.rd.st.kt a e) (by decide)) (fun b _ hb => q hb (by decide)), h.nk, h.ne, h.na, h.kp.kk m (fun j e => e ▸ Nat.le_trans hN h.ne)⟩
theorem Gs.seta (h : Gs w0 l A G w E V F hid) (hN : w0.heap.size ≤ A.N) {n : Nat} {x : Iz} (hx : Li w x.pa x.L) (m : Mk (fun k => k = G.ka) w w') (ho : Ob w' G.ka 32 ((V.map Iz.v).set n x.v)) : Gs w0 l A G w' E (V.set n x) F hid := by
  obtain ⟨hv, r1, r2⟩ := h.rd.rc
  obtain ⟨am, m1, _⟩ := h.rd.mt
  obtain ⟨an, n1, _⟩ := h.rd.st.nm
  obtain ⟨ao, o1, _⟩ := h.rd.st.ow
  have q : ∀ {b : Nat} {t : TypeId}, Ty w b t → t ≠ 32 → ¬ b = G.ka := fun hb h1 e => h1 (hb.two (e ▸ h.al.ty))
  refine ⟨h.bE.mk m (q h.bE.ty (by decide)), h.bQ.mk m (q h.bQ.ty (by decide)), h.bL.mk m (q h.bL.ty (by decide)), h.bA.mk m (q h.bA.ty (by decide)), h.bG.mk m (q h.bG.ty (by decide)), h.en.mk m (q h.en.ty (by decide)), by rw [List.map_set]; exact ho, h.le, by simp [h.lv], fun y hy => ?_,
    h.rd.kk m (q r1.ty (by decide)) (fun e => m1.nec h.al e.symm) (fun e => n1.nec h.al e.symm) (fun e => o1.nec h.al e.symm) (fun b hb => q hb (by decide)) (fun a e => h.nk a e) (fun b _ hb => q hb (by decide)), h.nk, h.ne, h.na, h.kp.kk m (fun j e => e ▸ Nat.le_trans hN h.na)⟩
  rcases List.mem_or_eq_of_mem_set hy with z | z
  · exact (h.li y z).kk m (fun a e => q ((h.li y z).ty a e) (by decide))
  · subst z; exact hx.kk m (fun a e => q (hx.ty a e) (by decide))
end
section
variable {P : Program} {o : Oper} {n : Nat} {l : List (Nat × Value)} {w : World} {ops : Array Oper} {rest : List Oper} {Q : Exit → Act → World → Prop} {K : Act → World → Prop}
theorem wl_bsO (ty : TypeId) (m : Nat) (xs : List (Nat × Operand)) (ps : List (Nat × Value)) (cs : List Value) (e : TypeId) (ho : o.op = .buildSlice ty m xs.toArray) (hx : xs.map (fun p => (p.1, evl n l p.2)) = ps)
    (h : ∀ w, (Instr.buildSlice ty m ps.toArray).run P w = .ok (.slice (some ⟨w.heap.size, 0, none⟩) m m) (w.alloc (.cells cs.toArray e))) (hg : wnt n l ops o = true)
    (hk : ∀ k w', w.heap.size = k → w'.heap.size = k + 1 → Mo w w' → Ob w' k e cs → WL P ops Q rest n (ext l o.dst (.slice (some ⟨k, 0, none⟩) m m)) w') : WL P ops Q (o :: rest) n l w := by
  subst hx
  refine ⟨l_step hg (o_val (.slice (some ⟨w.heap.size, 0, none⟩) m m) (w' := w.alloc (.cells cs.toArray e)) ?_ (hk _ _ rfl (by simp) ((Mo.refl _).alloc _ _) (Ob.new w cs e)).out)⟩
  simp [execOp, ho, h]
theorem wl_allocO (ty : TypeId) (zs : List Value) (ho : o.op = .alloc ty) (h : ∀ w, (Instr.alloc ty true (.tuple #[])).run P w = .ok (pt w.heap.size 0) (w.alloc (.cells zs.toArray ty))) (hg : wnt n l ops o = true) (hk : ∀ k w', w.heap.size = k → w'.heap.size = k + 1 → Mo w w' → Ob w' k ty zs → WL P ops Q rest n (ext l o.dst (pt k 0)) w') : WL P ops Q (o :: rest) n l w := by
  refine ⟨l_step hg (o_val (pt w.heap.size 0) (w' := w.alloc (.cells zs.toArray ty)) ?_ (hk _ _ rfl (by simp) ((Mo.refl _).alloc _ _) (Ob.new w zs ty)).out)⟩
  simp [execOp, ho, h]
theorem wo_callx (g : FuncId) (xs : List Operand) (ats : Array TypeId) (args : List Value) {F : Ending → World → Prop} (ho : o.op = .call { callee := .value (.func g), args := xs.toArray, argTypes := ats }) (hx : xs.map (evl n l) = args)
    (h : ∀ args w, (callFunc g args).run P w = .ok (.enter g args) w)
    (hc : Calls P g args.toArray w F) (hk : ∀ v w', F v w' → ∃ u, v = .returned u ∧ K (fr n (ext l o.dst u)) w') : WO P o n l w K Q := by
  have e : (execOp (evl n l) o).run P w = .ok (.enter g args.toArray) w := by
    obtain ⟨dst, op, ty, pos, after, guard⟩ := o
    simp only at ho
    subst ho hx
    have e2 := execOp_call_go (fr n l) dst g xs.toArray ats ty pos after guard
    rw [fr_eval] at e2
    rw [e2, h]
    simp
  refine ⟨?_⟩
  unfold Oper.wp; rw [fr_eval, e, Oper.upon_enter]
  refine hc.mono ?_
  intro e w' hF
  obtain ⟨u, rfl, hW⟩ := hk e w' hF
  show K _ _
  rw [fr_put]
  exact hW
/-- A call in a region that draws, of which something is told. -/
theorem oc_call {ol : List Oper} {m i : Nat} {W : World} {sp : List (Value → World → Prop)} (hm : Smos sp)
    (h : ∀ f w, Mo W w → (∀ j, depb o j = true → spQ sp j (f j) w) → ∀ K : Act → World → Prop, (∀ v w', Mo w w' → spQ sp i v w' → K (fr n (ext (asg f 0 (ol.take m) l) o.dst v)) w') → Go1 P ol Q n (asg f 0 (ol.take m) l) w K o) : OgC P ol Q n l m (fun w9 => Mo W w9) sp i o :=
  ⟨fun f w hG hd K hK => h f w hG hd K (fun v w' hmo hv => hK v w' (hG.trans hmo) hv (fun j u _ hr => hm j u w w' hr hmo))⟩
end
/-- A slice that a call has made. -/
def slq (N : Nat) (L : List Nat) : Value → World → Prop := fun v w => ∃ pa cap, v = .slice pa L.length cap ∧ Ow N 3 1 ic w pa cap L
theorem smo_slq (N : Nat) (L : List Nat) : Smo (slq N L) := fun _ _ _ ⟨p, c, h1, h2⟩ m => ⟨p, c, h1, own_mo h2 m⟩
/-- The rows of a section told so far. -/
structure Rw1 (l : List S5) (s i : Nat) (R R1 : List (List Nat)) : Prop where
  ln : R1.length = R.length
  ok : ∀ j z, j < i → (itn l s)[j]? = some z → R1[fsn l s + j]? = some (rdI l s (FM l s) z)
  sm : ∀ t, t ≠ s → ∀ j, j < (itn l t).length → R1[fsn l t + j]? = R[fsn l t + j]?
theorem Rw1.nil (l : List S5) (s : Nat) (R : List (List Nat)) : Rw1 l s 0 R R := ⟨rfl, fun j z h => by omega, fun _ _ _ _ => rfl⟩
theorem Rw1.more {l : List S5} {s i : Nat} {R R1 : List (List Nat)} {z : It} (h : Rw1 l s i R R1) (hz : (itn l s)[i]? = some z) (hl : R.length = nI l) : Rw1 l s (i + 1) R (R1.set (fsn l s + i) (rdI l s (FM l s) z)) := by
  have hn : fsn l s + i < R1.length := by rw [h.ln, hl]; exact itn_len (lt_of_get hz)
  refine ⟨by simp [h.ln], fun j y hj hy => ?_, fun t ht j hj => ?_⟩
  · by_cases e : j = i
    · subst e; rw [hz] at hy; cases hy; exact List.getElem?_set_self hn
    · rw [List.getElem?_set_ne (by omega)]; exact h.ok j y (by omega) hy
  · rw [List.getElem?_set_ne (fsn_apart (Ne.symm ht) (lt_of_get hz) hj)]; exact h.sm t ht j hj
theorem mem_kidL {l : List S5} {s u : Nat} : u ∈ kidL l s ↔ u < l.length ∧ par l u = (s : Int) := by unfold kidL; rw [List.mem_filter, List.mem_range]; simp
end Go.Proofs.Ythghblgbjgghcaa

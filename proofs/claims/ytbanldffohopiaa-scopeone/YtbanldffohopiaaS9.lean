/-
  The sections, flat: what they are; what newChecker lays.
-/
import Derived.Test.YtbanldffohopiaaOc
namespace Go.Proofs.Ytbanldffohopiaa
open Go.RowKit D
theorem foldl_inv {I : List S5 → Prop} {f : List S5 → Se → List S5} : ∀ (l : List Se) (b : List S5), I b → (∀ k ∈ l, ∀ a, I a → I (f a k)) → I (l.foldl f b)
  | [], _, h, _ => h
  | x :: l, b, h, hs => by rw [List.foldl_cons]; exact foldl_inv l _ (hs x (List.mem_cons_self ..) b h) (fun k hk => hs k (List.mem_cons_of_mem _ hk))
theorem flt_ls {W : World} : ∀ (s : Se), LSe W s → ∀ (acc : List S5) (p dp : Int), (∀ x ∈ acc, LS5 W x) → ∀ x ∈ flt s acc p dp, LS5 W x := by
  refine Se.ind2 ?_
  intro s ih hL acc p dp ha
  rw [flt_eq]
  split
  · exact ha
  · refine foldl_inv (I := fun a => ∀ x ∈ a, LS5 W x) s.kids _ (fun x hx => ?_) (fun k hk a hA => ih k hk (hL.kr k hk) a _ _ hA)
    rcases List.mem_append.1 hx with h | h
    · exact ha x h
    · rw [List.mem_singleton.1 h]; exact ⟨hL.it, hL.ex⟩
theorem Wf.snoc {L : List S5} (h : Wf L) {x : S5} (h1 : x.pr < L.length) (h2 : -1 ≤ x.pr) (h3 : 0 < L.length → 0 ≤ x.pr) : Wf (L ++ [x]) := fun i y hy => by
  rcases Nat.lt_or_ge i L.length with q | q
  · rw [List.getElem?_append_left q] at hy; exact h i y hy
  · have hi : i = L.length := by have := lt_of_get hy; simp at this; omega
    subst hi
    simp at hy
    subst hy
    exact ⟨h1, h2, h3⟩
theorem flt_wf : ∀ (s : Se) (acc : List S5) (p dp : Int), Wf acc → p < acc.length → -1 ≤ p → (0 < acc.length → 0 ≤ p) → Wf (flt s acc p dp) ∧ acc.length ≤ (flt s acc p dp).length := by
  refine Se.ind2 ?_
  intro s ih acc p dp hw h1 h2 h3
  rw [flt_eq]
  split
  · exact ⟨hw, Nat.le_refl _⟩
  · have h0 : Wf (acc ++ [(⟨p, dp, s.nm, s.mx, s.pi, s.ci, s.items⟩ : S5)]) ∧ acc.length < (acc ++ [(⟨p, dp, s.nm, s.mx, s.pi, s.ci, s.items⟩ : S5)]).length := ⟨hw.snoc h1 h2 h3, by simp⟩
    have := foldl_inv (I := fun a => Wf a ∧ acc.length < a.length) (f := fun a k => flt k a acc.length (dp + 1)) s.kids _ h0 (fun k hk a hA => by
      have := ih k hk a acc.length (dp + 1) hA.1 (by omega) (by omega) (fun _ => by omega)
      exact ⟨this.1, by omega⟩)
    exact ⟨this.1, by omega⟩
/-- A definition's sections by their numbers. -/
def fla (d : Df) : List S5 := flt d.rt [] (-1) 1
theorem fla_len (d : Df) : (fla d).length ≤ 64 := flt_len _ _ _ _ (by simp)
theorem Wf.nil : Wf [] := fun i x h => by simp at h
theorem fla_wf (d : Df) : Wf (fla d) := (flt_wf d.rt [] (-1) 1 Wf.nil (by simp) (by omega) (fun h => by simp at h)).1
theorem fla_pos (d : Df) : 0 < (fla d).length := by
  unfold fla
  rw [flt_eq, if_neg (by simp)]
  refine foldl_inv (I := fun a => Wf a ∧ 0 < a.length) d.rt.kids _ ⟨Wf.nil.snoc (by simp) (by simp) (fun h => by simp at h), by simp⟩ (fun k _ a hA => ?_) |>.2
  have := flt_wf k a ([] : List S5).length (1 + 1) hA.1 (by simpa using hA.2) (by simp) (fun _ => by simp)
  exact ⟨this.1, by omega⟩
theorem stI_00 (L : List S5) : stI L 0 0 = fun _ => [] := by
  funext j; unfold stI
  rw [if_neg (Nat.not_lt_zero _)]
  split <;> rfl
theorem stK_00 (L : List S5) : stK L 0 = fun _ => [] := rfl
/-! What newChecker lays. -/
structure NW (wA w : World) (kc : Nat) (MI : List Nat) (ip : Option Addr) (ic : Nat) (KI : List Nat) (kp : Option Addr) (kk : Nat) : Prop where
  mo : Mo wA w
  ri : w.ownsRow wA.heap.size 91 1 (.slice ip MI.length ic) MI.length (MI.flatMap mpc)
  rk : w.ownsRow wA.heap.size 91 1 (.slice kp KI.length kk) KI.length (KI.flatMap mpc)
  oi : (Value.slice ip MI.length ic).ownBlock ≠ some kc
  ok : (Value.slice kp KI.length kk).ownBlock ≠ some kc
  ik : ∀ j, (Value.slice ip MI.length ic).ownBlock = some j → (Value.slice kp KI.length kk).ownBlock ≠ some j
  om : ∀ b ∈ MI ++ KI, OM w b [] ∧ wA.heap.size ≤ b
  nd : (MI ++ KI).Nodup
section
variable {wA w w' : World} {kc : Nat} {MI KI : List Nat} {ip kp : Option Addr} {ic kk : Nat}
theorem NW.mv (h : NW wA w kc MI ip ic KI kp kk) (m : Mo w w') : NW wA w' kc MI ip ic KI kp kk :=
  ⟨h.mo.trans m, own_mo h.ri m, own_mo h.rk m, h.oi, h.ok, h.ik, fun b hb => ⟨(h.om b hb).1.mo m, (h.om b hb).2⟩, h.nd⟩
theorem NW.st (h : NW wA w kc MI ip ic KI kp kk) (m : Mk (fun j => j = kc) w w') (hk : wA.heap.size ≤ kc) {v : Value} {vs : List Value} (hA : At w kc (v :: vs)) : NW wA w' kc MI ip ic KI kp kk :=
  ⟨m.mo h.mo (fun k e => by rw [e]; exact hk), own_mk h.ri m (fun k e q => h.oi (by rw [e, q])), own_mk h.rk m (fun k e q => h.ok (by rw [e, q])), h.oi, h.ok, h.ik, fun b hb => ⟨(h.om b hb).1.mk m (fun e => by
    have h1 := (h.om b hb).1.nocell 0
    have h2 := hA.1 0 v rfl
    rw [e] at h1
    rw [h1] at h2
    cases h2), (h.om b hb).2⟩, h.nd⟩
theorem own_om {e sz : Nat} {v : Value} {n N g : Nat} {xs : List Value} (h : w.ownsRow N e sz v n xs) (hg : v.ownBlock = some g) {al : List (ByteArray × Int)} (hO : OM w g al) : False := by
  obtain ⟨D0, ⟨es, clock, hb, _⟩, _⟩ := hO
  rcases h.2 with ⟨rfl, rfl⟩ | ⟨g', cap, cur, rfl, _, hb', _⟩
  · cases hg
  · cases hg
    rw [hb] at hb'
    cases hb'
theorem nodup_snoc {MI KI : List Nat} {b : Nat} (h : (MI ++ KI).Nodup) (hb : b ∉ MI ++ KI) : (MI ++ [b] ++ KI).Nodup := by
  have : (MI ++ [b] ++ KI).Perm (b :: (MI ++ KI)) := by rw [List.append_assoc]; exact List.perm_middle
  exact this.nodup_iff.2 (List.nodup_cons.2 ⟨hb, h⟩)
theorem nodup_snoc2 {MI KI : List Nat} {b : Nat} (h : (MI ++ KI).Nodup) (hb : b ∉ MI ++ KI) : (MI ++ (KI ++ [b])).Nodup := by
  have : (MI ++ (KI ++ [b])).Perm (b :: (MI ++ KI)) := by rw [← List.append_assoc]; exact List.perm_append_comm
  exact this.nodup_iff.2 (List.nodup_cons.2 ⟨hb, h⟩)
theorem NW.appI (h : NW wA w kc MI ip ic KI kp kk) {b : Nat} (hO : OM w b []) (hb : b ∉ MI ++ KI) (hbA : wA.heap.size ≤ b) (hkc : kc < w.heap.size) {v : Value} (hOw : w'.ownsRow wA.heap.size 91 1 v (MI.length + 1) (MI.flatMap mpc ++ [.map (some b)])) (m : Mk (fun j => (Value.slice ip MI.length ic).ownBlock = some j) w w') (hbk : v.ownBlock = (Value.slice ip MI.length ic).ownBlock ∨ v.ownBlock = some w.heap.size) :
    ∃ ip1 ic1, v = .slice ip1 (MI ++ [b]).length ic1 ∧ NW wA w' kc (MI ++ [b]) ip1 ic1 KI kp kk := by
  obtain ⟨ip1, ic1, rfl, _⟩ := own_form hOw
  have e : MI.length + 1 = (MI ++ [b]).length := by simp
  rw [e] at hOw hbk
  refine ⟨ip1, ic1, by rw [e], m.mo h.mo (fun k q => (own_lt h.ri q).2), by simpa using hOw, own_mk h.rk m (fun k q1 q2 => h.ik k q2 q1), fun q => ?_, h.ok, fun j q1 q2 => ?_, fun c hc => ?_, nodup_snoc h.nd hb⟩
  · rcases hbk with r | r
    · exact h.oi (r.symm.trans q)
    · have := Option.some.inj (r.symm.trans q); omega
  · rcases hbk with r | r
    · exact h.ik j (r.symm.trans q1) q2
    · have := Option.some.inj (r.symm.trans q1); have := (own_lt h.rk q2).1; omega
  · have hc2 : c = b ∨ c ∈ MI ++ KI := by simp at hc ⊢; rcases hc with q | q | q <;> simp [q]
    rcases hc2 with rfl | q
    · exact ⟨hO.mk m (fun q => own_om h.ri q hO), hbA⟩
    · exact ⟨(h.om c q).1.mk m (fun r => own_om h.ri r (h.om c q).1), (h.om c q).2⟩
theorem NW.appK (h : NW wA w kc MI ip ic KI kp kk) {b : Nat} (hO : OM w b []) (hb : b ∉ MI ++ KI) (hbA : wA.heap.size ≤ b) (hkc : kc < w.heap.size) {v : Value} (hOw : w'.ownsRow wA.heap.size 91 1 v (KI.length + 1) (KI.flatMap mpc ++ [.map (some b)])) (m : Mk (fun j => (Value.slice kp KI.length kk).ownBlock = some j) w w') (hbk : v.ownBlock = (Value.slice kp KI.length kk).ownBlock ∨ v.ownBlock = some w.heap.size) :
    ∃ kp1 kk1, v = .slice kp1 (KI ++ [b]).length kk1 ∧ NW wA w' kc MI ip ic (KI ++ [b]) kp1 kk1 := by
  obtain ⟨kp1, kk1, rfl, _⟩ := own_form hOw
  have e : KI.length + 1 = (KI ++ [b]).length := by simp
  rw [e] at hOw hbk
  refine ⟨kp1, kk1, by rw [e], m.mo h.mo (fun k q => (own_lt h.rk q).2), own_mk h.ri m (fun k q1 q2 => h.ik k q1 q2), by simpa using hOw, h.oi, fun q => ?_, fun j q1 q2 => ?_, fun c hc => ?_, nodup_snoc2 h.nd hb⟩
  · rcases hbk with r | r
    · exact h.ok (r.symm.trans q)
    · have := Option.some.inj (r.symm.trans q); omega
  · rcases hbk with r | r
    · exact h.ik j q1 (r.symm.trans q2)
    · have := Option.some.inj (r.symm.trans q2); have := (own_lt h.ri q1).1; omega
  · have hc2 : c = b ∨ c ∈ MI ++ KI := by simp at hc ⊢; rcases hc with q | q | q <;> simp [q]
    rcases hc2 with rfl | q
    · exact ⟨hO.mk m (fun q => own_om h.rk q hO), hbA⟩
    · exact ⟨(h.om c q).1.mk m (fun r => own_om h.rk r (h.om c q).1), (h.om c q).2⟩
theorem NW.new (wA : World) (kc : Nat) {w : World} (m : Mo wA w) : NW wA w kc [] none 0 [] none 0 :=
  ⟨m, ⟨rfl, Or.inl ⟨rfl, rfl⟩⟩, ⟨rfl, Or.inl ⟨rfl, rfl⟩⟩, by simp [Value.ownBlock], by simp [Value.ownBlock], fun j q => by simp [Value.ownBlock] at q, fun b hb => by simp at hb, by simp⟩
end
section
variable {P : Program} {o : Oper} {n : Nat} {l : List (Nat × Value)} {w : World} {Q : Exit → Act → World → Prop} {K : Act → World → Prop}
theorem wo_callx (g : FuncId) (xs : List Operand) (ats : Array TypeId) (args : List Value) {F : Ending → World → Prop} (ho : o.op = .call { callee := .value (.func g), args := xs.toArray, argTypes := ats }) (hx : xs.map (evl n l) = args)
    (h : ∀ args w, (callFunc g args).run P w = .ok (.enter g args) w)
    (hc : Calls P g args.toArray w F) (hk : ∀ v w', F v w' → ∃ u, v = .returned u ∧ K (fr n (ext l o.dst u)) w') : WO P o n l w K Q := by
  have e : (execOp (evl n l) o).run P w = .ok (.enter g args.toArray) w := by
    obtain ⟨dst, op, ty, pos, after, guard⟩ := o
    simp only at ho
    subst ho hx
    have e2 := execOp_call_go (fr n l) dst g xs.toArray ats ty pos after guard
    rw [fr_eval] at e2
    rw [e2, h]
    simp
  refine ⟨?_⟩
  unfold Oper.wp; rw [fr_eval, e, Oper.upon_enter]
  refine hc.mono ?_
  intro e w' hF
  obtain ⟨u, rfl, hW⟩ := hk e w' hF
  show K _ _
  rw [fr_put]
  exact hW
theorem wo_mm (t : TypeId) (ho : o.op = .makeMap t none)
    (hk : ∀ b w', w.heap.size = b → w'.heap.size = b + 1 → Mo w w' → OM w' b [] → K (fr n (ext l o.dst (.map (some b)))) w') : WO Try.prog o n l w K Q := by
  refine ⟨o_val (.map (some w.heap.size)) (w' := w.alloc (.map #[] 0)) ?_ (hk _ _ rfl (by simp) (Mo.allocm w) (OM.new w))⟩
  simp [execOp, ho, mm_run]
theorem wl_mf {ops : Array Oper} {rest : List Oper} (fn : Fn) (xs ys : List Operand) (fs cs : List Value) (ho : o.op = .makeFunc fn xs.toArray ys.toArray) (hx : xs.map (evl n l) = fs) (hy : ys.map (evl n l) = cs) (hg : wnt n l ops o = true) (hk : WL P ops Q rest n (ext l o.dst (.func fn fs.toArray cs.toArray)) w) : WL P ops Q (o :: rest) n l w := by
  subst hx hy
  exact wl_val (.func fn (xs.map (evl n l)).toArray (ys.map (evl n l)).toArray) (by simp [execOp, ho, Instr.makeFunc]) hg hk
end
end Go.Proofs.Ytbanldffohopiaa

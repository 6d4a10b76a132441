/-
  Maps of one's own; values of functions. Regions whose order is open: every order by itself.
-/
import Derived.Test.YtfmfeipeeedfpaaGreatLg
import Derived.Orders
namespace Go.Proofs.YtfmfeipeeedfpaaGreat
namespace S
/-- An own map. -/
theorem fm {σ : List Nat} {i j : Nat} (h : σ[j]? = some i := by rfl) : fitV σ (.map (some i)) (.map (some j)) := fun k w hw => by
  obtain ⟨b, h2, h3⟩ := hw.map_inv
  exact VX.of0 ⟨b, by rw [ren_at h]; exact h2, h3⟩
theorem fitL_cons {σ : List Nat} {u v : Value} {us vs : List Value} (h : fitV σ u v) (hs : fitL σ us vs) : fitL σ (u :: us) (v :: vs) := ⟨v, vs, rfl, h, hs⟩
/-- A function with what it caught. -/
theorem ff {σ : List Nat} {f : Fn} {l m : List Value} (h : fitL σ l m) : fitV σ (.func f #[] l.toArray) (.func f #[] m.toArray) := fun k w hw => by
  obtain ⟨a, c, rfl, h1, h2⟩ := hw.func_inv
  have e1 : a = [] := h1
  subst e1
  exact VX.func (fitL_rel h h2)
theorem fr {σ : List Nat} {l m : List Value} (h : fitL σ l m) : fitV σ (.agg l.toArray) (.agg m.toArray) := fun k w hw => by
  obtain ⟨us, rfl, h2⟩ := hw.agg_inv
  exact VX.agg (fitL_rel h h2)
theorem uv {τ : List Nat} {u v : Value} (h : u = v := by rfl) (hp : pur v = true := by rfl) : unV τ u v := fun k w hw => by
  subst h; rw [pur_eq hw hp]; exact pur_vx hp
theorem us {τ : List Nat} {i j q len es : Nat} (h : τ[j]? = some i := by rfl) : unV τ (.slice (some ⟨j, q, none⟩) len es) (.slice (some ⟨i, q, none⟩) len es) := fun k w hw => by
  obtain ⟨h1, b, z, c, h2, h3⟩ := hw.slc_inv
  exact VX.of0 ⟨h1, b, z, c, by rw [← ren_at (k := k) h]; exact h2, h3⟩
theorem up {τ : List Nat} {i j q : Nat} (h : τ[j]? = some i := by rfl) : unV τ (.pointer (some ⟨j, q, none⟩)) (.pointer (some ⟨i, q, none⟩)) := fun k w hw => by
  obtain ⟨h1, b, z, h2, h3⟩ := hw.ptr_inv
  exact VX.of0 ⟨h1, b, z, by rw [← ren_at (k := k) h]; exact h2, h3⟩
theorem um {τ : List Nat} {i j : Nat} (h : τ[j]? = some i := by rfl) : unV τ (.map (some j)) (.map (some i)) := fun k w hw => by
  obtain ⟨b, h2, h3⟩ := hw.map_inv
  exact VX.of0 ⟨b, by rw [← ren_at (k := k) h]; exact h2, h3⟩
theorem unL_cons {τ : List Nat} {u v : Value} {us vs : List Value} (h : unV τ u v) (hs : unL τ us vs) : unL τ (u :: us) (v :: vs) := ⟨v, vs, rfl, h, hs⟩
theorem uf {τ : List Nat} {f : Fn} {l m : List Value} (h : unL τ l m) : unV τ (.func f #[] l.toArray) (.func f #[] m.toArray) := fun k w hw => by
  obtain ⟨a, c, rfl, h1, h2⟩ := hw.func_inv
  have e1 : a = [] := h1
  subst e1
  exact VX.func (unL_rel h h2)
theorem ul {τ : List Nat} {us cs : List Value} (h : us = cs) (hp : cs.all pur1 = true) : unL τ us cs := by
  subst h
  induction us with
  | nil => rfl
  | cons u us ih =>
    simp only [List.all_cons, Bool.and_eq_true] at hp
    exact ⟨u, us, rfl, fun k w hw => by rw [pur1_eq hw hp.1]; exact pur1_vx hp.1, ih hp.2⟩
theorem ulr {τ : List Nat} {us cs : List Value} (h : us = cs.map rel1) : unL τ us (cs.map rel1) := ul h (by simp [pur_rel1])
/-- Keys and values as they are. -/
def mpl (L : List (Value × Value)) : List Value := L.flatMap fun p => [raw p.1, raw p.2]
theorem mpl_inv {k : K} : ∀ {L : List (Value × Value)} {es : List MapEntry}, LR (VX k) (mpl L) (es.flatMap fun e => [e.key, e.val]) → es.map (fun e => (e.key, e.val)) = L
  | [], [], _ => rfl
  | [], e :: es, h => by cases h
  | p :: L, [], h => by obtain ⟨_, _, h, _⟩ := h; cases h
  | p :: L, e :: es, h => by
    obtain ⟨y, ys, h1, r1, z, zs, h2, r2, h3⟩ := h
    subst h2
    have h1' : [e.key, e.val] ++ es.flatMap (fun e => [e.key, e.val]) = y :: z :: zs := h1
    simp only [List.cons_append, List.nil_append, List.cons.injEq] at h1'
    obtain ⟨rfl, rfl, rfl⟩ := h1'
    rw [List.map_cons, mpl_inv h3, r1.raw_inv, r2.raw_inv]
theorem mpl_mk {k : K} : ∀ {L : List (Value × Value)} {es : List MapEntry}, es.map (fun e => (e.key, e.val)) = L → LR (VX k) (mpl L) (es.flatMap fun e => [e.key, e.val])
  | _, [], h => by subst h; rfl
  | _, e :: es, h => by
    subst h
    exact ⟨_, _, rfl, VX.raw, _, _, rfl, VX.raw, mpl_mk rfl⟩
theorem fml {σ : List Nat} {L M : List (Value × Value)} (h : L = M := by rfl) : fitL σ (mpl L) (mpl M) := by
  subst h
  exact fl rfl (by simp [mpl, pur1])
theorem uml {τ : List Nat} {L M : List (Value × Value)} (h : L = M := by rfl) : unL τ (mpl L) (mpl M) := by
  subst h
  exact ul rfl (by simp [mpl, pur1])
theorem born_push {es : Array MapEntry} {k v : Value} (h : ∀ (j : Nat) (e : MapEntry), es[j]? = some e → e.born = j) (j : Nat) (e : MapEntry) (he : (es.push { key := k, val := v, born := es.size })[j]? = some e) : e.born = j := by
  rw [Array.getElem?_push] at he
  split at he
  · rename_i hj; cases he; exact hj.symm
  · exact h j e he
theorem born_mod {es : Array MapEntry} {i : Nat} {f : MapEntry → MapEntry} (h : ∀ (j : Nat) (e : MapEntry), es[j]? = some e → e.born = j) (hf : ∀ e, (f e).born = e.born) (j : Nat) (e : MapEntry) (he : (es.modify i f)[j]? = some e) : e.born = j := by
  rw [Array.getElem?_modify] at he
  cases hj : es[j]? with
  | none => rw [hj] at he; split at he <;> cases he
  | some e0 =>
    rw [hj] at he
    have := h j e0 hj
    split at he
    · simp at he; rw [← he, hf]; exact this
    · cases he; exact this
section
variable {P : Program} {w0 : B0} {X : World} {o : Oper} {fr : FT} {h : HT} {n : Nat}
theorem r_mk {t : TypeId} (ho : o.op = .makeMap t none := by rfl) (hn : Nat.blt n 4096 = true := by rfl) : Oa (Am w0 X) P o fr h n ⟨.map (some n), msk (hs12 h n (some (mpl []))) n, n + 1, 0, bit n⟩ := by
  refine Oa.mask n ?_
  rw [Nat.blt_eq] at hn
  have hcs : hget (hs12 h n (some (mpl []))) n = some (mpl []) := hget_same _ hn
  have hd : ∀ i, i ≠ n → hget (hs12 h n (some (mpl []))) i = hget h i := fun i hi => hget_ne _ hn (Ne.symm hi)
  refine ⟨Ss.new (tb_bit.2 rfl) (fun i hi => Or.inl (hd i hi)) (fun i hi => Or.inl (tb_bit.1 hi).symm), fun k W a K' Q _ hop H hnew hk => ?_⟩
  have hkn : k n = none := hnew n (Nat.le_refl _) (Nat.lt_succ_self _)
  have hrun : (execOp a.eval o).run P W = .ok (.value (.map (some W.heap.size))) (W.alloc (.map #[] 0)) := by
    have : (Instr.makeMap t none).run P W = .ok (.map (some W.heap.size)) (W.alloc (.map #[] 0)) := rfl
    simp [execOp, ho, this]
  unfold Oper.wp
  rw [hrun, Oper.upon_value]
  exact hk _ _ _ (Sd.newM (B := W.heap.size) (es := #[]) hcs hd hkn (Nat.le_refl _) ⟨by show (W.heap.push _)[_]? = _; simp, fun j e h => (by simp at h)⟩ rfl (fun b hb => by show (W.heap.push _)[b]? = _; rw [Array.getElem?_push, if_neg (by omega)]) (by show _ ≤ (W.heap.push _).size; simp) rfl ⟨rfl, Nat.le_refl _⟩ rfl) (VX.of0 ⟨_, if_pos rfl, rfl⟩)
/-- An operation that looks into a map. -/
theorem r_see {m : Operand} {i : Nat} {L : List (Value × Value)} {u : Value} (v : Value) (hr : ∀ (W : World) (b : Nat) (es : Array MapEntry) (a : Act), a.eval m = .map (some b) → (∀ y ∈ o.op.operands.toList, pur2 (evo fr y) = true → a.eval y = den2 (evo fr y)) → MapAt W b es → es.toList.map (fun e => (e.key, e.val)) = L → (execOp a.eval o).run P W = .ok (.value u) W)
    (hm : m ∈ o.op.operands.toList) (hx : evo fr m = .map (some i)) (hcs : hget h i = some (mpl L)) (hv : den v = u) (hpv : pur v = true) : Oa (Am w0 X) P o fr h n ⟨v, h, n, bit i, 0⟩ := by
  refine ⟨Ss.read _ _ _, fun k W a K' Q _ hop H _ hkk => ?_⟩
  have h1 := hop m hm
  rw [hx] at h1
  obtain ⟨b, hb, h3⟩ := h1.map_inv
  obtain ⟨es, e1, e2⟩ := (H.rep i (tb_bit.2 rfl) _ hcs).map hb
  have h5 := hr W b es a h3 (fun y hy hp => pur2_eq (hop y hy) hp) e1 (mpl_inv e2)
  unfold Oper.wp
  rw [h5, Oper.upon_value]
  exact hkk u W k (Sd.read H) (by rw [← hv]; exact pur_vx hpv)
/-- An operation that changes a map. -/
theorem r_chg {m : Operand} {i : Nat} {L : List (Value × Value)} {u : Value} (v : Value) (L' : List (Value × Value)) (nn : ∀ i, n ≤ i → hget h i = none) (hr : ∀ (W : World) (b : Nat) (es : Array MapEntry) (a : Act), a.eval m = .map (some b) → (∀ y ∈ o.op.operands.toList, pur2 (evo fr y) = true → a.eval y = den2 (evo fr y)) → MapAt W b es → es.toList.map (fun e => (e.key, e.val)) = L → ∃ es', ((execOp a.eval o).run P W = .ok (.value u) { W with heap := W.heap.setIfInBounds b (.map es' es'.size) } ∨ (u = undef ∧ (execOp a.eval o).run P W = .ok .skip { W with heap := W.heap.setIfInBounds b (.map es' es'.size) })) ∧ (∀ (j : Nat) (e : MapEntry), es'[j]? = some e → e.born = j) ∧ es'.toList.map (fun e => (e.key, e.val)) = L')
    (hm : m ∈ o.op.operands.toList) (hx : evo fr m = .map (some i)) (hcs : hget h i = some (mpl L)) (hv : den v = u) (hpv : pur v = true) : Oa (Am w0 X) P o fr h n ⟨v, msk (hs12 h i (some (mpl L'))) i, n, bit i, bit i⟩ := by
  refine Oa.mask i ?_
  have hi := hget_lt hcs
  refine ⟨Ss.write nn hi hcs, fun k W a K' Q _ hop H _ hkk => ?_⟩
  have h1 := hop m hm
  rw [hx] at h1
  obtain ⟨b, hb, h3⟩ := h1.map_inv
  obtain ⟨es, e1, e2⟩ := (H.rep i (tb_bit.2 rfl) _ hcs).map hb
  obtain ⟨es', h5, hbo, h4⟩ := hr W b es a h3 (fun y hy hp => pur2_eq (hop y hy) hp) e1 (mpl_inv e2)
  have hlt := (Array.getElem?_eq_some_iff.1 e1.1).1
  have fin := hkk u { W with heap := W.heap.setIfInBounds b (.map es' es'.size) } k (Sd.writeM (B := b) (es := es') hi hcs hb ⟨by show (W.heap.setIfInBounds b _)[b]? = _; simp [hlt], hbo⟩ (mpl_mk h4) (fun b' hne _ => by show (W.heap.setIfInBounds b _)[b']? = _; rw [Array.getElem?_setIfInBounds_ne (Ne.symm hne)]) (by show _ ≤ (W.heap.setIfInBounds b _).size; simp) rfl ⟨rfl, Nat.le_refl _⟩ rfl) (by rw [← hv]; exact pur_vx hpv)
  unfold Oper.wp
  rcases h5 with h5 | ⟨rfl, h5⟩
  · rw [h5, Oper.upon_value]; exact fin
  · rw [h5, Oper.upon_skip]; exact fin
end
theorem ft0 {σ : List Nat} : fitV σ (.tuple #[]) (.tuple #[]) := fun k w hw => by
  obtain ⟨us, rfl, h2⟩ := hw.tuple_inv
  have e : us = [] := h2
  subst e
  exact undef_vx
theorem ut0 {τ : List Nat} : unV τ (.tuple #[]) (.tuple #[]) := fun k w hw => by
  obtain ⟨us, rfl, h2⟩ := hw.tuple_inv
  have e : us = [] := h2
  subst e
  exact undef_vx
/-- What is left to be run may be run from a state seen as another. -/
theorem rn_fit {P : Program} {w0 : B0} {C : Exit → St → Prop} {ops : Array Oper} {s : RL} {X : World} {c : Code} {l : List It} (t : St) (σ : List Nat) (F : Fit w0.m ⟨s.f, s.h, s.n, X⟩ t σ) (h : Rn P w0 C (cf t (co c :: l))) : Rn P w0 C ⟨ops, [], false, s, X, co c :: l⟩ := by
  intro nn
  refine ⟨s, rfl, fun h => (by cases h), ?_⟩
  have nt : ∀ i, t.n ≤ i → hget t.h i = none := fun i hi => by
    cases e : hget t.h i with
    | none => rfl
    | some cs =>
      obtain ⟨i', _, h0, _⟩ := fitH_get F.h e
      have := (List.getElem?_eq_some_iff.1 h0).1
      have := F.n
      omega
  exact refit t σ F (show WC P w0 c t (RnE P w0 C l) from cf_sem nt h)
/-- The part behind. -/
def sndC (c : Code) : Code := match c with
  | .seq _ b => b
  | c => c
end S
end Go.Proofs.YtfmfeipeeedfpaaGreat
namespace Go.Proofs.YtfmfeipeeedfpaaGreat
namespace S
/-- All orders. -/
def ords (ops : Array Oper) : Nat → Array Bool → List (List Nat)
  | 0, _ => [[]]
  | m + 1, listed => match Region.ready .any ops listed with
    | [] => [[]]
    | rs => rs.flatMap fun i => (ords ops m (listed.setIfInBounds i true)).map (i :: ·)
theorem ords_mem (ops : Array Oper) : ∀ (fuel t : Nat) (listed : Array Bool), Region.linearise.go .any ops fuel t listed [] ∈ ords ops fuel listed
  | 0, t, listed => by simp [Region.linearise.go, ords]
  | fuel + 1, t, listed => by
    simp only [Region.linearise.go, ords]
    change (match (Region.ready .any ops listed)[t % (Region.ready .any ops listed).length]? with
      | some i => Region.linearise.go .any ops fuel (t / (Region.ready .any ops listed).length) (listed.setIfInBounds i true) [i]
      | none => [].reverse) ∈ _
    cases hr : Region.ready .any ops listed with
    | nil => simp
    | cons x xs =>
      have hlt : t % (x :: xs).length < (x :: xs).length := Nat.mod_lt _ (by simp)
      rw [List.getElem?_eq_getElem hlt]
      simp only
      rw [linearise_go_acc, List.reverse_singleton, List.singleton_append]
      refine List.mem_flatMap.2 ⟨_, List.getElem_mem hlt, List.mem_map.2 ⟨_, ords_mem ops fuel _ _, rfl⟩⟩
theorem wpOps_of_list {P : Program} {ops : Array Oper} {Q : Exit → Act → World → Prop} : ∀ (l : List Nat) (a : Act) (w : World), wpList P ops Q (l.filterMap (ops[·]?)) a w → wpOps P ops Q l a w
  | [], a, w, h => h
  | i :: l, a, w, h => by
    rw [wpOps_cons]
    unfold wpOp
    cases ho : ops[i]? with
    | none => simp only [List.filterMap_cons, ho] at h; exact wpOps_of_list l a w h
    | some o =>
      simp only [List.filterMap_cons, ho] at h
      unfold wpList at h
      simp only
      by_cases hw : Region.wanted o (yielded ops a.tmps) = true
      · rw [if_pos hw] at h ⊢
        exact h.imp (Oper.wp_mono (fun a w => wpOps_of_list l a w)) id
      · rw [if_neg hw] at h ⊢
        exact wpOps_of_list l _ w h
section
variable {P : Program} {w0 : B0} {C : Exit → St → Prop}
theorem rn_any (hmo : P.follows .mixedOrders = true) {ops ops0 : Array Oper} {id : Nat} {f : FT} {h : HT} {n r w : Nat} {l : List (Nat × Nat)} {X : World} {stk : List It} (L : List (List Nat)) (hh : ∀ o ∈ L, Rn P w0 C ⟨ops, o.filterMap (ops[·]?), false, ⟨f, h, n, 0, 0, []⟩, X, stk⟩) (hL : ords ops ops.size (Array.replicate ops.size false) = L := by kernel_rfl) : Rn P w0 C ⟨ops0, [], false, ⟨f, h, n, r, w, l⟩, X, co (.region id ops true) :: stk⟩ := by
  intro nn
  refine ⟨_, rfl, fun h => (by cases h), ?_⟩
  show WC P w0 (.region id ops true) ⟨f, h, n, X⟩ (RnE P w0 C stk)
  intro Q k W a Rl' hK
  refine wp_region_draw fun t => ?_
  simp only [Region.schedule, hmo, Bool.true_or, if_true]
  refine wpOps_of_list _ _ _ ?_
  obtain ⟨s', hs, _, e⟩ := hh _ (hL ▸ ords_mem ops ops.size t _) nn
  have am' : Am w0 X k { W with drawn := W.drawn + 1 } := Am.drew k W Rl'.am
  have Rl2 : Rl w0 ⟨f, h, n, X⟩ k { W with drawn := W.drawn + 1 } a := ⟨Rl'.fr, ⟨fun i hi cs hc => Rl'.hr.rep i hi cs hc, Rl'.hr.inj⟩, Rl'.nn, Rl'.nk, am'⟩
  obtain ⟨r', w', h1, h2, ss, ok⟩ := list_ok (Am.stable w0 X) _ ⟨f, h, n, 0, 0, []⟩ s' nn hs
  exact ok k _ a Q am' Rl2.fr (Rl2.hr.all Rl2.nn _) (fun i h1 _ => Rl2.nk i h1) fun k' W' a' hd hf => hK _ _ k' W' a' (Rl2.step ss hd hf) e
end
end S
end Go.Proofs.YtfmfeipeeedfpaaGreat

/-
  What weighs no more than memory: lists of parts.
-/
import Derived.Test.YtbanldffohopiaaSd
import Derived.SizedLaws
namespace Go.Proofs.Ytbanldffohopiaa
open Go.RowKit D
section
variable {H : Type} {enc : TypeId × Value → H} {W : World} {sp : Nat → Bool} {B : Nat}
theorem all_wt {P : Program} {e : TypeId} : ∀ {l : List (DataW H)} {d : DataW H}, d ∈ l → ∀ q ∈ d.weights P e, q ∈ DataW.weightsAll P e l
  | d0 :: l, d, hd, q, hq => by
    simp only [DataW.weightsAll, List.mem_append]
    rcases List.mem_cons.1 hd with rfl | h
    · exact Or.inl hq
    · exact Or.inr (all_wt h q hq)
/-- A slice that was read, whose elements lie as told: what weighs no more than a bound. -/
theorem wt_sl {fuel : Nat} {x : DataW H × List MemPlace} {t e : TypeId} (hu : Try.prog.underlying t = some (.slice e)) {n : Nat} (hcl : Try.prog.cellsOf e = n) {α : Type} {cells : α → List Value} (hlen : ∀ y, (cells y).length = n)
    {pa : Option Addr} {L : List α} {cap : Nat} (hS : SL W n cells pa L) (h : DataW.trod enc Try.prog W 0 sp true fuel t [.slice pa L.length cap] = some x) (hz : ∀ q ∈ x.1.weights Try.prog t, q ≤ B) :
    L.length * Try.prog.bytesOf e ≤ B ∧ ∀ o ∈ L, ∃ m y, m < fuel ∧ DataW.trod enc Try.prog W 0 sp true m e (cells o) = some y ∧ ∀ q ∈ y.1.weights Try.prog e, q ≤ B := by
  rcases DataW.trod_slice hu h with ⟨hcs, _⟩ | ⟨a, len, cap', elems, rest, k, rfl, hcs, hx, _, _, _, hlen2, hel, _, _⟩
  · simp only [List.cons.injEq, Value.slice.injEq, and_true] at hcs
    have h0 : L = [] := List.length_eq_zero_iff.1 hcs.2.1
    subst h0
    exact ⟨by simp, fun o ho => by cases ho⟩
  · simp only [List.cons.injEq, Value.slice.injEq, and_true] at hcs
    obtain ⟨rfl, rfl, rfl⟩ := hcs
    have hw : x.1.weights Try.prog t = (elems.length + rest.length) * Try.prog.bytesOf e :: (DataW.weightsAll Try.prog e (elems.map (·.1)) ++ DataW.weightsAll Try.prog e (rest.map (·.1))) := by
      rw [hx]; simp [DataW.weights, hu]
    rw [hw] at hz
    refine ⟨?_, fun o ho => ?_⟩
    · have h1 := hz _ (List.mem_cons_self ..)
      have h2 : L.length * Try.prog.bytesOf e ≤ (elems.length + rest.length) * Try.prog.bytesOf e := Nat.mul_le_mul_right _ (by omega)
      omega
    · obtain ⟨i, hi⟩ := List.getElem?_of_mem ho
      have hil : i < L.length := lt_of_get hi
      have h1 := hel i hil
      obtain ⟨y, hy⟩ := get_of_lt (show i < elems.length by omega)
      rw [hy, hcl] at h1
      cases h2 : W.cells? 0 (a.add (i * n)) n with
      | none => rw [h2] at h1; cases h1
      | some cs =>
        rw [h2] at h1
        obtain ⟨_, hcn, hcc⟩ := World.cells?_some h2
        obtain ⟨b, off, e1, _, hr⟩ := hS.2 i o hi
        cases e1
        have e2 : cs = cells o := by
          refine List.ext_getElem? (fun j => ?_)
          rcases Nat.lt_or_ge j n with q | q
          · rw [← hcc j q]
            obtain ⟨v, hv⟩ := get_of_lt (show j < (cells o).length by rw [hlen]; exact q)
            rw [hv, Addr.add_mid, Addr.add_mid]
            exact hr j v hv
          · rw [List.getElem?_eq_none (by omega), List.getElem?_eq_none (by rw [hlen]; omega)]
        subst e2
        exact ⟨k, y, Nat.lt_succ_self _, h1, fun q hq => hz q (List.mem_cons_of_mem _ (List.mem_append_left _ (all_wt (List.mem_map_of_mem (List.mem_of_getElem? hy)) q hq)))⟩
/-- A field of a struct that was read. -/
theorem wt_fd {fuel : Nat} {cs : List Value} {x : DataW H × List MemPlace} {t : TypeId} {fs : Array Field} (hu : Try.prog.underlying t = some (.struct fs)) (h : DataW.trod enc Try.prog W 0 sp true fuel t cs = some x) (hz : ∀ q ∈ x.1.weights Try.prog t, q ≤ B) (j T O : Nat) {N : Nat} (hT : (fs[j]?).map (fun f => (f.type, f.offset)) = some (T, O)) (hN : Try.prog.cellsOf T = N) :
    ∃ m y, m < fuel ∧ DataW.trod enc Try.prog W 0 sp true m T ((cs.drop O).take N) = some y ∧ ∀ q ∈ y.1.weights Try.prog T, q ≤ B := by
  obtain ⟨f, hf, e⟩ := Option.map_eq_some_iff.1 hT
  cases e
  subst hN
  obtain ⟨xs, m, rfl, hx, _, hlen, hi⟩ := DataW.trod_struct hu h
  have h1 := hi j f hf
  have hj : j < fs.size := (Array.getElem?_eq_some_iff.1 hf).1
  obtain ⟨y, hy⟩ := get_of_lt (show j < xs.length by omega)
  rw [hy] at h1
  refine ⟨m, y, Nat.lt_succ_self _, h1, fun q hq => hz q ?_⟩
  rw [hx]
  simp only [DataW.weights, hu]
  exact DataW.weights_mem_each (j := j) (t := f.type) (d := y.1) (by rw [List.getElem?_map, Array.getElem?_toList, hf]; rfl) (by rw [List.getElem?_map, hy]; rfl) q hq
theorem by64 : Try.prog.bytesOf 64 = 176 := by kernel_rfl
theorem ab_ex : ∀ (fuel : Nat) {e : Ex} {x : DataW H × List MemPlace}, LEx W e → DataW.trod enc Try.prog W 0 sp true fuel 64 e.cells = some x → (∀ q ∈ x.1.weights Try.prog 64, q ≤ reachBytes) → AB e := by
  intro fuel
  induction fuel using Nat.strongRecOn with
  | ind fuel ih =>
    intro e x hL h hz
    obtain ⟨m, y, hm, hy, hyz⟩ := wt_fd Try.underlying64 h hz 7 62 16 rfl cl_SExpr
    obtain ⟨h1, h2⟩ := wt_sl Try.underlying62 cl_Expr Ex.len hL.sl (cap := e.cap) hy hyz
    rw [by64] at h1
    refine .mk (by unfold reachBytes at h1; omega) (fun o ho => ?_)
    obtain ⟨m2, y2, hm2, hy2, hz2⟩ := h2 o ho
    exact ih m2 (by omega) (hL.ar o ho) hy2 hz2
theorem ab_it {fuel : Nat} {y : It} {x : DataW H × List MemPlace} (hL : LEx W y.ex) (h : DataW.trod enc Try.prog W 0 sp true fuel 66 y.cells = some x) (hz : ∀ q ∈ x.1.weights Try.prog 66, q ≤ reachBytes) : AB y.ex := by
  obtain ⟨m, z, _, hy, hyz⟩ := wt_fd Try.underlying66 h hz 5 64 6 rfl cl_Expr
  exact ab_ex m hL hy hyz
/-- No list of parts of a section's items' expressions is longer than memory. -/
def ASe : Se → Prop
  | .mk _ _ _ _ items _ _ kids => (∀ o ∈ items, AB o.ex) ∧ ∀ o ∈ kids, ASe o
theorem ASe.inv : ∀ {s : Se}, ASe s → (∀ o ∈ s.items, AB o.ex) ∧ ∀ o ∈ s.kids, ASe o
  | .mk _ _ _ _ _ _ _ _, h => by rw [ASe] at h; exact h
theorem ASe.mk : ∀ {s : Se}, (∀ o ∈ s.items, AB o.ex) → (∀ o ∈ s.kids, ASe o) → ASe s
  | .mk _ _ _ _ _ _ _ _, h1, h2 => by rw [ASe]; exact ⟨h1, h2⟩
theorem ASe.it {s : Se} (h : ASe s) : ∀ o ∈ s.items, AB o.ex := h.inv.1
theorem ASe.kd {s : Se} (h : ASe s) : ∀ o ∈ s.kids, ASe o := h.inv.2
theorem ab_se : ∀ (fuel : Nat) {e : Se} {x : DataW H × List MemPlace}, LSe W e → DataW.trod enc Try.prog W 0 sp true fuel 25 e.cells = some x → (∀ q ∈ x.1.weights Try.prog 25, q ≤ reachBytes) → ASe e := by
  intro fuel
  induction fuel using Nat.strongRecOn with
  | ind fuel ih =>
    intro e x hL h hz
    obtain ⟨m, y, hm, hy, hyz⟩ := wt_fd Try.underlying25 h hz 2 22 2 rfl cl_SItem
    obtain ⟨m', y', hm', hy', hyz'⟩ := wt_fd Try.underlying25 h hz 3 23 3 rfl cl_SSection
    obtain ⟨_, h2⟩ := wt_sl Try.underlying22 cl_Item It.len hL.it (cap := e.ci) hy hyz
    obtain ⟨_, h3⟩ := wt_sl Try.underlying23 cl_Section Se.len hL.kd (cap := e.ck) hy' hyz'
    refine .mk (fun o ho => ?_) (fun o ho => ?_)
    · obtain ⟨m2, y2, hm2, hy2, hz2⟩ := h2 o ho
      exact ab_it (hL.ex o ho) hy2 hz2
    · obtain ⟨m2, y2, hm2, hy2, hz2⟩ := h3 o ho
      exact ih m2 (by omega) (hL.kr o ho) hy2 hz2
theorem ab_df {x : Df} {z : DataW H} {p : List MemPlace} (hD : LDf W x) (h : DataW.Trod enc Try.prog W 0 sp true 29 (.agg x.cells.toArray) z p) (hz : ∀ q ∈ z.weights Try.prog 29, q ≤ reachBytes) : ASe x.rt := by
  obtain ⟨fuel, hf⟩ := h
  obtain ⟨m, y, hm, hy, hyz⟩ := wt_fd Try.underlying29 hf hz 1 25 1 rfl cl_Section
  exact ab_se m hD.rt hy hyz
end
theorem flt_as : ∀ (s : Se), ASe s → ∀ (acc : List S5) (p dp : Int), (∀ x ∈ acc, ∀ y ∈ x.items, AB y.ex) → ∀ x ∈ flt s acc p dp, ∀ y ∈ x.items, AB y.ex := by
  refine Se.ind2 ?_
  intro s ih hL acc p dp ha
  rw [flt_eq]
  split
  · exact ha
  · refine foldl_inv (I := fun a => ∀ x ∈ a, ∀ y ∈ x.items, AB y.ex) s.kids _ (fun x hx => ?_) (fun k hk a hA => ih k hk (hL.kd k hk) a _ _ hA)
    rcases List.mem_append.1 hx with h | h
    · exact ha x h
    · rw [List.mem_singleton.1 h]; exact hL.it
theorem fla_as {d : Df} (h : ASe d.rt) : ∀ x ∈ fla d, ∀ y ∈ x.items, AB y.ex := flt_as d.rt h [] _ _ (fun _ h => by cases h)
end Go.Proofs.Ytbanldffohopiaa

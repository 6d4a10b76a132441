/-
  What weighs no more than memory: lists of parts.
-/
import Derived.Test.YtepfokoepibkcaaGreatC4
import Derived.SizedLaws
namespace Go.Proofs.YtepfokoepibkcaaGreat
open Go.RowKit D
section
variable {H : Type} {enc : TypeId × Value → H} {W : World} {sp : Nat → Bool} {B : Nat}
theorem all_wt {P : Program} {e : TypeId} : ∀ {l : List (DataW H)} {d : DataW H}, d ∈ l → ∀ q ∈ d.weights P e, q ∈ DataW.weightsAll P e l
  | d0 :: l, d, hd, q, hq => by
    simp only [DataW.weightsAll, List.mem_append]
    rcases List.mem_cons.1 hd with rfl | h
    · exact Or.inl hq
    · exact Or.inr (all_wt h q hq)
/-- A slice that was read, whose elements lie as told: what weighs no more than a bound. -/
theorem wt_sl {fuel : Nat} {x : DataW H × List MemPlace} {t e : TypeId} (hu : Tryz.prog.underlying t = some (.slice e)) {n : Nat} (hcl : Tryz.prog.cellsOf e = n) {α : Type} {cells : α → List Value} (hlen : ∀ y, (cells y).length = n)
    {pa : Option Addr} {L : List α} {cap : Nat} (hS : SL W n cells pa L) (h : DataW.trod enc Tryz.prog W 0 sp true fuel t [.slice pa L.length cap] = some x) (hz : ∀ q ∈ x.1.weights Tryz.prog t, q ≤ B) :
    L.length * Tryz.prog.bytesOf e ≤ B ∧ ∀ o ∈ L, ∃ m y, m < fuel ∧ DataW.trod enc Tryz.prog W 0 sp true m e (cells o) = some y ∧ ∀ q ∈ y.1.weights Tryz.prog e, q ≤ B := by
  rcases DataW.trod_slice hu h with ⟨hcs, _⟩ | ⟨a, len, cap', elems, rest, k, rfl, hcs, hx, _, _, _, hlen2, hel, _, _⟩
  · simp only [List.cons.injEq, Value.slice.injEq, and_true] at hcs
    have h0 : L = [] := List.length_eq_zero_iff.1 hcs.2.1
    subst h0
    exact ⟨by simp, fun o ho => by cases ho⟩
  · simp only [List.cons.injEq, Value.slice.injEq, and_true] at hcs
    obtain ⟨rfl, rfl, rfl⟩ := hcs
    have hw : x.1.weights Tryz.prog t = (elems.length + rest.length) * Tryz.prog.bytesOf e :: (DataW.weightsAll Tryz.prog e (elems.map (·.1)) ++ DataW.weightsAll Tryz.prog e (rest.map (·.1))) := by
      rw [hx]; simp [DataW.weights, hu]
    rw [hw] at hz
    refine ⟨?_, fun o ho => ?_⟩
    · have h1 := hz _ (List.mem_cons_self ..)
      have h2 : L.length * Tryz.prog.bytesOf e ≤ (elems.length + rest.length) * Tryz.prog.bytesOf e := Nat.mul_le_mul_right _ (by omega)
      omega
    · obtain ⟨i, hi⟩ := List.getElem?_of_mem ho
      have hil : i < L.length := lt_of_get hi
      have h1 := hel i hil
      obtain ⟨y, hy⟩ := get_of_lt (show i < elems.length by omega)
      rw [hy, hcl] at h1
      cases h2 : W.cells? 0 (a.add (i * n)) n with
      | none => rw [h2] at h1; cases h1
      | some cs =>
        rw [h2] at h1
        obtain ⟨_, hcn, hcc⟩ := World.cells?_some h2
        obtain ⟨b, off, e1, _, hr⟩ := hS.2 i o hi
        cases e1
        have e2 : cs = cells o := by
          refine List.ext_getElem? (fun j => ?_)
          rcases Nat.lt_or_ge j n with q | q
          · rw [← hcc j q]
            obtain ⟨v, hv⟩ := get_of_lt (show j < (cells o).length by rw [hlen]; exact q)
            rw [hv, Addr.add_mid, Addr.add_mid]
            exact hr j v hv
          · rw [List.getElem?_eq_none (by omega), List.getElem?_eq_none (by rw [hlen]; omega)]
        subst e2
        exact ⟨k, y, Nat.lt_succ_self _, h1, fun q hq => hz q (List.mem_cons_of_mem _ (List.mem_append_left _ (all_wt (List.mem_map_of_mem (List.mem_of_getElem? hy)) q hq)))⟩
/-- A field of a struct that was read. -/
theorem wt_fd {fuel : Nat} {cs : List Value} {x : DataW H × List MemPlace} {t : TypeId} {fs : Array Field} (hu : Tryz.prog.underlying t = some (.struct fs)) (h : DataW.trod enc Tryz.prog W 0 sp true fuel t cs = some x) (hz : ∀ q ∈ x.1.weights Tryz.prog t, q ≤ B) (j T O : Nat) {N : Nat} (hT : (fs[j]?).map (fun f => (f.type, f.offset)) = some (T, O)) (hN : Tryz.prog.cellsOf T = N) :
    ∃ m y, m < fuel ∧ DataW.trod enc Tryz.prog W 0 sp true m T ((cs.drop O).take N) = some y ∧ ∀ q ∈ y.1.weights Tryz.prog T, q ≤ B := by
  obtain ⟨f, hf, e⟩ := Option.map_eq_some_iff.1 hT
  cases e
  subst hN
  obtain ⟨xs, m, rfl, hx, _, hlen, hi⟩ := DataW.trod_struct hu h
  have h1 := hi j f hf
  have hj : j < fs.size := (Array.getElem?_eq_some_iff.1 hf).1
  obtain ⟨y, hy⟩ := get_of_lt (show j < xs.length by omega)
  rw [hy] at h1
  refine ⟨m, y, Nat.lt_succ_self _, h1, fun q hq => hz q ?_⟩
  rw [hx]
  simp only [DataW.weights, hu]
  exact DataW.weights_mem_each (j := j) (t := f.type) (d := y.1) (by rw [List.getElem?_map, Array.getElem?_toList, hf]; rfl) (by rw [List.getElem?_map, hy]; rfl) q hq
theorem by52 : Tryz.prog.bytesOf 52 = 176 := by kernel_rfl
theorem ab_ex : ∀ (fuel : Nat) {e : Ex} {x : DataW H × List MemPlace}, LEx W e → DataW.trod enc Tryz.prog W 0 sp true fuel 52 e.cells = some x → (∀ q ∈ x.1.weights Tryz.prog 52, q ≤ reachBytes) → AB e := by
  intro fuel
  induction fuel using Nat.strongRecOn with
  | ind fuel ih =>
    intro e x hL h hz
    obtain ⟨m, y, hm, hy, hyz⟩ := wt_fd Tryz.underlying52 h hz 7 50 16 rfl cl_SExpr
    obtain ⟨h1, h2⟩ := wt_sl Tryz.underlying50 cl_Expr Ex.len hL.sl (cap := e.cap) hy hyz
    rw [by52] at h1
    refine .mk (by unfold reachBytes at h1; omega) (fun o ho => ?_)
    obtain ⟨m2, y2, hm2, hy2, hz2⟩ := h2 o ho
    exact ih m2 (by omega) (hL.ar o ho) hy2 hz2
theorem ab_it {fuel : Nat} {y : It} {x : DataW H × List MemPlace} (hL : LEx W y.ex) (h : DataW.trod enc Tryz.prog W 0 sp true fuel 54 y.cells = some x) (hz : ∀ q ∈ x.1.weights Tryz.prog 54, q ≤ reachBytes) : AB y.ex := by
  obtain ⟨m, z, _, hy, hyz⟩ := wt_fd Tryz.underlying54 h hz 5 52 6 rfl cl_Expr
  exact ab_ex m hL hy hyz
/-- No list of parts of a section's items' expressions is longer than memory. -/
def ASe : Se → Prop
  | .mk _ _ _ _ items _ _ kids => (∀ o ∈ items, AB o.ex) ∧ ∀ o ∈ kids, ASe o
theorem ASe.inv : ∀ {s : Se}, ASe s → (∀ o ∈ s.items, AB o.ex) ∧ ∀ o ∈ s.kids, ASe o
  | .mk _ _ _ _ _ _ _ _, h => by rw [ASe] at h; exact h
theorem ASe.mk : ∀ {s : Se}, (∀ o ∈ s.items, AB o.ex) → (∀ o ∈ s.kids, ASe o) → ASe s
  | .mk _ _ _ _ _ _ _ _, h1, h2 => by rw [ASe]; exact ⟨h1, h2⟩
theorem ASe.it {s : Se} (h : ASe s) : ∀ o ∈ s.items, AB o.ex := h.inv.1
theorem ASe.kd {s : Se} (h : ASe s) : ∀ o ∈ s.kids, ASe o := h.inv.2
theorem ab_se : ∀ (fuel : Nat) {e : Se} {x : DataW H × List MemPlace}, LSe W e → DataW.trod enc Tryz.prog W 0 sp true fuel 25 e.cells = some x → (∀ q ∈ x.1.weights Tryz.prog 25, q ≤ reachBytes) → ASe e := by
  intro fuel
  induction fuel using Nat.strongRecOn with
  | ind fuel ih =>
    intro e x hL h hz
    obtain ⟨m, y, hm, hy, hyz⟩ := wt_fd Tryz.underlying25 h hz 2 22 2 rfl cl_SItem
    obtain ⟨m', y', hm', hy', hyz'⟩ := wt_fd Tryz.underlying25 h hz 3 23 3 rfl cl_SSection
    obtain ⟨_, h2⟩ := wt_sl Tryz.underlying22 cl_Item It.len hL.it (cap := e.ci) hy hyz
    obtain ⟨_, h3⟩ := wt_sl Tryz.underlying23 cl_Section Se.len hL.kd (cap := e.ck) hy' hyz'
    refine .mk (fun o ho => ?_) (fun o ho => ?_)
    · obtain ⟨m2, y2, hm2, hy2, hz2⟩ := h2 o ho
      exact ab_it (hL.ex o ho) hy2 hz2
    · obtain ⟨m2, y2, hm2, hy2, hz2⟩ := h3 o ho
      exact ih m2 (by omega) (hL.kr o ho) hy2 hz2
theorem ab_df {x : Df} {z : DataW H} {p : List MemPlace} (hD : LDf W x) (h : DataW.Trod enc Tryz.prog W 0 sp true 29 (.agg x.cells.toArray) z p) (hz : ∀ q ∈ z.weights Tryz.prog 29, q ≤ reachBytes) : ASe x.rt := by
  obtain ⟨fuel, hf⟩ := h
  obtain ⟨m, y, hm, hy, hyz⟩ := wt_fd Tryz.underlying29 hf hz 1 25 1 rfl cl_Section
  exact ab_se m hD.rt hy hyz
theorem u64_wf {n : Int} (h : (Lit.int .u64 n).wf = true) : 0 ≤ n ∧ n < 18446744073709551616 := by
  simp only [Lit.wf, Bool.and_eq_true, decide_eq_true_eq] at h
  have e1 : IntKind.u64.min = 0 := by decide
  have e2 : IntKind.u64.max = 18446744073709551615 := by decide
  rw [e1, e2] at h
  omega
theorem db_arr {fuel : Nat} {n0 n1 n2 n3 : Int} {x : DataW H × List MemPlace} (h : DataW.trod enc Tryz.prog W 0 sp true fuel 45 [.int .u64 n0, .int .u64 n1, .int .u64 n2, .int .u64 n3] = some x) : (0 ≤ n0 ∧ n0 < 18446744073709551616) ∧ (0 ≤ n1 ∧ n1 < 18446744073709551616) ∧ (0 ≤ n2 ∧ n2 < 18446744073709551616) ∧ (0 ≤ n3 ∧ n3 < 18446744073709551616) := by
  obtain ⟨xs, m, rfl, _, hlen, hn, hi⟩ := DataW.trod_array Tryz.underlying45 h
  obtain ⟨y0, y1, y2, y3, rfl⟩ : ∃ y0 y1 y2 y3, xs = [y0, y1, y2, y3] := by
    match xs, hn with
    | [a, b, c, d], _ => exact ⟨a, b, c, d, rfl⟩
  have i0 := hi 0 (by decide)
  have i1 := hi 1 (by decide)
  have i2 := hi 2 (by decide)
  have i3 := hi 3 (by decide)
  simp only [cl_u64] at i0 i1 i2 i3
  simp at i0 i1 i2 i3
  obtain ⟨x0, e0, _, w0⟩ := DataW.trod_int Tryz.underlying43 i0
  obtain ⟨x1, e1, _, w1⟩ := DataW.trod_int Tryz.underlying43 i1
  obtain ⟨x2, e2, _, w2⟩ := DataW.trod_int Tryz.underlying43 i2
  obtain ⟨x3, e3, _, w3⟩ := DataW.trod_int Tryz.underlying43 i3
  simp at e0 e1 e2 e3
  subst e0 e1 e2 e3
  exact ⟨u64_wf w0, u64_wf w1, u64_wf w2, u64_wf w3⟩
theorem db_dec {fuel : Nat} {d : Dc} {x : DataW H × List MemPlace} (h : DataW.trod enc Tryz.prog W 0 sp true fuel 47 d.cells = some x) (hz : ∀ q ∈ x.1.weights Tryz.prog 47, q ≤ B) : DB d := by
  obtain ⟨m, y, hm, hy, _⟩ := wt_fd Tryz.underlying47 h hz 1 45 1 rfl cl_arr4
  obtain ⟨h0, h1, h2, h3⟩ := db_arr (show DataW.trod enc Tryz.prog W 0 sp true m 45 [.int .u64 d.n0, .int .u64 d.n1, .int .u64 d.n2, .int .u64 d.n3] = some y from hy)
  exact ⟨h0, h1, h2, h3⟩
theorem Tb.len (i : Tb) : i.cells.length = 2 := rfl
theorem Sp3.len (i : Sp3) : i.cells.length = 18 := rfl
theorem db_df {x : Df} {z : DataW H} {p : List MemPlace} (hD : LDf W x) (h : DataW.Trod enc Tryz.prog W 0 sp true 29 (.agg x.cells.toArray) z p) (hz : ∀ q ∈ z.weights Tryz.prog 29, q ≤ reachBytes) : ∀ y ∈ x.tb, ∀ s ∈ y.st, DB s.a ∧ True := by
  obtain ⟨fuel, hf⟩ := h
  obtain ⟨m, y, hm, hy, hyz⟩ := wt_fd Tryz.underlying29 hf hz 2 26 5 rfl cl_STable
  obtain ⟨_, h2⟩ := wt_sl Tryz.underlying26 cl_Table Tb.len hD.tb (cap := x.ct) hy hyz
  intro t ht s hs
  obtain ⟨m2, y2, _, hy2, hz2⟩ := h2 t ht
  obtain ⟨m3, y3, _, hy3, hz3⟩ := wt_fd Tryz.underlying62 hy2 hz2 1 60 1 rfl cl_SStep
  obtain ⟨_, h4⟩ := wt_sl Tryz.underlying60 cl_Step Sp3.len (hD.st t ht) (cap := t.cap) hy3 hz3
  obtain ⟨m5, y5, _, hy5, hz5⟩ := h4 s hs
  obtain ⟨m6, y6, _, hy6, hz6⟩ := wt_fd Tryz.underlying79 hy5 hz5 0 47 0 rfl cl_Dec
  exact ⟨db_dec (show DataW.trod enc Tryz.prog W 0 sp true m6 47 s.a.cells = some y6 from hy6) hz6, trivial⟩
theorem ab_pg {x : Df} {z : DataW H} {p : List MemPlace} (hD : LDf W x) (h : DataW.Trod enc Tryz.prog W 0 sp true 29 (.agg x.cells.toArray) z p) (hz : ∀ q ∈ z.weights Tryz.prog 29, q ≤ reachBytes) : ∀ p ∈ x.pg, AB p.wh := by
  obtain ⟨fuel, hf⟩ := h
  obtain ⟨m, y, hm, hy, hyz⟩ := wt_fd Tryz.underlying29 hf hz 3 27 6 rfl cl_SPage
  obtain ⟨_, h2⟩ := wt_sl Tryz.underlying27 cl_Page Pg.len hD.pg (cap := x.cp) hy hyz
  intro q hq
  obtain ⟨m2, y2, _, hy2, hz2⟩ := h2 q hq
  obtain ⟨m3, y3, _, hy3, hz3⟩ := wt_fd Tryz.underlying59 hy2 hz2 1 52 1 rfl cl_Expr
  exact ab_ex m3 (hD.wh q hq) (show DataW.trod enc Tryz.prog W 0 sp true m3 52 q.wh.cells = some y3 from hy3) hz3
/-- No list of items is longer than memory. -/
def ISe : Se → Prop
  | .mk _ _ _ _ items _ _ kids => items.length ≤ 606627104962 ∧ ∀ o ∈ kids, ISe o
theorem ISe.inv : ∀ {s : Se}, ISe s → s.items.length ≤ 606627104962 ∧ ∀ o ∈ s.kids, ISe o
  | .mk _ _ _ _ _ _ _ _, h => by rw [ISe] at h; exact h
theorem ISe.mk : ∀ {s : Se}, s.items.length ≤ 606627104962 → (∀ o ∈ s.kids, ISe o) → ISe s
  | .mk _ _ _ _ _ _ _ _, h1, h2 => by rw [ISe]; exact ⟨h1, h2⟩
theorem ISe.it {s : Se} (h : ISe s) : s.items.length ≤ 606627104962 := h.inv.1
theorem ISe.kd {s : Se} (h : ISe s) : ∀ o ∈ s.kids, ISe o := h.inv.2
theorem by54 : Tryz.prog.bytesOf 54 = 232 := by kernel_rfl
theorem is_se : ∀ (fuel : Nat) {e : Se} {x : DataW H × List MemPlace}, LSe W e → DataW.trod enc Tryz.prog W 0 sp true fuel 25 e.cells = some x → (∀ q ∈ x.1.weights Tryz.prog 25, q ≤ reachBytes) → ISe e := by
  intro fuel
  induction fuel using Nat.strongRecOn with
  | ind fuel ih =>
    intro e x hL h hz
    obtain ⟨m, y, hm, hy, hyz⟩ := wt_fd Tryz.underlying25 h hz 2 22 2 rfl cl_SItem
    obtain ⟨m', y', hm', hy', hyz'⟩ := wt_fd Tryz.underlying25 h hz 3 23 3 rfl cl_SSection
    obtain ⟨h1, _⟩ := wt_sl Tryz.underlying22 cl_Item It.len hL.it (cap := e.ci) hy hyz
    obtain ⟨_, h3⟩ := wt_sl Tryz.underlying23 cl_Section Se.len hL.kd (cap := e.ck) hy' hyz'
    rw [by54] at h1
    refine .mk (by unfold reachBytes at h1; omega) (fun o ho => ?_)
    obtain ⟨m2, y2, hm2, hy2, hz2⟩ := h3 o ho
    exact ih m2 (by omega) (hL.kr o ho) hy2 hz2
theorem is_df {x : Df} {z : DataW H} {p : List MemPlace} (hD : LDf W x) (h : DataW.Trod enc Tryz.prog W 0 sp true 29 (.agg x.cells.toArray) z p) (hz : ∀ q ∈ z.weights Tryz.prog 29, q ≤ reachBytes) : ISe x.rt := by
  obtain ⟨fuel, hf⟩ := h
  obtain ⟨m, y, hm, hy, hyz⟩ := wt_fd Tryz.underlying29 hf hz 1 25 1 rfl cl_Section
  exact is_se m hD.rt hy hyz
end
theorem flt_as : ∀ (s : Se), ASe s → ∀ (acc : List S5) (p dp : Int), (∀ x ∈ acc, ∀ y ∈ x.items, AB y.ex) → ∀ x ∈ flt s acc p dp, ∀ y ∈ x.items, AB y.ex := by
  refine Se.ind2 ?_
  intro s ih hL acc p dp ha
  rw [flt_eq]
  split
  · exact ha
  · refine foldl_inv (I := fun a => ∀ x ∈ a, ∀ y ∈ x.items, AB y.ex) s.kids _ (fun x hx => ?_) (fun k hk a hA => ih k hk (hL.kd k hk) a _ _ hA)
    rcases List.mem_append.1 hx with h | h
    · exact ha x h
    · rw [List.mem_singleton.1 h]; exact hL.it
theorem fla_as {d : Df} (h : ASe d.rt) : ∀ x ∈ fla d, ∀ y ∈ x.items, AB y.ex := flt_as d.rt h [] _ _ (fun _ h => by cases h)
theorem flt_is : ∀ (s : Se), ISe s → ∀ (acc : List S5) (p dp : Int), (∀ x ∈ acc, x.items.length ≤ 606627104962) → ∀ x ∈ flt s acc p dp, x.items.length ≤ 606627104962 := by
  refine Se.ind2 ?_
  intro s ih hL acc p dp ha
  rw [flt_eq]
  split
  · exact ha
  · refine foldl_inv (I := fun a => ∀ x ∈ a, x.items.length ≤ 606627104962) s.kids _ (fun x hx => ?_) (fun k hk a hA => ih k hk (hL.kd k hk) a _ _ hA)
    rcases List.mem_append.1 hx with h | h
    · exact ha x h
    · rw [List.mem_singleton.1 h]; exact hL.it
theorem fb_df {d : Df} (h1 : ASe d.rt) (h2 : ISe d.rt) : FB d := fun x hx => ⟨flt_is d.rt h2 [] _ _ (fun _ h => by cases h) x hx, fla_as h1 x hx⟩
end Go.Proofs.YtepfokoepibkcaaGreat

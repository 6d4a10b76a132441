/-
  A definition that came in, and how many items it has.
-/
import Derived.Test.YthghblgbjgghcaaOy
namespace Go.Proofs.Ythghblgbjgghcaa
open Go.ChangeShapes Go.WideShapes Go.ChangeAt Go.RowKit D
section
variable {H : Type} {enc : TypeId × Value → H} {W : World} {sp : Nat → Bool}
theorem bulk_two : ∀ {l : List (DataW H)} {i j : Nat} {a b : DataW H}, l[i]? = some a → l[j]? = some b → i < j → Rows.uptoBulk a + Rows.uptoBulk b ≤ Rows.uptoBulkAll l
  | [], i, _, _, _, h, _, _ => by simp at h
  | x :: l, 0, j + 1, a, b, h1, h2, _ => by
    simp at h1 h2
    subst h1
    have := bulk_mem (List.mem_of_getElem? h2)
    simp only [Rows.uptoBulkAll]; omega
  | x :: l, i + 1, j + 1, a, b, h1, h2, h => by
    simp at h1 h2
    have := bulk_two h1 h2 (by omega)
    simp only [Rows.uptoBulkAll]; omega
/-- Two fields of a struct that was read. -/
theorem bk_fd2 {fuel : Nat} {cs : List Value} {x : DataW H × List MemPlace} {t : TypeId} {fs : Array Field} (hu : Try.prog.underlying t = some (.struct fs)) (h : DataW.trod enc Try.prog W 0 sp true fuel t cs = some x) (j T O j' T' O' : Nat) {N N' : Nat} (hjj : j < j') (hT : (fs[j]?).map (fun f => (f.type, f.offset)) = some (T, O)) (hN : Try.prog.cellsOf T = N) (hT' : (fs[j']?).map (fun f => (f.type, f.offset)) = some (T', O')) (hN' : Try.prog.cellsOf T' = N') :
    ∃ m y y', m < fuel ∧ DataW.trod enc Try.prog W 0 sp true m T ((cs.drop O).take N) = some y ∧ DataW.trod enc Try.prog W 0 sp true m T' ((cs.drop O').take N') = some y' ∧ Rows.uptoBulk y.1 + Rows.uptoBulk y'.1 + 1 ≤ Rows.uptoBulk x.1 := by
  obtain ⟨f, hf, e⟩ := Option.map_eq_some_iff.1 hT
  obtain ⟨f', hf', e'⟩ := Option.map_eq_some_iff.1 hT'
  cases e
  cases e'
  subst hN
  subst hN'
  obtain ⟨xs, m, rfl, hx, _, hlen, hi⟩ := DataW.trod_struct hu h
  have h1 := hi j f hf
  have h2 := hi j' f' hf'
  have hj : j < fs.size := (Array.getElem?_eq_some_iff.1 hf).1
  have hj' : j' < fs.size := (Array.getElem?_eq_some_iff.1 hf').1
  obtain ⟨y, hy⟩ := get_of_lt (show j < xs.length by omega)
  obtain ⟨y', hy'⟩ := get_of_lt (show j' < xs.length by omega)
  rw [hy] at h1
  rw [hy'] at h2
  refine ⟨m, y, y', Nat.lt_succ_self _, h1, h2, ?_⟩
  have h3 : (xs.map (·.1))[j]? = some y.1 := by rw [List.getElem?_map, hy]; rfl
  have h4 : (xs.map (·.1))[j']? = some y'.1 := by rw [List.getElem?_map, hy']; rfl
  have h5 := bulk_two h3 h4 hjj
  rw [hx]
  simp only [Rows.uptoBulk]
  omega
theorem sb_bulk : ∀ (fuel : Nat) {e : Se} {x : DataW H × List MemPlace}, LSe W e → DataW.trod enc Try.prog W 0 sp true fuel 42 e.cells = some x → Rows.uptoBulk x.1 ≤ 1048576 → SB e ∧ 3 * tI e ≤ Rows.uptoBulk x.1 := by
  intro fuel
  induction fuel using Nat.strongRecOn with
  | ind fuel ih =>
    intro e x hL h hz
    obtain ⟨m, y, y', hm, hy, hy', hyz⟩ := bk_fd2 Try.underlying42 h 2 39 2 3 40 3 (by decide) rfl cl_SItem rfl cl_SSection
    obtain ⟨E, h1, h2, h3⟩ := bk_sl Try.underlying39 cl_Item It.len hL.it (cap := e.ci) hy
    obtain ⟨E', h1', h2', h3'⟩ := bk_sl Try.underlying40 cl_Section Se.len hL.kd (cap := e.ck) hy'
    have each : ∀ k ∈ e.kids, SB k := fun o ho => by
      obtain ⟨i, hi⟩ := List.getElem?_of_mem ho
      obtain ⟨d, hd⟩ := get_of_lt (show i < E'.length by rw [h1']; exact lt_of_get hi)
      obtain ⟨m2, y2, hm2, hy2, rfl⟩ := h3' i o d hi hd
      have hm3 := bulk_mem (List.mem_of_getElem? hd)
      exact (ih m2 (by omega) (hL.kr o ho) hy2 (by omega)).1
    have hA := bulk_f (fun _ => 3) e.items E h1 (fun i a d ha hd => by
      obtain ⟨m2, y2, _, hy2, rfl⟩ := h3 i a d ha hd
      have h5 : 6 + 1 ≤ Rows.uptoBulk y2.1 := bulk_st Try.underlying69 hy2
      omega)
    have hA' : (e.items.map (fun _ => 3)).sum = 3 * e.items.length := by rw [List.map_const']; simp [Nat.mul_comm]
    have hB := bulk_f (fun k : Se => 3 * tI k) e.kids E' h1' (fun i a d ha hd => by
      obtain ⟨m2, y2, hm2, hy2, rfl⟩ := h3' i a d ha hd
      have hm3 := bulk_mem (List.mem_of_getElem? hd)
      exact (ih m2 (by omega) (hL.kr a (List.mem_of_getElem? ha)) hy2 (by omega)).2)
    have hB' := sum_mul tI 3 e.kids
    refine ⟨.mk ?_ (fun z hz => ?_) each, by rw [tI_eq]; omega⟩
    · rcases DataW.trod_slice Try.underlying39 hy with ⟨hcs, _⟩ | ⟨a, len, cap', elems, rest, k, _, hcs, _, _, hlc, _⟩
      · have hcs : [Value.slice e.pi e.items.length e.ci] = [.slice none 0 0] := hcs
        simp only [List.cons.injEq, Value.slice.injEq, and_true] at hcs
        omega
      · have hcs : [Value.slice e.pi e.items.length e.ci] = [.slice (some a) len cap'] := hcs
        simp only [List.cons.injEq, Value.slice.injEq, and_true] at hcs
        omega
    · obtain ⟨i, hi⟩ := List.getElem?_of_mem hz
      obtain ⟨d, hd⟩ := get_of_lt (show i < E.length by rw [h1]; exact lt_of_get hi)
      obtain ⟨m2, y2, _, hy2, rfl⟩ := h3 i z d hi hd
      have hm3 := bulk_mem (List.mem_of_getElem? hd)
      obtain ⟨m5, y5, _, hy5, hz5⟩ := bk_fd Try.underlying69 hy2 5 67 6 rfl cl_Expr
      have := nd_bulk m5 (hL.ex z hz) hy5
      omega
variable {base : Nat} {v : Value} {d : DataW H} {p : List MemPlace}
set_option maxRecDepth 100000 in
theorem open_defq (hv : Value.okWide Try.prog W .any base 46 v) (h : DataW.Trod enc Try.prog W 0 (fun _ => true) true 46 v d p) (hz : Rows.uptoBulk d ≤ 1048576) : ∃ x : Df, v = .agg x.cells.toArray ∧ LSe W x.rt ∧ SB x.rt ∧ tI x.rt < 400000 := by
  obtain ⟨a, rfl, _⟩ := okWide_struct Try.underlying46 hv
  obtain ⟨fuel, hf⟩ := h
  obtain ⟨x, hx, e⟩ := cut_def hf
  refine ⟨x, by have e2 : a = x.cells.toArray := (by rw [← e]; simp [Value.cells]); rw [e2], hx.rt, ?_⟩
  rw [e] at hf
  obtain ⟨m, y, _, hy, hyz⟩ := bk_fd Try.underlying46 hf 1 42 1 rfl cl_Section
  have hz' : Rows.uptoBulk ((d, p) : DataW H × List MemPlace).1 ≤ 1048576 := hz
  obtain ⟨h1, h2⟩ := sb_bulk m hx.rt hy (by omega)
  exact ⟨h1, by omega⟩
end
end Go.Proofs.Ythghblgbjgghcaa

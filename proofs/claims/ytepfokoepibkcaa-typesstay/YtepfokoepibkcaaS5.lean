/-
  A definition that came in, and that nothing in it is too long.
-/
import Derived.Test.YtepfokoepibkcaaS4
import Derived.Test.YtepfokoepibkcaaRz
namespace Go.Proofs.Ytepfokoepibkcaa
open Go.ChangeShapes Go.WideShapes Go.ChangeAt Go.RowKit D
section
variable {H : Type} {enc : TypeId × Value → H} {W : World} {sp : Nat → Bool}
theorem bulk_one (d : DataW H) : 1 ≤ Rows.uptoBulk d := by
  cases d with
  | lit l => cases l <;> simp [Rows.uptoBulk]
  | _ => simp [Rows.uptoBulk]
theorem bulk_len : ∀ l : List (DataW H), l.length ≤ Rows.uptoBulkAll l
  | [] => by simp
  | x :: r => by have := bulk_one x; have := bulk_len r; simp only [Rows.uptoBulkAll, List.length_cons]; omega
theorem ab_nd : ∀ x : Ex, nd x ≤ 1048576 → AB x := by
  refine Ex.ind2 ?_
  intro x ih hz
  refine .mk (by have := nd_len x; omega) (fun o ho => ?_)
  obtain ⟨i, hi⟩ := List.getElem?_of_mem ho
  exact ih o ho (by have := nd_arg hi; omega)
/-- Nothing in a section is too long. -/
def SB : Se → Prop
  | .mk _ _ _ _ items _ _ kids => items.length ≤ 1048576 ∧ (∀ y ∈ items, nd y.ex ≤ 1048576) ∧ kids.length ≤ 1048576 ∧ ∀ k ∈ kids, SB k
theorem SB.inv : ∀ {x : Se}, SB x → x.items.length ≤ 1048576 ∧ (∀ y ∈ x.items, nd y.ex ≤ 1048576) ∧ x.kids.length ≤ 1048576 ∧ ∀ k ∈ x.kids, SB k
  | .mk _ _ _ _ _ _ _ _, h => by rw [SB] at h; exact h
theorem SB.mk : ∀ {x : Se}, x.items.length ≤ 1048576 → (∀ y ∈ x.items, nd y.ex ≤ 1048576) → x.kids.length ≤ 1048576 → (∀ k ∈ x.kids, SB k) → SB x
  | .mk _ _ _ _ _ _ _ _, h1, h2, h3, h4 => by rw [SB]; exact ⟨h1, h2, h3, h4⟩
theorem SB.items {x : Se} (h : SB x) : x.items.length ≤ 1048576 := h.inv.1
theorem SB.ex {x : Se} (h : SB x) : ∀ y ∈ x.items, nd y.ex ≤ 1048576 := h.inv.2.1
theorem SB.kids {x : Se} (h : SB x) : x.kids.length ≤ 1048576 := h.inv.2.2.1
theorem SB.kid {x : Se} (h : SB x) : ∀ k ∈ x.kids, SB k := h.inv.2.2.2
theorem sb_bulk : ∀ (fuel : Nat) {e : Se} {x : DataW H × List MemPlace}, LSe W e → DataW.trod enc Try.prog W 0 sp true fuel 48 e.cells = some x → Rows.uptoBulk x.1 ≤ 1048576 → SB e := by
  intro fuel
  induction fuel using Nat.strongRecOn with
  | ind fuel ih =>
    intro e x hL h hz
    obtain ⟨m, y, hm, hy, hyz⟩ := bk_fd Try.underlying48 h 2 45 2 rfl cl_SItem
    obtain ⟨E, h1, h2, h3⟩ := bk_sl Try.underlying45 cl_Item It.len hL.it (cap := e.ci) hy
    obtain ⟨m', y', hm', hy', hyz'⟩ := bk_fd Try.underlying48 h 3 46 3 rfl cl_SSection
    obtain ⟨E', h1', h2', h3'⟩ := bk_sl Try.underlying46 cl_Section Se.len hL.kd (cap := e.ck) hy'
    have hb := bulk_len E
    have hb' := bulk_len E'
    refine .mk (by omega) (fun o ho => ?_) (by omega) (fun o ho => ?_)
    · obtain ⟨i, hi⟩ := List.getElem?_of_mem ho
      obtain ⟨d, hd⟩ := get_of_lt (show i < E.length by rw [h1]; exact lt_of_get hi)
      obtain ⟨m2, y2, hm2, hy2, rfl⟩ := h3 i o d hi hd
      have hm3 := bulk_mem (List.mem_of_getElem? hd)
      obtain ⟨m4, y4, _, hy4, hyz4⟩ := bk_fd Try.underlying67 hy2 5 38 6 rfl cl_Expr
      have := nd_bulk m4 (hL.ex o ho) hy4
      omega
    · obtain ⟨i, hi⟩ := List.getElem?_of_mem ho
      obtain ⟨d, hd⟩ := get_of_lt (show i < E'.length by rw [h1']; exact lt_of_get hi)
      obtain ⟨m2, y2, hm2, hy2, rfl⟩ := h3' i o d hi hd
      have hm3 := bulk_mem (List.mem_of_getElem? hd)
      exact ih m2 (by omega) (hL.kr o ho) hy2 (by omega)
def PX (x : S5) : Prop := x.items.length ≤ 600000000000 ∧ ∀ y ∈ x.items, AB y.ex
theorem flt_sb : ∀ (s : Se), SB s → ∀ (acc : List S5) (p dp : Int), (∀ x ∈ acc, PX x) → ∀ x ∈ flt s acc p dp, PX x := by
  refine Se.ind2 ?_
  intro s ih hS acc p dp h
  rw [flt_eq]
  split
  · exact h
  · have key : ∀ (l : List Se), (∀ k ∈ l, k ∈ s.kids) → ∀ (b : List S5), (∀ x ∈ b, PX x) → ∀ x ∈ l.foldl (fun a k => flt k a acc.length (dp + 1)) b, PX x := by
      intro l
      induction l with
      | nil => intro _ b hb; exact hb
      | cons k l il => intro hm b hb; exact il (fun y hy => hm y (List.mem_cons_of_mem _ hy)) _ (ih k (hm k (List.mem_cons_self ..)) (hS.kid k (hm k (List.mem_cons_self ..))) b _ _ hb)
    refine key s.kids (fun _ q => q) _ (fun x hx => ?_)
    rcases List.mem_append.1 hx with q | q
    · exact h x q
    · simp at q; subst q
      exact ⟨by have := hS.items; show s.items.length ≤ _; omega, fun y hy => ab_nd _ (hS.ex y hy)⟩
theorem fb_sb {d : Df} (h : SB d.rt) : FB d := fun x hx => flt_sb d.rt h [] _ _ (fun y hy => by cases hy) x hx
variable {base : Nat} {v : Value} {d : DataW H} {p : List MemPlace}
set_option maxRecDepth 100000 in
theorem open_defb (hv : Value.okWide Try.prog W .any base 52 v) (h : DataW.Trod enc Try.prog W 0 (fun _ => true) true 52 v d p) (hz : Rows.uptoBulk d ≤ 1048576) : ∃ x : Df, v = .agg x.cells.toArray ∧ LDf W x ∧ SB x.rt ∧ x.tb.length ≤ 1048576 := by
  obtain ⟨a, rfl, _⟩ := okWide_struct Try.underlying52 hv
  obtain ⟨fuel, hf⟩ := h
  obtain ⟨x, hx, e⟩ := cut_def hf
  refine ⟨x, by have e2 : a = x.cells.toArray := (by rw [← e]; simp [Value.cells]); rw [e2], hx, ?_⟩
  rw [e] at hf
  obtain ⟨m, y, _, hy, hyz⟩ := bk_fd Try.underlying52 hf 1 48 1 rfl cl_Section
  obtain ⟨m', y', _, hy', hyz'⟩ := bk_fd Try.underlying52 hf 2 49 5 rfl cl_STable
  obtain ⟨E, h1, h2, _⟩ := bk_sl Try.underlying49 cl_Table Tb.len hx.tb (cap := x.ct) hy'
  have hb := bulk_len E
  have hz' : Rows.uptoBulk ((d, p) : DataW H × List MemPlace).1 ≤ 1048576 := hz
  refine ⟨sb_bulk m hx.rt hy (by omega), by omega⟩
end
end Go.Proofs.Ytepfokoepibkcaa

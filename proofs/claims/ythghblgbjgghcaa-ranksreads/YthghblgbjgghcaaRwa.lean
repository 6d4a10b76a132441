/-
  What is asked of sections, as it came in.
-/
import Derived.Test.YthghblgbjgghcaaRwb
namespace Go.Proofs.Ythghblgbjgghcaa
open Go.ChangeShapes Go.WideShapes Go.ChangeAt Go.RowKit D
section
variable {H : Type} {enc : TypeId × Value → H} {W : World}
variable {base : Nat} {v : Value} {d : DataW H} {p : List MemPlace}
set_option maxRecDepth 100000 in
theorem sects_at {fuel : Nat} {c0 : Value} (hf' : DataW.trod enc Try.prog W 0 (fun _ => true) true fuel 22 [c0] = some (d, p)) (hz : Rows.uptoBulk d ≤ 1048576) : ∃ (l : List S5) (pl : Option Addr) (cl : Nat), c0 = .slice pl l.length cl ∧ SL W 5 S5.cells pl l ∧ (∀ x ∈ l, LS5 W x) ∧ l.length < 400000 ∧ nI l < 400000 ∧ (∀ y ∈ l, ∀ z ∈ y.items, nd z.ex ≤ 3000000) ∧ l.length ≤ cl ∧ (∀ x ∈ l, x.items.length ≤ x.ci) := by
  obtain ⟨l, pl, cl, e, hok, hS, hlc⟩ := cut_sl Try.underlying22 (n := 5) (by decide) cl_Sect S5.cells ⟨0, 0, ⟨#[]⟩, 0, none, 0, []⟩ (fun x => LS5 W x) (fun _ => rfl) (fun _ h => cut_sect h) hf'
  rw [e] at hf'
  obtain ⟨E, h1, h2, h3⟩ := bk_sl Try.underlying22 cl_Sect (fun _ => rfl) hS (cap := cl) hf'
  have h2' : Rows.uptoBulkAll E ≤ 1048576 := Nat.le_trans h2 hz
  have each : ∀ x ∈ l, ∃ d, d ∈ E ∧ 6 ≤ Rows.uptoBulk d ∧ 3 * x.items.length ≤ Rows.uptoBulk d ∧ x.items.length ≤ x.ci ∧ ∀ z ∈ x.items, nd z.ex ≤ Rows.uptoBulk d := fun x hx => by
    obtain ⟨i, hi⟩ := List.getElem?_of_mem hx
    obtain ⟨d, hd⟩ := get_of_lt (show i < E.length by rw [h1]; exact lt_of_get hi)
    obtain ⟨m2, y2, _, hy2, rfl⟩ := h3 i x d hi hd
    exact ⟨_, List.mem_of_getElem? hd, sect_bulk (hok x hx) hy2⟩
  have hA := bulk_f (fun _ => 6) l E h1 (fun i a d ha hd => by
    obtain ⟨m2, y2, _, hy2, rfl⟩ := h3 i a d ha hd
    exact (sect_bulk (hok a (List.mem_of_getElem? ha)) hy2).1)
  have hB := bulk_f (fun x : S5 => 3 * x.items.length) l E h1 (fun i a d ha hd => by
    obtain ⟨m2, y2, _, hy2, rfl⟩ := h3 i a d ha hd
    exact (sect_bulk (hok a (List.mem_of_getElem? ha)) hy2).2.1)
  have hA' : (l.map (fun _ => 6)).sum = 6 * l.length := by rw [List.map_const']; simp [Nat.mul_comm]
  have hB' : nI l = (l.map (fun x => x.items.length)).sum := by unfold nI fsn; rw [List.take_length]
  have hB2 := sum_mul (fun x : S5 => x.items.length) 3 l
  refine ⟨l, pl, cl, e, hS, hok, by omega, by omega, fun y hy z hz => ?_, hlc, fun x hx => ?_⟩
  · obtain ⟨d, hd, _, _, _, h9⟩ := each y hy
    have := h9 z hz
    have := bulk_mem hd
    omega
  · obtain ⟨d, _, _, _, h8, _⟩ := each x hx
    exact h8
theorem cl_Asked : Try.prog.cellsOf 24 = 4 := by kernel_rfl
theorem cl_SSect : Try.prog.cellsOf 22 = 1 := by kernel_rfl
set_option maxRecDepth 100000 in
theorem open_asked (hv : Value.okWide Try.prog W .any base 24 v) (h : DataW.Trod enc Try.prog W 0 (fun _ => true) true 24 v d p) (hz : Rows.uptoBulk d ≤ 1048576) : ∃ (l : List S5) (pl : Option Addr) (cl : Nat) (n sc it : Int), v = .agg #[.slice pl l.length cl, .int .i64 n, .int .i64 sc, .int .i64 it] ∧ n ≤ 9223372036854775807 ∧ SL W 5 S5.cells pl l ∧ (∀ x ∈ l, LS5 W x) ∧ l.length < 400000 ∧ nI l < 400000 ∧ (∀ y ∈ l, ∀ z ∈ y.items, nd z.ex ≤ 3000000) ∧ l.length ≤ cl ∧ (∀ x ∈ l, x.items.length ≤ x.ci) := by
  obtain ⟨a, rfl, _⟩ := okWide_struct Try.underlying24 hv
  obtain ⟨fuel, hf⟩ := h
  have hf0 := hf
  obtain ⟨xs, m, rfl, hx, hl, hlen, hi⟩ := DataW.trod_struct Try.underlying24 hf
  rw [cl_Asked] at hl
  have hcs : (Value.agg a).cells = a := rfl
  rw [hcs] at hl hi hf0
  obtain ⟨c0, c1, c2, c3, ha⟩ : ∃ c0 c1 c2 c3, a.toList = [c0, c1, c2, c3] := by
    match a.toList, hl with
    | [a0, a1, a2, a3], _ => exact ⟨a0, a1, a2, a3, rfl⟩
  rw [ha] at hi hf0
  obtain ⟨y0, y1, y2, y3, rfl⟩ : ∃ y0 y1 y2 y3, xs = [y0, y1, y2, y3] := by
    match xs, hlen with
    | [a0, a1, a2, a3], _ => exact ⟨a0, a1, a2, a3, rfl⟩
  have i1 := hi 1 _ rfl
  have i2 := hi 2 _ rfl
  have i3 := hi 3 _ rfl
  simp [cl_int] at i1 i2 i3
  obtain ⟨n, e1, _, hw⟩ := DataW.trod_int Try.underlying3 i1
  obtain ⟨sc, e2, _, _⟩ := DataW.trod_int Try.underlying3 i2
  obtain ⟨it, e3, _, _⟩ := DataW.trod_int Try.underlying3 i3
  simp at e1 e2 e3
  subst e1 e2 e3
  obtain ⟨m0, z0, _, hz0, hzb⟩ := bk_fd Try.underlying24 hf0 0 22 0 rfl cl_SSect
  have hz0' : DataW.trod enc Try.prog W 0 (fun _ => true) true m0 22 [c0] = some (z0.1, z0.2) := hz0
  have hz' : Rows.uptoBulk ((d, p) : DataW H × List MemPlace).1 ≤ 1048576 := hz
  obtain ⟨l, pl, cl, rfl, h9⟩ := sects_at hz0' (by omega)
  refine ⟨l, pl, cl, n, sc, it, ?_, ?_, h9⟩
  · rw [show a = a.toList.toArray by simp, ha]
  · unfold Lit.wf at hw
    rw [Bool.and_eq_true] at hw
    have h7 := of_decide_eq_true hw.2
    rw [show IntKind.i64.max = 9223372036854775807 by kernel_rfl] at h7
    exact h7
end
end Go.Proofs.Ythghblgbjgghcaa

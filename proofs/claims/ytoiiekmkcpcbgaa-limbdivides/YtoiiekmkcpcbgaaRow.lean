/-
  An array of four limbs that came in: how it is opened and shut.
-/
import Derived.Test.YtoiiekmkcpcbgaaRows
import Derived.Test.YtoiiekmkcpcbgaaNum
import Derived.ProofKit
import Derived.OpenShut
import Derived.Lib.SmallJoins
namespace Go.Proofs.Ytoiiekmkcpcbgaa
open Go.ChangeShapes Go.WideShapes Go.ChangeAt Go.RowKit
theorem Try.own : ownKnob Try.prog.godebug = none := by kernel_rfl
theorem Try.cl22 : Try.prog.cellsOf 22 = 1 := by kernel_rfl
theorem Try.cl24 : Try.prog.cellsOf 24 = 4 := by kernel_rfl
theorem wf_u1 {x : Int} (h : (Lit.int .u64 x).wf = true) : U1 x := by
  simp [Lit.wf, IntKind.min, IntKind.max, IntKind.signed, IntKind.bits] at h
  exact ⟨by omega, by omega⟩
set_option maxRecDepth 100000 in
theorem open_nat {H : Type} {enc : TypeId × Value → H} {W : World} {base : Nat} {v : Value} {d : DataW H} {p : List MemPlace} (hv : Value.okWide Try.prog W .any base 24 v) (h : DataW.Trod enc Try.prog W 0 (fun _ => true) true 24 v d p) :
    ∃ x0 x1 x2 x3 : Int, v = .agg #[.int .u64 x0, .int .u64 x1, .int .u64 x2, .int .u64 x3] ∧ d = .agg [.lit (.int .u64 x0), .lit (.int .u64 x1), .lit (.int .u64 x2), .lit (.int .u64 x3)] ∧ p = [] ∧ U4 x0 x1 x2 x3 ∧
      ∀ (W' : World) (sp : Nat → Bool), DataW.Trod enc Try.prog W' 0 sp true 24 v d [] := by
  obtain ⟨cs, rfl, hsz, _⟩ : ∃ cs, v = .agg cs ∧ cs.size = Try.prog.cellsOf 24 ∧ Row.okWide Try.prog W .any base 24 cs := by
    simpa [Value.okWide, Try.underlying24] using hv
  rw [Try.cl24] at hsz
  obtain ⟨c0, c1, c2, c3, rfl⟩ := Go.Joins.array4 hsz
  obtain ⟨fuel, hf⟩ := h
  obtain ⟨xs, m, rfl, hx, _, hn, hi⟩ := DataW.trod_array Try.underlying24 hf
  have i0 := hi 0 (by decide)
  have i1 := hi 1 (by decide)
  have i2 := hi 2 (by decide)
  have i3 := hi 3 (by decide)
  simp only [Try.cl22, Value.cells] at i0 i1 i2 i3
  obtain ⟨y0, y1, y2, y3, rfl⟩ : ∃ y0 y1 y2 y3, xs = [y0, y1, y2, y3] := by
    match xs, hn with
    | [a, b, c, d], _ => exact ⟨a, b, c, d, rfl⟩
  simp at i0 i1 i2 i3
  obtain ⟨x0, e0, rfl, w0⟩ := DataW.trod_int Try.underlying22 i0
  obtain ⟨x1, e1, rfl, w1⟩ := DataW.trod_int Try.underlying22 i1
  obtain ⟨x2, e2, rfl, w2⟩ := DataW.trod_int Try.underlying22 i2
  obtain ⟨x3, e3, rfl, w3⟩ := DataW.trod_int Try.underlying22 i3
  simp at e0 e1 e2 e3
  subst e0 e1 e2 e3
  simp at hx
  obtain ⟨rfl, rfl⟩ := hx
  refine ⟨x0, x1, x2, x3, rfl, rfl, rfl, ⟨wf_u1 w0, wf_u1 w1, wf_u1 w2, wf_u1 w3⟩, fun W' sp => ⟨2, ?_⟩⟩
  simp [DataW.trod, Value.cells, Try.underlying24, Try.underlying22, Try.cl24, Try.cl22, w0, w1, w2, w3, show List.range 4 = [0, 1, 2, 3] from rfl]
end Go.Proofs.Ytoiiekmkcpcbgaa

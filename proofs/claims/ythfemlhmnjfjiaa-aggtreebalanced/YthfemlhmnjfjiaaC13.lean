/-
  A part of the proof.
-/
import Derived.Test.YthfemlhmnjfjiaaC12
import Derived.Test.YthfemlhmnjfjiaaC5
import Derived.Test.YthfemlhmnjfjiaaRows
import Derived.ProofKit
import Derived.OpenShut
import Derived.Carry
import Derived.ChangeMaps5
import Derived.ReadAgain
import Derived.WideKeyArgs
import Derived.SizedLaws
import Derived.Deep.Slices
import Derived.Deep.Strs
/-
  Scripts that came in.
-/
namespace Go.Proofs.Ythfemlhmnjfjiaa
open Go.ChangeShapes Go.WideShapes Go.ChangeAt Go.RowKit
namespace G
theorem Try.own : ownKnob Try.prog.godebug = none := by kernel_rfl
theorem Try.cl2 : Try.prog.cellsOf 2 = 1 := by kernel_rfl
theorem Try.cl4 : Try.prog.cellsOf 4 = 1 := by kernel_rfl
theorem Try.cl9 : Try.prog.cellsOf 9 = 1 := by kernel_rfl
theorem Try.cl29 : Try.prog.cellsOf 29 = 1 := by kernel_rfl
theorem Try.cl31 : Try.prog.cellsOf 31 = 7 := by kernel_rfl
theorem Try.cl34 : Try.prog.cellsOf 34 = 1 := by kernel_rfl
theorem Try.cl38 : Try.prog.cellsOf 38 = 4 := by kernel_rfl
theorem Try.cl40 : Try.prog.cellsOf 40 = 6 := by kernel_rfl
theorem Try.cl55 : Try.prog.cellsOf 55 = 10 := by kernel_rfl
theorem Try.by31 : Try.prog.bytesOf 31 = 72 := by kernel_rfl
theorem Try.laidOut : laidOutB Try.prog = true := by kernel_rfl
theorem l0_vl {a b c d : Int} (h : U4 a b c d) : l0 (vl a b c d) = a := by unfold vl l0; unfold U4 U1 at h; omega
theorem l1_vl {a b c d : Int} (h : U4 a b c d) : l1 (vl a b c d) = b := by unfold vl l1; unfold U4 U1 at h; omega
theorem l2_vl {a b c d : Int} (h : U4 a b c d) : l2 (vl a b c d) = c := by unfold vl l2; unfold U4 U1 at h; omega
theorem l3_vl {a b c d : Int} (h : U4 a b c d) : l3 (vl a b c d) = d := by unfold vl l3; unfold U4 U1 at h; omega
theorem wf_u1 {x : Int} (h : (Lit.int .u64 x).wf = true) : U1 x := by
  simp [Lit.wf, IntKind.min, IntKind.max, IntKind.signed, IntKind.bits] at h
  exact ⟨by omega, by omega⟩
theorem wf_i1 {x : Int} (h : (Lit.int .i64 x).wf = true) : I64 x := by
  simp [Lit.wf, IntKind.min, IntKind.max, IntKind.signed, IntKind.bits] at h
  exact ⟨by omega, by omega⟩
theorem trodAll_stays {H : Type} {enc : TypeId × Value → H} {W W' : World} {sp' : Nat → Bool} : ∀ {ts : List TypeId} {vs : List Value} {ds : List (DataW H)} {ps : List MemPlace}, (∀ t ∈ ts, Try.prog.readableRec t = true ∧ t < Try.prog.types.size) → DataW.TrodAll enc Try.prog W 0 (fun _ => true) true ts vs ds ps → (∀ p ∈ ps, W.sameAt W' p) → (∀ p ∈ ps, sp' p.block = true) → DataW.TrodAll enc Try.prog W' 0 sp' true ts vs ds ps
  | [], [], [], _, _, h, _, _ => h
  | _ :: _, _ :: _, _ :: _, _, hT, ⟨p, q, h1, h2, e⟩, hm, hs => ⟨p, q, WideElems.Trod_stays Try.laidOut (hT _ (List.mem_cons.2 (Or.inl rfl))).1 (hT _ (List.mem_cons.2 (Or.inl rfl))).2 h1 (fun x hx => hm x (by rw [e]; exact List.mem_append_left _ hx)) (fun x hx => hs x (by rw [e]; exact List.mem_append_left _ hx)),
      trodAll_stays (fun t ht => hT t (List.mem_cons.2 (Or.inr ht))) h2 (fun x hx => hm x (by rw [e]; exact List.mem_append_right _ hx)) (fun x hx => hs x (by rw [e]; exact List.mem_append_right _ hx)), e⟩
section
variable {H : Type} {enc : TypeId × Value → H} {W : World} {sp : Nat → Bool} {fuel : Nat} {cs : List Value} {x : DataW H × List MemPlace}
set_option maxRecDepth 100000 in
theorem cut4 (h : DataW.trod enc Try.prog W 0 sp true fuel 38 cs = some x) : ∃ n : Int, (0 ≤ n ∧ n < MM) ∧ cs = [.int .u64 (l0 n), .int .u64 (l1 n), .int .u64 (l2 n), .int .u64 (l3 n)] := by
  obtain ⟨xs, m, rfl, _, hlen, hn, hi⟩ := DataW.trod_array Try.underlying38 h
  rw [Try.cl38] at hlen
  obtain ⟨c0, c1, c2, c3, rfl⟩ : ∃ c0 c1 c2 c3, cs = [c0, c1, c2, c3] := by
    match cs, hlen with
    | [a, b, c, d], _ => exact ⟨a, b, c, d, rfl⟩
  obtain ⟨y0, y1, y2, y3, rfl⟩ : ∃ y0 y1 y2 y3, xs = [y0, y1, y2, y3] := by
    match xs, hn with
    | [a, b, c, d], _ => exact ⟨a, b, c, d, rfl⟩
  have i0 := hi 0 (by decide)
  have i1 := hi 1 (by decide)
  have i2 := hi 2 (by decide)
  have i3 := hi 3 (by decide)
  simp only [Try.cl34] at i0 i1 i2 i3
  simp at i0 i1 i2 i3
  obtain ⟨x0, e0, _, w0⟩ := DataW.trod_int Try.underlying34 i0
  obtain ⟨x1, e1, _, w1⟩ := DataW.trod_int Try.underlying34 i1
  obtain ⟨x2, e2, _, w2⟩ := DataW.trod_int Try.underlying34 i2
  obtain ⟨x3, e3, _, w3⟩ := DataW.trod_int Try.underlying34 i3
  simp at e0 e1 e2 e3
  subst e0 e1 e2 e3
  have u : U4 x0 x1 x2 x3 := ⟨wf_u1 w0, wf_u1 w1, wf_u1 w2, wf_u1 w3⟩
  exact ⟨vl x0 x1 x2 x3, vl_bd u, by rw [l0_vl u, l1_vl u, l2_vl u, l3_vl u]⟩
set_option maxRecDepth 100000 in
theorem cut6 (h : DataW.trod enc Try.prog W 0 sp true fuel 40 cs = some x) : ∃ d : D3, d.ok ∧ cs = [.bool d.b, .int .u64 (l0 d.n), .int .u64 (l1 d.n), .int .u64 (l2 d.n), .int .u64 (l3 d.n), .int .i64 d.s] := by
  obtain ⟨y0, y1, y2, m, _, hl, h0, h1, h2⟩ := Go.Deep.trod_struct3 Try.underlying40 h
  rw [Try.cl40] at hl
  obtain ⟨c0, c1, c2, c3, c4, c5, rfl⟩ : ∃ c0 c1 c2 c3 c4 c5, cs = [c0, c1, c2, c3, c4, c5] := by
    match cs, hl with
    | [a, b, c, d, e, f], _ => exact ⟨a, b, c, d, e, f, rfl⟩
  simp [Try.cl4, Try.cl38, Try.cl3] at h0 h1 h2
  obtain ⟨b, e0, _⟩ := DataW.trod_bool Try.underlying4 h0
  obtain ⟨n, hn, e1⟩ := cut4 h1
  obtain ⟨s, e2, _, w2⟩ := DataW.trod_int Try.underlying3 h2
  simp at e0 e1 e2
  obtain ⟨e10, e11, e12, e13⟩ := e1
  subst e0 e10 e11 e12 e13 e2
  exact ⟨⟨b, n, s⟩, hn, rfl⟩
set_option maxRecDepth 100000 in
theorem cut10 (h : DataW.trod enc Try.prog W 0 sp true fuel 55 cs = some x) : ∃ v : V10, v.n.ok ∧ cs = v.cells := by
  obtain ⟨xs, n, rfl, _, hl, hlen, hi⟩ := DataW.trod_struct Try.underlying55 h
  rw [Try.cl55] at hl
  obtain ⟨c0, c1, c2, c3, c4, c5, c6, c7, c8, c9, rfl⟩ : ∃ c0 c1 c2 c3 c4 c5 c6 c7 c8 c9, cs = [c0, c1, c2, c3, c4, c5, c6, c7, c8, c9] := by
    match cs, hl with
    | [a0, a1, a2, a3, a4, a5, a6, a7, a8, a9], _ => exact ⟨a0, a1, a2, a3, a4, a5, a6, a7, a8, a9, rfl⟩
  obtain ⟨y0, y1, y2, y3, y4, rfl⟩ : ∃ y0 y1 y2 y3 y4, xs = [y0, y1, y2, y3, y4] := by
    match xs, hlen with
    | [a0, a1, a2, a3, a4], _ => exact ⟨a0, a1, a2, a3, a4, rfl⟩
  have i0 := hi 0 _ rfl
  have i1 := hi 1 _ rfl
  have i2 := hi 2 _ rfl
  have i3 := hi 3 _ rfl
  have i4 := hi 4 _ rfl
  simp [Try.cl3, Try.cl4, Try.cl9, Try.cl40] at i0 i1 i2 i3 i4
  obtain ⟨K, e0, _, w0⟩ := DataW.trod_int Try.underlying3 i0
  obtain ⟨d, hd, e1⟩ := cut6 i1
  obtain ⟨fl, e2, _⟩ := DataW.trod_bool Try.underlying4 i2
  obtain ⟨tx, e3, _⟩ := DataW.trod_string Try.underlying9 i3
  obtain ⟨er, e4, _, w4⟩ := DataW.trod_int Try.underlying3 i4
  simp at e0 e1 e2 e3 e4
  obtain ⟨e10, e11, e12, e13, e14, e15⟩ := e1
  subst e0 e10 e11 e12 e13 e14 e15 e2 e3 e4
  exact ⟨⟨K, d, fl, tx, er⟩, hd, rfl⟩
/-- A slice that came in, of whatever elements of n cells. -/
theorem cut_sl {t e : TypeId} (hu : Try.prog.underlying t = some (.slice e)) {n : Nat} (hn : 0 < n) (hcl : Try.prog.cellsOf e = n) {α : Type} (cells : α → List Value) (dflt : α) (ok : α → Prop) (hlen : ∀ y, (cells y).length = n)
    (hcut : ∀ {m : Nat} {cs : List Value} {y : DataW H × List MemPlace}, DataW.trod enc Try.prog W 0 sp true m e cs = some y → ∃ z, ok z ∧ cs = cells z) {v : Value} (h : DataW.trod enc Try.prog W 0 sp true fuel t [v] = some x) :
    ∃ (L : List α) (pa : Option Addr) (cap : Nat), v = .slice pa L.length cap ∧ (∀ o ∈ L, ok o) ∧ (∀ i o, L[i]? = some o → ∃ b off, pa = some ⟨b, off, none⟩ ∧ b < W.heap.size ∧ W.rangeAt b (off + i * n) (cells o)) ∧ (L = [] ∨ ∃ elems spare, x.1 = .slice elems spare ∧ elems.length = L.length) := by
  rcases Go.Deep.open_slice hu h with ⟨hcs, _⟩ | ⟨a, len, cap, m, k, D, Pl, hcs, _, hl, _, hm, hx, hel⟩
  · simp only [List.cons.injEq, and_true] at hcs
    subst hcs
    exact ⟨[], none, 0, rfl, fun _ e => (by cases e), fun _ _ e => (by cases e), Or.inl rfl⟩
  · simp only [List.cons.injEq, and_true] at hcs
    subst hcs
    have hm2 : len ≤ m := by rw [hm]; split <;> omega
    have first : ∀ o : α, ∃ u, (cells o)[0]? = some u := fun o => ⟨(cells o)[0]'(by rw [hlen]; exact hn), List.getElem?_eq_getElem _⟩
    have key : ∀ i : Nat, ∃ S : α, i < len → ok S ∧ ∃ b off, some a = some (⟨b, off, none⟩ : Addr) ∧ b < W.heap.size ∧ W.rangeAt b (off + i * n) (cells S) := by
      intro i
      by_cases hi : i < len
      · obtain ⟨cs', hc, ht⟩ := hel i (by omega)
        obtain ⟨o, ho, rfl⟩ := hcut ht
        refine ⟨o, fun _ => ⟨ho, ?_⟩⟩
        rw [hcl] at hc
        have hb := World.cells?_block hc hn
        obtain ⟨_, _, hcell⟩ := World.cells?_some hc
        obtain ⟨b, off, spot⟩ := a
        have hs : spot = none := by
          obtain ⟨cs0, hc0, ht0⟩ := hel 0 (by omega)
          obtain ⟨o0, _, rfl⟩ := hcut ht0
          rw [hcl] at hc0
          have h0 := (World.cells?_some hc0).2.2 0 hn
          obtain ⟨u, hu0⟩ := first o0
          rw [hu0] at h0
          have := World.cell?_spot (show W.cell? (((⟨b, off, spot⟩ : Addr).add (0 * n)).add 0) = some u from h0)
          simpa [Addr.add] using this
        subst hs
        refine ⟨b, off, rfl, by simpa [Addr.add_mid] using hb, fun j v hv => ?_⟩
        have hj : j < n := by rw [← hlen o]; exact (List.getElem?_eq_some_iff.1 hv).1
        have := hcell j hj
        rw [Addr.add_mid, Addr.add_mid, hv] at this
        exact this
      · exact ⟨dflt, fun e => absurd e hi⟩
    obtain ⟨f, hf2⟩ := Classical.skolem.1 key
    refine ⟨(List.range len).map f, some a, cap, by simp, fun o ho => ?_, fun i o e => ?_, Or.inr ⟨_, _, congrArg Prod.fst hx, by simp⟩⟩
    · obtain ⟨i, hi, rfl⟩ := List.mem_map.1 ho
      exact (hf2 i (by simpa using hi)).1
    · have hi : i < len := by have := (List.getElem?_eq_some_iff.1 e).1; simpa using this
      rw [List.getElem?_map, List.getElem?_range hi] at e
      cases e
      exact (hf2 i hi).2
set_option maxRecDepth 100000 in
theorem cut31 (h : DataW.trod enc Try.prog W 0 sp true fuel 31 cs = some x) : ∃ o : Op6, (o.ok ∧ SVv W o.p o.vs) ∧ cs = o.cells := by
  obtain ⟨xs, n, rfl, _, hl, hlen, hi⟩ := DataW.trod_struct Try.underlying31 h
  rw [Try.cl31] at hl
  obtain ⟨c0, c1, c2, c3, c4, c5, c6, rfl⟩ : ∃ c0 c1 c2 c3 c4 c5 c6, cs = [c0, c1, c2, c3, c4, c5, c6] := by
    match cs, hl with
    | [a0, a1, a2, a3, a4, a5, a6], _ => exact ⟨a0, a1, a2, a3, a4, a5, a6, rfl⟩
  obtain ⟨y0, y1, y2, y3, y4, y5, y6, rfl⟩ : ∃ y0 y1 y2 y3 y4 y5 y6, xs = [y0, y1, y2, y3, y4, y5, y6] := by
    match xs, hlen with
    | [a0, a1, a2, a3, a4, a5, a6], _ => exact ⟨a0, a1, a2, a3, a4, a5, a6, rfl⟩
  have i0 := hi 0 _ rfl
  have i1 := hi 1 _ rfl
  have i2 := hi 2 _ rfl
  have i3 := hi 3 _ rfl
  have i4 := hi 4 _ rfl
  have i5 := hi 5 _ rfl
  have i6 := hi 6 _ rfl
  simp [Try.cl3, Try.cl2, Try.cl29] at i0 i1 i2 i3 i4 i5 i6
  obtain ⟨d, e0, _, w0⟩ := DataW.trod_int Try.underlying3 i0
  obtain ⟨a, e1, _, w1⟩ := DataW.trod_int Try.underlying3 i1
  obtain ⟨i, e2, _, w2⟩ := DataW.trod_int Try.underlying2 i2
  obtain ⟨L, pa, cap, e3, hL, hSV, _⟩ := cut_sl Try.underlying29 (n := 10) (by decide) Try.cl55 V10.cells v0 (fun y => y.n.ok) (fun _ => rfl) (fun h => cut10 h) i3
  obtain ⟨c, e4, _, w4⟩ := DataW.trod_int Try.underlying3 i4
  obtain ⟨f, e5, _, w5⟩ := DataW.trod_int Try.underlying3 i5
  obtain ⟨g, e6, _, w6⟩ := DataW.trod_int Try.underlying3 i6
  simp at e0 e1 e2 e4 e5 e6
  subst e0 e1 e2 e3 e4 e5 e6
  exact ⟨⟨d, a, i, pa, L, cap, c, f, g⟩, ⟨⟨wf_i1 w0, wf_i1 w1, wf_i1 w2, hL, wf_i1 w4, wf_i1 w5, wf_i1 w6⟩, hSV⟩, rfl⟩
end
section
variable {H : Type} {enc : TypeId × Value → H} {W : World} {base : Nat} {v : Value} {d : DataW H} {p : List MemPlace}
set_option maxRecDepth 100000 in
theorem open_script (hv : Value.okWide Try.prog W .any base 23 v) (h : DataW.Trod enc Try.prog W 0 (fun _ => true) true 23 v d p) :
    ∃ (sc : List Op6) (pa : Option Addr) (cap : Nat), v = .slice pa sc.length cap ∧ (∀ o ∈ sc, o.ok) ∧ SA W pa sc ∧ (sc = [] ∨ ∃ elems spare, d = .slice elems spare ∧ elems.length = sc.length) := by
  obtain ⟨a0, len, cap0, rfl⟩ := okWide_slice Try.underlying23 hv
  obtain ⟨fuel, hf⟩ := h
  obtain ⟨L, pa, cap, h1, h2, h3, h4⟩ := cut_sl Try.underlying23 (n := 7) (by decide) Try.cl31 Op6.cells ⟨0, 0, 0, none, [], 0, 0, 0, 0⟩ (fun o => o.ok ∧ SVv W o.p o.vs) (fun _ => rfl) (fun h => cut31 h) (show DataW.trod enc Try.prog W 0 _ true fuel 23 [_] = some (d, p) from hf)
  exact ⟨L, pa, cap, h1, fun o ho => (h2 o ho).1, fun i o e => ⟨h3 i o e, (h2 o (List.mem_of_getElem? e)).2⟩, h4⟩
set_option maxRecDepth 100000 in
theorem open_ints (hv : Value.okWide Try.prog W .any base 22 v) (h : DataW.Trod enc Try.prog W 0 (fun _ => true) true 22 v d p) :
    ∃ (L : List Int) (pa : Option Addr) (cap : Nat), v = .slice pa L.length cap ∧ (∀ x ∈ L, I64 x) ∧ SN W pa L := by
  obtain ⟨a0, len, cap0, rfl⟩ := okWide_slice Try.underlying22 hv
  obtain ⟨fuel, hf⟩ := h
  obtain ⟨L, pa, cap, h1, h2, h3, _⟩ := cut_sl Try.underlying22 (n := 1) (by decide) Try.cl3 (fun x : Int => [.int .i64 x]) 0 I64 (fun _ => rfl) (fun h => by
    obtain ⟨z, e, _, w⟩ := DataW.trod_int Try.underlying3 h
    exact ⟨z, wf_i1 w, e⟩) (show DataW.trod enc Try.prog W 0 _ true fuel 22 [_] = some (d, p) from hf)
  exact ⟨L, pa, cap, h1, h2, h3⟩
end
end G
end Go.Proofs.Ythfemlhmnjfjiaa

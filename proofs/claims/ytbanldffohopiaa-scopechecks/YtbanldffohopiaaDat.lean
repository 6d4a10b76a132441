/-
  Definitions that came in: what they hold, and that it lies there.
-/
import Derived.Test.YtbanldffohopiaaProg
import Derived.ProofKit
import Derived.OpenShut
import Derived.ChangeArms
import Derived.Deep.Slices
import Derived.Deep.MidRow
namespace Go.Proofs.Ytbanldffohopiaa
open Go.ChangeShapes Go.WideShapes Go.ChangeAt Go.RowKit
namespace D
theorem cl_int : Try.prog.cellsOf 3 = 1 := by kernel_rfl
theorem cl_bool : Try.prog.cellsOf 4 = 1 := by kernel_rfl
theorem cl_string : Try.prog.cellsOf 9 = 1 := by kernel_rfl
theorem cl_u64 : Try.prog.cellsOf 55 = 1 := by kernel_rfl
theorem cl_arr4 : Try.prog.cellsOf 57 = 4 := by kernel_rfl
theorem cl_Dec : Try.prog.cellsOf 59 = 6 := by kernel_rfl
theorem cl_Value : Try.prog.cellsOf 61 = 10 := by kernel_rfl
theorem cl_SExpr : Try.prog.cellsOf 62 = 1 := by kernel_rfl
theorem cl_Expr : Try.prog.cellsOf 64 = 17 := by kernel_rfl
theorem cl_Type : Try.prog.cellsOf 54 = 2 := by kernel_rfl
theorem cl_Item : Try.prog.cellsOf 66 = 23 := by kernel_rfl
theorem cl_SItem : Try.prog.cellsOf 22 = 1 := by kernel_rfl
theorem cl_Section : Try.prog.cellsOf 25 = 4 := by kernel_rfl
theorem cl_SSection : Try.prog.cellsOf 23 = 1 := by kernel_rfl
theorem cl_Step : Try.prog.cellsOf 130 = 18 := by kernel_rfl
theorem cl_SStep : Try.prog.cellsOf 83 = 1 := by kernel_rfl
theorem cl_Table : Try.prog.cellsOf 85 = 2 := by kernel_rfl
theorem cl_STable : Try.prog.cellsOf 26 = 1 := by kernel_rfl
theorem cl_SString : Try.prog.cellsOf 45 = 1 := by kernel_rfl
theorem cl_Page : Try.prog.cellsOf 90 = 19 := by kernel_rfl
theorem cl_SPage : Try.prog.cellsOf 27 = 1 := by kernel_rfl
theorem cl_Def : Try.prog.cellsOf 29 = 7 := by kernel_rfl
theorem cl_SSect : Try.prog.cellsOf 37 = 1 := by kernel_rfl
theorem cl_Sect : Try.prog.cellsOf 52 = 5 := by kernel_rfl
/-- A decimal's cells. -/
structure Dc where
  b : Bool
  n0 : Int
  n1 : Int
  n2 : Int
  n3 : Int
  s : Int
def Dc.cells (d : Dc) : List Value := [.bool d.b, .int .u64 d.n0, .int .u64 d.n1, .int .u64 d.n2, .int .u64 d.n3, .int .i64 d.s]
/-- A value. -/
structure Vl where
  k : Int
  d : Dc
  f : Bool
  t : ByteArray
  e : Int
def Vl.cells (v : Vl) : List Value := .int .i64 v.k :: (v.d.cells ++ [.bool v.f, .string v.t, .int .i64 v.e])
/-- An expression. -/
structure Ex where
  k : Int
  op : Int
  nm : ByteArray
  se : ByteArray
  v : Vl
  sc : Int
  po : Int
  pa : Option Addr
  cap : Nat
  args : List Ex
def Ex.cells (x : Ex) : List Value := [.int .i64 x.k, .int .i64 x.op, .string x.nm, .string x.se, .int .i64 x.v.k, .bool x.v.d.b, .int .u64 x.v.d.n0, .int .u64 x.v.d.n1, .int .u64 x.v.d.n2, .int .u64 x.v.d.n3, .int .i64 x.v.d.s, .bool x.v.f, .string x.v.t, .int .i64 x.v.e, .int .i64 x.sc, .int .i64 x.po, .slice x.pa x.args.length x.cap]
theorem Ex.len (e : Ex) : e.cells.length = 17 := rfl
theorem Ex.ind {M : Ex → Prop} (h : ∀ k op nm se v sc po pa cap args, (∀ o ∈ args, M o) → M (.mk k op nm se v sc po pa cap args)) : ∀ e, M e
  | .mk k op nm se v sc po pa cap args => h k op nm se v sc po pa cap args (fun o _ho => Ex.ind h o)
/-- A slice's elements lie there. -/
def SL (W : World) (n : Nat) {α : Type} (cells : α → List Value) (pa : Option Addr) (L : List α) : Prop := L.length ≤ maxLen ∧ ∀ i o, L[i]? = some o → ∃ b off, pa = some ⟨b, off, none⟩ ∧ b < W.heap.size ∧ W.rangeAt b (off + i * n) (cells o)
/-- All that an expression leads to lies there. -/
def LEx (W : World) : Ex → Prop
  | .mk _ _ nm se _ _ _ pa _ args => nm.size ≤ maxLen ∧ se.size ≤ maxLen ∧ SL W 17 Ex.cells pa args ∧ ∀ o ∈ args, LEx W o
theorem LEx.inv {W : World} : ∀ {x : Ex}, LEx W x → x.nm.size ≤ maxLen ∧ x.se.size ≤ maxLen ∧ SL W 17 Ex.cells x.pa x.args ∧ ∀ o ∈ x.args, LEx W o
  | .mk _ _ _ _ _ _ _ _ _ _, h => by rw [LEx] at h; exact h
theorem LEx.mk {W : World} : ∀ {x : Ex}, x.nm.size ≤ maxLen → x.se.size ≤ maxLen → SL W 17 Ex.cells x.pa x.args → (∀ o ∈ x.args, LEx W o) → LEx W x
  | .mk _ _ _ _ _ _ _ _ _ _, h1, h2, h3, h4 => by rw [LEx]; exact ⟨h1, h2, h3, h4⟩
theorem LEx.nm {W : World} {x : Ex} (h : LEx W x) : x.nm.size ≤ maxLen := h.inv.1
theorem LEx.se {W : World} {x : Ex} (h : LEx W x) : x.se.size ≤ maxLen := h.inv.2.1
theorem LEx.sl {W : World} {x : Ex} (h : LEx W x) : SL W 17 Ex.cells x.pa x.args := h.inv.2.2.1
theorem LEx.ar {W : World} {x : Ex} (h : LEx W x) : ∀ o ∈ x.args, LEx W o := h.inv.2.2.2
/-- An item. -/
structure It where
  nm : ByteArray
  k : Int
  tk : Int
  ts : Int
  nd : Bool
  po : Int
  ex : Ex
def It.cells (i : It) : List Value := .string i.nm :: .int .i64 i.k :: .int .i64 i.tk :: .int .i64 i.ts :: .bool i.nd :: .int .i64 i.po :: i.ex.cells
/-- A section. -/
structure Se where
  nm : ByteArray
  mx : Int
  pi : Option Addr
  ci : Nat
  items : List It
  pk : Option Addr
  ck : Nat
  kids : List Se
def Se.cells (x : Se) : List Value := [.string x.nm, .int .i64 x.mx, .slice x.pi x.items.length x.ci, .slice x.pk x.kids.length x.ck]
theorem Se.len (e : Se) : e.cells.length = 4 := rfl
theorem Se.ind {M : Se → Prop} (h : ∀ nm mx pi ci items pk ck kids, (∀ o ∈ kids, M o) → M (.mk nm mx pi ci items pk ck kids)) : ∀ e, M e
  | .mk nm mx pi ci items pk ck kids => h nm mx pi ci items pk ck kids (fun o _ho => Se.ind h o)
def LSe (W : World) : Se → Prop
  | .mk _ _ pi _ items pk _ kids => SL W 23 It.cells pi items ∧ (∀ o ∈ items, LEx W o.ex) ∧ SL W 4 Se.cells pk kids ∧ ∀ o ∈ kids, LSe W o
theorem LSe.inv {W : World} : ∀ {x : Se}, LSe W x → SL W 23 It.cells x.pi x.items ∧ (∀ o ∈ x.items, LEx W o.ex) ∧ SL W 4 Se.cells x.pk x.kids ∧ ∀ o ∈ x.kids, LSe W o
  | .mk _ _ _ _ _ _ _ _, h => by rw [LSe] at h; exact h
theorem LSe.mk {W : World} : ∀ {x : Se}, SL W 23 It.cells x.pi x.items → (∀ o ∈ x.items, LEx W o.ex) → SL W 4 Se.cells x.pk x.kids → (∀ o ∈ x.kids, LSe W o) → LSe W x
  | .mk _ _ _ _ _ _ _ _, h1, h2, h3, h4 => by rw [LSe]; exact ⟨h1, h2, h3, h4⟩
theorem LSe.it {W : World} {x : Se} (h : LSe W x) : SL W 23 It.cells x.pi x.items := h.inv.1
theorem LSe.ex {W : World} {x : Se} (h : LSe W x) : ∀ o ∈ x.items, LEx W o.ex := h.inv.2.1
theorem LSe.kd {W : World} {x : Se} (h : LSe W x) : SL W 4 Se.cells x.pk x.kids := h.inv.2.2.1
theorem LSe.kr {W : World} {x : Se} (h : LSe W x) : ∀ o ∈ x.kids, LSe W o := h.inv.2.2.2
/-- A step. -/
structure Sp3 where
  a : Dc
  b : Dc
  c : Dc
def Sp3.cells (s : Sp3) : List Value := s.a.cells ++ (s.b.cells ++ s.c.cells)
/-- A table. -/
structure Tb where
  nm : ByteArray
  pa : Option Addr
  cap : Nat
  st : List Sp3
def Tb.cells (x : Tb) : List Value := [.string x.nm, .slice x.pa x.st.length x.cap]
/-- A page. -/
structure Pg where
  nm : ByteArray
  wh : Ex
  pa : Option Addr
  cap : Nat
  its : List ByteArray
def Pg.cells (x : Pg) : List Value := .string x.nm :: (x.wh.cells ++ [.slice x.pa x.its.length x.cap])
/-- A definition. -/
structure Df where
  nm : ByteArray
  rt : Se
  pt : Option Addr
  ct : Nat
  tb : List Tb
  pp : Option Addr
  cp : Nat
  pg : List Pg
def Df.cells (x : Df) : List Value := .string x.nm :: (x.rt.cells ++ [.slice x.pt x.tb.length x.ct, .slice x.pp x.pg.length x.cp])
/-- A section by its number. -/
structure S5 where
  pr : Int
  dp : Int
  nm : ByteArray
  mx : Int
  pi : Option Addr
  ci : Nat
  items : List It
def S5.cells (x : S5) : List Value := [.int .i64 x.pr, .int .i64 x.dp, .string x.nm, .int .i64 x.mx, .slice x.pi x.items.length x.ci]
structure LS5 (W : World) (x : S5) : Prop where
  it : SL W 23 It.cells x.pi x.items
  ex : ∀ o ∈ x.items, LEx W o.ex
structure LDf (W : World) (x : Df) : Prop where
  rt : LSe W x.rt
  tb : SL W 2 Tb.cells x.pt x.tb
  st : ∀ o ∈ x.tb, SL W 18 Sp3.cells o.pa o.st
  pg : SL W 19 Pg.cells x.pp x.pg
  wh : ∀ o ∈ x.pg, LEx W o.wh
  it : ∀ o ∈ x.pg, SL W 1 (fun s => [Value.string s]) o.pa o.its
  iz : ∀ o ∈ x.pg, ∀ s ∈ o.its, s.size ≤ maxLen
section
variable {H : Type} {enc : TypeId × Value → H} {W : World} {sp : Nat → Bool}
/-- A slice that came in, of elements that are read with less fuel. -/
theorem cut_sl {fuel : Nat} {x : DataW H × List MemPlace} {t e : TypeId} (hu : Try.prog.underlying t = some (.slice e)) {n : Nat} (hn : 0 < n) (hcl : Try.prog.cellsOf e = n) {α : Type} (cells : α → List Value) (dflt : α) (ok : α → Prop) (hlen : ∀ y, (cells y).length = n)
    (hcut : ∀ {m : Nat} {cs : List Value} {y : DataW H × List MemPlace}, m < fuel → DataW.trod enc Try.prog W 0 sp true m e cs = some y → ∃ z, ok z ∧ cs = cells z) {v : Value} (h : DataW.trod enc Try.prog W 0 sp true fuel t [v] = some x) :
    ∃ (L : List α) (pa : Option Addr) (cap : Nat), v = .slice pa L.length cap ∧ (∀ o ∈ L, ok o) ∧ SL W n cells pa L ∧ L.length ≤ cap := by
  rcases DataW.trod_slice hu h with ⟨hcs, _⟩ | ⟨a, len, cap, elems, rest, k, rfl, hcs, _, _, hlc, hcm, hlen2, hel, _, _⟩
  · simp only [List.cons.injEq, and_true] at hcs
    subst hcs
    exact ⟨[], none, 0, rfl, fun _ e => (by cases e), ⟨Nat.zero_le _, (fun _ _ e => by cases e)⟩, Nat.le_refl _⟩
  · simp only [List.cons.injEq, and_true] at hcs
    subst hcs
    have first : ∀ o : α, ∃ u, (cells o)[0]? = some u := fun o => ⟨(cells o)[0]'(by rw [hlen]; exact hn), List.getElem?_eq_getElem _⟩
    have el : ∀ i, i < len → ∃ cs' y, W.cells? 0 (a.add (i * Try.prog.cellsOf e)) (Try.prog.cellsOf e) = some cs' ∧ DataW.trod enc Try.prog W 0 sp true k e cs' = some y := fun i hi => by
      have h1 := hel i hi
      rw [List.getElem?_eq_getElem (by omega)] at h1
      cases h2 : W.cells? 0 (a.add (i * Try.prog.cellsOf e)) (Try.prog.cellsOf e) with
      | none => rw [h2] at h1; cases h1
      | some cs' => rw [h2] at h1; exact ⟨cs', _, rfl, h1⟩
    have key : ∀ i : Nat, ∃ S : α, i < len → ok S ∧ ∃ b off, some a = some (⟨b, off, none⟩ : Addr) ∧ b < W.heap.size ∧ W.rangeAt b (off + i * n) (cells S) := by
      intro i
      by_cases hi : i < len
      · obtain ⟨cs', y, hc, ht⟩ := el i hi
        obtain ⟨o, ho, rfl⟩ := hcut (Nat.lt_succ_self k) ht
        refine ⟨o, fun _ => ⟨ho, ?_⟩⟩
        rw [hcl] at hc
        have hb := World.cells?_block hc hn
        obtain ⟨_, _, hcell⟩ := World.cells?_some hc
        obtain ⟨b, off, spot⟩ := a
        have hs : spot = none := by
          obtain ⟨cs0, y0, hc0, ht0⟩ := el 0 (by omega)
          obtain ⟨o0, _, rfl⟩ := hcut (Nat.lt_succ_self k) ht0
          rw [hcl] at hc0
          have h0 := (World.cells?_some hc0).2.2 0 hn
          obtain ⟨u, hu0⟩ := first o0
          rw [hu0] at h0
          have := World.cell?_spot (show W.cell? (((⟨b, off, spot⟩ : Addr).add (0 * n)).add 0) = some u from h0)
          simpa [Addr.add] using this
        subst hs
        refine ⟨b, off, rfl, by simpa [Addr.add_mid] using hb, fun j v hv => ?_⟩
        have hj : j < n := by rw [← hlen o]; exact (List.getElem?_eq_some_iff.1 hv).1
        have := hcell j hj
        rw [Addr.add_mid, Addr.add_mid, hv] at this
        exact this
      · exact ⟨dflt, fun e => absurd e hi⟩
    obtain ⟨f, hf2⟩ := Classical.skolem.1 key
    refine ⟨(List.range len).map f, some a, cap, by simp, fun o ho => ?_, ⟨by simpa using Nat.le_trans hlc hcm, fun i o e => ?_⟩, by simpa using hlc⟩
    · obtain ⟨i, hi, rfl⟩ := List.mem_map.1 ho
      exact (hf2 i (by simpa using hi)).1
    · have hi : i < len := by have := (List.getElem?_eq_some_iff.1 e).1; simpa using this
      rw [List.getElem?_map, List.getElem?_range hi] at e
      cases e
      exact (hf2 i hi).2
set_option maxRecDepth 100000 in
theorem cut_arr {fuel : Nat} {cs : List Value} {x : DataW H × List MemPlace} (h : DataW.trod enc Try.prog W 0 sp true fuel 57 cs = some x) : ∃ n0 n1 n2 n3 : Int, cs = [.int .u64 n0, .int .u64 n1, .int .u64 n2, .int .u64 n3] := by
  obtain ⟨xs, m, rfl, _, hlen, hn, hi⟩ := DataW.trod_array Try.underlying57 h
  rw [cl_arr4] at hlen
  obtain ⟨c0, c1, c2, c3, rfl⟩ : ∃ c0 c1 c2 c3, cs = [c0, c1, c2, c3] := by
    match cs, hlen with
    | [a, b, c, d], _ => exact ⟨a, b, c, d, rfl⟩
  obtain ⟨y0, y1, y2, y3, rfl⟩ : ∃ y0 y1 y2 y3, xs = [y0, y1, y2, y3] := by
    match xs, hn with
    | [a, b, c, d], _ => exact ⟨a, b, c, d, rfl⟩
  have i0 := hi 0 (by decide)
  have i1 := hi 1 (by decide)
  have i2 := hi 2 (by decide)
  have i3 := hi 3 (by decide)
  simp only [cl_u64] at i0 i1 i2 i3
  simp at i0 i1 i2 i3
  obtain ⟨x0, e0, _, _⟩ := DataW.trod_int Try.underlying55 i0
  obtain ⟨x1, e1, _, _⟩ := DataW.trod_int Try.underlying55 i1
  obtain ⟨x2, e2, _, _⟩ := DataW.trod_int Try.underlying55 i2
  obtain ⟨x3, e3, _, _⟩ := DataW.trod_int Try.underlying55 i3
  simp at e0 e1 e2 e3
  subst e0 e1 e2 e3
  exact ⟨x0, x1, x2, x3, rfl⟩
set_option maxRecDepth 100000 in
theorem cut_dec {fuel : Nat} {cs : List Value} {x : DataW H × List MemPlace} (h : DataW.trod enc Try.prog W 0 sp true fuel 59 cs = some x) : ∃ d : Dc, cs = d.cells := by
  obtain ⟨xs, m, rfl, _, hl, hlen, hi⟩ := DataW.trod_struct Try.underlying59 h
  rw [cl_Dec] at hl
  obtain ⟨c0, c1, c2, c3, c4, c5, rfl⟩ : ∃ c0 c1 c2 c3 c4 c5, cs = [c0, c1, c2, c3, c4, c5] := by
    match cs, hl with
    | [a0, a1, a2, a3, a4, a5], _ => exact ⟨a0, a1, a2, a3, a4, a5, rfl⟩
  obtain ⟨y0, y1, y2, rfl⟩ : ∃ y0 y1 y2, xs = [y0, y1, y2] := by
    match xs, hlen with
    | [a0, a1, a2], _ => exact ⟨a0, a1, a2, rfl⟩
  have i0 := hi 0 _ rfl
  have i1 := hi 1 _ rfl
  have i2 := hi 2 _ rfl
  simp [cl_bool, cl_arr4, cl_int] at i0 i1 i2
  obtain ⟨b, e0, _⟩ := DataW.trod_bool Try.underlying4 i0
  obtain ⟨n0, n1, n2, n3, e1⟩ := cut_arr i1
  obtain ⟨s, e2, _, _⟩ := DataW.trod_int Try.underlying3 i2
  simp at e0 e1 e2
  obtain ⟨e10, e11, e12, e13⟩ := e1
  subst e0 e10 e11 e12 e13 e2
  exact ⟨⟨b, n0, n1, n2, n3, s⟩, rfl⟩
set_option maxRecDepth 100000 in
theorem cut_val {fuel : Nat} {cs : List Value} {x : DataW H × List MemPlace} (h : DataW.trod enc Try.prog W 0 sp true fuel 61 cs = some x) : ∃ v : Vl, cs = v.cells := by
  obtain ⟨xs, m, rfl, _, hl, hlen, hi⟩ := DataW.trod_struct Try.underlying61 h
  rw [cl_Value] at hl
  obtain ⟨c0, c1, c2, c3, c4, c5, c6, c7, c8, c9, rfl⟩ : ∃ c0 c1 c2 c3 c4 c5 c6 c7 c8 c9, cs = [c0, c1, c2, c3, c4, c5, c6, c7, c8, c9] := by
    match cs, hl with
    | [a0, a1, a2, a3, a4, a5, a6, a7, a8, a9], _ => exact ⟨a0, a1, a2, a3, a4, a5, a6, a7, a8, a9, rfl⟩
  obtain ⟨y0, y1, y2, y3, y4, rfl⟩ : ∃ y0 y1 y2 y3 y4, xs = [y0, y1, y2, y3, y4] := by
    match xs, hlen with
    | [a0, a1, a2, a3, a4], _ => exact ⟨a0, a1, a2, a3, a4, rfl⟩
  have i0 := hi 0 _ rfl
  have i1 := hi 1 _ rfl
  have i2 := hi 2 _ rfl
  have i3 := hi 3 _ rfl
  have i4 := hi 4 _ rfl
  simp [cl_int, cl_Dec, cl_bool, cl_string] at i0 i1 i2 i3 i4
  obtain ⟨K, e0, _, _⟩ := DataW.trod_int Try.underlying3 i0
  obtain ⟨d, e1⟩ := cut_dec i1
  obtain ⟨fl, e2, _⟩ := DataW.trod_bool Try.underlying4 i2
  obtain ⟨tx, e3, _⟩ := DataW.trod_string Try.underlying9 i3
  obtain ⟨er, e4, _, _⟩ := DataW.trod_int Try.underlying3 i4
  simp only [Dc.cells] at e1
  simp at e0 e1 e2 e3 e4
  obtain ⟨e10, e11, e12, e13, e14, e15⟩ := e1
  subst e0 e10 e11 e12 e13 e14 e15 e2 e3 e4
  exact ⟨⟨K, d, fl, tx, er⟩, rfl⟩
set_option maxRecDepth 100000 in
theorem cut_ex : ∀ (fuel : Nat) {cs : List Value} {x : DataW H × List MemPlace}, DataW.trod enc Try.prog W 0 sp true fuel 64 cs = some x → ∃ e : Ex, LEx W e ∧ cs = e.cells := by
  intro fuel
  induction fuel using Nat.strongRecOn with
  | ind fuel ih =>
    intro cs x h
    obtain ⟨xs, m, rfl, _, hl, hlen, hi⟩ := DataW.trod_struct Try.underlying64 h
    rw [cl_Expr] at hl
    obtain ⟨c0, c1, c2, c3, c4, c5, c6, c7, c8, c9, c10, c11, c12, c13, c14, c15, c16, rfl⟩ : ∃ c0 c1 c2 c3 c4 c5 c6 c7 c8 c9 c10 c11 c12 c13 c14 c15 c16, cs = [c0, c1, c2, c3, c4, c5, c6, c7, c8, c9, c10, c11, c12, c13, c14, c15, c16] := by
      match cs, hl with
      | [a0, a1, a2, a3, a4, a5, a6, a7, a8, a9, a10, a11, a12, a13, a14, a15, a16], _ => exact ⟨a0, a1, a2, a3, a4, a5, a6, a7, a8, a9, a10, a11, a12, a13, a14, a15, a16, rfl⟩
    obtain ⟨y0, y1, y2, y3, y4, y5, y6, y7, rfl⟩ : ∃ y0 y1 y2 y3 y4 y5 y6 y7, xs = [y0, y1, y2, y3, y4, y5, y6, y7] := by
      match xs, hlen with
      | [a0, a1, a2, a3, a4, a5, a6, a7], _ => exact ⟨a0, a1, a2, a3, a4, a5, a6, a7, rfl⟩
    have i0 := hi 0 _ rfl
    have i1 := hi 1 _ rfl
    have i2 := hi 2 _ rfl
    have i3 := hi 3 _ rfl
    have i4 := hi 4 _ rfl
    have i5 := hi 5 _ rfl
    have i6 := hi 6 _ rfl
    have i7 := hi 7 _ rfl
    simp [cl_int, cl_string, cl_Value, cl_SExpr] at i0 i1 i2 i3 i4 i5 i6 i7
    obtain ⟨k, e0, _, _⟩ := DataW.trod_int Try.underlying3 i0
    obtain ⟨op, e1, _, _⟩ := DataW.trod_int Try.underlying3 i1
    obtain ⟨nm, e2, _, zn⟩ := DataW.trod_string Try.underlying9 i2
    obtain ⟨se, e3, _, ze⟩ := DataW.trod_string Try.underlying9 i3
    obtain ⟨v, e4⟩ := cut_val i4
    obtain ⟨sc, e5, _, _⟩ := DataW.trod_int Try.underlying3 i5
    obtain ⟨po, e6, _, _⟩ := DataW.trod_int Try.underlying3 i6
    obtain ⟨A, pa, cap, e7, hL, hS, _⟩ := cut_sl Try.underlying62 (n := 17) (by decide) cl_Expr Ex.cells (.mk 0 0 ⟨#[]⟩ ⟨#[]⟩ ⟨0, ⟨false, 0, 0, 0, 0, 0⟩, false, ⟨#[]⟩, 0⟩ 0 0 none 0 []) (LEx W) Ex.len (fun hm h => ih _ (by omega) h) i7
    simp only [Vl.cells, Dc.cells] at e4
    simp at e0 e1 e2 e3 e4 e5 e6
    obtain ⟨f0, f1, f2, f3, f4, f5, f6, f7, f8, f9⟩ := e4
    subst e0 e1 e2 e3 f0 f1 f2 f3 f4 f5 f6 f7 f8 f9 e5 e6 e7
    exact ⟨.mk k op nm se v sc po pa cap A, .mk zn ze hS hL, rfl⟩
set_option maxRecDepth 100000 in
theorem cut_type {fuel : Nat} {cs : List Value} {x : DataW H × List MemPlace} (h : DataW.trod enc Try.prog W 0 sp true fuel 54 cs = some x) : ∃ k s : Int, cs = [.int .i64 k, .int .i64 s] := by
  obtain ⟨xs, m, rfl, _, hl, hlen, hi⟩ := DataW.trod_struct Try.underlying54 h
  rw [cl_Type] at hl
  obtain ⟨c0, c1, rfl⟩ : ∃ c0 c1, cs = [c0, c1] := by
    match cs, hl with
    | [a0, a1], _ => exact ⟨a0, a1, rfl⟩
  obtain ⟨y0, y1, rfl⟩ : ∃ y0 y1, xs = [y0, y1] := by
    match xs, hlen with
    | [a0, a1], _ => exact ⟨a0, a1, rfl⟩
  have i0 := hi 0 _ rfl
  have i1 := hi 1 _ rfl
  simp [cl_int] at i0 i1
  obtain ⟨k, e0, _, _⟩ := DataW.trod_int Try.underlying3 i0
  obtain ⟨s, e1, _, _⟩ := DataW.trod_int Try.underlying3 i1
  simp at e0 e1
  subst e0 e1
  exact ⟨k, s, rfl⟩
set_option maxRecDepth 100000 in
theorem cut_item {fuel : Nat} {cs : List Value} {x : DataW H × List MemPlace} (h : DataW.trod enc Try.prog W 0 sp true fuel 66 cs = some x) : ∃ i : It, LEx W i.ex ∧ cs = i.cells := by
  obtain ⟨xs, m, rfl, _, hl, hlen, hi⟩ := DataW.trod_struct Try.underlying66 h
  rw [cl_Item] at hl
  obtain ⟨c0, c1, c2, c3, c4, c5, c6, c7, c8, c9, c10, c11, c12, c13, c14, c15, c16, c17, c18, c19, c20, c21, c22, rfl⟩ : ∃ c0 c1 c2 c3 c4 c5 c6 c7 c8 c9 c10 c11 c12 c13 c14 c15 c16 c17 c18 c19 c20 c21 c22, cs = [c0, c1, c2, c3, c4, c5, c6, c7, c8, c9, c10, c11, c12, c13, c14, c15, c16, c17, c18, c19, c20, c21, c22] := by
    match cs, hl with
    | [a0, a1, a2, a3, a4, a5, a6, a7, a8, a9, a10, a11, a12, a13, a14, a15, a16, a17, a18, a19, a20, a21, a22], _ => exact ⟨a0, a1, a2, a3, a4, a5, a6, a7, a8, a9, a10, a11, a12, a13, a14, a15, a16, a17, a18, a19, a20, a21, a22, rfl⟩
  obtain ⟨y0, y1, y2, y3, y4, y5, rfl⟩ : ∃ y0 y1 y2 y3 y4 y5, xs = [y0, y1, y2, y3, y4, y5] := by
    match xs, hlen with
    | [a0, a1, a2, a3, a4, a5], _ => exact ⟨a0, a1, a2, a3, a4, a5, rfl⟩
  have i0 := hi 0 _ rfl
  have i1 := hi 1 _ rfl
  have i2 := hi 2 _ rfl
  have i3 := hi 3 _ rfl
  have i4 := hi 4 _ rfl
  have i5 := hi 5 _ rfl
  simp [cl_string, cl_int, cl_Type, cl_bool, cl_Expr] at i0 i1 i2 i3 i4 i5
  obtain ⟨nm, e0, _⟩ := DataW.trod_string Try.underlying9 i0
  obtain ⟨k, e1, _, _⟩ := DataW.trod_int Try.underlying3 i1
  obtain ⟨tk, ts, e2⟩ := cut_type i2
  obtain ⟨nd, e3, _⟩ := DataW.trod_bool Try.underlying4 i3
  obtain ⟨po, e4, _, _⟩ := DataW.trod_int Try.underlying3 i4
  obtain ⟨ex, hx, e5⟩ := cut_ex _ i5
  simp at e0 e1 e2 e3 e4
  obtain ⟨e20, e21⟩ := e2
  subst e0 e1 e20 e21 e3 e4
  exact ⟨⟨nm, k, tk, ts, nd, po, ex⟩, hx, by show _ :: _ :: _ :: _ :: _ :: _ :: _ = _; rw [e5]; rfl⟩
theorem It.len (i : It) : i.cells.length = 23 := rfl
set_option maxRecDepth 100000 in
theorem cut_se : ∀ (fuel : Nat) {cs : List Value} {x : DataW H × List MemPlace}, DataW.trod enc Try.prog W 0 sp true fuel 25 cs = some x → ∃ e : Se, LSe W e ∧ cs = e.cells := by
  intro fuel
  induction fuel using Nat.strongRecOn with
  | ind fuel ih =>
    intro cs x h
    obtain ⟨xs, m, rfl, _, hl, hlen, hi⟩ := DataW.trod_struct Try.underlying25 h
    rw [cl_Section] at hl
    obtain ⟨c0, c1, c2, c3, rfl⟩ : ∃ c0 c1 c2 c3, cs = [c0, c1, c2, c3] := by
      match cs, hl with
      | [a0, a1, a2, a3], _ => exact ⟨a0, a1, a2, a3, rfl⟩
    obtain ⟨y0, y1, y2, y3, rfl⟩ : ∃ y0 y1 y2 y3, xs = [y0, y1, y2, y3] := by
      match xs, hlen with
      | [a0, a1, a2, a3], _ => exact ⟨a0, a1, a2, a3, rfl⟩
    have i0 := hi 0 _ rfl
    have i1 := hi 1 _ rfl
    have i2 := hi 2 _ rfl
    have i3 := hi 3 _ rfl
    simp [cl_string, cl_int, cl_SItem, cl_SSection] at i0 i1 i2 i3
    obtain ⟨nm, e0, _⟩ := DataW.trod_string Try.underlying9 i0
    obtain ⟨mx, e1, _, _⟩ := DataW.trod_int Try.underlying3 i1
    obtain ⟨A, pa, ca, e2, hA, hSA, _⟩ := cut_sl Try.underlying22 (n := 23) (by decide) cl_Item It.cells ⟨⟨#[]⟩, 0, 0, 0, false, 0, (.mk 0 0 ⟨#[]⟩ ⟨#[]⟩ ⟨0, ⟨false, 0, 0, 0, 0, 0⟩, false, ⟨#[]⟩, 0⟩ 0 0 none 0 [])⟩ (fun o => LEx W o.ex) It.len (fun _ h => cut_item h) i2
    obtain ⟨B, pb, cb, e3, hB, hSB, _⟩ := cut_sl Try.underlying23 (n := 4) (by decide) cl_Section Se.cells (.mk ⟨#[]⟩ 0 none 0 [] none 0 []) (LSe W) Se.len (fun hm h => ih _ (by omega) h) i3
    simp at e0 e1
    subst e0 e1 e2 e3
    exact ⟨.mk nm mx pa ca A pb cb B, .mk hSA hA hSB hB, rfl⟩
set_option maxRecDepth 100000 in
theorem cut_step {fuel : Nat} {cs : List Value} {x : DataW H × List MemPlace} (h : DataW.trod enc Try.prog W 0 sp true fuel 130 cs = some x) : ∃ s : Sp3, cs = s.cells := by
  obtain ⟨xs, m, rfl, _, hl, hlen, hi⟩ := DataW.trod_struct Try.underlying130 h
  rw [cl_Step] at hl
  obtain ⟨c0, c1, c2, c3, c4, c5, c6, c7, c8, c9, c10, c11, c12, c13, c14, c15, c16, c17, rfl⟩ : ∃ c0 c1 c2 c3 c4 c5 c6 c7 c8 c9 c10 c11 c12 c13 c14 c15 c16 c17, cs = [c0, c1, c2, c3, c4, c5, c6, c7, c8, c9, c10, c11, c12, c13, c14, c15, c16, c17] := by
    match cs, hl with
    | [a0, a1, a2, a3, a4, a5, a6, a7, a8, a9, a10, a11, a12, a13, a14, a15, a16, a17], _ => exact ⟨a0, a1, a2, a3, a4, a5, a6, a7, a8, a9, a10, a11, a12, a13, a14, a15, a16, a17, rfl⟩
  obtain ⟨y0, y1, y2, rfl⟩ : ∃ y0 y1 y2, xs = [y0, y1, y2] := by
    match xs, hlen with
    | [a0, a1, a2], _ => exact ⟨a0, a1, a2, rfl⟩
  have i0 := hi 0 _ rfl
  have i1 := hi 1 _ rfl
  have i2 := hi 2 _ rfl
  simp [cl_Dec] at i0 i1 i2
  obtain ⟨a, e0⟩ := cut_dec i0
  obtain ⟨b, e1⟩ := cut_dec i1
  obtain ⟨c, e2⟩ := cut_dec i2
  simp only [Dc.cells] at e0 e1 e2
  simp at e0 e1 e2
  obtain ⟨f0, f1, f2, f3, f4, f5⟩ := e0
  obtain ⟨g0, g1, g2, g3, g4, g5⟩ := e1
  obtain ⟨k0, k1, k2, k3, k4, k5⟩ := e2
  subst f0 f1 f2 f3 f4 f5 g0 g1 g2 g3 g4 g5 k0 k1 k2 k3 k4 k5
  exact ⟨⟨a, b, c⟩, rfl⟩
set_option maxRecDepth 100000 in
theorem cut_tab {fuel : Nat} {cs : List Value} {x : DataW H × List MemPlace} (h : DataW.trod enc Try.prog W 0 sp true fuel 85 cs = some x) : ∃ b : Tb, SL W 18 Sp3.cells b.pa b.st ∧ cs = b.cells := by
  obtain ⟨xs, m, rfl, _, hl, hlen, hi⟩ := DataW.trod_struct Try.underlying85 h
  rw [cl_Table] at hl
  obtain ⟨c0, c1, rfl⟩ : ∃ c0 c1, cs = [c0, c1] := by
    match cs, hl with
    | [a0, a1], _ => exact ⟨a0, a1, rfl⟩
  obtain ⟨y0, y1, rfl⟩ : ∃ y0 y1, xs = [y0, y1] := by
    match xs, hlen with
    | [a0, a1], _ => exact ⟨a0, a1, rfl⟩
  have i0 := hi 0 _ rfl
  have i1 := hi 1 _ rfl
  simp [cl_string, cl_SStep] at i0 i1
  obtain ⟨nm, e0, _⟩ := DataW.trod_string Try.underlying9 i0
  obtain ⟨A, pa, ca, e1, _, hSA, _⟩ := cut_sl Try.underlying83 (n := 18) (by decide) cl_Step Sp3.cells ⟨⟨false, 0, 0, 0, 0, 0⟩, ⟨false, 0, 0, 0, 0, 0⟩, ⟨false, 0, 0, 0, 0, 0⟩⟩ (fun _ => True) (fun _ => rfl) (fun _ h => (cut_step h).imp fun _ h => ⟨trivial, h⟩) i1
  simp at e0
  subst e0 e1
  exact ⟨⟨nm, pa, ca, A⟩, hSA, rfl⟩
set_option maxRecDepth 100000 in
theorem cut_page {fuel : Nat} {cs : List Value} {x : DataW H × List MemPlace} (h : DataW.trod enc Try.prog W 0 sp true fuel 90 cs = some x) : ∃ b : Pg, (LEx W b.wh ∧ SL W 1 (fun s => [Value.string s]) b.pa b.its ∧ ∀ s ∈ b.its, s.size ≤ maxLen) ∧ cs = b.cells := by
  obtain ⟨xs, m, rfl, _, hl, hlen, hi⟩ := DataW.trod_struct Try.underlying90 h
  rw [cl_Page] at hl
  obtain ⟨c0, c1, c2, c3, c4, c5, c6, c7, c8, c9, c10, c11, c12, c13, c14, c15, c16, c17, c18, rfl⟩ : ∃ c0 c1 c2 c3 c4 c5 c6 c7 c8 c9 c10 c11 c12 c13 c14 c15 c16 c17 c18, cs = [c0, c1, c2, c3, c4, c5, c6, c7, c8, c9, c10, c11, c12, c13, c14, c15, c16, c17, c18] := by
    match cs, hl with
    | [a0, a1, a2, a3, a4, a5, a6, a7, a8, a9, a10, a11, a12, a13, a14, a15, a16, a17, a18], _ => exact ⟨a0, a1, a2, a3, a4, a5, a6, a7, a8, a9, a10, a11, a12, a13, a14, a15, a16, a17, a18, rfl⟩
  obtain ⟨y0, y1, y2, rfl⟩ : ∃ y0 y1 y2, xs = [y0, y1, y2] := by
    match xs, hlen with
    | [a0, a1, a2], _ => exact ⟨a0, a1, a2, rfl⟩
  have i0 := hi 0 _ rfl
  have i1 := hi 1 _ rfl
  have i2 := hi 2 _ rfl
  simp [cl_string, cl_Expr, cl_SString] at i0 i1 i2
  obtain ⟨nm, e0, _⟩ := DataW.trod_string Try.underlying9 i0
  obtain ⟨wh, hw, e1⟩ := cut_ex _ i1
  obtain ⟨A, pa, ca, e2, hz, hSA, _⟩ := cut_sl Try.underlying45 (n := 1) (by decide) cl_string (fun s => [Value.string s]) ⟨#[]⟩ (fun s => s.size ≤ maxLen) (fun _ => rfl) (fun _ h => by obtain ⟨s, e, _, z⟩ := DataW.trod_string Try.underlying9 h; exact ⟨s, z, e⟩) i2
  simp at e0
  subst e0 e2
  refine ⟨⟨nm, wh, pa, ca, A⟩, ⟨hw, hSA, hz⟩, ?_⟩
  show _ :: _ = Value.string nm :: (wh.cells ++ [_])
  rw [← e1]; rfl
theorem Pg.len (i : Pg) : i.cells.length = 19 := rfl
set_option maxRecDepth 100000 in
theorem cut_def {fuel : Nat} {cs : List Value} {x : DataW H × List MemPlace} (h : DataW.trod enc Try.prog W 0 sp true fuel 29 cs = some x) : ∃ d : Df, LDf W d ∧ cs = d.cells := by
  obtain ⟨xs, m, rfl, _, hl, hlen, hi⟩ := DataW.trod_struct Try.underlying29 h
  rw [cl_Def] at hl
  obtain ⟨c0, c1, c2, c3, c4, c5, c6, rfl⟩ : ∃ c0 c1 c2 c3 c4 c5 c6, cs = [c0, c1, c2, c3, c4, c5, c6] := by
    match cs, hl with
    | [a0, a1, a2, a3, a4, a5, a6], _ => exact ⟨a0, a1, a2, a3, a4, a5, a6, rfl⟩
  obtain ⟨y0, y1, y2, y3, rfl⟩ : ∃ y0 y1 y2 y3, xs = [y0, y1, y2, y3] := by
    match xs, hlen with
    | [a0, a1, a2, a3], _ => exact ⟨a0, a1, a2, a3, rfl⟩
  have i0 := hi 0 _ rfl
  have i1 := hi 1 _ rfl
  have i2 := hi 2 _ rfl
  have i3 := hi 3 _ rfl
  simp [cl_string, cl_Section, cl_STable, cl_SPage] at i0 i1 i2 i3
  obtain ⟨nm, e0, _⟩ := DataW.trod_string Try.underlying9 i0
  obtain ⟨rt, hr, e1⟩ := cut_se _ i1
  obtain ⟨A, pa, ca, e2, hA, hSA, _⟩ := cut_sl Try.underlying26 (n := 2) (by decide) cl_Table Tb.cells ⟨⟨#[]⟩, none, 0, []⟩ (fun o => SL W 18 Sp3.cells o.pa o.st) (fun _ => rfl) (fun _ h => cut_tab h) i2
  obtain ⟨B, pb, cb, e3, hB, hSB, _⟩ := cut_sl Try.underlying27 (n := 19) (by decide) cl_Page Pg.cells ⟨⟨#[]⟩, (.mk 0 0 ⟨#[]⟩ ⟨#[]⟩ ⟨0, ⟨false, 0, 0, 0, 0, 0⟩, false, ⟨#[]⟩, 0⟩ 0 0 none 0 []), none, 0, []⟩ (fun o => LEx W o.wh ∧ SL W 1 (fun s => [Value.string s]) o.pa o.its ∧ ∀ s ∈ o.its, s.size ≤ maxLen) Pg.len (fun _ h => cut_page h) i3
  simp at e0
  subst e0 e2 e3
  refine ⟨⟨nm, rt, pa, ca, A, pb, cb, B⟩, ⟨hr, hSA, hA, hSB, fun o ho => (hB o ho).1, fun o ho => (hB o ho).2.1, fun o ho => (hB o ho).2.2⟩, ?_⟩
  show _ :: _ = Value.string nm :: (rt.cells ++ [_, _])
  rw [← e1]; rfl
set_option maxRecDepth 100000 in
theorem cut_sect {fuel : Nat} {cs : List Value} {x : DataW H × List MemPlace} (h : DataW.trod enc Try.prog W 0 sp true fuel 52 cs = some x) : ∃ d : S5, LS5 W d ∧ cs = d.cells := by
  obtain ⟨xs, m, rfl, _, hl, hlen, hi⟩ := DataW.trod_struct Try.underlying52 h
  rw [cl_Sect] at hl
  obtain ⟨c0, c1, c2, c3, c4, rfl⟩ : ∃ c0 c1 c2 c3 c4, cs = [c0, c1, c2, c3, c4] := by
    match cs, hl with
    | [a0, a1, a2, a3, a4], _ => exact ⟨a0, a1, a2, a3, a4, rfl⟩
  obtain ⟨y0, y1, y2, y3, y4, rfl⟩ : ∃ y0 y1 y2 y3 y4, xs = [y0, y1, y2, y3, y4] := by
    match xs, hlen with
    | [a0, a1, a2, a3, a4], _ => exact ⟨a0, a1, a2, a3, a4, rfl⟩
  have i0 := hi 0 _ rfl
  have i1 := hi 1 _ rfl
  have i2 := hi 2 _ rfl
  have i3 := hi 3 _ rfl
  have i4 := hi 4 _ rfl
  simp [cl_int, cl_string, cl_SItem] at i0 i1 i2 i3 i4
  obtain ⟨pr, e0, _, _⟩ := DataW.trod_int Try.underlying3 i0
  obtain ⟨dp, e1, _, _⟩ := DataW.trod_int Try.underlying3 i1
  obtain ⟨nm, e2, _⟩ := DataW.trod_string Try.underlying9 i2
  obtain ⟨mx, e3, _, _⟩ := DataW.trod_int Try.underlying3 i3
  obtain ⟨A, pa, ca, e4, hA, hSA, _⟩ := cut_sl Try.underlying22 (n := 23) (by decide) cl_Item It.cells ⟨⟨#[]⟩, 0, 0, 0, false, 0, (.mk 0 0 ⟨#[]⟩ ⟨#[]⟩ ⟨0, ⟨false, 0, 0, 0, 0, 0⟩, false, ⟨#[]⟩, 0⟩ 0 0 none 0 [])⟩ (fun o => LEx W o.ex) It.len (fun _ h => cut_item h) i4
  simp at e0 e1 e2 e3
  subst e0 e1 e2 e3 e4
  exact ⟨⟨pr, dp, nm, mx, pa, ca, A⟩, ⟨hSA, hA⟩, rfl⟩
end
end D
end Go.Proofs.Ytbanldffohopiaa

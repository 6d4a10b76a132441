/-
  Expressions that came in: what they hold, that it lies there, and how many nodes their reading has.
-/
import Derived.Test.YtfmfeipeeedfpaaGreatMj
import Derived.Test.YtfmfeipeeedfpaaGreatRows
import Derived.ProofKit
import Derived.OpenShut
import Derived.ChangeArms
import Derived.Deep.Slices
import Derived.Deep.MidRow
import Derived.ReadAgain
import Derived.WideKeyArgs
import Derived.JoinedCond
import Derived.Carry
import Derived.ChangeMaps5
import Derived.SizedLaws
namespace Go.Proofs.YtfmfeipeeedfpaaGreat
open Go.ChangeShapes Go.WideShapes Go.ChangeAt Go.RowKit
open S (Lies)
namespace D
theorem cl_int : Tryz.prog.cellsOf 3 = 1 := by kernel_rfl
theorem cl_bool : Tryz.prog.cellsOf 4 = 1 := by kernel_rfl
theorem cl_string : Tryz.prog.cellsOf 9 = 1 := by kernel_rfl
theorem cl_u64 : Tryz.prog.cellsOf 22 = 1 := by kernel_rfl
theorem cl_arr4 : Tryz.prog.cellsOf 24 = 4 := by kernel_rfl
theorem cl_Dec : Tryz.prog.cellsOf 26 = 6 := by kernel_rfl
theorem cl_Value : Tryz.prog.cellsOf 28 = 10 := by kernel_rfl
theorem cl_SExpr : Tryz.prog.cellsOf 29 = 1 := by kernel_rfl
theorem cl_Expr : Tryz.prog.cellsOf 31 = 17 := by kernel_rfl
/-- A decimal's cells. -/
structure Dc where
  b : Bool
  n0 : Int
  n1 : Int
  n2 : Int
  n3 : Int
  s : Int
def Dc.cells (d : Dc) : List Value := [.bool d.b, .int .u64 d.n0, .int .u64 d.n1, .int .u64 d.n2, .int .u64 d.n3, .int .i64 d.s]
/-- A value. -/
structure Vl where
  k : Int
  d : Dc
  f : Bool
  t : ByteArray
  e : Int
def Vl.cells (v : Vl) : List Value := .int .i64 v.k :: (v.d.cells ++ [.bool v.f, .string v.t, .int .i64 v.e])
/-- A slice's elements lie there. -/
def SL (W : World) (n : Nat) {α : Type} (cells : α → List Value) (pa : Option Addr) (L : List α) : Prop := L.length ≤ maxLen ∧ ∀ i o, L[i]? = some o → ∃ b off, pa = some ⟨b, off, none⟩ ∧ b < W.heap.size ∧ W.rangeAt b (off + i * n) (cells o)
theorem Ex.len (e : Ex) : e.c.length = 17 := rfl
/-- All that an expression leads to lies there, down to a depth. -/
def L0 (w : World) : Nat → Ex → Prop
  | 0, x => x.a = []
  | d + 1, x => ∀ i y, x.a[i]? = some y → (∃ b o, x.p = some ⟨b, o, none⟩ ∧ Lies w b (o + i * 17) y.c) ∧ L0 w d y
theorem L0.up {w : World} : ∀ {d : Nat} {x : Ex}, L0 w d x → L0 w (d + 1) x
  | 0, x, h => fun i y hy => by rw [show x.a = [] from h] at hy; cases hy
  | d + 1, _, h => fun i y hy => ⟨(h i y hy).1, (h i y hy).2.up⟩
theorem L0.le {w : World} {d : Nat} {x : Ex} (h : L0 w d x) : ∀ {e : Nat}, d ≤ e → L0 w e x := by
  intro e he
  induction he with
  | refl => exact h
  | step _ ih => exact ih.up
section
variable {H : Type} {enc : TypeId × Value → H} {W : World} {sp : Nat → Bool}
/-- A slice that came in, of elements that are read with less fuel. -/
theorem cut_sl {fuel : Nat} {x : DataW H × List MemPlace} {t e : TypeId} (hu : Tryz.prog.underlying t = some (.slice e)) {n : Nat} (hn : 0 < n) (hcl : Tryz.prog.cellsOf e = n) {α : Type} (cells : α → List Value) (dflt : α) (ok : α → Prop) (hlen : ∀ y, (cells y).length = n)
    (hcut : ∀ {m : Nat} {cs : List Value} {y : DataW H × List MemPlace}, m < fuel → DataW.trod enc Tryz.prog W 0 sp true m e cs = some y → ∃ z, ok z ∧ cs = cells z) {v : Value} (h : DataW.trod enc Tryz.prog W 0 sp true fuel t [v] = some x) :
    ∃ (L : List α) (pa : Option Addr) (cap : Nat), v = .slice pa L.length cap ∧ (∀ o ∈ L, ok o) ∧ SL W n cells pa L ∧ L.length ≤ cap := by
  rcases DataW.trod_slice hu h with ⟨hcs, _⟩ | ⟨a, len, cap, elems, rest, k, rfl, hcs, _, _, hlc, hcm, hlen2, hel, _, _⟩
  · simp only [List.cons.injEq, and_true] at hcs
    subst hcs
    exact ⟨[], none, 0, rfl, fun _ e => (by cases e), ⟨Nat.zero_le _, (fun _ _ e => by cases e)⟩, Nat.le_refl _⟩
  · simp only [List.cons.injEq, and_true] at hcs
    subst hcs
    have first : ∀ o : α, ∃ u, (cells o)[0]? = some u := fun o => ⟨(cells o)[0]'(by rw [hlen]; exact hn), List.getElem?_eq_getElem _⟩
    have el : ∀ i, i < len → ∃ cs' y, W.cells? 0 (a.add (i * Tryz.prog.cellsOf e)) (Tryz.prog.cellsOf e) = some cs' ∧ DataW.trod enc Tryz.prog W 0 sp true k e cs' = some y := fun i hi => by
      have h1 := hel i hi
      rw [List.getElem?_eq_getElem (by omega)] at h1
      cases h2 : W.cells? 0 (a.add (i * Tryz.prog.cellsOf e)) (Tryz.prog.cellsOf e) with
      | none => rw [h2] at h1; cases h1
      | some cs' => rw [h2] at h1; exact ⟨cs', _, rfl, h1⟩
    have key : ∀ i : Nat, ∃ S : α, i < len → ok S ∧ ∃ b off, some a = some (⟨b, off, none⟩ : Addr) ∧ b < W.heap.size ∧ W.rangeAt b (off + i * n) (cells S) := by
      intro i
      by_cases hi : i < len
      · obtain ⟨cs', y, hc, ht⟩ := el i hi
        obtain ⟨o, ho, rfl⟩ := hcut (Nat.lt_succ_self k) ht
        refine ⟨o, fun _ => ⟨ho, ?_⟩⟩
        rw [hcl] at hc
        have hb := World.cells?_block hc hn
        obtain ⟨_, _, hcell⟩ := World.cells?_some hc
        obtain ⟨b, off, spot⟩ := a
        have hs : spot = none := by
          obtain ⟨cs0, y0, hc0, ht0⟩ := el 0 (by omega)
          obtain ⟨o0, _, rfl⟩ := hcut (Nat.lt_succ_self k) ht0
          rw [hcl] at hc0
          have h0 := (World.cells?_some hc0).2.2 0 hn
          obtain ⟨u, hu0⟩ := first o0
          rw [hu0] at h0
          have := World.cell?_spot (show W.cell? (((⟨b, off, spot⟩ : Addr).add (0 * n)).add 0) = some u from h0)
          simpa [Addr.add] using this
        subst hs
        refine ⟨b, off, rfl, by simpa [Addr.add_mid] using hb, fun j v hv => ?_⟩
        have hj : j < n := by rw [← hlen o]; exact (List.getElem?_eq_some_iff.1 hv).1
        have := hcell j hj
        rw [Addr.add_mid, Addr.add_mid, hv] at this
        exact this
      · exact ⟨dflt, fun e => absurd e hi⟩
    obtain ⟨f, hf2⟩ := Classical.skolem.1 key
    refine ⟨(List.range len).map f, some a, cap, by simp, fun o ho => ?_, ⟨by simpa using Nat.le_trans hlc hcm, fun i o e => ?_⟩, by simpa using hlc⟩
    · obtain ⟨i, hi, rfl⟩ := List.mem_map.1 ho
      exact (hf2 i (by simpa using hi)).1
    · have hi : i < len := by have := (List.getElem?_eq_some_iff.1 e).1; simpa using this
      rw [List.getElem?_map, List.getElem?_range hi] at e
      cases e
      exact (hf2 i hi).2
set_option maxRecDepth 100000 in
theorem cut_arr {fuel : Nat} {cs : List Value} {x : DataW H × List MemPlace} (h : DataW.trod enc Tryz.prog W 0 sp true fuel 24 cs = some x) : ∃ n0 n1 n2 n3 : Int, cs = [.int .u64 n0, .int .u64 n1, .int .u64 n2, .int .u64 n3] := by
  obtain ⟨xs, m, rfl, _, hlen, hn, hi⟩ := DataW.trod_array Tryz.underlying24 h
  rw [cl_arr4] at hlen
  obtain ⟨c0, c1, c2, c3, rfl⟩ : ∃ c0 c1 c2 c3, cs = [c0, c1, c2, c3] := by
    match cs, hlen with
    | [a, b, c, d], _ => exact ⟨a, b, c, d, rfl⟩
  obtain ⟨y0, y1, y2, y3, rfl⟩ : ∃ y0 y1 y2 y3, xs = [y0, y1, y2, y3] := by
    match xs, hn with
    | [a, b, c, d], _ => exact ⟨a, b, c, d, rfl⟩
  have i0 := hi 0 (by decide)
  have i1 := hi 1 (by decide)
  have i2 := hi 2 (by decide)
  have i3 := hi 3 (by decide)
  simp only [cl_u64] at i0 i1 i2 i3
  simp at i0 i1 i2 i3
  obtain ⟨x0, e0, _, _⟩ := DataW.trod_int Tryz.underlying22 i0
  obtain ⟨x1, e1, _, _⟩ := DataW.trod_int Tryz.underlying22 i1
  obtain ⟨x2, e2, _, _⟩ := DataW.trod_int Tryz.underlying22 i2
  obtain ⟨x3, e3, _, _⟩ := DataW.trod_int Tryz.underlying22 i3
  simp at e0 e1 e2 e3
  subst e0 e1 e2 e3
  exact ⟨x0, x1, x2, x3, rfl⟩
set_option maxRecDepth 100000 in
theorem cut_dec {fuel : Nat} {cs : List Value} {x : DataW H × List MemPlace} (h : DataW.trod enc Tryz.prog W 0 sp true fuel 26 cs = some x) : ∃ d : Dc, cs = d.cells := by
  obtain ⟨xs, m, rfl, _, hl, hlen, hi⟩ := DataW.trod_struct Tryz.underlying26 h
  rw [cl_Dec] at hl
  obtain ⟨c0, c1, c2, c3, c4, c5, rfl⟩ : ∃ c0 c1 c2 c3 c4 c5, cs = [c0, c1, c2, c3, c4, c5] := by
    match cs, hl with
    | [a0, a1, a2, a3, a4, a5], _ => exact ⟨a0, a1, a2, a3, a4, a5, rfl⟩
  obtain ⟨y0, y1, y2, rfl⟩ : ∃ y0 y1 y2, xs = [y0, y1, y2] := by
    match xs, hlen with
    | [a0, a1, a2], _ => exact ⟨a0, a1, a2, rfl⟩
  have i0 := hi 0 _ rfl
  have i1 := hi 1 _ rfl
  have i2 := hi 2 _ rfl
  simp [cl_bool, cl_arr4, cl_int] at i0 i1 i2
  obtain ⟨b, e0, _⟩ := DataW.trod_bool Tryz.underlying4 i0
  obtain ⟨n0, n1, n2, n3, e1⟩ := cut_arr i1
  obtain ⟨s, e2, _, _⟩ := DataW.trod_int Tryz.underlying3 i2
  simp at e0 e1 e2
  obtain ⟨e10, e11, e12, e13⟩ := e1
  subst e0 e10 e11 e12 e13 e2
  exact ⟨⟨b, n0, n1, n2, n3, s⟩, rfl⟩
set_option maxRecDepth 100000 in
theorem cut_val {fuel : Nat} {cs : List Value} {x : DataW H × List MemPlace} (h : DataW.trod enc Tryz.prog W 0 sp true fuel 28 cs = some x) : ∃ v : Vl, cs = v.cells := by
  obtain ⟨xs, m, rfl, _, hl, hlen, hi⟩ := DataW.trod_struct Tryz.underlying28 h
  rw [cl_Value] at hl
  obtain ⟨c0, c1, c2, c3, c4, c5, c6, c7, c8, c9, rfl⟩ : ∃ c0 c1 c2 c3 c4 c5 c6 c7 c8 c9, cs = [c0, c1, c2, c3, c4, c5, c6, c7, c8, c9] := by
    match cs, hl with
    | [a0, a1, a2, a3, a4, a5, a6, a7, a8, a9], _ => exact ⟨a0, a1, a2, a3, a4, a5, a6, a7, a8, a9, rfl⟩
  obtain ⟨y0, y1, y2, y3, y4, rfl⟩ : ∃ y0 y1 y2 y3 y4, xs = [y0, y1, y2, y3, y4] := by
    match xs, hlen with
    | [a0, a1, a2, a3, a4], _ => exact ⟨a0, a1, a2, a3, a4, rfl⟩
  have i0 := hi 0 _ rfl
  have i1 := hi 1 _ rfl
  have i2 := hi 2 _ rfl
  have i3 := hi 3 _ rfl
  have i4 := hi 4 _ rfl
  simp [cl_int, cl_Dec, cl_bool, cl_string] at i0 i1 i2 i3 i4
  obtain ⟨K, e0, _, _⟩ := DataW.trod_int Tryz.underlying3 i0
  obtain ⟨d, e1⟩ := cut_dec i1
  obtain ⟨fl, e2, _⟩ := DataW.trod_bool Tryz.underlying4 i2
  obtain ⟨tx, e3, _⟩ := DataW.trod_string Tryz.underlying9 i3
  obtain ⟨er, e4, _, _⟩ := DataW.trod_int Tryz.underlying3 i4
  simp only [Dc.cells] at e1
  simp at e0 e1 e2 e3 e4
  obtain ⟨e10, e11, e12, e13, e14, e15⟩ := e1
  subst e0 e10 e11 e12 e13 e14 e15 e2 e3 e4
  exact ⟨⟨K, d, fl, tx, er⟩, rfl⟩
set_option maxRecDepth 100000 in
theorem cut_ex : ∀ (fuel : Nat) {cs : List Value} {x : DataW H × List MemPlace}, DataW.trod enc Tryz.prog W 0 sp true fuel 31 cs = some x → ∃ e : Ex, L0 W fuel e ∧ cs = e.c := by
  intro fuel
  induction fuel using Nat.strongRecOn with
  | ind fuel ih =>
    intro cs x h
    obtain ⟨xs, m, rfl, _, hl, hlen, hi⟩ := DataW.trod_struct Tryz.underlying31 h
    rw [cl_Expr] at hl
    obtain ⟨c0, c1, c2, c3, c4, c5, c6, c7, c8, c9, c10, c11, c12, c13, c14, c15, c16, rfl⟩ : ∃ c0 c1 c2 c3 c4 c5 c6 c7 c8 c9 c10 c11 c12 c13 c14 c15 c16, cs = [c0, c1, c2, c3, c4, c5, c6, c7, c8, c9, c10, c11, c12, c13, c14, c15, c16] := by
      match cs, hl with
      | [a0, a1, a2, a3, a4, a5, a6, a7, a8, a9, a10, a11, a12, a13, a14, a15, a16], _ => exact ⟨a0, a1, a2, a3, a4, a5, a6, a7, a8, a9, a10, a11, a12, a13, a14, a15, a16, rfl⟩
    obtain ⟨y0, y1, y2, y3, y4, y5, y6, y7, rfl⟩ : ∃ y0 y1 y2 y3 y4 y5 y6 y7, xs = [y0, y1, y2, y3, y4, y5, y6, y7] := by
      match xs, hlen with
      | [a0, a1, a2, a3, a4, a5, a6, a7], _ => exact ⟨a0, a1, a2, a3, a4, a5, a6, a7, rfl⟩
    have i0 := hi 0 _ rfl
    have i1 := hi 1 _ rfl
    have i2 := hi 2 _ rfl
    have i3 := hi 3 _ rfl
    have i4 := hi 4 _ rfl
    have i5 := hi 5 _ rfl
    have i6 := hi 6 _ rfl
    have i7 := hi 7 _ rfl
    simp [cl_int, cl_string, cl_Value, cl_SExpr] at i0 i1 i2 i3 i4 i5 i6 i7
    obtain ⟨k, e0, _, _⟩ := DataW.trod_int Tryz.underlying3 i0
    obtain ⟨op, e1, _, _⟩ := DataW.trod_int Tryz.underlying3 i1
    obtain ⟨nm, e2, _, zn⟩ := DataW.trod_string Tryz.underlying9 i2
    obtain ⟨se, e3, _, ze⟩ := DataW.trod_string Tryz.underlying9 i3
    obtain ⟨v, e4⟩ := cut_val i4
    obtain ⟨sc, e5, _, _⟩ := DataW.trod_int Tryz.underlying3 i5
    obtain ⟨po, e6, _, _⟩ := DataW.trod_int Tryz.underlying3 i6
    obtain ⟨A, pa, cap, e7, hL, hS, _⟩ := cut_sl Tryz.underlying29 (n := 17) (by decide) cl_Expr Ex.c (.mk 0 0 ⟨#[]⟩ ⟨#[]⟩ 0 false 0 0 0 0 0 false ⟨#[]⟩ 0 0 0 none 0 []) (L0 W m) Ex.len (fun hm h => by obtain ⟨z, h1, h2⟩ := ih _ (by omega) h; exact ⟨z, h1.le (by omega), h2⟩) i7
    simp only [Vl.cells, Dc.cells] at e4
    simp at e0 e1 e2 e3 e4 e5 e6
    obtain ⟨f0, f1, f2, f3, f4, f5, f6, f7, f8, f9⟩ := e4
    subst e0 e1 e2 e3 f0 f1 f2 f3 f4 f5 f6 f7 f8 f9 e5 e6 e7
    refine ⟨.mk k op nm se v.k v.d.b v.d.n0 v.d.n1 v.d.n2 v.d.n3 v.d.s v.f v.t v.e sc po pa cap A, fun i y hy => ⟨?_, hL y (List.mem_of_getElem? hy)⟩, rfl⟩
    obtain ⟨b, o, h1, _, h2⟩ := hS.2 i y hy
    exact ⟨b, o, h1, h2⟩
end
end D
open D
section
variable {H : Type} {enc : TypeId × Value → H} {W : World} {sp : Nat → Bool}
theorem lt_of_get {α : Type} {l : List α} {i : Nat} {x : α} (h : l[i]? = some x) : i < l.length := (List.getElem?_eq_some_iff.1 h).1
theorem get_of_lt {α : Type} {l : List α} {i : Nat} (h : i < l.length) : ∃ x, l[i]? = some x := ⟨_, List.getElem?_eq_getElem h⟩
theorem bulk_mem {d : DataW H} : ∀ {l : List (DataW H)}, d ∈ l → Rows.uptoBulk d ≤ Rows.uptoBulkAll l
  | x :: l, h => by
    simp only [Rows.uptoBulkAll]
    rcases List.mem_cons.1 h with rfl | h
    · omega
    · have := bulk_mem h; omega
theorem bulk_sum {d : Nat} : ∀ (L : List Ex) (E : List (DataW H)) (b : Nat), E.length = L.length → (∀ (i : Nat) (a : Ex) (z : DataW H), L[i]? = some a → E[i]? = some z → nds d a ≤ Rows.uptoBulk z) → L.foldl (fun n a => n + nds d a) b ≤ b + Rows.uptoBulkAll E
  | [], _, b, _, _ => by simp
  | a :: L, [], b, h, _ => by simp at h
  | a :: L, z :: E, b, h, hb => by
    have h1 := hb 0 a z rfl rfl
    have h2 := bulk_sum L E (b + nds d a) (by simpa using h) (fun i x y hx hy => hb (i + 1) x y (by simpa using hx) (by simpa using hy))
    simp only [List.foldl_cons, Rows.uptoBulkAll]
    omega
/-- A slice that was read: its elements were, and its bulk is theirs. -/
theorem bk_sl {fuel : Nat} {x : DataW H × List MemPlace} {t e : TypeId} (hu : Tryz.prog.underlying t = some (.slice e)) {n : Nat} (hcl : Tryz.prog.cellsOf e = n) {α : Type} {cells : α → List Value} (hlen : ∀ y, (cells y).length = n)
    {pa : Option Addr} {L : List α} {cap : Nat} (hS : ∀ i o, L[i]? = some o → ∃ b off, pa = some ⟨b, off, none⟩ ∧ Lies W b (off + i * n) (cells o)) (h : DataW.trod enc Tryz.prog W 0 sp true fuel t [.slice pa L.length cap] = some x) :
    ∃ E : List (DataW H), E.length = L.length ∧ Rows.uptoBulkAll E ≤ Rows.uptoBulk x.1 ∧ ∀ (i : Nat) (o : α) (d : DataW H), L[i]? = some o → E[i]? = some d → ∃ m y, m < fuel ∧ DataW.trod enc Tryz.prog W 0 sp true m e (cells o) = some y ∧ y.1 = d := by
  rcases DataW.trod_slice hu h with ⟨hcs, _⟩ | ⟨a, len, cap', elems, rest, k, rfl, hcs, hx, _, _, _, hlen2, hel, _, _⟩
  · simp only [List.cons.injEq, Value.slice.injEq, and_true] at hcs
    have h0 : L = [] := List.length_eq_zero_iff.1 hcs.2.1
    subst h0
    exact ⟨[], rfl, by simp [Rows.uptoBulkAll], fun i o d hi => by simp at hi⟩
  · simp only [List.cons.injEq, Value.slice.injEq, and_true] at hcs
    obtain ⟨rfl, rfl, rfl⟩ := hcs
    refine ⟨elems.map (·.1), by simp; omega, ?_, fun i o d hi hd => ?_⟩
    · rw [hx]; simp only [Rows.uptoBulk]; omega
    · have hil : i < L.length := lt_of_get hi
      have h1 := hel i hil
      obtain ⟨y, hy⟩ := get_of_lt (show i < elems.length by omega)
      rw [List.getElem?_map, hy] at hd
      rw [hy, hcl] at h1
      cases h2 : W.cells? 0 (a.add (i * n)) n with
      | none => rw [h2] at h1; cases h1
      | some cs =>
        rw [h2] at h1
        obtain ⟨_, hcn, hcc⟩ := World.cells?_some h2
        obtain ⟨b, off, e1, hr⟩ := hS i o hi
        cases e1
        have e2 : cs = cells o := by
          refine List.ext_getElem? (fun j => ?_)
          rcases Nat.lt_or_ge j n with q | q
          · rw [← hcc j q]
            obtain ⟨v, hv⟩ := get_of_lt (show j < (cells o).length by rw [hlen]; exact q)
            rw [hv, Addr.add_mid, Addr.add_mid]
            exact hr j v hv
          · rw [List.getElem?_eq_none (by omega), List.getElem?_eq_none (by rw [hlen]; omega)]
        subst e2
        exact ⟨k, y, Nat.lt_succ_self _, h1, by simpa using hd⟩
/-- A field of a struct that was read. -/
theorem bk_fd {fuel : Nat} {cs : List Value} {x : DataW H × List MemPlace} {t : TypeId} {fs : Array Field} (hu : Tryz.prog.underlying t = some (.struct fs)) (h : DataW.trod enc Tryz.prog W 0 sp true fuel t cs = some x) (j T O : Nat) {N : Nat} (hT : (fs[j]?).map (fun f => (f.type, f.offset)) = some (T, O)) (hN : Tryz.prog.cellsOf T = N) :
    ∃ m y, m < fuel ∧ DataW.trod enc Tryz.prog W 0 sp true m T ((cs.drop O).take N) = some y ∧ Rows.uptoBulk y.1 + 1 ≤ Rows.uptoBulk x.1 := by
  obtain ⟨f, hf, e⟩ := Option.map_eq_some_iff.1 hT
  cases e
  subst hN
  obtain ⟨xs, m, rfl, hx, _, hlen, hi⟩ := DataW.trod_struct hu h
  have h1 := hi j f hf
  have hj : j < fs.size := (Array.getElem?_eq_some_iff.1 hf).1
  obtain ⟨y, hy⟩ := get_of_lt (show j < xs.length by omega)
  rw [hy] at h1
  refine ⟨m, y, Nat.lt_succ_self _, h1, ?_⟩
  have h2 : y.1 ∈ xs.map (·.1) := List.mem_map_of_mem (List.mem_of_getElem? hy)
  have h3 := bulk_mem h2
  rw [hx]
  simp only [Rows.uptoBulk]
  omega
theorem nds_bulk : ∀ (fuel d : Nat) {e : Ex} {x : DataW H × List MemPlace}, L0 W d e → DataW.trod enc Tryz.prog W 0 sp true fuel 31 e.c = some x → nds d e ≤ Rows.uptoBulk x.1 := by
  intro fuel
  induction fuel using Nat.strongRecOn with
  | ind fuel ih =>
    intro d e x hL h
    obtain ⟨m, y, hm, hy, hyz⟩ := bk_fd Tryz.underlying31 h 7 29 16 rfl cl_SExpr
    cases d with
    | zero => show 1 ≤ _; omega
    | succ d =>
    obtain ⟨E, h1, h2, h3⟩ := bk_sl Tryz.underlying29 cl_Expr Ex.len (fun i o ho => (hL i o ho).1) (cap := e.cl) hy
    have h4 := bulk_sum (d := d) e.a E 1 h1 (fun i a z ha hd => by
      obtain ⟨m2, y2, hm2, hy2, rfl⟩ := h3 i a z ha hd
      exact ih m2 (by omega) d (hL i a ha).2 hy2)
    show e.a.foldl (fun n y => n + nds d y) 1 ≤ _
    omega
theorem nds_pos : ∀ (d : Nat) (x : Ex), 1 ≤ nds d x
  | 0, _ => Nat.le_refl _
  | d + 1, x => by
    have : ∀ (l : List Ex) (b : Nat), b ≤ l.foldl (fun n y => n + nds d y) b := by
      intro l
      induction l with
      | nil => intro b; exact Nat.le_refl _
      | cons a l ih => intro b; exact Nat.le_trans (Nat.le_add_right _ _) (ih _)
    exact this x.a 1
theorem nds_len (d : Nat) : ∀ (l : List Ex) (b : Nat), b + l.length ≤ l.foldl (fun n y => n + nds d y) b
  | [], b => Nat.le_refl _
  | a :: l, b => by have := nds_len d l (b + nds d a); have := nds_pos d a; simp only [List.foldl_cons, List.length_cons]; omega
theorem nds_mem (d : Nat) : ∀ (l : List Ex) (b : Nat) (i : Nat) (x : Ex), l[i]? = some x → nds d x ≤ l.foldl (fun n y => n + nds d y) b
  | a :: l, b, 0, x, h => by cases h; have := nds_len d l (b + nds d a); simp only [List.foldl_cons]; omega
  | a :: l, b, i + 1, x, h => nds_mem d l (b + nds d a) i x (by simpa using h)
theorem D.L0.lt {w : World} : ∀ {d : Nat} {x : Ex}, L0 w d x → nds d x ≤ 1000000000 → LT w d x
  | 0, _, h, _ => h
  | d + 1, x, h, hb => by
    have h1 := nds_len d x.a 1
    have h2 : x.a.foldl (fun n y => n + nds d y) 1 ≤ 1000000000 := hb
    exact ⟨by omega, fun i y hy => ⟨(h i y hy).1, (h i y hy).2.lt (Nat.le_trans (nds_mem d x.a 1 i y hy) h2)⟩⟩
theorem laidOut : laidOutB Tryz.prog = true := by kernel_rfl
/-- What came in reads as it did, where its places are the same. -/
theorem trodAll_stays {H : Type} {enc : TypeId × Value → H} {W W' : World} {sp' : Nat → Bool} : ∀ {ts : List TypeId} {vs : List Value} {ds : List (DataW H)} {ps : List MemPlace}, (∀ t ∈ ts, Tryz.prog.readableRec t = true ∧ t < Tryz.prog.types.size) → DataW.TrodAll enc Tryz.prog W 0 (fun _ => true) true ts vs ds ps → (∀ p ∈ ps, W.sameAt W' p) → (∀ p ∈ ps, sp' p.block = true) → DataW.TrodAll enc Tryz.prog W' 0 sp' true ts vs ds ps
  | [], [], [], _, _, h, _, _ => h
  | _ :: _, _ :: _, _ :: _, _, hT, ⟨p, q, h1, h2, e⟩, hm, hs => ⟨p, q, WideElems.Trod_stays laidOut (hT _ (List.mem_cons.2 (Or.inl rfl))).1 (hT _ (List.mem_cons.2 (Or.inl rfl))).2 h1 (fun x hx => hm x (by rw [e]; exact List.mem_append_left _ hx)) (fun x hx => hs x (by rw [e]; exact List.mem_append_left _ hx)),
      trodAll_stays (fun t ht => hT t (List.mem_cons.2 (Or.inr ht))) h2 (fun x hx => hm x (by rw [e]; exact List.mem_append_right _ hx)) (fun x hx => hs x (by rw [e]; exact List.mem_append_right _ hx)), e⟩
variable {base : Nat} {v : Value} {d : DataW H} {p : List MemPlace}
set_option maxRecDepth 100000 in
theorem open_expr (hv : Value.okWide Tryz.prog W .any base 31 v) (h : DataW.Trod enc Tryz.prog W 0 (fun _ => true) true 31 v d p) : ∃ (n : Nat) (x : Ex), v = .agg x.c.toArray ∧ L0 W n x ∧ nds n x ≤ Rows.uptoBulk d := by
  obtain ⟨a, rfl, _⟩ := okWide_struct Tryz.underlying31 hv
  obtain ⟨fuel, hf⟩ := h
  obtain ⟨x, hx, e⟩ := cut_ex fuel hf
  refine ⟨fuel, x, by have e2 : a = x.c.toArray := (by rw [← e]; simp [Value.cells]); rw [e2], hx, ?_⟩
  rw [e] at hf
  exact nds_bulk fuel fuel hx hf
end
/-- The end of a row: what was there has not turned. -/
theorem post_mw {H : Type} {enc : TypeId × Value → H} {P : Program} {f : Func} {s : ChangeSpec} {apart fresh handsOn : Bool} {W W' : World} {args : Array Value} {v : Value} {ds gs : List (DataW H)} {p : List MemPlace}
    (hW : DataW.Whole enc P f.params.toList s.vars apart W args.toList ds gs p)
    (hres : ∀ (b : Nat) (sp : Nat → Bool) (hd : Bool), DataW.TrodAll enc P W' b sp hd f.resultTypes.toList (v.resultList f.resultTypes.size) (s.fn H (ds ++ gs)).results [])
    (hargs : ∀ sp : Nat → Bool, (∀ x ∈ p, sp x.block = true) → DataW.TrodAll enc P W' 0 sp true f.params.toList args.toList (s.fn H (ds ++ gs)).args p)
    (hvars : ∀ sp : Nat → Bool, DataW.TrodVars enc P W' sp s.vars (s.fn H (ds ++ gs)).vars []) (hk : Below W.heap.size W W') :
    s.post enc P f apart fresh handsOn false W args v W' :=
  ⟨ds, gs, p, [], p, [], hW, hres _ _ _, hargs _ (fun x hx => by simpa using hW.lt x hx), hvars _, World.keptBut_mono (fun x hx => ⟨hx, Or.inr (Or.inl hx)⟩) (Below.frame hk (· ∈ p)), fun h => by cases h⟩
end Go.Proofs.YtfmfeipeeedfpaaGreat

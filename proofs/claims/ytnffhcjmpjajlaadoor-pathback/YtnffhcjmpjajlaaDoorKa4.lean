/-
  A part of the proof.
-/
import Derived.Test.YtnffhcjmpjajlaaDoorKa3
import Derived.Test.YtnffhcjmpjajlaaDoorKa2
import Derived.Test.YtnffhcjmpjajlaaDoorKa1
import Derived.RegionTactic
import Derived.Test.YtnffhcjmpjajlaaDoorProg
import Derived.WalkKit
import Derived.WalkSpells
import Derived.Handy
import Derived.BigQuiet
import Derived.Deep.RegionHeld3
import Derived.Deep.MidRow
import Derived.BigCall
import Derived.ChangeKeysEq
import Derived.Shelf.Small.Bits
import Derived.Shelf.Strconv.Itoa0
import Derived.Shelf.Bits.Mul64
import Derived.Deep.CutRange
import Derived.Deep.CutBlock
import Derived.ScopeJumps
import Derived.WalkMore
import Derived.Laws.StructEq
import Derived.Lib.CutLaws
import Derived.Maps.OwnSet
import Derived.WalkArith
import Derived.StringKeys
import Derived.ProofKit
import Derived.OpenShut
import Derived.ChangeArms
import Derived.Deep.Slices
import Derived.ReadAgain
import Derived.WideKeyArgs
import Derived.Maps.AppendAt
namespace Go.Proofs.YtnffhcjmpjajlaaDoor
open Go.RowKit D
theorem lt_of_get {α : Type} {L : List α} {k : Nat} {x : α} (h : L[k]? = some x) : k < L.length := (List.getElem?_eq_some_iff.1 h).1
theorem get_of_lt {α : Type} {L : List α} {k : Nat} (h : k < L.length) : ∃ x, L[k]? = some x := ⟨_, List.getElem?_eq_getElem h⟩
theorem flat_get {α : Type} {cells : α → List Value} {n : Nat} (hl : ∀ x, (cells x).length = n) : ∀ (L : List α) (i : Nat) (o : α) (j : Nat) (v : Value), L[i]? = some o → (cells o)[j]? = some v → (L.flatMap cells)[i * n + j]? = some v
 | [], i, o, j, v, h, _ => by simp at h
 | x :: L, 0, o, j, v, h, hv => by
  simp at h; subst h
  rw [List.flatMap_cons, Nat.zero_mul, Nat.zero_add, List.getElem?_append_left (lt_of_get hv)]; exact hv
 | x :: L, i + 1, o, j, v, h, hv => by
  simp at h
  have e : (i + 1) * n + j = n + (i * n + j) := by rw [Nat.add_mul]; omega
  rw [List.flatMap_cons, e, List.getElem?_append_right (by rw [hl]; omega), hl, Nat.add_sub_cancel_left]
  exact flat_get hl L i o j v h hv
theorem SL.of_range {w : World} {k off n : Nat} {α : Type} {cells : α → List Value} (hl : ∀ x, (cells x).length = n) {L : List α} (hz : L.length ≤ maxLen) (hk : k < w.heap.size) (h : w.rangeAt k off (L.flatMap cells)) : SL w n cells (some ⟨k, off, none⟩) L := ⟨hz, fun i o e => ⟨k, off, rfl, hk, fun j v hv => by
 have := h (i * n + j) v (flat_get hl L i o j v e hv)
 rw [show off + i * n + j = off + (i * n + j) by omega]; exact this⟩⟩
theorem SL.of_at {w : World} {k n : Nat} {α : Type} {cells : α → List Value} (hl : ∀ x, (cells x).length = n) {L : List α} (hz : L.length ≤ maxLen) (h : At w k (L.flatMap cells)) : SL w n cells (some ⟨k, 0, none⟩) L := SL.of_range hl hz h.2.2 h.1
theorem own_form {w : World} {N e sz : Nat} {v : Value} {n : Nat} {xs : List Value} (h : w.ownsRow N e sz v n xs) : ∃ pa cap, v = .slice pa n cap ∧ ∀ a, pa = some a → ∃ g, a = ⟨g, 0, none⟩ := by
 rcases h.2 with ⟨rfl, rfl⟩ | ⟨g, cap, cur, rfl, _⟩
 ·exact ⟨none, 0, rfl, fun _ e => by cases e⟩
 ·exact ⟨_, _, rfl, fun a e => ⟨g, (Option.some.inj e).symm⟩⟩
theorem own_sl {w : World} {N e sz : Nat} {α : Type} {cells : α → List Value} (hl : ∀ x, (cells x).length = sz) {pa : Option Addr} {cap : Nat} {L : List α} (hz : L.length ≤ maxLen) (h : w.ownsRow N e sz (.slice pa L.length cap) L.length (L.flatMap cells)) : SL w sz cells pa L := by
 rcases h.2 with ⟨e, h0⟩ | ⟨g, c2, cur, e, hg, hb, hnc, hcm, hcs, htk⟩
 ·refine ⟨hz, fun i o hi => ?_⟩
  have := lt_of_get hi
  omega
 ·cases e
  refine SL.of_range hl hz (Array.getElem?_eq_some_iff.1 hb).1 (fun j v hv => ?_)
  rw [← htk, List.getElem?_take] at hv
  split at hv
  ·rw [Nat.zero_add]
   simp only [World.cell?, hb]
   simpa using hv
  ·cases hv
theorem own_lt {w : World} {N e sz : Nat} {v : Value} {n : Nat} {xs : List Value} (h : w.ownsRow N e sz v n xs) {k : Nat} (hk : v.ownBlock = some k) : k < w.heap.size ∧ N ≤ k := by
 rcases h.2 with ⟨rfl, rfl⟩ | ⟨g, cap, cur, rfl, hg, hb, _⟩
 ·cases hk
 ·cases hk; exact ⟨(Array.getElem?_eq_some_iff.1 hb).1, hg⟩

theorem mk_setCells (k : Nat) : ∀ (l : List Value) (o : Nat) (w : World), Mk (fun j => j = k) w (w.setCells k o l)
 | [], _, w => Mk.refl _ w
 | v :: r, o, w => by
  rw [World.setCells]
  refine Mk.same ?_ (mk_setCells k r (o + 1) _)
  refine ⟨rfl, rfl, rfl, by simp [World.setCell], fun j _ hj => ?_, fun a => World.frozen?_setCell _ _ _ _⟩
  simp [World.setCell, Array.getElem?_modify, Ne.symm hj]
section
variable {P : Program} {o : Oper} {n : Nat} {l : List (Nat × Value)} {w : World} {ops : Array Oper} {rest : List Oper} {Q : Exit → Act → World → Prop}
theorem wl_stm (ty : TypeId) (x y : Operand) (k off : Nat) (us : Array Value) (vs vs' : List Value) (hA : At w k vs) (ho : o.op = .store ty x y) (hd : o.dst = none) (hx : evl n l x = pt k off) (hy : evl n l y = .agg us)
  (hl : Nat.ble (off + us.size) vs.length = true) (hi : (P.info? ty).map (·.size) = some us.size) (h1 : us.toList.all (·.oneCell') = true) (hvs : vs' = vs.take off ++ us.toList ++ vs.drop (off + us.toList.length)) (hg : wnt n l ops o = true)
  (hk : ∀ w', St k w w' → Mk (fun j => j = k) w w' → At w' k vs' → WL P ops Q rest n l w') : WL P ops Q (o :: rest) n l w :=
 ⟨l_step hg (o_store ty x y _ _ ho hd hx hy (run_put hA ty off us (Nat.le_of_ble_eq_true hl) hi (by rw [← Array.all_toList]; exact h1)) (hk _ (St.mk' w k off us.toList) (mk_setCells k us.toList off w) (hA.set off us.toList (by have := Nat.le_of_ble_eq_true hl; simpa using this) vs' hvs)).out)⟩
theorem wl_stm1 (ty : TypeId) (x y : Operand) (k off : Nat) (v : Value) (vs vs' : List Value) (hA : At w k vs) (ho : o.op = .store ty x y) (hd : o.dst = none) (hx : evl n l x = pt k off) (hy : evl n l y = v)
  (hl : Nat.blt off vs.length = true) (hi : (P.info? ty).map (·.size) = some 1) (hv : v.cells = #[v]) (h1 : v.oneCell' = true) (hvs : vs' = vs.take off ++ [v] ++ vs.drop (off + 1)) (hg : wnt n l ops o = true)
  (hk : ∀ w', St k w w' → Mk (fun j => j = k) w w' → At w' k vs' → WL P ops Q rest n l w') : WL P ops Q (o :: rest) n l w :=
 have hl' : off < vs.length := by rw [Nat.blt_eq] at hl; exact hl
 ⟨l_step hg (o_store ty x y _ _ ho hd hx hy (run_put1 hA ty off v hl' hi hv h1) (hk _ (St.mk' w k off [v]) (mk_setCells k [v] off w) (hA.set off [v] (by simp; omega) vs' hvs)).out)⟩
end
section
variable {P : Program} {o : Oper} {n : Nat} {l : List (Nat × Value)} {w : World} {Q : Exit → Act → World → Prop} {K : Act → World → Prop}
theorem wl_mf {ops : Array Oper} {rest : List Oper} (fn : Fn) (xs ys : List Operand) (fs cs : List Value) (ho : o.op = .makeFunc fn xs.toArray ys.toArray) (hx : xs.map (evl n l) = fs) (hy : ys.map (evl n l) = cs) (hg : wnt n l ops o = true) (hk : WL P ops Q rest n (ext l o.dst (.func fn fs.toArray cs.toArray)) w) : WL P ops Q (o :: rest) n l w := by
 subst hx hy
 exact wl_val (.func fn (xs.map (evl n l)).toArray (ys.map (evl n l)).toArray) (by simp [execOp, ho, Instr.makeFunc]) hg hk
end
end Go.Proofs.YtnffhcjmpjajlaaDoor

namespace Go.Proofs.YtnffhcjmpjajlaaDoor
open Go.ChangeShapes Go.WideShapes Go.ChangeAt Go.RowKit
namespace D
theorem cl_int : Tryd.prog.cellsOf 3 = 1 := by kernel_rfl
theorem cl_bool : Tryd.prog.cellsOf 4 = 1 := by kernel_rfl
theorem cl_string : Tryd.prog.cellsOf 9 = 1 := by kernel_rfl
theorem cl_u64 : Tryd.prog.cellsOf 68 = 1 := by kernel_rfl
theorem cl_arr4 : Tryd.prog.cellsOf 70 = 4 := by kernel_rfl
theorem cl_Dec : Tryd.prog.cellsOf 72 = 6 := by kernel_rfl
theorem cl_Value : Tryd.prog.cellsOf 74 = 10 := by kernel_rfl
theorem cl_SExpr : Tryd.prog.cellsOf 75 = 1 := by kernel_rfl
theorem cl_Expr : Tryd.prog.cellsOf 77 = 17 := by kernel_rfl
theorem cl_Type : Tryd.prog.cellsOf 67 = 2 := by kernel_rfl
theorem cl_Item : Tryd.prog.cellsOf 79 = 23 := by kernel_rfl
theorem cl_SItem : Tryd.prog.cellsOf 42 = 1 := by kernel_rfl
structure Dc where
 b : Bool
 n0 : Int
 n1 : Int
 n2 : Int
 n3 : Int
 s : Int
def Dc.cells (d : Dc) : List Value := [.bool d.b, .int .u64 d.n0, .int .u64 d.n1, .int .u64 d.n2, .int .u64 d.n3, .int .i64 d.s]
structure Vl where
 k : Int
 d : Dc
 f : Bool
 t : ByteArray
 e : Int
def Vl.cells (v : Vl) : List Value := .int .i64 v.k :: (v.d.cells ++ [.bool v.f, .string v.t, .int .i64 v.e])
structure Ex where
 k : Int
 op : Int
 nm : ByteArray
 se : ByteArray
 v : Vl
 sc : Int
 po : Int
 pa : Option Addr
 cap : Nat
 args : List Ex
def Ex.cells (x : Ex) : List Value := [.int .i64 x.k, .int .i64 x.op, .string x.nm, .string x.se, .int .i64 x.v.k, .bool x.v.d.b, .int .u64 x.v.d.n0, .int .u64 x.v.d.n1, .int .u64 x.v.d.n2, .int .u64 x.v.d.n3, .int .i64 x.v.d.s, .bool x.v.f, .string x.v.t, .int .i64 x.v.e, .int .i64 x.sc, .int .i64 x.po, .slice x.pa x.args.length x.cap]
theorem Ex.len (e : Ex) : e.cells.length = 17 := rfl
theorem Ex.ind {M : Ex → Prop} (h : ∀ k op nm se v sc po pa cap args, (∀ o ∈ args, M o) → M (.mk k op nm se v sc po pa cap args)) : ∀ e, M e
 | .mk k op nm se v sc po pa cap args => h k op nm se v sc po pa cap args (fun o _ho => Ex.ind h o)
def LEx (W : World) : Ex → Prop
 | .mk _ _ nm se _ _ _ pa _ args => nm.size ≤ maxLen ∧ se.size ≤ maxLen ∧ SL W 17 Ex.cells pa args ∧ ∀ o ∈ args, LEx W o
theorem LEx.inv {W : World} : ∀ {x : Ex}, LEx W x → x.nm.size ≤ maxLen ∧ x.se.size ≤ maxLen ∧ SL W 17 Ex.cells x.pa x.args ∧ ∀ o ∈ x.args, LEx W o
 | .mk _ _ _ _ _ _ _ _ _ _, h => by rw [LEx] at h; exact h
theorem LEx.mk {W : World} : ∀ {x : Ex}, x.nm.size ≤ maxLen → x.se.size ≤ maxLen → SL W 17 Ex.cells x.pa x.args → (∀ o ∈ x.args, LEx W o) → LEx W x
 | .mk _ _ _ _ _ _ _ _ _ _, h1, h2, h3, h4 => by rw [LEx]; exact ⟨h1, h2, h3, h4⟩
theorem LEx.nm {W : World} {x : Ex} (h : LEx W x) : x.nm.size ≤ maxLen := h.inv.1
theorem LEx.se {W : World} {x : Ex} (h : LEx W x) : x.se.size ≤ maxLen := h.inv.2.1
theorem LEx.sl {W : World} {x : Ex} (h : LEx W x) : SL W 17 Ex.cells x.pa x.args := h.inv.2.2.1
theorem LEx.ar {W : World} {x : Ex} (h : LEx W x) : ∀ o ∈ x.args, LEx W o := h.inv.2.2.2
structure It where
 nm : ByteArray
 k : Int
 tk : Int
 ts : Int
 nd : Bool
 po : Int
 ex : Ex
def It.cells (i : It) : List Value := .string i.nm :: .int .i64 i.k :: .int .i64 i.tk :: .int .i64 i.ts :: .bool i.nd :: .int .i64 i.po :: i.ex.cells
structure S5 where
 pr : Int
 dp : Int
 nm : ByteArray
 mx : Int
 pi : Option Addr
 ci : Nat
 items : List It
def S5.cells (x : S5) : List Value := [.int .i64 x.pr, .int .i64 x.dp, .string x.nm, .int .i64 x.mx, .slice x.pi x.items.length x.ci]
structure LS5 (W : World) (x : S5) : Prop where
 it : SL W 23 It.cells x.pi x.items
 ex : ∀ o ∈ x.items, LEx W o.ex
section
variable {H : Type} {enc : TypeId × Value → H} {W : World} {sp : Nat → Bool}
set_option maxRecDepth 100000 in
theorem cut_arr {fuel : Nat} {cs : List Value} {x : DataW H × List MemPlace} (h : DataW.trod enc Tryd.prog W 0 sp true fuel 70 cs = some x) : ∃ n0 n1 n2 n3 : Int, cs = [.int .u64 n0, .int .u64 n1, .int .u64 n2, .int .u64 n3] := by
 obtain ⟨xs, m, rfl, _, hlen, hn, hi⟩ := DataW.trod_array Tryd.underlying70 h
 rw [cl_arr4] at hlen
 obtain ⟨c0, c1, c2, c3, rfl⟩ : ∃ c0 c1 c2 c3, cs = [c0, c1, c2, c3] := by
  match cs, hlen with
  | [a, b, c, d], _ => exact ⟨a, b, c, d, rfl⟩
 obtain ⟨y0, y1, y2, y3, rfl⟩ : ∃ y0 y1 y2 y3, xs = [y0, y1, y2, y3] := by
  match xs, hn with
  | [a, b, c, d], _ => exact ⟨a, b, c, d, rfl⟩
 have i0 := hi 0 (by decide)
 have i1 := hi 1 (by decide)
 have i2 := hi 2 (by decide)
 have i3 := hi 3 (by decide)
 simp only [cl_u64] at i0 i1 i2 i3
 simp at i0 i1 i2 i3
 obtain ⟨x0, e0, _, _⟩ := DataW.trod_int Tryd.underlying68 i0
 obtain ⟨x1, e1, _, _⟩ := DataW.trod_int Tryd.underlying68 i1
 obtain ⟨x2, e2, _, _⟩ := DataW.trod_int Tryd.underlying68 i2
 obtain ⟨x3, e3, _, _⟩ := DataW.trod_int Tryd.underlying68 i3
 simp at e0 e1 e2 e3
 subst e0 e1 e2 e3
 exact ⟨x0, x1, x2, x3, rfl⟩
set_option maxRecDepth 100000 in
theorem cut_dec {fuel : Nat} {cs : List Value} {x : DataW H × List MemPlace} (h : DataW.trod enc Tryd.prog W 0 sp true fuel 72 cs = some x) : ∃ d : Dc, cs = d.cells := by
 obtain ⟨xs, m, rfl, _, hl, hlen, hi⟩ := DataW.trod_struct Tryd.underlying72 h
 rw [cl_Dec] at hl
 obtain ⟨c0, c1, c2, c3, c4, c5, rfl⟩ : ∃ c0 c1 c2 c3 c4 c5, cs = [c0, c1, c2, c3, c4, c5] := by
  match cs, hl with
  | [a0, a1, a2, a3, a4, a5], _ => exact ⟨a0, a1, a2, a3, a4, a5, rfl⟩
 obtain ⟨y0, y1, y2, rfl⟩ : ∃ y0 y1 y2, xs = [y0, y1, y2] := by
  match xs, hlen with
  | [a0, a1, a2], _ => exact ⟨a0, a1, a2, rfl⟩
 have i0 := hi 0 _ rfl
 have i1 := hi 1 _ rfl
 have i2 := hi 2 _ rfl
 simp [cl_bool, cl_arr4, cl_int] at i0 i1 i2
 obtain ⟨b, e0, _⟩ := DataW.trod_bool Tryd.underlying4 i0
 obtain ⟨n0, n1, n2, n3, e1⟩ := cut_arr i1
 obtain ⟨s, e2, _, _⟩ := DataW.trod_int Tryd.underlying3 i2
 simp at e0 e1 e2
 obtain ⟨e10, e11, e12, e13⟩ := e1
 subst e0 e10 e11 e12 e13 e2
 exact ⟨⟨b, n0, n1, n2, n3, s⟩, rfl⟩
set_option maxRecDepth 100000 in
theorem cut_val {fuel : Nat} {cs : List Value} {x : DataW H × List MemPlace} (h : DataW.trod enc Tryd.prog W 0 sp true fuel 74 cs = some x) : ∃ v : Vl, cs = v.cells := by
 obtain ⟨xs, m, rfl, _, hl, hlen, hi⟩ := DataW.trod_struct Tryd.underlying74 h
 rw [cl_Value] at hl
 obtain ⟨c0, c1, c2, c3, c4, c5, c6, c7, c8, c9, rfl⟩ : ∃ c0 c1 c2 c3 c4 c5 c6 c7 c8 c9, cs = [c0, c1, c2, c3, c4, c5, c6, c7, c8, c9] := by
  match cs, hl with
  | [a0, a1, a2, a3, a4, a5, a6, a7, a8, a9], _ => exact ⟨a0, a1, a2, a3, a4, a5, a6, a7, a8, a9, rfl⟩
 obtain ⟨y0, y1, y2, y3, y4, rfl⟩ : ∃ y0 y1 y2 y3 y4, xs = [y0, y1, y2, y3, y4] := by
  match xs, hlen with
  | [a0, a1, a2, a3, a4], _ => exact ⟨a0, a1, a2, a3, a4, rfl⟩
 have i0 := hi 0 _ rfl
 have i1 := hi 1 _ rfl
 have i2 := hi 2 _ rfl
 have i3 := hi 3 _ rfl
 have i4 := hi 4 _ rfl
 simp [cl_int, cl_Dec, cl_bool, cl_string] at i0 i1 i2 i3 i4
 obtain ⟨K, e0, _, _⟩ := DataW.trod_int Tryd.underlying3 i0
 obtain ⟨d, e1⟩ := cut_dec i1
 obtain ⟨fl, e2, _⟩ := DataW.trod_bool Tryd.underlying4 i2
 obtain ⟨tx, e3, _⟩ := DataW.trod_string Tryd.underlying9 i3
 obtain ⟨er, e4, _, _⟩ := DataW.trod_int Tryd.underlying3 i4
 simp only [Dc.cells] at e1
 simp at e0 e1 e2 e3 e4
 obtain ⟨e10, e11, e12, e13, e14, e15⟩ := e1
 subst e0 e10 e11 e12 e13 e14 e15 e2 e3 e4
 exact ⟨⟨K, d, fl, tx, er⟩, rfl⟩
set_option maxRecDepth 100000 in
theorem cut_ex : ∀ (fuel : Nat) {cs : List Value} {x : DataW H × List MemPlace}, DataW.trod enc Tryd.prog W 0 sp true fuel 77 cs = some x → ∃ e : Ex, LEx W e ∧ cs = e.cells := by
 intro fuel
 induction fuel using Nat.strongRecOn with
 | ind fuel ih =>
  intro cs x h
  obtain ⟨xs, m, rfl, _, hl, hlen, hi⟩ := DataW.trod_struct Tryd.underlying77 h
  rw [cl_Expr] at hl
  obtain ⟨c0, c1, c2, c3, c4, c5, c6, c7, c8, c9, c10, c11, c12, c13, c14, c15, c16, rfl⟩ : ∃ c0 c1 c2 c3 c4 c5 c6 c7 c8 c9 c10 c11 c12 c13 c14 c15 c16, cs = [c0, c1, c2, c3, c4, c5, c6, c7, c8, c9, c10, c11, c12, c13, c14, c15, c16] := by
   match cs, hl with
   | [a0, a1, a2, a3, a4, a5, a6, a7, a8, a9, a10, a11, a12, a13, a14, a15, a16], _ => exact ⟨a0, a1, a2, a3, a4, a5, a6, a7, a8, a9, a10, a11, a12, a13, a14, a15, a16, rfl⟩
  obtain ⟨y0, y1, y2, y3, y4, y5, y6, y7, rfl⟩ : ∃ y0 y1 y2 y3 y4 y5 y6 y7, xs = [y0, y1, y2, y3, y4, y5, y6, y7] := by
   match xs, hlen with
   | [a0, a1, a2, a3, a4, a5, a6, a7], _ => exact ⟨a0, a1, a2, a3, a4, a5, a6, a7, rfl⟩
  have i0 := hi 0 _ rfl
  have i1 := hi 1 _ rfl
  have i2 := hi 2 _ rfl
  have i3 := hi 3 _ rfl
  have i4 := hi 4 _ rfl
  have i5 := hi 5 _ rfl
  have i6 := hi 6 _ rfl
  have i7 := hi 7 _ rfl
  simp [cl_int, cl_string, cl_Value, cl_SExpr] at i0 i1 i2 i3 i4 i5 i6 i7
  obtain ⟨k, e0, _, _⟩ := DataW.trod_int Tryd.underlying3 i0
  obtain ⟨op, e1, _, _⟩ := DataW.trod_int Tryd.underlying3 i1
  obtain ⟨nm, e2, _, zn⟩ := DataW.trod_string Tryd.underlying9 i2
  obtain ⟨se, e3, _, ze⟩ := DataW.trod_string Tryd.underlying9 i3
  obtain ⟨v, e4⟩ := cut_val i4
  obtain ⟨sc, e5, _, _⟩ := DataW.trod_int Tryd.underlying3 i5
  obtain ⟨po, e6, _, _⟩ := DataW.trod_int Tryd.underlying3 i6
  obtain ⟨A, pa, cap, e7, hL, hS, _⟩ := cut_sl Tryd.underlying75 (n := 17) (by decide) cl_Expr Ex.cells (.mk 0 0 ⟨#[]⟩ ⟨#[]⟩ ⟨0, ⟨false, 0, 0, 0, 0, 0⟩, false, ⟨#[]⟩, 0⟩ 0 0 none 0 []) (LEx W) Ex.len (fun hm h => ih _ (by omega) h) i7
  simp only [Vl.cells, Dc.cells] at e4
  simp at e0 e1 e2 e3 e4 e5 e6
  obtain ⟨f0, f1, f2, f3, f4, f5, f6, f7, f8, f9⟩ := e4
  subst e0 e1 e2 e3 f0 f1 f2 f3 f4 f5 f6 f7 f8 f9 e5 e6 e7
  exact ⟨.mk k op nm se v sc po pa cap A, .mk zn ze hS hL, rfl⟩
set_option maxRecDepth 100000 in
theorem cut_type {fuel : Nat} {cs : List Value} {x : DataW H × List MemPlace} (h : DataW.trod enc Tryd.prog W 0 sp true fuel 67 cs = some x) : ∃ k s : Int, cs = [.int .i64 k, .int .i64 s] := by
 obtain ⟨xs, m, rfl, _, hl, hlen, hi⟩ := DataW.trod_struct Tryd.underlying67 h
 rw [cl_Type] at hl
 obtain ⟨c0, c1, rfl⟩ : ∃ c0 c1, cs = [c0, c1] := by
  match cs, hl with
  | [a0, a1], _ => exact ⟨a0, a1, rfl⟩
 obtain ⟨y0, y1, rfl⟩ : ∃ y0 y1, xs = [y0, y1] := by
  match xs, hlen with
  | [a0, a1], _ => exact ⟨a0, a1, rfl⟩
 have i0 := hi 0 _ rfl
 have i1 := hi 1 _ rfl
 simp [cl_int] at i0 i1
 obtain ⟨k, e0, _, _⟩ := DataW.trod_int Tryd.underlying3 i0
 obtain ⟨s, e1, _, _⟩ := DataW.trod_int Tryd.underlying3 i1
 simp at e0 e1
 subst e0 e1
 exact ⟨k, s, rfl⟩
set_option maxRecDepth 100000 in
theorem cut_item {fuel : Nat} {cs : List Value} {x : DataW H × List MemPlace} (h : DataW.trod enc Tryd.prog W 0 sp true fuel 79 cs = some x) : ∃ i : It, LEx W i.ex ∧ cs = i.cells := by
 obtain ⟨xs, m, rfl, _, hl, hlen, hi⟩ := DataW.trod_struct Tryd.underlying79 h
 rw [cl_Item] at hl
 obtain ⟨c0, c1, c2, c3, c4, c5, c6, c7, c8, c9, c10, c11, c12, c13, c14, c15, c16, c17, c18, c19, c20, c21, c22, rfl⟩ : ∃ c0 c1 c2 c3 c4 c5 c6 c7 c8 c9 c10 c11 c12 c13 c14 c15 c16 c17 c18 c19 c20 c21 c22, cs = [c0, c1, c2, c3, c4, c5, c6, c7, c8, c9, c10, c11, c12, c13, c14, c15, c16, c17, c18, c19, c20, c21, c22] := by
  match cs, hl with
  | [a0, a1, a2, a3, a4, a5, a6, a7, a8, a9, a10, a11, a12, a13, a14, a15, a16, a17, a18, a19, a20, a21, a22], _ => exact ⟨a0, a1, a2, a3, a4, a5, a6, a7, a8, a9, a10, a11, a12, a13, a14, a15, a16, a17, a18, a19, a20, a21, a22, rfl⟩
 obtain ⟨y0, y1, y2, y3, y4, y5, rfl⟩ : ∃ y0 y1 y2 y3 y4 y5, xs = [y0, y1, y2, y3, y4, y5] := by
  match xs, hlen with
  | [a0, a1, a2, a3, a4, a5], _ => exact ⟨a0, a1, a2, a3, a4, a5, rfl⟩
 have i0 := hi 0 _ rfl
 have i1 := hi 1 _ rfl
 have i2 := hi 2 _ rfl
 have i3 := hi 3 _ rfl
 have i4 := hi 4 _ rfl
 have i5 := hi 5 _ rfl
 simp [cl_string, cl_int, cl_Type, cl_bool, cl_Expr] at i0 i1 i2 i3 i4 i5
 obtain ⟨nm, e0, _⟩ := DataW.trod_string Tryd.underlying9 i0
 obtain ⟨k, e1, _, _⟩ := DataW.trod_int Tryd.underlying3 i1
 obtain ⟨tk, ts, e2⟩ := cut_type i2
 obtain ⟨nd, e3, _⟩ := DataW.trod_bool Tryd.underlying4 i3
 obtain ⟨po, e4, _, _⟩ := DataW.trod_int Tryd.underlying3 i4
 obtain ⟨ex, hx, e5⟩ := cut_ex _ i5
 simp at e0 e1 e2 e3 e4
 obtain ⟨e20, e21⟩ := e2
 subst e0 e1 e20 e21 e3 e4
 exact ⟨⟨nm, k, tk, ts, nd, po, ex⟩, hx, by show _ :: _ :: _ :: _ :: _ :: _ :: _ = _; rw [e5]; rfl⟩
theorem It.len (i : It) : i.cells.length = 23 := rfl
end
end D
end Go.Proofs.YtnffhcjmpjajlaaDoor

namespace Go.Proofs.YtnffhcjmpjajlaaDoor
open Go.ChangeShapes Go.WideShapes Go.ChangeAt Go.RowKit
namespace D
theorem LEx.kp {W W' : World} (m : Kp W W') {e : Ex} (h : LEx W e) : LEx W' e :=
 Ex.ind (M := fun e => LEx W e → LEx W' e) (fun _ _ _ _ _ _ _ _ _ _ ih h => .mk h.nm h.se (h.sl.kp m) (fun o ho => ih o ho (h.ar o ho))) e h
theorem LS5.kp {W W' : World} (m : Kp W W') {x : S5} (h : LS5 W x) : LS5 W' x := ⟨h.it.kp m, fun o ho => (h.ex o ho).kp m⟩
end D
end Go.Proofs.YtnffhcjmpjajlaaDoor

namespace Go.Proofs.YtnffhcjmpjajlaaDoor
open Go.RowKit D
theorem sz9 : (Tryd.prog.info? 9).map (·.size) = some 1 := by kernel_rfl
theorem ix22 {pa : Option Addr} {b off i n c : Nat} (hp : pa = some ⟨b, off, none⟩) (h : i < n) (w : World) : (Instr.indexAt 22 (.slice pa n c) (.int .i64 (i : Int))).run Tryd.prog w = .ok (pt b (off + i * 5)) w := by
 subst hp
 have e : (Instr.indexAt 22 (.slice (some ⟨b, off, none⟩) n c) (.int .i64 (i : Int))).run Tryd.prog w = .ok (.pointer (some ((⟨b, off, none⟩ : Addr).add (i * 5)))) w := by simp [go_sem, h]
 rw [e, Addr.add_mid]
theorem len22 (ρ : Operand → Value) (x : Operand) (p : Option Addr) (m c : Nat) (hx : ρ x = .slice p m c) (dst : Option Tmp) (type : TypeId) (pos : String) (after : Array Edge) (guard : Option (Nat × Bool)) (w : World) : (execOp ρ { dst, op := .call { callee := .builtin .len, args := #[x], argTypes := #[22] }, type, pos, after, guard }).run Tryd.prog w = .ok (.value (.int .i64 (m : Int))) w := by
 simp [go_sem, hx]
theorem sz25 : (Tryd.prog.info? 25).map (·.size) = some 4 := by kernel_rfl
theorem sz27 : (Tryd.prog.info? 27).map (·.size) = some 5 := by kernel_rfl
theorem ix42 {pa : Option Addr} {b off i n c : Nat} (hp : pa = some ⟨b, off, none⟩) (h : i < n) (w : World) : (Instr.indexAt 42 (.slice pa n c) (.int .i64 (i : Int))).run Tryd.prog w = .ok (pt b (off + i * 23)) w := by
 subst hp
 have e : (Instr.indexAt 42 (.slice (some ⟨b, off, none⟩) n c) (.int .i64 (i : Int))).run Tryd.prog w = .ok (.pointer (some ((⟨b, off, none⟩ : Addr).add (i * 23)))) w := by simp [go_sem, h]
 rw [e, Addr.add_mid]
theorem len42 (ρ : Operand → Value) (x : Operand) (p : Option Addr) (m c : Nat) (hx : ρ x = .slice p m c) (dst : Option Tmp) (type : TypeId) (pos : String) (after : Array Edge) (guard : Option (Nat × Bool)) (w : World) : (execOp ρ { dst, op := .call { callee := .builtin .len, args := #[x], argTypes := #[42] }, type, pos, after, guard }).run Tryd.prog w = .ok (.value (.int .i64 (m : Int))) w := by
 simp [go_sem, hx]
theorem sz65 : (Tryd.prog.info? 65).map (·.size) = some 5 := by kernel_rfl
theorem sz79 : (Tryd.prog.info? 79).map (·.size) = some 23 := by kernel_rfl
theorem eq2 {a b : Int} {r : Bool} (h : decide (a = b) = r) (x y : Operand) (w : World) : (do eqGuard .eql 2 x y (.int .i64 a) (.int .i64 b); binOp .eql 2 (.int .i64 a) (.int .i64 b)).run Tryd.prog w = .ok (.bool r) w := by subst h; by_cases e : a = b <;> simp [go_sem, e]
theorem ne2 {a b : Int} {r : Bool} (h : decide (a = b) = r) (x y : Operand) (w : World) : (do eqGuard .neq 2 x y (.int .i64 a) (.int .i64 b); binOp .neq 2 (.int .i64 a) (.int .i64 b)).run Tryd.prog w = .ok (.bool (!r)) w := by subst h; by_cases e : a = b <;> simp [go_sem, e]
theorem le2 {a b : Int} {r : Bool} (h : decide (a ≤ b) = r) (x y : Operand) (w : World) : (do eqGuard .leq 2 x y (.int .i64 a) (.int .i64 b); binOp .leq 2 (.int .i64 a) (.int .i64 b)).run Tryd.prog w = .ok (.bool r) w := by subst h; simp [go_sem]
theorem ge2 {a b : Int} {r : Bool} (h : decide (b ≤ a) = r) (x y : Operand) (w : World) : (do eqGuard .geq 2 x y (.int .i64 a) (.int .i64 b); binOp .geq 2 (.int .i64 a) (.int .i64 b)).run Tryd.prog w = .ok (.bool r) w := by subst h; simp [go_sem]
structure Ro where
 s : Int
 a : Int
 b : Int
 c : Int
def Ro.cells (r : Ro) : List Value := [.int .i64 r.s, .int .i64 r.a, .int .i64 r.b, .int .i64 r.c]
abbrev Ro.v (r : Ro) : Value := .agg r.cells.toArray
def ro0 : Ro := ⟨0, 0, 0, 0⟩
structure Ce where
 r : Ro
 i : Int
def Ce.cells (c : Ce) : List Value := c.r.cells ++ [.int .i64 c.i]
abbrev Ce.v (c : Ce) : Value := .agg c.cells.toArray
structure LL (W : World) (pl : Option Addr) (l : List S5) : Prop where
 sl : SL W 5 S5.cells pl l
 it : ∀ x ∈ l, SL W 23 It.cells x.pi x.items
 nm : ∀ x ∈ l, x.nm.size ≤ 140737488355328
 im : ∀ x ∈ l, ∀ y ∈ x.items, y.nm.size ≤ 140737488355328
theorem LL.kp {W W' : World} {pl : Option Addr} {l : List S5} (h : LL W pl l) (m : Kp W W') : LL W' pl l := ⟨h.sl.kp m, fun x hx => (h.it x hx).kp m, h.nm, h.im⟩
theorem LL.mo {W W' : World} {pl : Option Addr} {l : List S5} (h : LL W pl l) (m : Mo W W') : LL W' pl l := h.kp m.kp
def idk (n : Int) : Bool := decide (1 ≤ n) && decide (n ≤ 9007199254740992)
def dpA (l : List S5) (i : Nat) : Int := match l[i]? with
 | some y => y.dp
 | none => 0
theorem dpA_at {l : List S5} {i : Nat} {y : S5} (h : l[i]? = some y) : dpA l i = y.dp := by unfold dpA; rw [h]
def sbd (l : List S5) (i : Nat) (x : S5) : Bool :=
 if i = 0 then decide (x.pr = -1) && decide (x.dp = 1)
 else decide (0 ≤ x.pr) && (decide (x.pr < (i : Int)) && (decide (x.dp = dpA l x.pr.toNat + 1) && decide (x.dp ≤ 4)))
def sndI (l : List S5) (n : Nat) : Prop := ∀ j < n, ∀ x, l[j]? = some x → sbd l j x = true
def sbdAt (l : List S5) (i : Nat) : Bool := match l[i]? with
 | some x => sbd l i x
 | none => true
def snd (l : List S5) : Bool := (List.range l.length).all (sbdAt l)
theorem snd_iff {l : List S5} : snd l = true ↔ sndI l l.length := by
 unfold snd sndI
 rw [List.all_eq_true]
 refine ⟨fun h j hj x hx => ?_, fun h j hj => ?_⟩
 ·have := h j (List.mem_range.2 hj)
  unfold sbdAt at this; rw [hx] at this; exact this
 ·obtain ⟨x, hx⟩ := get_of_lt (List.mem_range.1 hj)
  unfold sbdAt; rw [hx]; exact h j (List.mem_range.1 hj) x hx
theorem snd_no {l : List S5} {i : Nat} {x : S5} (hx : l[i]? = some x) (h : sbd l i x = false) : snd l = false := by
 cases e : snd l with
 | false => rfl
 | true => have := snd_iff.1 e i (lt_of_get hx) x hx; rw [h] at this; cases this
theorem sb_inv {l : List S5} {i : Nat} {x : S5} (h : sbd l i x = true) : (i = 0 ∧ x.pr = -1 ∧ x.dp = 1) ∨ (0 < i ∧ 0 ≤ x.pr ∧ x.pr < (i : Int) ∧ x.dp = dpA l x.pr.toNat + 1 ∧ x.dp ≤ 4) := by
 unfold sbd at h
 split at h
 next e => simp at h; exact .inl ⟨e, h.1, h.2⟩
 next e => simp at h; exact .inr ⟨by omega, h.1, h.2.1, h.2.2.1, h.2.2.2⟩
theorem dp_rg {l : List S5} {n : Nat} (h : sndI l n) : ∀ (j : Nat), j < n → ∀ x, l[j]? = some x → 1 ≤ x.dp ∧ x.dp ≤ 4 := by
 intro j
 induction j using Nat.strongRecOn with
 | _ j ih =>
  intro hj x hx
  rcases sb_inv (h j hj x hx) with ⟨_, _, e⟩ | ⟨h0, h1, h2, h3, h4⟩
  ·omega
  ·obtain ⟨y, hy⟩ := get_of_lt (show x.pr.toNat < l.length by have := lt_of_get hx; omega)
   have := ih x.pr.toNat (by omega) (by omega) y hy
   rw [dpA_at hy] at h3
   omega
theorem pr_at {l : List S5} (h : snd l = true) {j : Nat} {x : S5} (hx : l[j]? = some x) (h0 : j ≠ 0) : ∃ y, l[x.pr.toNat]? = some y ∧ 0 ≤ x.pr ∧ x.pr < (j : Int) ∧ x.dp = y.dp + 1 ∧ 2 ≤ x.dp ∧ x.dp ≤ 4 := by
 have hs := snd_iff.1 h
 rcases sb_inv (hs j (lt_of_get hx) x hx) with ⟨e, _⟩ | ⟨_, h1, h2, h3, h4⟩
 ·exact absurd e h0
 ·obtain ⟨y, hy⟩ := get_of_lt (show x.pr.toNat < l.length by have := lt_of_get hx; omega)
  have := dp_rg hs _ (lt_of_get hy) y hy
  rw [dpA_at hy] at h3
  exact ⟨y, hy, h1, h2, h3, by omega, h4⟩
theorem dp_at {l : List S5} (h : snd l = true) {j : Nat} {x : S5} (hx : l[j]? = some x) : 1 ≤ x.dp ∧ x.dp ≤ 4 := dp_rg (snd_iff.1 h) j (lt_of_get hx) x hx
theorem dp_root {l : List S5} (h : snd l = true) {x : S5} (hx : l[0]? = some x) : x.dp = 1 := by
 rcases sb_inv (snd_iff.1 h 0 (lt_of_get hx) x hx) with ⟨_, _, e⟩ | ⟨h0, _⟩
 ·exact e
 ·omega
def idu (d : Int) (i : Int) (n : Int) : Bool := if i < d - 1 then idk n else decide (n = 0)
def ids (d : Int) (r : Ro) : Bool := idu d 0 r.a && (idu d 1 r.b && idu d 2 r.c)
def ckR (l : List S5) (r : Ro) : Int := if snd l && (decide (0 ≤ r.s) && (decide (r.s < (l.length : Int)) && ids (dpA l r.s.toNat) r)) then 0 else 150
theorem ck_0 {l : List S5} {r : Ro} (h : ckR l r = 0) : snd l = true ∧ 0 ≤ r.s ∧ r.s < (l.length : Int) ∧ ids (dpA l r.s.toNat) r = true := by
 unfold ckR at h
 split at h
 next e => simp only [Bool.and_eq_true, decide_eq_true_eq] at e; exact e
 next => exact absurd h (by decide)
theorem next_sb {l : List S5} {i : Nat} {x : S5} (h : sndI l i) (hx : l[i]? = some x) (hs : sbd l i x = true) : sndI l (i + 1) := by
 intro j hj y hy
 by_cases e : j = i
 ·subst e; rw [hx] at hy; cases hy; exact hs
 ·exact h j (by omega) y hy
def idR (d : Int) (r : Ro) : Int := if d = 2 then r.a else if d = 3 then r.b else r.c
def setR (d : Int) (r : Ro) (n : Int) : Ro := if d = 2 then ⟨r.s, n, r.b, r.c⟩ else if d = 3 then ⟨r.s, r.a, n, r.c⟩ else ⟨r.s, r.a, r.b, n⟩
def prA (l : List S5) (i : Nat) : Int := match l[i]? with
 | some y => y.pr
 | none => 0
theorem prA_at {l : List S5} {i : Nat} {y : S5} (h : l[i]? = some y) : prA l i = y.pr := by unfold prA; rw [h]
def idA (l : List S5) (r : Ro) : Int := if ckR l r = 0 ∧ r.s ≠ 0 then idR (dpA l r.s.toNat) r else 0
def parO (l : List S5) (r : Ro) : Bool := decide (ckR l r = 0) && !decide (r.s = 0)
def parU (l : List S5) (r : Ro) : Ro := ⟨prA l r.s.toNat, (setR (dpA l r.s.toNat) r 0).a, (setR (dpA l r.s.toNat) r 0).b, (setR (dpA l r.s.toNat) r 0).c⟩
def parR (l : List S5) (r : Ro) : Ro := if parO l r then parU l r else ro0
def nmA (l : List S5) (s i : Int) : ByteArray := match l[s.toNat]? with
 | some x => (match x.items[i.toNat]? with
  | some y => y.nm
  | none => ⟨#[]⟩)
 | none => ⟨#[]⟩
def ilA (l : List S5) (i : Nat) : Int := match l[i]? with
 | some y => (y.items.length : Int)
 | none => 0
theorem ilA_at {l : List S5} {i : Nat} {y : S5} (h : l[i]? = some y) : ilA l i = (y.items.length : Int) := by unfold ilA; rw [h]
def ckC (l : List S5) (c : Ce) : Int := if ckR l c.r = 0 then (if decide (0 ≤ c.i) && decide (c.i < ilA l c.r.s.toNat) then 0 else 150) else ckR l c.r
end Go.Proofs.YtnffhcjmpjajlaaDoor

namespace Go.Proofs.YtnffhcjmpjajlaaDoor
open Go.RowKit D
theorem ix22I {pa : Option Addr} {b off n c : Nat} {z : Int} (hz : 0 ≤ z) (hp : pa = some ⟨b, off, none⟩) (h : z.toNat < n) (w : World) : (Instr.indexAt 22 (.slice pa n c) (.int .i64 z)).run Tryd.prog w = .ok (pt b (off + z.toNat * 5)) w := by
 have e := ix22 (c := c) hp h w
 rw [show ((z.toNat : Nat) : Int) = z by omega] at e
 exact e
theorem ix42I {pa : Option Addr} {b off n c : Nat} {z : Int} (hz : 0 ≤ z) (hp : pa = some ⟨b, off, none⟩) (h : z.toNat < n) (w : World) : (Instr.indexAt 42 (.slice pa n c) (.int .i64 z)).run Tryd.prog w = .ok (pt b (off + z.toNat * 23)) w := by
 have e := ix42 (c := c) hp h w
 rw [show ((z.toNat : Nat) : Int) = z by omega] at e
 exact e
theorem get_any (l : List S5) (i : Nat) : ∃ p : S5, i < l.length → l[i]? = some p := by
 by_cases h : i < l.length
 ·obtain ⟨p, hp⟩ := get_of_lt h; exact ⟨p, fun _ => hp⟩
 ·exact ⟨⟨0, 0, ⟨#[]⟩, 0, none, 0, []⟩, fun q => absurd q h⟩
theorem sb_0 {l : List S5} {i : Nat} {x : S5} (hi : i = 0) (h1 : x.pr = -1) (h2 : x.dp = 1) : sbd l i x = true := by unfold sbd; rw [if_pos hi]; simp [h1, h2]
theorem sb_p {l : List S5} {i : Nat} {x p : S5} (hi : ¬ i = 0) (h1 : 0 ≤ x.pr) (h2 : x.pr < (i : Int)) (hp : l[x.pr.toNat]? = some p) (h3 : x.dp = p.dp + 1) (h4 : x.dp ≤ 4) : sbd l i x = true := by
 unfold sbd; rw [if_neg hi, dpA_at hp]; simp [h1, h2, h4]; exact h3
theorem subI {a c : Int} {k : Int} (h : a - k = c) (h0 : -9223372036854775808 ≤ c) (h1 : c ≤ 9223372036854775807) (x y : Operand) (w : World) : (do eqGuard .sub 3 x y (.int .i64 a) (.int .i64 k); binOp .sub 3 (.int .i64 a) (.int .i64 k)).run Tryd.prog w = .ok (.int .i64 c) w := by
 have q : IntKind.i64.wrap (a - k) = c := by rw [IntKind.wrap_i64]; omega
 simp [go_sem, q]
theorem ck_yes {l : List S5} {r : Ro} {y : S5} (h : snd l = true) (h0 : 0 ≤ r.s) (h1 : r.s < (l.length : Int)) (hy : l[r.s.toNat]? = some y) (hi : ids y.dp r = true) : ckR l r = 0 := by
 unfold ckR; rw [dpA_at hy]; simp [h, h0, h1, hi]
theorem ck_n1 {l : List S5} {r : Ro} (h : snd l = false) : ckR l r = 150 := by unfold ckR; rw [h]; rfl
theorem ck_n2 {l : List S5} {r : Ro} (h : r.s < 0 ∨ (l.length : Int) ≤ r.s) : ckR l r = 150 := by
 unfold ckR
 rw [if_neg]
 simp only [Bool.and_eq_true, decide_eq_true_eq]
 omega
theorem ck_n3 {l : List S5} {r : Ro} {y : S5} (hy : l[r.s.toNat]? = some y) (hi : ids y.dp r = false) : ckR l r = 150 := by
 unfold ckR; rw [dpA_at hy, hi]; simp
end Go.Proofs.YtnffhcjmpjajlaaDoor

namespace Go.Proofs.YtnffhcjmpjajlaaDoor
open Go.RowKit D
theorem sz2 : (Tryd.prog.info? 2).map (·.size) = some 1 := by kernel_rfl
theorem sz3 : (Tryd.prog.info? 3).map (·.size) = some 1 := by kernel_rfl
theorem rp {a b : Ro} {f g : Bool} (h1 : a = b) (h2 : f = g) : Ending.returned (.tuple #[a.v, .bool f]) = .returned (.tuple #[b.v, .bool g]) := by rw [h1, h2]
theorem par_v {l : List S5} {r : Ro} {y : S5} (h : ckR l r = 0) (h0 : ¬ r.s = 0) (hy : l[r.s.toNat]? = some y) : parR l r = ⟨y.pr, (setR y.dp r 0).a, (setR y.dp r 0).b, (setR y.dp r 0).c⟩ ∧ parO l r = true := by
 have e : parO l r = true := by unfold parO; simp [h, h0]
 refine ⟨?_, e⟩
 unfold parR parU
 rw [if_pos e, dpA_at hy, prA_at hy]
theorem par_n {l : List S5} {r : Ro} (h : ckR l r = 0 → r.s = 0) : parR l r = ro0 ∧ parO l r = false := by
 have e : parO l r = false := by
  unfold parO
  by_cases q : ckR l r = 0
  ·simp [q, h q]
  ·simp [q]
 exact ⟨by unfold parR; rw [e]; rfl, e⟩
theorem id_v {l : List S5} {r : Ro} {y : S5} (h : ckR l r = 0) (h0 : ¬ r.s = 0) (hy : l[r.s.toNat]? = some y) : idA l r = idR y.dp r := by unfold idA; rw [if_pos ⟨h, h0⟩, dpA_at hy]
theorem id_z {l : List S5} {r : Ro} (h : ckR l r = 0 → r.s = 0) : idA l r = 0 := by
 unfold idA; rw [if_neg]; rintro ⟨a, b⟩; exact b (h a)
theorem cc_v {l : List S5} {c : Ce} {y : S5} (h : ckR l c.r = 0) (hy : l[c.r.s.toNat]? = some y) : ckC l c = if decide (0 ≤ c.i) && decide (c.i < (y.items.length : Int)) then 0 else 150 := by unfold ckC; rw [if_pos h, ilA_at hy]
theorem cc_n {l : List S5} {c : Ce} (h : ¬ ckR l c.r = 0) : ckC l c = ckR l c.r := by unfold ckC; rw [if_neg h]
end Go.Proofs.YtnffhcjmpjajlaaDoor

namespace Go.Proofs.YtnffhcjmpjajlaaDoor
open Go.RowKit D
theorem par_t {l : List S5} {r : Ro} (h : parO l r = true) : ckR l r = 0 ∧ r.s ≠ 0 ∧ 0 ≤ (parU l r).s ∧ (parU l r).s < r.s := by
 unfold parO at h
 simp at h
 obtain ⟨hsn, h0, h1, _⟩ := ck_0 h.1
 obtain ⟨y, hy⟩ := get_of_lt (show r.s.toNat < l.length by omega)
 obtain ⟨_, _, a, b, _⟩ := pr_at hsn hy (by omega)
 refine ⟨h.1, h.2, ?_, ?_⟩
 ·show 0 ≤ prA l r.s.toNat; rw [prA_at hy]; exact a
 ·show prA l r.s.toNat < r.s; rw [prA_at hy]; omega
theorem par_u {l : List S5} {r : Ro} (h : parO l r = true) : parR l r = parU l r := by unfold parR; rw [if_pos h]
def sR (x y : Ro) : Bool := x.s == y.s && (x.a == y.a && (x.b == y.b && x.c == y.c))
theorem sR_self (x : Ro) : sR x x = true := by simp [sR]
theorem gt25 : Tryd.prog.eqGuardType Tryd.prog.depth 25 = false := by kernel_rfl
end Go.Proofs.YtnffhcjmpjajlaaDoor

namespace Go.Proofs.YtnffhcjmpjajlaaDoor
open Go.RowKit D
theorem qpt0 (x0 x1 x2 : Value) (w : World) : (part 2 #[x0, x1, x2] 0).run Tryd.prog w = .ok x0 w := by kernel_rfl
theorem qpt1 (x0 x1 x2 : Value) (w : World) : (part 2 #[x0, x1, x2] 1).run Tryd.prog w = .ok x1 w := by kernel_rfl
theorem qpt2 (x0 x1 x2 : Value) (w : World) : (part 2 #[x0, x1, x2] 2).run Tryd.prog w = .ok x2 w := by kernel_rfl
theorem cells2 : Tryd.prog.cellsOf 2 = 1 := by kernel_rfl
theorem info2 : ∃ i, Tryd.prog.info? 2 = some i := Option.isSome_iff_exists.1 (by kernel_rfl)
theorem eq3d (d : Nat) (a b c f g h : Int) (w : World) : (Op.equalIn (d + 1 + 1) 23 (.agg #[.int .i64 a, .int .i64 b, .int .i64 c]) (.agg #[.int .i64 f, .int .i64 g, .int .i64 h])).run Tryd.prog w = .ok (a == f && (b == g && c == h)) w := by
 obtain ⟨j, hj⟩ := info2
 rw [run_equalIn_array w (d + 1) _ _ Tryd.underlying23 hj, cells2]
 have q : ∀ (x y : Int), (Op.equalIn (d + 1) 2 (.int .i64 x) (.int .i64 y)).run Tryd.prog w = .ok (x == y) w := fun x y => run_equalIn_int w d 2 .i64 .i64 x y Tryd.underlying2
 rw [show List.range 3 = [0, 1, 2] from rfl]
 cases ha : a == f <;> cases hb : b == g <;> cases hc : c == h <;> simp [Op.eqItems, Sem.run_bind, qpt0, qpt1, qpt2, Result.andThen_ok, q, ha, hb, hc, Sem.run_pure]
theorem ht25 : Tryd.prog.underlying 25 = some (.struct (Tryd.prog.fieldsOf 25)) := by kernel_rfl
theorem hp25 : Tryd.prog.stoodInHeld 25 = false := by kernel_rfl
theorem fo25 : (Tryd.prog.fieldsOf 25).toList.map (fun f => (f.name, f.type, f.offset)) = [("Section", 3, 0), ("Ids", 23, 1)] := by kernel_rfl
theorem pr0 (x : Ro) (w : World) : (part 3 x.cells.toArray 0).run Tryd.prog w = .ok (.int .i64 x.s) w := by kernel_rfl
theorem pr1 (x : Ro) (w : World) : (part 23 x.cells.toArray 1).run Tryd.prog w = .ok (.agg #[.int .i64 x.a, .int .i64 x.b, .int .i64 x.c]) w := by kernel_rfl
theorem eqRo (d : Nat) (x y : Ro) (w : World) : (Op.equalIn (d + 1 + 1 + 1) 25 x.v y.v).run Tryd.prog w = .ok (sR x y) w := by
 rw [run_equalIn_struct w (d + 1 + 1) 25 _ _ ht25 hp25]
 have h := fo25
 generalize (Tryd.prog.fieldsOf 25).toList = L at h
 have hl : L.length = 2 := by have := congrArg List.length h; simpa using this
 match L, hl with
 | [f0, f1], _ =>
  simp at h
  obtain ⟨⟨a0, a1, a2⟩, ⟨b0, b1, b2⟩⟩ := h
  have q1 : (Op.equalIn (d + 1 + 1) 3 (.int .i64 x.s) (.int .i64 y.s)).run Tryd.prog w = .ok (x.s == y.s) w := run_equalIn_int w (d + 1) 3 .i64 .i64 x.s y.s Tryd.underlying3
  have q2 := eq3d d x.a x.b x.c y.a y.b y.c w
  unfold sR
  generalize (x.a == y.a && (x.b == y.b && x.c == y.c)) = z at q2 ⊢
  simp only [Op.eqFields, a0, a1, a2, b0, b1, b2]
  cases h1 : (x.s == y.s) <;> cases z <;> simp [Sem.run_bind, pr0, pr1, Result.andThen_ok, q1, q2, h1, Sem.run_pure]
theorem guard_run {op : BinOp} {ty : TypeId} {a b : Array Value} {w : World} (x y : Operand) (hg : Tryd.prog.eqGuardType Tryd.prog.depth ty = false) : (eqGuard op ty x y (.agg a) (.agg b)).run Tryd.prog w = .ok () w := by
 unfold eqGuard
 cases op <;> simp [hg]
theorem eqa_run {ty : TypeId} {a b : Array Value} {r : Bool} {w : World} (hg : Tryd.prog.eqGuardType Tryd.prog.depth ty = false) (q : (Op.equalIn 10000 ty (.agg a) (.agg b)).run Tryd.prog w = .ok r w) (x y : Operand) :
  (do eqGuard .eql ty x y (.agg a) (.agg b); binOp .eql ty (.agg a) (.agg b)).run Tryd.prog w = .ok (.bool r) w := by
 have e : binOp .eql ty (.agg a) (.agg b) = (do pure (.bool (← Op.equalIn 10000 ty (.agg a) (.agg b)))) := rfl
 rw [Sem.run_bind, guard_run x y hg, e, Result.andThen_ok, Sem.run_bind, q]; rfl
theorem eqR {x y : Ro} {r : Bool} (h : sR x y = r) (p q : Operand) (w : World) : (do eqGuard .eql 25 p q x.v y.v; binOp .eql 25 x.v y.v).run Tryd.prog w = .ok (.bool r) w := eqa_run gt25 (by rw [← h]; exact eqRo 9997 x y w) p q
end Go.Proofs.YtnffhcjmpjajlaaDoor


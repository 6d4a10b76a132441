/-
  Definitions in memory; all of a list. Sections that may be said. Sections that may be said: the document's. Sections are written: the program's. Sections are written: the document's. Tables that may be said. Pages and definitions that may be said: the program's. Definitions that may be said: the document's. Tables are written: the program's. Pages are written: the program's. Definitions are written: the program's. Definitions printed: the program's. Tables are written: the document's. Definitions are written and printed: the document's. Definitions printed: the document's; both print the same. The law of printing: its walk, of what begun comes to. How many words there are. What came in, cut: numbers, values, expressions; their weight. What came in, cut: definitions; their weight. What came in, opened. The listed tables lie there.
-/
import Derived.Test.YtpabcmaeaiaknaaGreatDoorYd
import Derived.Test.YtpabcmaeaiaknaaGreatDoorRows
import Derived.ProofKit
import Derived.OpenShut
import Derived.ChangeArms
import Derived.Deep.Slices
import Derived.Deep.MidRow
import Derived.ReadAgain
import Derived.WideKeyArgs
import Derived.WideKeyElems2
import Derived.JoinedCond
import Derived.Carry
import Derived.ChangeMaps5
import Derived.SizedLaws
import Derived.LaidLaws
import Derived.LaidHandle
import Derived.Lib.LaidIn
import Derived.Lib.LaidTab
namespace Go.Proofs.YtpabcmaeaiaknaaGreatDoor
open S Go.RowKit
structure Sec where
  nm : ByteArray
  mx : Int
  ip : Option Addr
  icl : Nat
  its : List Itm
  sp : Option Addr
  scl : Nat
  secs : List Sec
structure Rat' where
  b0 : Bool
  n0 : Int
  s0 : Int
  b1 : Bool
  n1 : Int
  s1 : Int
  b2 : Bool
  n2 : Int
  s2 : Int
structure Tab where
  nm : ByteArray
  p : Option Addr
  cl : Nat
  a : List Rat'
structure Pag where
  nm : ByteArray
  x : Ex
  p : Option Addr
  cl : Nat
  a : List ByteArray
structure Dfn where
  nm : ByteArray
  r : Sec
  tp : Option Addr
  tcl : Nat
  tabs : List Tab
  pp : Option Addr
  pcl : Nat
  pags : List Pag
def Sec.c (y : Sec) : List Value := [.string y.nm, .int .i64 y.mx, .slice y.ip y.its.length y.icl, .slice y.sp y.secs.length y.scl]
def Rat'.c (y : Rat') : List Value := [.bool y.b0, .int .u64 (l0 y.n0), .int .u64 (l1 y.n0), .int .u64 (l2 y.n0), .int .u64 (l3 y.n0), .int .i64 y.s0, .bool y.b1, .int .u64 (l0 y.n1), .int .u64 (l1 y.n1), .int .u64 (l2 y.n1), .int .u64 (l3 y.n1), .int .i64 y.s1, .bool y.b2, .int .u64 (l0 y.n2), .int .u64 (l1 y.n2), .int .u64 (l2 y.n2), .int .u64 (l3 y.n2), .int .i64 y.s2]
def Tab.c (y : Tab) : List Value := [.string y.nm, .slice y.p y.a.length y.cl]
def Pag.c (y : Pag) : List Value := [.string y.nm, .int .i64 y.x.k, .int .i64 y.x.op, .string y.x.nm, .string y.x.sc, .int .i64 y.x.v.k, .bool y.x.v.b, .int .u64 (l0 y.x.v.n), .int .u64 (l1 y.x.v.n), .int .u64 (l2 y.x.v.n), .int .u64 (l3 y.x.v.n), .int .i64 y.x.v.s, .bool y.x.v.f, .string y.x.v.t, .int .i64 y.x.v.e, .int .i64 y.x.s, .int .i64 y.x.pl, .slice y.x.p y.x.a.length y.x.cl, .slice y.p y.a.length y.cl]
def Dfn.c (y : Dfn) : List Value := [.string y.nm, .string y.r.nm, .int .i64 y.r.mx, .slice y.r.ip y.r.its.length y.r.icl, .slice y.r.sp y.r.secs.length y.r.scl, .slice y.tp y.tabs.length y.tcl, .slice y.pp y.pags.length y.pcl]
abbrev Sec.y (y : Sec) : Value := .agg (y.c.map rel1).toArray
abbrev Sec.w (y : Sec) : Value := .agg y.c.toArray
abbrev Rat'.y (y : Rat') : Value := .agg (y.c.map rel1).toArray
abbrev Rat'.w (y : Rat') : Value := .agg y.c.toArray
abbrev Tab.y (y : Tab) : Value := .agg (y.c.map rel1).toArray
abbrev Tab.w (y : Tab) : Value := .agg y.c.toArray
abbrev Pag.y (y : Pag) : Value := .agg (y.c.map rel1).toArray
abbrev Pag.w (y : Pag) : Value := .agg y.c.toArray
abbrev Dfn.y (y : Dfn) : Value := .agg (y.c.map rel1).toArray
abbrev Dfn.w (y : Dfn) : Value := .agg y.c.toArray
def EachA {T : Type} (c : T -> List Value) (N : Nat) (f : FuncId) (w : World) (p : Option Addr) (l : List T) (g : T -> Bool) : Prop := ∀ i y, l[i]? = some y -> (∃ b o, p = some ⟨b, o, none⟩ /\ Lies w b (o + i * N) (c y)) /\ ∀ W, (∀ a u, w.cell? a = some u -> W.cell? a = some u) -> Calls Tryz.prog f #[.agg (c y).toArray] W fun e W' => e = .returned (.bool (g y)) /\ Mb W W'
theorem EachA.mono {T : Type} {c : T -> List Value} {N : Nat} {f : FuncId} {w w' : World} {p : Option Addr} {l : List T} {g : T -> Bool} (h : EachA c N f w p l g) (E : ∀ a u, w.cell? a = some u -> w'.cell? a = some u) : EachA c N f w' p l g := fun i y hy => by
  obtain ⟨⟨b, o, h1, h2⟩, h3⟩ := h i y hy
  exact ⟨⟨b, o, h1, fun j u hj => E _ _ (h2 j u hj)⟩, fun W E' => h3 W fun a u hu => E' a u (E a u hu)⟩
theorem all_takeA {T : Type} {g : T -> Bool} {l : List T} {i : Nat} {y : T} (h : l[i]? = some y) : (l.take (i + 1)).all g = ((l.take i).all g && g y) := by
  rw [List.take_add_one, h, List.all_append]; simp
set_option maxRecDepth 20000 in
theorem p_all137 (p : Option Addr) (cl : Nat) (l : List Itm) (g : Itm -> Bool) (hl : l.length <= 9223372036854775806) {r : Value} (hr : (r = litT /\ l.all g = true) ∨ (r = litF /\ l.all g = false)) (X : World) (hE : EachA Itm.c 23 138 X p l g) : Ctr Tryz.prog X 137 [raw (.slice p l.length cl), fnv 138] [] 0 0 r [] 0 := by
  refine fn_c _ Tryz.func137 rfl rfl rfl rfl (fun w ll tw X' hX => run_ok (st mo ?_))
  have hE' := hE.mono (xce hX)
  repeat refine st mo ?_
  refine w_loop (fun i : Nat => ⟨⟨18, [(1, fnv 138), (7, raw (.slice p l.length cl)), (8, .int .i64 (l.length : Int)), (9, .int .i64 (i : Int))]⟩, [], 0, X'⟩) (fun i => i <= l.length /\ (l.take i).all g = true) (fun i => l.length - i) 0 ⟨Nat.zero_le _, rfl⟩ [] ⟨rfl, ⟨by exact ff (l := []) (m := []) rfl, fv, fv, fv, trivial⟩, trivial, xf, rfl, rfl⟩ ?_
  intro i hi
  repeat refine st mo ?_
  refine ⟨fun hlt => ?_, fun hge => ?_⟩
  · have hil : i < l.length := by omega
    obtain ⟨y, hy⟩ : ∃ y, l[i]? = some y := ⟨_, List.getElem?_eq_getElem hil⟩
    obtain ⟨⟨b, o, h4, h5⟩, h6⟩ := hE' i y hy
    have hst := all_takeA (g := g) hy
    repeat refine st mo ?_
    refine ⟨b, o, i, h4, rfl, hil, ?_⟩
    repeat refine st mo ?_
    refine ⟨y.c, rfl, h5, ?_⟩
    repeat refine st mo ?_
    cases hg : g y with
    | false =>
      refine ⟨_, fun _ => r_callF (t := litF) rfl rfl Tryz.func138 (fun W M E => hg ▸ h6 W E), st mo ?_⟩
      repeat refine st mo ?_
      rcases hr with ⟨rfl, hr⟩ | ⟨rfl, _⟩
      · have := List.all_eq_true.1 hr y (List.mem_of_getElem? hy)
        rw [hg] at this; cases this
      · exact ⟨rfl, [], fv, trivial, rfl, rfl⟩
    | true =>
      refine ⟨_, fun _ => r_callF (t := litT) rfl rfl Tryz.func138 (fun W M E => hg ▸ h6 W E), st mo ?_⟩
      repeat refine st mo ?_
      refine ⟨_, wz (i + 1) rfl, st mo ?_⟩
      exact ⟨i + 1, ⟨hil, by rw [hst, hi.2, hg]; rfl⟩, by show l.length - (i + 1) < l.length - i; omega, [], rfl, ⟨by exact ff (l := []) (m := []) rfl, fv, fv, fv, trivial⟩, trivial, xf, rfl, rfl⟩
  · repeat refine st mo ?_
    have : i = l.length := by omega
    subst this
    rw [List.take_length] at hi
    rcases hr with ⟨rfl, _⟩ | ⟨rfl, hr⟩
    · exact ⟨rfl, [], fv, trivial, rfl, rfl⟩
    · rw [hi.2] at hr; cases hr
set_option maxRecDepth 20000 in
theorem p_all139 (p : Option Addr) (cl : Nat) (l : List Sec) (g : Sec -> Bool) (hl : l.length <= 9223372036854775806) {r : Value} (hr : (r = litT /\ l.all g = true) ∨ (r = litF /\ l.all g = false)) (X : World) (hE : EachA Sec.c 4 140 X p l g) : Ctr Tryz.prog X 139 [raw (.slice p l.length cl), fnv 140] [] 0 0 r [] 0 := by
  refine fn_c _ Tryz.func139 rfl rfl rfl rfl (fun w ll tw X' hX => run_ok (st mo ?_))
  have hE' := hE.mono (xce hX)
  repeat refine st mo ?_
  refine w_loop (fun i : Nat => ⟨⟨18, [(1, fnv 140), (7, raw (.slice p l.length cl)), (8, .int .i64 (l.length : Int)), (9, .int .i64 (i : Int))]⟩, [], 0, X'⟩) (fun i => i <= l.length /\ (l.take i).all g = true) (fun i => l.length - i) 0 ⟨Nat.zero_le _, rfl⟩ [] ⟨rfl, ⟨by exact ff (l := []) (m := []) rfl, fv, fv, fv, trivial⟩, trivial, xf, rfl, rfl⟩ ?_
  intro i hi
  repeat refine st mo ?_
  refine ⟨fun hlt => ?_, fun hge => ?_⟩
  · have hil : i < l.length := by omega
    obtain ⟨y, hy⟩ : ∃ y, l[i]? = some y := ⟨_, List.getElem?_eq_getElem hil⟩
    obtain ⟨⟨b, o, h4, h5⟩, h6⟩ := hE' i y hy
    have hst := all_takeA (g := g) hy
    repeat refine st mo ?_
    refine ⟨b, o, i, h4, rfl, hil, ?_⟩
    repeat refine st mo ?_
    refine ⟨y.c, rfl, h5, ?_⟩
    repeat refine st mo ?_
    cases hg : g y with
    | false =>
      refine ⟨_, fun _ => r_callF (t := litF) rfl rfl Tryz.func140 (fun W M E => hg ▸ h6 W E), st mo ?_⟩
      repeat refine st mo ?_
      rcases hr with ⟨rfl, hr⟩ | ⟨rfl, _⟩
      · have := List.all_eq_true.1 hr y (List.mem_of_getElem? hy)
        rw [hg] at this; cases this
      · exact ⟨rfl, [], fv, trivial, rfl, rfl⟩
    | true =>
      refine ⟨_, fun _ => r_callF (t := litT) rfl rfl Tryz.func140 (fun W M E => hg ▸ h6 W E), st mo ?_⟩
      repeat refine st mo ?_
      refine ⟨_, wz (i + 1) rfl, st mo ?_⟩
      exact ⟨i + 1, ⟨hil, by rw [hst, hi.2, hg]; rfl⟩, by show l.length - (i + 1) < l.length - i; omega, [], rfl, ⟨by exact ff (l := []) (m := []) rfl, fv, fv, fv, trivial⟩, trivial, xf, rfl, rfl⟩
  · repeat refine st mo ?_
    have : i = l.length := by omega
    subst this
    rw [List.take_length] at hi
    rcases hr with ⟨rfl, _⟩ | ⟨rfl, hr⟩
    · exact ⟨rfl, [], fv, trivial, rfl, rfl⟩
    · rw [hi.2] at hr; cases hr
set_option maxRecDepth 20000 in
theorem p_all141 (p : Option Addr) (cl : Nat) (l : List Rat') (g : Rat' -> Bool) (hl : l.length <= 9223372036854775806) {r : Value} (hr : (r = litT /\ l.all g = true) ∨ (r = litF /\ l.all g = false)) (X : World) (hE : EachA Rat'.c 18 142 X p l g) : Ctr Tryz.prog X 141 [raw (.slice p l.length cl), fnv 142] [] 0 0 r [] 0 := by
  refine fn_c _ Tryz.func141 rfl rfl rfl rfl (fun w ll tw X' hX => run_ok (st mo ?_))
  have hE' := hE.mono (xce hX)
  repeat refine st mo ?_
  refine w_loop (fun i : Nat => ⟨⟨18, [(1, fnv 142), (7, raw (.slice p l.length cl)), (8, .int .i64 (l.length : Int)), (9, .int .i64 (i : Int))]⟩, [], 0, X'⟩) (fun i => i <= l.length /\ (l.take i).all g = true) (fun i => l.length - i) 0 ⟨Nat.zero_le _, rfl⟩ [] ⟨rfl, ⟨by exact ff (l := []) (m := []) rfl, fv, fv, fv, trivial⟩, trivial, xf, rfl, rfl⟩ ?_
  intro i hi
  repeat refine st mo ?_
  refine ⟨fun hlt => ?_, fun hge => ?_⟩
  · have hil : i < l.length := by omega
    obtain ⟨y, hy⟩ : ∃ y, l[i]? = some y := ⟨_, List.getElem?_eq_getElem hil⟩
    obtain ⟨⟨b, o, h4, h5⟩, h6⟩ := hE' i y hy
    have hst := all_takeA (g := g) hy
    repeat refine st mo ?_
    refine ⟨b, o, i, h4, rfl, hil, ?_⟩
    repeat refine st mo ?_
    refine ⟨y.c, rfl, h5, ?_⟩
    repeat refine st mo ?_
    cases hg : g y with
    | false =>
      refine ⟨_, fun _ => r_callF (t := litF) rfl rfl Tryz.func142 (fun W M E => hg ▸ h6 W E), st mo ?_⟩
      repeat refine st mo ?_
      rcases hr with ⟨rfl, hr⟩ | ⟨rfl, _⟩
      · have := List.all_eq_true.1 hr y (List.mem_of_getElem? hy)
        rw [hg] at this; cases this
      · exact ⟨rfl, [], fv, trivial, rfl, rfl⟩
    | true =>
      refine ⟨_, fun _ => r_callF (t := litT) rfl rfl Tryz.func142 (fun W M E => hg ▸ h6 W E), st mo ?_⟩
      repeat refine st mo ?_
      refine ⟨_, wz (i + 1) rfl, st mo ?_⟩
      exact ⟨i + 1, ⟨hil, by rw [hst, hi.2, hg]; rfl⟩, by show l.length - (i + 1) < l.length - i; omega, [], rfl, ⟨by exact ff (l := []) (m := []) rfl, fv, fv, fv, trivial⟩, trivial, xf, rfl, rfl⟩
  · repeat refine st mo ?_
    have : i = l.length := by omega
    subst this
    rw [List.take_length] at hi
    rcases hr with ⟨rfl, _⟩ | ⟨rfl, hr⟩
    · exact ⟨rfl, [], fv, trivial, rfl, rfl⟩
    · rw [hi.2] at hr; cases hr
set_option maxRecDepth 20000 in
theorem p_all72 (p : Option Addr) (cl : Nat) (l : List Tab) (g : Tab -> Bool) (hl : l.length <= 9223372036854775806) {r : Value} (hr : (r = litT /\ l.all g = true) ∨ (r = litF /\ l.all g = false)) (X : World) (hE : EachA Tab.c 2 73 X p l g) : Ctr Tryz.prog X 72 [raw (.slice p l.length cl), fnv 73] [] 0 0 r [] 0 := by
  refine fn_c _ Tryz.func72 rfl rfl rfl rfl (fun w ll tw X' hX => run_ok (st mo ?_))
  have hE' := hE.mono (xce hX)
  repeat refine st mo ?_
  refine w_loop (fun i : Nat => ⟨⟨18, [(1, fnv 73), (7, raw (.slice p l.length cl)), (8, .int .i64 (l.length : Int)), (9, .int .i64 (i : Int))]⟩, [], 0, X'⟩) (fun i => i <= l.length /\ (l.take i).all g = true) (fun i => l.length - i) 0 ⟨Nat.zero_le _, rfl⟩ [] ⟨rfl, ⟨by exact ff (l := []) (m := []) rfl, fv, fv, fv, trivial⟩, trivial, xf, rfl, rfl⟩ ?_
  intro i hi
  repeat refine st mo ?_
  refine ⟨fun hlt => ?_, fun hge => ?_⟩
  · have hil : i < l.length := by omega
    obtain ⟨y, hy⟩ : ∃ y, l[i]? = some y := ⟨_, List.getElem?_eq_getElem hil⟩
    obtain ⟨⟨b, o, h4, h5⟩, h6⟩ := hE' i y hy
    have hst := all_takeA (g := g) hy
    repeat refine st mo ?_
    refine ⟨b, o, i, h4, rfl, hil, ?_⟩
    repeat refine st mo ?_
    refine ⟨y.c, rfl, h5, ?_⟩
    repeat refine st mo ?_
    cases hg : g y with
    | false =>
      refine ⟨_, fun _ => r_callF (t := litF) rfl rfl Tryz.func73 (fun W M E => hg ▸ h6 W E), st mo ?_⟩
      repeat refine st mo ?_
      rcases hr with ⟨rfl, hr⟩ | ⟨rfl, _⟩
      · have := List.all_eq_true.1 hr y (List.mem_of_getElem? hy)
        rw [hg] at this; cases this
      · exact ⟨rfl, [], fv, trivial, rfl, rfl⟩
    | true =>
      refine ⟨_, fun _ => r_callF (t := litT) rfl rfl Tryz.func73 (fun W M E => hg ▸ h6 W E), st mo ?_⟩
      repeat refine st mo ?_
      refine ⟨_, wz (i + 1) rfl, st mo ?_⟩
      exact ⟨i + 1, ⟨hil, by rw [hst, hi.2, hg]; rfl⟩, by show l.length - (i + 1) < l.length - i; omega, [], rfl, ⟨by exact ff (l := []) (m := []) rfl, fv, fv, fv, trivial⟩, trivial, xf, rfl, rfl⟩
  · repeat refine st mo ?_
    have : i = l.length := by omega
    subst this
    rw [List.take_length] at hi
    rcases hr with ⟨rfl, _⟩ | ⟨rfl, hr⟩
    · exact ⟨rfl, [], fv, trivial, rfl, rfl⟩
    · rw [hi.2] at hr; cases hr
set_option maxRecDepth 20000 in
theorem p_all74 (p : Option Addr) (cl : Nat) (l : List Pag) (g : Pag -> Bool) (hl : l.length <= 9223372036854775806) {r : Value} (hr : (r = litT /\ l.all g = true) ∨ (r = litF /\ l.all g = false)) (X : World) (hE : EachA Pag.c 19 75 X p l g) : Ctr Tryz.prog X 74 [raw (.slice p l.length cl), fnv 75] [] 0 0 r [] 0 := by
  refine fn_c _ Tryz.func74 rfl rfl rfl rfl (fun w ll tw X' hX => run_ok (st mo ?_))
  have hE' := hE.mono (xce hX)
  repeat refine st mo ?_
  refine w_loop (fun i : Nat => ⟨⟨18, [(1, fnv 75), (7, raw (.slice p l.length cl)), (8, .int .i64 (l.length : Int)), (9, .int .i64 (i : Int))]⟩, [], 0, X'⟩) (fun i => i <= l.length /\ (l.take i).all g = true) (fun i => l.length - i) 0 ⟨Nat.zero_le _, rfl⟩ [] ⟨rfl, ⟨by exact ff (l := []) (m := []) rfl, fv, fv, fv, trivial⟩, trivial, xf, rfl, rfl⟩ ?_
  intro i hi
  repeat refine st mo ?_
  refine ⟨fun hlt => ?_, fun hge => ?_⟩
  · have hil : i < l.length := by omega
    obtain ⟨y, hy⟩ : ∃ y, l[i]? = some y := ⟨_, List.getElem?_eq_getElem hil⟩
    obtain ⟨⟨b, o, h4, h5⟩, h6⟩ := hE' i y hy
    have hst := all_takeA (g := g) hy
    repeat refine st mo ?_
    refine ⟨b, o, i, h4, rfl, hil, ?_⟩
    repeat refine st mo ?_
    refine ⟨y.c, rfl, h5, ?_⟩
    repeat refine st mo ?_
    cases hg : g y with
    | false =>
      refine ⟨_, fun _ => r_callF (t := litF) rfl rfl Tryz.func75 (fun W M E => hg ▸ h6 W E), st mo ?_⟩
      repeat refine st mo ?_
      rcases hr with ⟨rfl, hr⟩ | ⟨rfl, _⟩
      · have := List.all_eq_true.1 hr y (List.mem_of_getElem? hy)
        rw [hg] at this; cases this
      · exact ⟨rfl, [], fv, trivial, rfl, rfl⟩
    | true =>
      refine ⟨_, fun _ => r_callF (t := litT) rfl rfl Tryz.func75 (fun W M E => hg ▸ h6 W E), st mo ?_⟩
      repeat refine st mo ?_
      refine ⟨_, wz (i + 1) rfl, st mo ?_⟩
      exact ⟨i + 1, ⟨hil, by rw [hst, hi.2, hg]; rfl⟩, by show l.length - (i + 1) < l.length - i; omega, [], rfl, ⟨by exact ff (l := []) (m := []) rfl, fv, fv, fv, trivial⟩, trivial, xf, rfl, rfl⟩
  · repeat refine st mo ?_
    have : i = l.length := by omega
    subst this
    rw [List.take_length] at hi
    rcases hr with ⟨rfl, _⟩ | ⟨rfl, hr⟩
    · exact ⟨rfl, [], fv, trivial, rfl, rfl⟩
    · rw [hi.2] at hr; cases hr
def LI (w : World) (d : Nat) (p : Option Addr) (l : List Itm) : Prop := ∀ i y, l[i]? = some y -> (∃ b o, p = some ⟨b, o, none⟩ /\ Lies w b (o + i * 23) y.c) /\ LT w d y.x /\ y.nm.size <= 9223372036854775806
theorem LI.mono {w W : World} {d : Nat} {p : Option Addr} {l : List Itm} (h : LI w d p l) (E : ∀ a u, w.cell? a = some u -> W.cell? a = some u) : LI W d p l := fun i y hy => by
  obtain ⟨⟨b, o, h1, h2⟩, h3, h4⟩ := h i y hy
  exact ⟨⟨b, o, h1, fun j u hj => E _ _ (h2 j u hj)⟩, h3.mono E, h4⟩
def LS0 (w : World) (d : Nat) (y : Sec) : Prop := LI w d y.ip y.its /\ y.its.length <= 9223372036854775806 /\ y.nm.size <= 9223372036854775806 /\ y.secs.length <= 9223372036854775806
def LS (w : World) (d : Nat) : Nat -> Sec -> Prop
  | 0, y => LS0 w d y /\ y.secs = []
  | e + 1, y => LS0 w d y /\ ∀ i z, y.secs[i]? = some z -> (∃ b o, y.sp = some ⟨b, o, none⟩ /\ Lies w b (o + i * 4) z.c) /\ LS w d e z
theorem LS0.mono {w W : World} {d : Nat} {y : Sec} (h : LS0 w d y) (E : ∀ a u, w.cell? a = some u -> W.cell? a = some u) : LS0 W d y := ⟨h.1.mono E, h.2⟩
theorem LS.own {w : World} {d e : Nat} {y : Sec} (h : LS w d e y) : LS0 w d y := by cases e <;> exact h.1
theorem LS.mono {w W : World} (E : ∀ a u, w.cell? a = some u -> W.cell? a = some u) {d : Nat} : ∀ {e : Nat} {y : Sec}, LS w d e y -> LS W d e y
  | 0, _, h => ⟨h.1.mono E, h.2⟩
  | e + 1, _, h => ⟨h.1.mono E, fun i z hz => by
    obtain ⟨⟨b, o, h1, h2⟩, h3⟩ := h.2 i z hz
    exact ⟨⟨b, o, h1, fun j u hj => E _ _ (h2 j u hj)⟩, h3.mono E⟩⟩
def scO (g : Sec -> Bool) (y : Sec) : Bool := fre y.nm && (isI y.mx && g y)
def ptO (d : Nat) : Nat -> Sec -> Bool
  | 0, y => y.its.all (itO d) && y.secs.all fun _ => true
  | e + 1, y => y.its.all (itO d) && y.secs.all (scO (ptO d e))
theorem LI.each {w : World} {d : Nat} {p : Option Addr} {l : List Itm} (h : LI w d p l) : EachA Itm.c 23 138 w p l (itO d) := fun i y hy => by
  obtain ⟨h1, h2, h3⟩ := h i y hy
  exact ⟨h1, fun W E => p_item d y W h3 (h2.mono E)⟩
set_option maxRecDepth 20000 in
theorem p_parts1 (d : Nat) (y : Sec) (g : Sec -> Bool) (w : World) (hL : LS0 w d y) (hE : EachA Sec.c 4 140 w y.sp y.secs g) : Calls Tryz.prog 71 #[y.w] w fun e W => e = .returned (.bool (y.its.all (itO d) && y.secs.all g)) /\ Mb w W := by
  refine fn_pure [y.y] Tryz.func71 rfl rfl rfl (run_ok (st mo ?_))
  repeat refine st mo ?_
  cases h1 : y.its.all (itO d) with
  | false =>
    refine ⟨_, fun _ => r_c (tc := litF) [] [] [] rfl rfl (p_all137 y.ip y.icl y.its (itO d) hL.2.1 (Or.inr ⟨rfl, h1⟩) w hL.1.each) (by exact fitL_cons fv (fitL_cons (ff (l := []) (m := []) (by rfl)) (by rfl))) trivial uv trivial, st mo ?_⟩
    repeat refine st mo ?_
    rfl
  | true =>
    refine ⟨_, fun _ => r_c (tc := litT) [] [] [] rfl rfl (p_all137 y.ip y.icl y.its (itO d) hL.2.1 (Or.inl ⟨rfl, h1⟩) w hL.1.each) (by exact fitL_cons fv (fitL_cons (ff (l := []) (m := []) (by rfl)) (by rfl))) trivial uv trivial, st mo ?_⟩
    repeat refine st mo ?_
    cases h2 : y.secs.all g with
    | false =>
      refine ⟨_, fun _ => r_c (tc := litF) [] [] [] rfl rfl (p_all139 y.sp y.scl y.secs g hL.2.2.2 (Or.inr ⟨rfl, h2⟩) w hE) (by exact fitL_cons fv (fitL_cons (ff (l := []) (m := []) (by rfl)) (by rfl))) trivial uv trivial, st mo ?_⟩
      repeat refine st mo ?_
      rfl
    | true =>
      refine ⟨_, fun _ => r_c (tc := litT) [] [] [] rfl rfl (p_all139 y.sp y.scl y.secs g hL.2.2.2 (Or.inl ⟨rfl, h2⟩) w hE) (by exact fitL_cons fv (fitL_cons (ff (l := []) (m := []) (by rfl)) (by rfl))) trivial uv trivial, st mo ?_⟩
      repeat refine st mo ?_
      rfl
set_option maxRecDepth 20000 in
theorem p_sect1 (y : Sec) (g : Sec -> Bool) (w : World) (hnm : y.nm.size <= 9223372036854775806) (hg : ∀ W, (∀ a u, w.cell? a = some u -> W.cell? a = some u) -> Calls Tryz.prog 71 #[y.w] W fun e W' => e = .returned (.bool (g y)) /\ Mb W W') : Calls Tryz.prog 140 #[y.w] w fun e W => e = .returned (.bool (scO g y)) /\ Mb w W := by
  refine fn_pure [y.y] Tryz.func140 rfl rfl rfl (run_ok (st mo ?_))
  repeat refine st mo ?_
  cases hf : fre y.nm with
  | false =>
    refine ⟨_, fun _ => r_call (t := litF) rfl rfl Tryz.func70 (fun W M E => p_fre hf hnm W), st mo ?_⟩
    repeat refine st mo ?_
    show _ = _; unfold scO; rw [hf]; rfl
  | true =>
    refine ⟨_, fun _ => r_call (t := litT) rfl rfl Tryz.func70 (fun W M E => p_fre hf hnm W), st mo ?_⟩
    repeat refine st mo ?_
    cases hm : isI y.mx with
    | false =>
      refine ⟨_, fun _ => r_call (t := litF) rfl rfl Tryz.func157 (fun W M E => p_isI hm W), st mo ?_⟩
      repeat refine st mo ?_
      show _ = _; unfold scO; rw [hf, hm]; rfl
    | true =>
      refine ⟨_, fun _ => r_call (t := litT) rfl rfl Tryz.func157 (fun W M E => p_isI hm W), st mo ?_⟩
      repeat refine st mo ?_
      refine ⟨_, fun _ => r_call (t := .bool (g y)) rfl rfl Tryz.func71 (fun W M E => hg W E), st mo ?_⟩
      repeat refine st mo ?_
      show _ = _; unfold scO; rw [hf, hm]; rfl
theorem p_parts (d : Nat) : ∀ (e : Nat) (y : Sec) (w : World), LS w d e y -> Calls Tryz.prog 71 #[y.w] w fun r W => r = .returned (.bool (ptO d e y)) /\ Mb w W := by
  intro e
  induction e with
  | zero =>
    intro y w hL
    exact p_parts1 d y (fun _ => true) w hL.1 fun i z hz => by rw [hL.2] at hz; cases hz
  | succ e ih =>
    intro y w hL
    exact p_parts1 d y (scO (ptO d e)) w hL.1 fun i z hz => by
      obtain ⟨h1, h2⟩ := hL.2 i z hz
      exact ⟨h1, fun W E => p_sect1 z (ptO d e) W h2.own.2.2.1 fun W' E' => ih z W' ((h2.mono E).mono E')⟩
theorem all_no {T : Type} {g : T -> Bool} {l : List T} {i : Nat} {y : T} (h : l[i]? = some y) (hg : g y = false) : l.all g = false := Bool.eq_false_iff.2 fun ha => by
  have := List.all_eq_true.1 ha y (List.mem_of_getElem? h)
  rw [hg] at this; cases this
set_option maxHeartbeats 1000000 in
set_option maxRecDepth 20000 in
theorem q_parts1 (d : Nat) (y : Sec) (g : Sec -> Bool) (w : World) (hL : LS0 w d y) (hE : ∀ i z, y.secs[i]? = some z -> (∃ b o, y.sp = some ⟨b, o, none⟩ /\ Lies w b (o + i * 4) z.c) /\ z.nm.size <= 9223372036854775806 /\ ∀ W, (∀ a u, w.cell? a = some u -> W.cell? a = some u) -> Calls Tryz.prog 81 #[z.w] W fun e W' => e = .returned (.bool (g z)) /\ Mb W W') : Calls Tryz.prog 81 #[y.w] w fun e W => e = .returned (.bool (y.its.all (itO d) && y.secs.all (scO g))) /\ Mb w W := by
  obtain ⟨hI, hl1, hnm, hl2⟩ := id hL
  refine fn_pure [y.y] Tryz.func81 rfl rfl rfl (run_ok (st mo ?_))
  repeat refine st mo ?_
  refine w_loop (fun i : Nat => ⟨⟨51, [(1, P0), (3, .int .i64 (i : Int))]⟩, [(0, some (y.c.map rel1))], 1, w⟩) (fun i => i <= y.its.length /\ (y.its.take i).all (itO d) = true) (fun i => y.its.length - i) 0 ⟨Nat.zero_le _, rfl⟩ [0] ⟨rfl, ⟨fp, fv, trivial⟩, ⟨flr rfl, trivial⟩, xf, rfl, rfl⟩ ?_
  intro i hi
  repeat refine st mo ?_
  refine ⟨fun hlt => ?_, fun hge => ?_⟩
  · have hil : i < y.its.length := by omega
    obtain ⟨z, hz⟩ : ∃ z, y.its[i]? = some z := ⟨_, List.getElem?_eq_getElem hil⟩
    obtain ⟨⟨b, o, h4, h5⟩, h6, h7⟩ := hI i z hz
    have hst := all_takeA (g := itO d) hz
    repeat refine st mo ?_
    refine ⟨b, o, i, h4, rfl, hil, ?_⟩
    repeat refine st mo ?_
    refine ⟨z.c, rfl, h5, ?_⟩
    repeat refine st mo ?_
    cases hg : itO d z with
    | false =>
      refine ⟨_, fun _ => r_call (t := litF) rfl rfl Tryz.func151 (fun W M E => hg ▸ q_item d z W h7 (h6.mono E)), st mo ?_⟩
      repeat refine st mo ?_
      show _ = _
      rw [all_no hz hg]; rfl
    | true =>
      refine ⟨_, fun _ => r_call (t := litT) rfl rfl Tryz.func151 (fun W M E => hg ▸ q_item d z W h7 (h6.mono E)), st mo ?_⟩
      repeat refine st mo ?_
      refine ⟨_, wz (i + 1) rfl, st mo ?_⟩
      exact ⟨i + 1, ⟨hil, by rw [hst, hi.2, hg]; rfl⟩, by show y.its.length - (i + 1) < y.its.length - i; omega, [0], rfl, ⟨fp, fv, trivial⟩, ⟨flr rfl, trivial⟩, xf, rfl, rfl⟩
  · have hi' : i = y.its.length := by omega
    have hall : y.its.all (itO d) = true := by have := hi.2; rw [hi', List.take_length] at this; exact this
    rw [hall]
    repeat refine st mo ?_
    refine w_loop (fun j : Nat => ⟨⟨51, [(1, P0), (4, .int .i64 (j : Int))]⟩, [(0, some (y.c.map rel1))], 1, w⟩) (fun j => j <= y.secs.length /\ (y.secs.take j).all (scO g) = true) (fun j => y.secs.length - j) 0 ⟨Nat.zero_le _, rfl⟩ [0] ⟨rfl, ⟨fp, fv, trivial⟩, ⟨flr rfl, trivial⟩, xf, rfl, rfl⟩ ?_
    intro j hj
    repeat refine st mo ?_
    refine ⟨fun hlt => ?_, fun hge => ?_⟩
    · have hjl : j < y.secs.length := by omega
      obtain ⟨z, hz⟩ : ∃ z, y.secs[j]? = some z := ⟨_, List.getElem?_eq_getElem hjl⟩
      obtain ⟨⟨b, o, h4, h5⟩, h6, h7⟩ := hE j z hz
      have hst := all_takeA (g := scO g) hz
      have hno : scO g z = false -> (true && y.secs.all (scO g)) = false := fun h => by rw [all_no hz h]; rfl
      repeat refine st mo ?_
      refine ⟨b, o, j, h4, rfl, hjl, ?_⟩
      repeat refine st mo ?_
      refine ⟨z.c, rfl, h5, ?_⟩
      repeat refine st mo ?_
      cases hf : fre z.nm with
      | false =>
        refine ⟨_, fun _ => r_call (t := litF) rfl rfl Tryz.func80 (fun W M E => q_fre hf h6 W), st mo ?_⟩
        repeat refine st mo ?_
        show _ = _
        rw [hno (by unfold scO; rw [hf]; rfl)]
      | true =>
        refine ⟨_, fun _ => r_call (t := litT) rfl rfl Tryz.func80 (fun W M E => q_fre hf h6 W), st mo ?_⟩
        repeat refine st mo ?_
        refine ⟨fun h0 => ?_, fun h0 => ?_⟩
        · repeat refine st mo ?_
          show _ = _
          rw [hno (by unfold scO isI; rw [decide_eq_false (p := 0 <= z.mx) (by omega)]; simp)]
        repeat refine st mo ?_
        refine ⟨fun h1 => ?_, fun h1 => ?_⟩
        · repeat refine st mo ?_
          show _ = _
          rw [hno (by unfold scO isI; rw [decide_eq_false (p := z.mx <= 1073741824) (by omega)]; simp)]
        repeat refine st mo ?_
        have e : scO g z = g z := by unfold scO isI; rw [hf, decide_eq_true h0, decide_eq_true h1]; rfl
        cases hg : g z with
        | false =>
          refine ⟨_, fun _ => r_call (t := litF) rfl rfl Tryz.func81 (fun W M E => hg ▸ h7 W E), st mo ?_⟩
          repeat refine st mo ?_
          show _ = _
          rw [hno (e.trans hg)]
        | true =>
          refine ⟨_, fun _ => r_call (t := litT) rfl rfl Tryz.func81 (fun W M E => hg ▸ h7 W E), st mo ?_⟩
          repeat refine st mo ?_
          refine ⟨_, wz (j + 1) rfl, st mo ?_⟩
          exact ⟨j + 1, ⟨hjl, by rw [hst, hj.2, e, hg]; rfl⟩, by show y.secs.length - (j + 1) < y.secs.length - j; omega, [0], rfl, ⟨fp, fv, trivial⟩, ⟨flr rfl, trivial⟩, xf, rfl, rfl⟩
    · repeat refine st mo ?_
      have hj' : j = y.secs.length := by omega
      have hall2 : y.secs.all (scO g) = true := by have := hj.2; rw [hj', List.take_length] at this; exact this
      show _ = _
      rw [hall2]; rfl
theorem q_parts (d : Nat) : ∀ (e : Nat) (y : Sec) (w : World), LS w d e y -> Calls Tryz.prog 81 #[y.w] w fun r W => r = .returned (.bool (ptO d e y)) /\ Mb w W := by
  intro e
  induction e with
  | zero =>
    intro y w hL
    have := q_parts1 d y (fun _ => true) w hL.1 fun i z hz => by rw [hL.2] at hz; cases hz
    rw [show (y.its.all (itO d) && y.secs.all (scO fun _ => true)) = ptO d 0 y by rw [hL.2]; simp [ptO, hL.2]] at this
    exact this
  | succ e ih =>
    intro y w hL
    exact q_parts1 d y (ptO d e) w hL.1 fun i z hz => by
      obtain ⟨h1, h2⟩ := hL.2 i z hz
      exact ⟨h1, h2.own.2.2.1, fun W E => ih z W (h2.mono E)⟩
abbrev SecW : ByteArray := ⟨#[115, 101, 99, 116, 105, 111, 110]⟩
abbrev MaxW : ByteArray := ⟨#[109, 97, 120]⟩
abbrev Lbr : ByteArray := ⟨#[123]⟩
abbrev Rbr : ByteArray := ⟨#[125]⟩
abbrev scH (y : Sec) : List ByteArray := [SecW, y.nm, MaxW, ntx y.mx, Lbr]
def scw (f : Sec -> List ByteArray) (y : Sec) : List ByteArray := scH y ++ (f y ++ [Rbr])
def pw1 (d : Nat) (f : Sec -> List ByteArray) (y : Sec) : List ByteArray := y.its.flatMap (itw d) ++ y.secs.flatMap (scw f)
def ptw (d : Nat) : Nat -> Sec -> List ByteArray
  | 0, y => pw1 d (fun _ => []) y
  | e + 1, y => pw1 d (ptw d e) y
theorem flat_step {T : Type} {f : T -> List ByteArray} {l : List T} {i : Nat} {y : T} (h : l[i]? = some y) : (l.take (i + 1)).flatMap f = (l.take i).flatMap f ++ f y := by
  rw [List.take_add_one, h, List.flatMap_append]; simp
theorem flat_le {T : Type} {f : T -> List ByteArray} (l : List T) (i : Nat) : wln ((l.take i).flatMap f) <= wln (l.flatMap f) := by
  have : wln (l.flatMap f) = wln ((l.take i).flatMap f) + wln ((l.drop i).flatMap f) := by rw [← wln_app, ← List.flatMap_append, List.take_append_drop]
  omega
theorem flat_ok {T : Type} {f : T -> List ByteArray} {l : List T} (h : ∀ y ∈ l, ∀ w ∈ f y, wok w) : ∀ w ∈ l.flatMap f, wok w := fun w hw => by
  obtain ⟨y, hy, hw⟩ := List.mem_flatMap.1 hw
  exact h y hy w hw
theorem flat_okT {T : Type} {f : T -> List ByteArray} {l : List T} (i : Nat) (h : ∀ y ∈ l, ∀ w ∈ f y, wok w) : ∀ w ∈ (l.take i).flatMap f, wok w := flat_ok fun y hy => h y (List.mem_of_mem_take hy)
theorem scH_ok {y : Sec} (h : fre y.nm = true) : ∀ w ∈ scH y, wok w := cons_ok ⟨by decide, by decide⟩ (cons_ok (fre_ok h) (cons_ok ⟨by decide, by decide⟩ (cons_ok (ntx_ok _) (one_ok sym_ok))))
theorem scw_ok {f : Sec -> List ByteArray} {y : Sec} (h : fre y.nm = true) (hf : ∀ w ∈ f y, wok w) : ∀ w ∈ scw f y, wok w := app_ok (scH_ok h) (app_ok hf (one_ok sym_ok))
def EachSW (X : World) (p : Option Addr) (l : List Sec) (f : Sec -> List ByteArray) : Prop := ∀ i z, l[i]? = some z -> (∃ b o, p = some ⟨b, o, none⟩ /\ Lies X b (o + i * 4) z.c) /\ (fre z.nm = true /\ isI z.mx = true /\ ∀ w ∈ f z, wok w) ∧
  ∀ (X' : World) (s : Ws), Xf X' X -> s.ok -> s.n + wln (f z) <= 4611686018427387904 -> CW X' 77 [P0, z.y] s (f z)
theorem EachSW.xf {X X' : World} {p : Option Addr} {l : List Sec} {f : Sec -> List ByteArray} (h : EachSW X p l f) (hX : Xf X' X) : EachSW X' p l f := fun i y hy => by
  obtain ⟨⟨b, o, h1, h2⟩, h3, h4⟩ := h i y hy
  exact ⟨⟨b, o, h1, fun j u hj => xce hX _ _ (h2 j u hj)⟩, h3, fun X2 s hX2 => h4 X2 s (hX2.tr hX)⟩
theorem EachSW.ok {X : World} {p : Option Addr} {l : List Sec} {f : Sec -> List ByteArray} (h : EachSW X p l f) : ∀ y ∈ l, ∀ w ∈ scw f y, wok w := fun y hy => by
  obtain ⟨j, hj⟩ := List.mem_iff_getElem?.1 hy
  obtain ⟨h1, h2, h3⟩ := (h j y hj).2.1
  exact scw_ok h1 h3
theorem its_ok {w : World} {d : Nat} {p : Option Addr} {l : List Itm} (h : LI w d p l) (hi : l.all (itO d) = true) : ∀ y ∈ l, ∀ w ∈ itw d y, wok w := fun y hy => by
  obtain ⟨j, hj⟩ := List.mem_iff_getElem?.1 hy
  exact itw_ok (List.all_eq_true.1 hi y hy) (h j y hj).2.1
set_option maxHeartbeats 2000000 in
set_option maxRecDepth 20000 in
theorem c_parts1 (d : Nat) (s : Ws) (y : Sec) (f : Sec -> List ByteArray) (hi : y.its.all (itO d) = true) (hs : s.ok) (hb : s.n + wln (pw1 d f y) <= 4611686018427387904) (X : World) (hL : LS0 X d y) (hG : TG X) (hE : EachSW X y.sp y.secs f) : CW X 77 [P0, y.y] s (pw1 d f y) := by
  have hokI := its_ok hL.1 hi
  have hokS := hE.ok
  obtain ⟨hLI, hl1, _, hl2⟩ := id hL
  unfold pw1 at hb ⊢
  rw [wln_app] at hb
  show CtrT Tryz.prog 95 3 X 77 [P0, y.y] (hW s) 2 1 (.tuple #[]) (hW (wps s (_ ++ _))) 2
  rw [wps_app]
  refine fn_cT _ Tryz.func77 rfl rfl rfl rfl rfl (fun w ll tw X' hX hT => run_ok (st mo ?_))
  repeat refine st mo ?_
  refine w_loop (fun i : Nat => ⟨⟨41, [(0, P0), (3, .pointer (some ⟨2, 0, none⟩)), (9, raw (.slice y.ip y.its.length y.icl)), (10, .int .i64 (y.its.length : Int)), (11, .int .i64 (i : Int))]⟩, [(0 + 4096, none), (0, some (c0 1 (wps s ((y.its.take i).flatMap (itw d))))), (1 + 4096, none), (1, some (c1 (wps s ((y.its.take i).flatMap (itw d))))), (2, some (y.c.map rel1))], 3, X'⟩) (fun i => i <= y.its.length) (fun i => y.its.length - i) 0 (Nat.zero_le _) [0, 1, 2] ⟨rfl, ⟨fp, fp, fv, fv, fv, trivial⟩, ⟨trivial, c0_fit _, trivial, fl rfl (c1_pur hs), flr rfl, trivial⟩, xf, rfl, rfl⟩ ?_
  intro i hi1
  have hso := wps_ok hs (flat_okT i hokI)
  have hn2 := wps_n ((y.its.take i).flatMap (itw d)) s
  repeat refine st mo ?_
  refine ⟨fun hlt => ?_, fun hge => ?_⟩
  · have hil : i < y.its.length := by omega
    obtain ⟨z, hz⟩ : ∃ z, y.its[i]? = some z := ⟨_, List.getElem?_eq_getElem hil⟩
    obtain ⟨⟨b, o, h4, h5⟩, h6, h7⟩ := hLI i z hz
    have h5' : Lies X' b (o + i * 23) z.c := fun j u hj => xce hX _ _ (h5 j u hj)
    have hst := flat_step (f := itw d) hz
    have hln := flat_le (f := itw d) y.its (i + 1)
    have hiz := List.all_eq_true.1 hi z (List.mem_of_getElem? hz)
    have hokz := itw_ok hiz h6
    rw [hst, wln_app] at hln
    have hst2 : wps s ((y.its.take (i + 1)).flatMap (itw d)) = wps (wps s ((y.its.take i).flatMap (itw d))) (itw d z) := by rw [hst, wps_app]
    generalize hu : wps s ((y.its.take i).flatMap (itw d)) = u at *
    have hso4 := wps_ok hso hokz
    repeat refine st mo ?_
    refine ⟨b, o, i, h4, rfl, hil, ?_⟩
    repeat refine st mo ?_
    refine ⟨z.c, rfl, h5', ?_⟩
    repeat refine st mo ?_
    refine ⟨_, fun nn => r_w u (wps u (itw d z)) 1 rfl hT (c_item d u z hiz hso (by omega) X' (h6.xf hX) (hG.xf hX)) hso hso4 (by exact fitL_cons fp (fitL_cons fv (by rfl))) (fn := Tryz.f146), st mo ?_⟩
    repeat refine st mo ?_
    refine ⟨_, wz (i + 1) rfl, st mo ?_⟩
    exact ⟨i + 1, hil, by show y.its.length - (i + 1) < y.its.length - i; omega, [0, 4, 2], rfl, ⟨fp, fp, fv, fv, fv, trivial⟩, ⟨trivial, by rw [hst2]; exact c0_fit _, trivial, fl (by rw [hst2]; try rfl) (by rw [hst2]; exact c1_pur hso4), flr rfl, trivial⟩, xf, rfl, rfl⟩
  · have : i = y.its.length := by omega
    subst this
    rw [List.take_length] at hn2 hso ⊢
    generalize wps s (y.its.flatMap (itw d)) = s1 at *
    repeat refine st mo ?_
    refine w_loop (fun j : Nat => ⟨⟨41, [(0, P0), (20, raw (.slice y.sp y.secs.length y.scl)), (21, .int .i64 (y.secs.length : Int)), (22, .int .i64 (j : Int))]⟩, hW (wps s1 ((y.secs.take j).flatMap (scw f))), 2, X'⟩) (fun j => j <= y.secs.length) (fun j => y.secs.length - j) 0 (Nat.zero_le _) [0, 1] ⟨rfl, ⟨fp, fv, fv, fv, trivial⟩, ⟨trivial, c0_fit _, trivial, fl rfl (c1_pur hso), trivial⟩, xf, rfl, rfl⟩ ?_
    intro j hj1
    have hso2 := wps_ok hso (flat_okT j hokS)
    have hn3 := wps_n ((y.secs.take j).flatMap (scw f)) s1
    repeat refine st mo ?_
    refine ⟨fun hlt => ?_, fun hge => ?_⟩
    · have hjl : j < y.secs.length := by omega
      obtain ⟨z, hz⟩ : ∃ z, y.secs[j]? = some z := ⟨_, List.getElem?_eq_getElem hjl⟩
      obtain ⟨⟨b, o, h4, h5⟩, ⟨h6, h7, h8⟩, h9⟩ := (hE.xf hX) j z hz
      have hmx := isI_iff.1 h7
      have hst := flat_step (f := scw f) hz
      have hln := flat_le (f := scw f) y.secs (j + 1)
      rw [hst, wln_app] at hln
      have hlz : wln (scw f z) = wln (scH z) + (wln (f z) + wln [Rbr]) := by unfold scw; rw [wln_app, wln_app]
      have hst2 : wps s1 ((y.secs.take (j + 1)).flatMap (scw f)) = wps (wps (wps (wps s1 ((y.secs.take j).flatMap (scw f))) (scH z)) (f z)) [Rbr] := by rw [hst, wps_app]; unfold scw; rw [wps_app, wps_app]
      generalize hu : wps s1 ((y.secs.take j).flatMap (scw f)) = u at *
      have hok1 := scH_ok h6
      repeat refine st mo ?_
      refine ⟨b, o, j, h4, rfl, hjl, ?_⟩
      repeat refine st mo ?_
      refine ⟨z.c, rfl, h5, ?_⟩
      repeat refine st mo ?_
      refine ⟨_, fun _ => r_callS (t := .string (ntx z.mx)) rfl rfl Tryz.func147 (fun W M E => p_itoa z.mx hmx.1 hmx.2 W ((hG.xf hX).tb.see E)), st mo ?_⟩
      repeat refine st mo ?_
      refine ⟨_, fun nn => r_put u (scH z) 1 3 hT hso2 hok1 (by omega), st mo ?_⟩
      repeat refine st mo ?_
      refine ⟨dk, st mo ?_⟩
      have hu1 := wps_ok hso2 hok1
      have hn4 := wps_n (scH z) u
      generalize wps u (scH z) = u1 at *
      repeat refine st mo ?_
      refine ⟨_, fun nn => r_w u1 (wps u1 (f z)) 4 rfl hT (h9 X' u1 xf hu1 (by omega)) hu1 (wps_ok hu1 h8) (by exact fitL_cons fp (fitL_cons fv (by rfl))) (fn := Tryz.f77), st mo ?_⟩
      have hu2 := wps_ok hu1 h8
      have hn5 := wps_n (f z) u1
      generalize wps u1 (f z) = u2 at *
      repeat refine st mo ?_
      refine ⟨_, fun nn => r_put u2 [Rbr] 5 6 hT hu2 (one_ok (sym_ok (a := 125))) (by omega), st mo ?_⟩
      have hu3 := wps_ok hu2 (one_ok (sym_ok (a := 125)))
      repeat refine st mo ?_
      refine ⟨_, wz (j + 1) rfl, st mo ?_⟩
      exact ⟨j + 1, hjl, by show y.secs.length - (j + 1) < y.secs.length - j; omega, [0, 7], rfl, ⟨fp, fv, fv, fv, trivial⟩, ⟨trivial, by rw [hst2]; exact c0_fit _, trivial, fl (by rw [hst2]; try rfl) (by rw [hst2]; exact c1_pur hu3), trivial⟩, xf, rfl, rfl⟩
    · repeat refine st mo ?_
      have : j = y.secs.length := by omega
      subst this
      rw [List.take_length] at hso2 ⊢
      exact ⟨rfl, [0, 1], ft0, ⟨trivial, c0_fit _, trivial, fl rfl (c1_pur hso2), trivial⟩, rfl, rfl⟩
theorem LI.xf {X X' : World} {d : Nat} {p : Option Addr} {l : List Itm} (h : LI X d p l) (hX : Xf X' X) : LI X' d p l := h.mono (xce hX)
theorem LS.xf {X X' : World} {d e : Nat} {y : Sec} (h : LS X d e y) (hX : Xf X' X) : LS X' d e y := h.mono (xce hX)
theorem ptO_its {d e : Nat} {y : Sec} (h : ptO d e y = true) : y.its.all (itO d) = true := by
  cases e <;> (unfold ptO at h; rw [Bool.and_eq_true] at h; exact h.1)
theorem ptO_sec {d e : Nat} {y z : Sec} {i : Nat} (h : ptO d (e + 1) y = true) (hz : y.secs[i]? = some z) : fre z.nm = true /\ isI z.mx = true /\ ptO d e z = true := by
  unfold ptO at h; rw [Bool.and_eq_true] at h
  have := List.all_eq_true.1 h.2 z (List.mem_of_getElem? hz)
  unfold scO at this; rw [Bool.and_eq_true, Bool.and_eq_true] at this
  exact this
theorem ptw_ok {d : Nat} {X : World} : ∀ {e : Nat} {y : Sec}, LS X d e y -> ptO d e y = true -> ∀ w ∈ ptw d e y, wok w
  | 0, y, hL, h => app_ok (flat_ok (its_ok hL.1.1 (ptO_its h))) (by rw [hL.2]; exact nil_ok)
  | e + 1, y, hL, h => app_ok (flat_ok (its_ok hL.1.1 (ptO_its h))) (flat_ok fun z hz => by
      obtain ⟨j, hj⟩ := List.mem_iff_getElem?.1 hz
      obtain ⟨h1, h2, h3⟩ := ptO_sec h hj
      exact scw_ok h1 (ptw_ok (hL.2 j z hj).2 h3))
theorem c_parts (d : Nat) : ∀ (e : Nat) (s : Ws) (y : Sec) (X : World), LS X d e y -> ptO d e y = true -> TG X -> s.ok -> s.n + wln (ptw d e y) <= 4611686018427387904 -> CW X 77 [P0, y.y] s (ptw d e y) := by
  intro e
  induction e with
  | zero =>
    intro s y X hL h hG hs hb
    exact c_parts1 d s y (fun _ => []) (ptO_its h) hs hb X hL.1 hG fun i z hz => by rw [hL.2] at hz; cases hz
  | succ e ih =>
    intro s y X hL h hG hs hb
    exact c_parts1 d s y (ptw d e) (ptO_its h) hs hb X hL.1 hG fun i z hz => by
      obtain ⟨h1, h2⟩ := hL.2 i z hz
      obtain ⟨h3, h4, h5⟩ := ptO_sec h hz
      exact ⟨h1, ⟨h3, h4, ptw_ok h2 h5⟩, fun X' s hX hs hb => ih s z X' (h2.xf hX) h5 (hG.xf hX) hs hb⟩
def EachSQ (X : World) (p : Option Addr) (l : List Sec) (f : Sec -> List ByteArray) : Prop := ∀ i z, l[i]? = some z -> (∃ b o, p = some ⟨b, o, none⟩ /\ Lies X b (o + i * 4) z.c) /\ (fre z.nm = true /\ isI z.mx = true /\ ∀ w ∈ f z, wok w) ∧
  ∀ (X' : World) (t : ByteArray), Xf X' X -> t.size <= 40000 -> CQ X' 85 [P0, z.y] t (f z)
theorem EachSQ.xf {X X' : World} {p : Option Addr} {l : List Sec} {f : Sec -> List ByteArray} (h : EachSQ X p l f) (hX : Xf X' X) : EachSQ X' p l f := fun i y hy => by
  obtain ⟨⟨b, o, h1, h2⟩, h3, h4⟩ := h i y hy
  exact ⟨⟨b, o, h1, fun j u hj => xce hX _ _ (h2 j u hj)⟩, h3, fun X2 s hX2 => h4 X2 s (hX2.tr hX)⟩
theorem EachSQ.ok {X : World} {p : Option Addr} {l : List Sec} {f : Sec -> List ByteArray} (h : EachSQ X p l f) : ∀ y ∈ l, ∀ w ∈ scw f y, wok w := fun y hy => by
  obtain ⟨j, hj⟩ := List.mem_iff_getElem?.1 hy
  obtain ⟨h1, h2, h3⟩ := (h j y hj).2.1
  exact scw_ok h1 h3
set_option maxHeartbeats 2000000 in
set_option maxRecDepth 20000 in
theorem d_parts1 (d : Nat) (t : ByteArray) (y : Sec) (f : Sec -> List ByteArray) (hi : y.its.all (itO d) = true) (ht : t.size <= 40000) (X : World) (hL : LS0 X d y) (hE : EachSQ X y.sp y.secs f) : CQ X 85 [P0, y.y] t (pw1 d f y) := by
  rcases Nat.lt_or_ge 16384 t.size with hl | hl
  · unfold CQ
    rw [qps_long hl]
    refine fn_c _ Tryz.func85 rfl rfl rfl rfl (fun w l tw X' hX => run_ok (st mo ?_))
    have hq := q0_l hl
    repeat refine st mo ?_
    refine ⟨_, by rw [hq]; rfl, st mo ?_⟩
    repeat refine st mo ?_
    exact ⟨rfl, [0], ft0, ⟨trivial, fl rfl (q0_pur _), trivial⟩, rfl, rfl⟩
  have hokI := its_ok hL.1 hi
  have hokS := hE.ok
  obtain ⟨hLI, hl1, _, hl2⟩ := id hL
  unfold CQ pw1
  rw [qps_app]
  refine fn_c _ Tryz.func85 rfl rfl rfl rfl (fun w ll tw X' hX => run_ok (st mo ?_))
  have hq := q0_s hl
  repeat refine st mo ?_
  refine ⟨_, by rw [hq]; rfl, st mo ?_⟩
  repeat refine st mo ?_
  refine w_loop (fun i : Nat => ⟨⟨57, [(0, P0), (3, .pointer (some ⟨1, 0, none⟩)), (4, .int .i64 (i : Int))]⟩, [(0 + 4096, none), (0, some (q0 (qps t ((y.its.take i).flatMap (itw d))))), (1, some (y.c.map rel1))], 2, X'⟩) (fun i => i <= y.its.length) (fun i => y.its.length - i) 0 (Nat.zero_le _) [0, 1] ⟨rfl, ⟨fp, fp, fv, trivial⟩, ⟨trivial, fl rfl (q0_pur _), flr rfl, trivial⟩, xf, rfl, rfl⟩ ?_
  intro i hi1
  have hso := qps_size ht (flat_okT i hokI)
  repeat refine st mo ?_
  refine ⟨fun hlt => ?_, fun hge => ?_⟩
  · have hil : i < y.its.length := by omega
    obtain ⟨z, hz⟩ : ∃ z, y.its[i]? = some z := ⟨_, List.getElem?_eq_getElem hil⟩
    obtain ⟨⟨b, o, h4, h5⟩, h6, h7⟩ := (hLI.xf hX) i z hz
    have hst := flat_step (f := itw d) hz
    have hiz := List.all_eq_true.1 hi z (List.mem_of_getElem? hz)
    have hst2 : qps t ((y.its.take (i + 1)).flatMap (itw d)) = qps (qps t ((y.its.take i).flatMap (itw d))) (itw d z) := by rw [hst, qps_app]
    generalize hu : qps t ((y.its.take i).flatMap (itw d)) = u at *
    repeat refine st mo ?_
    refine ⟨b, o, i, h4, rfl, hil, ?_⟩
    repeat refine st mo ?_
    refine ⟨z.c, rfl, h5, ?_⟩
    repeat refine st mo ?_
    refine ⟨_, fun nn => r_q u (qps u (itw d z)) rfl (d_item d u z hiz hso X' h6) (by exact fitL_cons fp (fitL_cons fv (by rfl))) (fn := Tryz.f153), st mo ?_⟩
    repeat refine st mo ?_
    refine ⟨_, wz (i + 1) rfl, st mo ?_⟩
    exact ⟨i + 1, hil, by show y.its.length - (i + 1) < y.its.length - i; omega, [0, 1], rfl, ⟨fp, fp, fv, trivial⟩, ⟨trivial, fl (by rw [hst2]; try rfl) (q0_pur _), flr rfl, trivial⟩, xf, rfl, rfl⟩
  · have : i = y.its.length := by omega
    subst this
    rw [List.take_length] at hso ⊢
    generalize qps t (y.its.flatMap (itw d)) = t1 at *
    repeat refine st mo ?_
    refine w_loop (fun j : Nat => ⟨⟨57, [(0, P0), (3, .pointer (some ⟨1, 0, none⟩)), (5, .int .i64 (j : Int))]⟩, [(0 + 4096, none), (0, some (q0 (qps t1 ((y.secs.take j).flatMap (scw f))))), (1, some (y.c.map rel1))], 2, X'⟩) (fun j => j <= y.secs.length) (fun j => y.secs.length - j) 0 (Nat.zero_le _) [0, 1] ⟨rfl, ⟨fp, fp, fv, trivial⟩, ⟨trivial, fl rfl (q0_pur _), flr rfl, trivial⟩, xf, rfl, rfl⟩ ?_
    intro j hj1
    have hso2 := qps_size hso (flat_okT j hokS)
    repeat refine st mo ?_
    refine ⟨fun hlt => ?_, fun hge => ?_⟩
    · have hjl : j < y.secs.length := by omega
      obtain ⟨z, hz⟩ : ∃ z, y.secs[j]? = some z := ⟨_, List.getElem?_eq_getElem hjl⟩
      obtain ⟨⟨b, o, h4, h5⟩, ⟨h6, h7, h8⟩, h9⟩ := (hE.xf hX) j z hz
      have hmx := isI_iff.1 h7
      have hst := flat_step (f := scw f) hz
      have hst2 : qps t1 ((y.secs.take (j + 1)).flatMap (scw f)) = qps (qps (qps (qps t1 ((y.secs.take j).flatMap (scw f))) (scH z)) (f z)) [Rbr] := by rw [hst, qps_app]; unfold scw; rw [qps_app, qps_app]
      generalize hu : qps t1 ((y.secs.take j).flatMap (scw f)) = u at *
      have hok1 := scH_ok h6
      have hu1 := qps_size hso2 hok1
      repeat refine st mo ?_
      refine ⟨b, o, j, h4, rfl, hjl, ?_⟩
      repeat refine st mo ?_
      refine ⟨_, h5 0 (.string z.nm) rfl, st mo ?_⟩
      repeat refine st mo ?_
      refine ⟨b, o, j, h4, rfl, hjl, ?_⟩
      repeat refine st mo ?_
      refine ⟨_, h5 1 (.int .i64 z.mx) rfl, st mo ?_⟩
      repeat refine st mo ?_
      refine ⟨_, fun _ => r_call (t := .string (ntx z.mx)) rfl rfl Tryz.func154 (fun W M E => q_nat z.mx hmx.1 hmx.2 W), st mo ?_⟩
      repeat refine st mo ?_
      refine ⟨_, fun nn => r_qp u (scH z) 2 hso2 hok1, st mo ?_⟩
      repeat refine st mo ?_
      refine ⟨dk, st mo ?_⟩
      generalize qps u (scH z) = u1 at *
      repeat refine st mo ?_
      refine ⟨b, o, j, h4, rfl, hjl, ?_⟩
      repeat refine st mo ?_
      refine ⟨z.c, rfl, h5, ?_⟩
      repeat refine st mo ?_
      refine ⟨_, fun nn => r_q u1 (qps u1 (f z)) rfl (h9 X' u1 xf hu1) (by exact fitL_cons fp (fitL_cons fv (by rfl))) (fn := Tryz.f85), st mo ?_⟩
      have hu2 := qps_size hu1 h8
      generalize qps u1 (f z) = u2 at *
      repeat refine st mo ?_
      refine ⟨_, fun nn => r_qp u2 [Rbr] 3 hu2 (one_ok (sym_ok (a := 125))), st mo ?_⟩
      repeat refine st mo ?_
      refine ⟨_, wz (j + 1) rfl, st mo ?_⟩
      exact ⟨j + 1, hjl, by show y.secs.length - (j + 1) < y.secs.length - j; omega, [0, 1], rfl, ⟨fp, fp, fv, trivial⟩, ⟨trivial, fl (by rw [hst2]; try rfl) (q0_pur _), flr rfl, trivial⟩, xf, rfl, rfl⟩
    · repeat refine st mo ?_
      have : j = y.secs.length := by omega
      subst this
      rw [List.take_length]
      exact ⟨rfl, [0], ft0, ⟨trivial, fl rfl (q0_pur _), trivial⟩, rfl, rfl⟩
theorem d_parts (d : Nat) : ∀ (e : Nat) (t : ByteArray) (y : Sec) (X : World), LS X d e y -> ptO d e y = true -> t.size <= 40000 -> CQ X 85 [P0, y.y] t (ptw d e y) := by
  intro e
  induction e with
  | zero =>
    intro t y X hL h ht
    exact d_parts1 d t y (fun _ => []) (ptO_its h) ht X hL.1 fun i z hz => by rw [hL.2] at hz; cases hz
  | succ e ih =>
    intro t y X hL h ht
    exact d_parts1 d t y (ptw d e) (ptO_its h) ht X hL.1 fun i z hz => by
      obtain ⟨h1, h2⟩ := hL.2 i z hz
      obtain ⟨h3, h4, h5⟩ := ptO_sec h hz
      exact ⟨h1, ⟨h3, h4, ptw_ok h2 h5⟩, fun X' t hX ht => ih t z X' (h2.xf hX) h5 ht⟩
def dO (b : Bool) (n s : Int) : Bool := decide (ck b n s = 0)
def stO (y : Rat') : Bool := dO y.b0 y.n0 y.s0 && (dO y.b1 y.n1 y.s1 && dO y.b2 y.n2 y.s2)
def tbO (y : Tab) : Bool := fre y.nm && (decide (0 < y.a.length) && y.a.all stO)
def Rat'.ok (y : Rat') : Prop := (0 <= y.n0 /\ y.n0 < MM) /\ (0 <= y.n1 /\ y.n1 < MM) /\ (0 <= y.n2 /\ y.n2 < MM)
def LTb (w : World) (y : Tab) : Prop := y.nm.size <= 9223372036854775806 /\ y.a.length <= 9223372036854775806 /\ ∀ i z, y.a[i]? = some z -> (∃ b o, y.p = some ⟨b, o, none⟩ /\ Lies w b (o + i * 18) z.c) /\ z.ok
theorem LTb.mono {w W : World} {y : Tab} (h : LTb w y) (E : ∀ a u, w.cell? a = some u -> W.cell? a = some u) : LTb W y := ⟨h.1, h.2.1, fun i z hz => by
  obtain ⟨⟨b, o, h1, h2⟩, h3⟩ := h.2.2 i z hz
  exact ⟨⟨b, o, h1, fun j u hj => E _ _ (h2 j u hj)⟩, h3⟩⟩
set_option maxRecDepth 20000 in
theorem p_step (y : Rat') (hy : y.ok) (w : World) : Calls Tryz.prog 142 #[y.w] w fun e W => e = .returned (.bool (stO y)) /\ Mb w W := by
  refine fn_pure [y.y] Tryz.func142 rfl rfl rfl (run_ok (st mo ?_))
  repeat refine st mo ?_
  cases h0 : dO y.b0 y.n0 y.s0 with
  | false =>
    refine ⟨_, fun _ => r_call (t := litF) rfl rfl Tryz.func191 (fun W M E => p_dec h0 hy.1 W), st mo ?_⟩
    repeat refine st mo ?_
    show _ = _; unfold stO; rw [h0]; rfl
  | true =>
    refine ⟨_, fun _ => r_call (t := litT) rfl rfl Tryz.func191 (fun W M E => p_dec h0 hy.1 W), st mo ?_⟩
    repeat refine st mo ?_
    cases h1 : dO y.b1 y.n1 y.s1 with
    | false =>
      refine ⟨_, fun _ => r_call (t := litF) rfl rfl Tryz.func191 (fun W M E => p_dec h1 hy.2.1 W), st mo ?_⟩
      repeat refine st mo ?_
      show _ = _; unfold stO; rw [h0, h1]; rfl
    | true =>
      refine ⟨_, fun _ => r_call (t := litT) rfl rfl Tryz.func191 (fun W M E => p_dec h1 hy.2.1 W), st mo ?_⟩
      repeat refine st mo ?_
      refine ⟨_, fun _ => r_call (t := .bool (dO y.b2 y.n2 y.s2)) rfl rfl Tryz.func191 (fun W M E => p_dec rfl hy.2.2 W), st mo ?_⟩
      repeat refine st mo ?_
      show _ = _; unfold stO; rw [h0, h1]; rfl
set_option maxRecDepth 20000 in
theorem p_table (y : Tab) (w : World) (hL : LTb w y) : Calls Tryz.prog 73 #[y.w] w fun e W => e = .returned (.bool (tbO y)) /\ Mb w W := by
  have hE : EachA Rat'.c 18 142 w y.p y.a stO := fun i z hz => ⟨(hL.2.2 i z hz).1, fun W E => p_step z (hL.2.2 i z hz).2 W⟩
  refine fn_pure [y.y] Tryz.func73 rfl rfl rfl (run_ok (st mo ?_))
  repeat refine st mo ?_
  cases hf : fre y.nm with
  | false =>
    refine ⟨_, fun _ => r_call (t := litF) rfl rfl Tryz.func70 (fun W M E => p_fre hf hL.1 W), st mo ?_⟩
    repeat refine st mo ?_
    show _ = _; unfold tbO; rw [hf]; rfl
  | true =>
    refine ⟨_, fun _ => r_call (t := litT) rfl rfl Tryz.func70 (fun W M E => p_fre hf hL.1 W), st mo ?_⟩
    repeat refine st mo ?_
    refine ⟨fun h0 => ?_, fun h0 => ?_⟩
    · repeat refine st mo ?_
      cases ha : y.a.all stO with
      | false =>
        refine ⟨_, fun _ => r_c (tc := litF) [] [] [] rfl rfl (p_all141 y.p y.cl y.a stO hL.2.1 (Or.inr ⟨rfl, ha⟩) w hE) (by exact fitL_cons fv (fitL_cons (ff (l := []) (m := []) (by rfl)) (by rfl))) trivial uv trivial, st mo ?_⟩
        repeat refine st mo ?_
        show _ = _; unfold tbO; rw [hf, ha]; simp
      | true =>
        refine ⟨_, fun _ => r_c (tc := litT) [] [] [] rfl rfl (p_all141 y.p y.cl y.a stO hL.2.1 (Or.inl ⟨rfl, ha⟩) w hE) (by exact fitL_cons fv (fitL_cons (ff (l := []) (m := []) (by rfl)) (by rfl))) trivial uv trivial, st mo ?_⟩
        repeat refine st mo ?_
        show _ = _; unfold tbO; rw [hf, ha, decide_eq_true (by omega)]; rfl
    · repeat refine st mo ?_
      show _ = _; unfold tbO; rw [hf, decide_eq_false (p := 0 < y.a.length) (by omega)]; rfl
theorem dO_t {b : Bool} {n s : Int} (h : ck b n s = 0) : dO b n s = true := decide_eq_true h
theorem dO_f {b : Bool} {n s : Int} (h : ck b n s ≠ 0) : dO b n s = false := decide_eq_false h
set_option maxHeartbeats 1000000 in
set_option maxRecDepth 20000 in
theorem q_table (y : Tab) (w : World) (hL : LTb w y) : Calls Tryz.prog 82 #[y.w] w fun e W => e = .returned (.bool (tbO y)) /\ Mb w W := by
  obtain ⟨hnm, hl, hLa⟩ := id hL
  refine fn_pure [y.y] Tryz.func82 rfl rfl rfl (run_ok (st mo ?_))
  repeat refine st mo ?_
  cases hf : fre y.nm with
  | false =>
    refine ⟨_, fun _ => r_call (t := litF) rfl rfl Tryz.func80 (fun W M E => q_fre hf hL.1 W), st mo ?_⟩
    repeat refine st mo ?_
    show _ = _; unfold tbO; rw [hf]; rfl
  | true =>
    refine ⟨_, fun _ => r_call (t := litT) rfl rfl Tryz.func80 (fun W M E => q_fre hf hL.1 W), st mo ?_⟩
    repeat refine st mo ?_
    refine ⟨fun h0 => ?_, fun h0 => ?_⟩
    · repeat refine st mo ?_
      show _ = _; unfold tbO; rw [hf, decide_eq_false (p := 0 < y.a.length) (by omega)]; rfl
    have e : tbO y = y.a.all stO := by unfold tbO; rw [hf, decide_eq_true (p := 0 < y.a.length) (by omega)]; rfl
    rw [e]
    repeat refine st mo ?_
    refine w_loop (fun i : Nat => ⟨⟨43, [(1, P0), (3, .int .i64 (i : Int))]⟩, [(0, some (y.c.map rel1))], 1, w⟩) (fun i => i <= y.a.length /\ (y.a.take i).all stO = true) (fun i => y.a.length - i) 0 ⟨Nat.zero_le _, rfl⟩ [0] ⟨rfl, ⟨fp, fv, trivial⟩, ⟨flr rfl, trivial⟩, xf, rfl, rfl⟩ ?_
    intro i hi
    repeat refine st mo ?_
    refine ⟨fun hlt => ?_, fun hge => ?_⟩
    · have hil : i < y.a.length := by omega
      obtain ⟨z, hz⟩ : ∃ z, y.a[i]? = some z := ⟨_, List.getElem?_eq_getElem hil⟩
      obtain ⟨⟨b, o, h4, h5⟩, h6⟩ := hLa i z hz
      have hst := all_takeA (g := stO) hz
      repeat refine st mo ?_
      refine ⟨b, o, i, h4, rfl, hil, ?_⟩
      repeat refine st mo ?_
      refine ⟨z.c, rfl, h5, ?_⟩
      repeat refine st mo ?_
      refine ⟨_, fun _ => r_call (t := .int .i64 (ck z.b0 z.n0 z.s0)) rfl rfl Tryz.func152 (fun W M E => q_chk z.b0 z.n0 z.s0 h6.1 W), st mo ?_⟩
      repeat refine st mo ?_
      refine ⟨fun c0 => ?_, fun c0 => ?_⟩
      · repeat refine st mo ?_
        show _ = _
        rw [all_no hz (by unfold stO; rw [dO_f c0]; rfl)]
      repeat refine st mo ?_
      refine ⟨_, fun _ => r_call (t := .int .i64 (ck z.b1 z.n1 z.s1)) rfl rfl Tryz.func152 (fun W M E => q_chk z.b1 z.n1 z.s1 h6.2.1 W), st mo ?_⟩
      repeat refine st mo ?_
      refine ⟨fun c1 => ?_, fun c1 => ?_⟩
      · repeat refine st mo ?_
        show _ = _
        rw [all_no hz (by unfold stO; rw [dO_f c1]; simp)]
      repeat refine st mo ?_
      refine ⟨_, fun _ => r_call (t := .int .i64 (ck z.b2 z.n2 z.s2)) rfl rfl Tryz.func152 (fun W M E => q_chk z.b2 z.n2 z.s2 h6.2.2 W), st mo ?_⟩
      repeat refine st mo ?_
      refine ⟨fun c2 => ?_, fun c2 => ?_⟩
      · repeat refine st mo ?_
        show _ = _
        rw [all_no hz (by unfold stO; rw [dO_f c2]; simp)]
      repeat refine st mo ?_
      refine ⟨_, wz (i + 1) rfl, st mo ?_⟩
      exact ⟨i + 1, ⟨hil, by rw [hst, hi.2]; unfold stO; rw [dO_t c0, dO_t c1, dO_t c2]; rfl⟩, by show y.a.length - (i + 1) < y.a.length - i; omega, [0], rfl, ⟨fp, fv, trivial⟩, ⟨flr rfl, trivial⟩, xf, rfl, rfl⟩
    · repeat refine st mo ?_
      have hi' : i = y.a.length := by omega
      have hall : y.a.all stO = true := by have := hi.2; rw [hi', List.take_length] at this; exact this
      show _ = _
      rw [hall]
def pgO (d : Nat) (y : Pag) : Bool := fre y.nm && ((nth y.x || vE d y.x) && y.a.all fre)
def LPg (w : World) (d : Nat) (y : Pag) : Prop := y.nm.size <= 9223372036854775806 /\ LT w d y.x /\ y.a.length <= 9223372036854775806 /\ ∀ i z, y.a[i]? = some z -> (∃ b o, y.p = some ⟨b, o, none⟩ /\ w.cell? ⟨b, o + i * 1, none⟩ = some (.string z)) /\ z.size <= 9223372036854775806
theorem LPg.mono {w W : World} {d : Nat} {y : Pag} (h : LPg w d y) (E : ∀ a u, w.cell? a = some u -> W.cell? a = some u) : LPg W d y := ⟨h.1, h.2.1.mono E, h.2.2.1, fun i z hz => by
  obtain ⟨⟨b, o, h1, h2⟩, h3⟩ := h.2.2.2 i z hz
  exact ⟨⟨b, o, h1, E _ _ h2⟩, h3⟩⟩
set_option maxRecDepth 20000 in
theorem p_all144 (p : Option Addr) (cl : Nat) (l : List ByteArray) (hl : l.length <= 9223372036854775806) {r : Value} (hr : (r = litT /\ l.all fre = true) ∨ (r = litF /\ l.all fre = false)) (X : World) (hE : ∀ i z, l[i]? = some z -> (∃ b o, p = some ⟨b, o, none⟩ /\ X.cell? ⟨b, o + i * 1, none⟩ = some (.string z)) /\ z.size <= 9223372036854775806) : Ctr Tryz.prog X 144 [raw (.slice p l.length cl), fnv 70] [] 0 0 r [] 0 := by
  refine fn_c _ Tryz.func144 rfl rfl rfl rfl (fun w ll tw X' hX => run_ok (st mo ?_))
  repeat refine st mo ?_
  refine w_loop (fun i : Nat => ⟨⟨18, [(1, fnv 70), (7, raw (.slice p l.length cl)), (8, .int .i64 (l.length : Int)), (9, .int .i64 (i : Int))]⟩, [], 0, X'⟩) (fun i => i <= l.length /\ (l.take i).all fre = true) (fun i => l.length - i) 0 ⟨Nat.zero_le _, rfl⟩ [] ⟨rfl, ⟨by exact ff (l := []) (m := []) rfl, fv, fv, fv, trivial⟩, trivial, xf, rfl, rfl⟩ ?_
  intro i hi
  repeat refine st mo ?_
  refine ⟨fun hlt => ?_, fun hge => ?_⟩
  · have hil : i < l.length := by omega
    obtain ⟨y, hy⟩ : ∃ y, l[i]? = some y := ⟨_, List.getElem?_eq_getElem hil⟩
    obtain ⟨⟨b, o, h4, h5⟩, h6⟩ := hE i y hy
    have hst := all_takeA (g := fre) hy
    repeat refine st mo ?_
    refine ⟨b, o, i, h4, rfl, hil, ?_⟩
    repeat refine st mo ?_
    refine ⟨_, xce hX _ _ h5, st mo ?_⟩
    repeat refine st mo ?_
    cases hg : fre y with
    | false =>
      refine ⟨_, fun _ => r_callF (t := litF) rfl rfl Tryz.func70 (fun W M E => p_fre hg h6 W), st mo ?_⟩
      repeat refine st mo ?_
      rcases hr with ⟨rfl, hr⟩ | ⟨rfl, _⟩
      · have := List.all_eq_true.1 hr y (List.mem_of_getElem? hy)
        rw [hg] at this; cases this
      · exact ⟨rfl, [], fv, trivial, rfl, rfl⟩
    | true =>
      refine ⟨_, fun _ => r_callF (t := litT) rfl rfl Tryz.func70 (fun W M E => p_fre hg h6 W), st mo ?_⟩
      repeat refine st mo ?_
      refine ⟨_, wz (i + 1) rfl, st mo ?_⟩
      exact ⟨i + 1, ⟨hil, by rw [hst, hi.2, hg]; rfl⟩, by show l.length - (i + 1) < l.length - i; omega, [], rfl, ⟨by exact ff (l := []) (m := []) rfl, fv, fv, fv, trivial⟩, trivial, xf, rfl, rfl⟩
  · repeat refine st mo ?_
    have : i = l.length := by omega
    subst this
    rw [List.take_length] at hi
    rcases hr with ⟨rfl, _⟩ | ⟨rfl, hr⟩
    · exact ⟨rfl, [], fv, trivial, rfl, rfl⟩
    · rw [hi.2] at hr; cases hr
set_option maxHeartbeats 1000000 in
set_option maxRecDepth 20000 in
theorem p_page (d : Nat) (y : Pag) (w : World) (hL : LPg w d y) : Calls Tryz.prog 75 #[y.w] w fun e W => e = .returned (.bool (pgO d y)) /\ Mb w W := by
  obtain ⟨hnm, hx, hl, ha⟩ := id hL
  refine fn_pure [y.y] Tryz.func75 rfl rfl rfl (run_ok (st mo ?_))
  repeat refine st mo ?_
  cases hf : fre y.nm with
  | false =>
    refine ⟨_, fun _ => r_call (t := litF) rfl rfl Tryz.func70 (fun W M E => p_fre hf hnm W), st mo ?_⟩
    repeat refine st mo ?_
    show _ = _; unfold pgO; rw [hf]; rfl
  | true =>
    refine ⟨_, fun _ => r_call (t := litT) rfl rfl Tryz.func70 (fun W M E => p_fre hf hnm W), st mo ?_⟩
    repeat refine st mo ?_
    cases hn : nth y.x with
    | false =>
      refine ⟨_, fun _ => r_call (t := litF) rfl rfl Tryz.func143 (fun W M E => hn ▸ p_none y.x W), st mo ?_⟩
      repeat refine st mo ?_
      cases hv : vE d y.x with
      | false =>
        refine ⟨_, fun _ => r_call (t := litF) rfl rfl Tryz.func35 (fun W M E => hv ▸ p_exp d y.x W (hx.mono E)), st mo ?_⟩
        repeat refine st mo ?_
        show _ = _; unfold pgO; rw [hf, hn, hv]; rfl
      | true =>
        refine ⟨_, fun _ => r_call (t := litT) rfl rfl Tryz.func35 (fun W M E => hv ▸ p_exp d y.x W (hx.mono E)), st mo ?_⟩
        repeat refine st mo ?_
        cases hall : y.a.all fre with
        | false =>
          refine ⟨_, fun _ => r_c (tc := litF) [] [] [] rfl rfl (p_all144 y.p y.cl y.a hl (Or.inr ⟨rfl, hall⟩) w ha) (by exact fitL_cons fv (fitL_cons (ff (l := []) (m := []) (by rfl)) (by rfl))) trivial uv trivial, st mo ?_⟩
          repeat refine st mo ?_
          show _ = _; unfold pgO; rw [hf, hn, hv, hall]; rfl
        | true =>
          refine ⟨_, fun _ => r_c (tc := litT) [] [] [] rfl rfl (p_all144 y.p y.cl y.a hl (Or.inl ⟨rfl, hall⟩) w ha) (by exact fitL_cons fv (fitL_cons (ff (l := []) (m := []) (by rfl)) (by rfl))) trivial uv trivial, st mo ?_⟩
          repeat refine st mo ?_
          show _ = _; unfold pgO; rw [hf, hn, hv, hall]; rfl
    | true =>
      refine ⟨_, fun _ => r_call (t := litT) rfl rfl Tryz.func143 (fun W M E => hn ▸ p_none y.x W), st mo ?_⟩
      repeat refine st mo ?_
      cases hall : y.a.all fre with
      | false =>
        refine ⟨_, fun _ => r_c (tc := litF) [] [] [] rfl rfl (p_all144 y.p y.cl y.a hl (Or.inr ⟨rfl, hall⟩) w ha) (by exact fitL_cons fv (fitL_cons (ff (l := []) (m := []) (by rfl)) (by rfl))) trivial uv trivial, st mo ?_⟩
        repeat refine st mo ?_
        show _ = _; unfold pgO; rw [hf, hn, hall]; rfl
      | true =>
        refine ⟨_, fun _ => r_c (tc := litT) [] [] [] rfl rfl (p_all144 y.p y.cl y.a hl (Or.inl ⟨rfl, hall⟩) w ha) (by exact fitL_cons fv (fitL_cons (ff (l := []) (m := []) (by rfl)) (by rfl))) trivial uv trivial, st mo ?_⟩
        repeat refine st mo ?_
        show _ = _; unfold pgO; rw [hf, hn, hall]; rfl
def dfO (d e : Nat) (y : Dfn) : Bool := fre y.nm && (decide (y.r.nm = E0) && (decide (y.r.mx = 0) && (ptO d e y.r && (y.tabs.all tbO && y.pags.all (pgO d)))))
def LD (w : World) (d e : Nat) (y : Dfn) : Prop := y.nm.size <= 9223372036854775806 /\ LS w d e y.r /\ y.tabs.length <= 9223372036854775806 /\ y.pags.length <= 9223372036854775806 ∧
  (∀ i z, y.tabs[i]? = some z -> (∃ b o, y.tp = some ⟨b, o, none⟩ /\ Lies w b (o + i * 2) z.c) /\ LTb w z) /\ ∀ i z, y.pags[i]? = some z -> (∃ b o, y.pp = some ⟨b, o, none⟩ /\ Lies w b (o + i * 19) z.c) /\ LPg w d z
set_option maxHeartbeats 1000000 in
set_option maxRecDepth 20000 in
theorem p_def (d e : Nat) (y : Dfn) (w : World) (hL : LD w d e y) : Calls Tryz.prog 30 #[y.w] w fun r W => r = .returned (.bool (dfO d e y)) /\ Mb w W := by
  obtain ⟨hnm, hr, hl1, hl2, ht, hp⟩ := id hL
  have hE1 : EachA Tab.c 2 73 w y.tp y.tabs tbO := fun i z hz => ⟨(ht i z hz).1, fun W E => p_table z W ((ht i z hz).2.mono E)⟩
  have hE2 : EachA Pag.c 19 75 w y.pp y.pags (pgO d) := fun i z hz => ⟨(hp i z hz).1, fun W E => p_page d z W ((hp i z hz).2.mono E)⟩
  refine fn_pure [y.y] Tryz.func30 rfl rfl rfl (run_ok (st mo ?_))
  repeat refine st mo ?_
  cases hf : fre y.nm with
  | false =>
    refine ⟨_, fun _ => r_call (t := litF) rfl rfl Tryz.func70 (fun W M E => p_fre hf hnm W), st mo ?_⟩
    repeat refine st mo ?_
    show _ = _; unfold dfO; rw [hf]; rfl
  | true =>
    refine ⟨_, fun _ => r_call (t := litT) rfl rfl Tryz.func70 (fun W M E => p_fre hf hnm W), st mo ?_⟩
    repeat refine st mo ?_
    refine ⟨fun h1 => ?_, fun h1 => ?_⟩
    · repeat refine st mo ?_
      show _ = _; unfold dfO; rw [decide_eq_false (p := y.r.nm = E0) h1]; simp
    repeat refine st mo ?_
    refine ⟨fun h2 => ?_, fun h2 => ?_⟩
    · repeat refine st mo ?_
      show _ = _; unfold dfO; rw [decide_eq_false (p := y.r.mx = 0) h2]; simp
    have e1 : dfO d e y = (ptO d e y.r && (y.tabs.all tbO && y.pags.all (pgO d))) := by unfold dfO; rw [hf, decide_eq_true (p := y.r.nm = E0) h1, decide_eq_true (p := y.r.mx = 0) h2]; rfl
    rw [e1]
    repeat refine st mo ?_
    cases h3 : ptO d e y.r with
    | false =>
      refine ⟨_, fun _ => r_call (t := litF) rfl rfl Tryz.func71 (fun W M E => h3 ▸ p_parts d e y.r W (hr.mono E)), st mo ?_⟩
      repeat refine st mo ?_
      rfl
    | true =>
      refine ⟨_, fun _ => r_call (t := litT) rfl rfl Tryz.func71 (fun W M E => h3 ▸ p_parts d e y.r W (hr.mono E)), st mo ?_⟩
      repeat refine st mo ?_
      cases h4 : y.tabs.all tbO with
      | false =>
        refine ⟨_, fun _ => r_c (tc := litF) [] [] [] rfl rfl (p_all72 y.tp y.tcl y.tabs tbO hl1 (Or.inr ⟨rfl, h4⟩) w hE1) (by exact fitL_cons fv (fitL_cons (ff (l := []) (m := []) (by rfl)) (by rfl))) trivial uv trivial, st mo ?_⟩
        repeat refine st mo ?_
        rfl
      | true =>
        refine ⟨_, fun _ => r_c (tc := litT) [] [] [] rfl rfl (p_all72 y.tp y.tcl y.tabs tbO hl1 (Or.inl ⟨rfl, h4⟩) w hE1) (by exact fitL_cons fv (fitL_cons (ff (l := []) (m := []) (by rfl)) (by rfl))) trivial uv trivial, st mo ?_⟩
        repeat refine st mo ?_
        cases h5 : y.pags.all (pgO d) with
        | false =>
          refine ⟨_, fun _ => r_c (tc := litF) [] [] [] rfl rfl (p_all74 y.pp y.pcl y.pags (pgO d) hl2 (Or.inr ⟨rfl, h5⟩) w hE2) (by exact fitL_cons fv (fitL_cons (ff (l := []) (m := []) (by rfl)) (by rfl))) trivial uv trivial, st mo ?_⟩
          repeat refine st mo ?_
          rfl
        | true =>
          refine ⟨_, fun _ => r_c (tc := litT) [] [] [] rfl rfl (p_all74 y.pp y.pcl y.pags (pgO d) hl2 (Or.inl ⟨rfl, h5⟩) w hE2) (by exact fitL_cons fv (fitL_cons (ff (l := []) (m := []) (by rfl)) (by rfl))) trivial uv trivial, st mo ?_⟩
          repeat refine st mo ?_
          rfl
set_option maxHeartbeats 4000000 in
set_option maxRecDepth 20000 in
theorem q_def (d e : Nat) (y : Dfn) (w : World) (hL : LD w d e y) : Calls Tryz.prog 33 #[y.w] w fun r W => r = .returned (.bool (dfO d e y)) /\ Mb w W := by
  obtain ⟨hnm, hr, hl1, hl2, ht, hp⟩ := id hL
  refine fn_pure [y.y] Tryz.func33 rfl rfl rfl (run_ok (st mo ?_))
  repeat refine st mo ?_
  cases hf : fre y.nm with
  | false =>
    refine ⟨_, fun _ => r_call (t := litF) rfl rfl Tryz.func80 (fun W M E => q_fre hf hnm W), st mo ?_⟩
    repeat refine st mo ?_
    show _ = _; unfold dfO; rw [hf]; rfl
  | true =>
    refine ⟨_, fun _ => r_call (t := litT) rfl rfl Tryz.func80 (fun W M E => q_fre hf hnm W), st mo ?_⟩
    repeat refine st mo ?_
    refine ⟨fun h1 => ?_, fun h1 => ?_⟩
    · repeat refine st mo ?_
      show _ = _; unfold dfO; rw [decide_eq_false (p := y.r.nm = E0) h1]; simp
    repeat refine st mo ?_
    refine ⟨fun h2 => ?_, fun h2 => ?_⟩
    · repeat refine st mo ?_
      show _ = _; unfold dfO; rw [decide_eq_false (p := y.r.mx = 0) h2]; simp
    have e1 : dfO d e y = (ptO d e y.r && (y.tabs.all tbO && y.pags.all (pgO d))) := by unfold dfO; rw [hf, decide_eq_true (p := y.r.nm = E0) h1, decide_eq_true (p := y.r.mx = 0) h2]; rfl
    rw [e1]
    repeat refine st mo ?_
    cases h3 : ptO d e y.r with
    | false =>
      refine ⟨_, fun _ => r_call (t := litF) rfl rfl Tryz.func81 (fun W M E => h3 ▸ q_parts d e y.r W (hr.mono E)), st mo ?_⟩
      repeat refine st mo ?_
      rfl
    | true =>
      refine ⟨_, fun _ => r_call (t := litT) rfl rfl Tryz.func81 (fun W M E => h3 ▸ q_parts d e y.r W (hr.mono E)), st mo ?_⟩
      repeat refine st mo ?_
      refine w_loop (fun i : Nat => ⟨⟨85, [(1, P0), (3, .int .i64 (i : Int))]⟩, [(0, some (y.c.map rel1))], 1, w⟩) (fun i => i <= y.tabs.length /\ (y.tabs.take i).all tbO = true) (fun i => y.tabs.length - i) 0 ⟨Nat.zero_le _, rfl⟩ [0] ⟨rfl, ⟨fp, fv, trivial⟩, ⟨flr rfl, trivial⟩, xf, rfl, rfl⟩ ?_
      intro i hi
      repeat refine st mo ?_
      refine ⟨fun hlt => ?_, fun hge => ?_⟩
      · have hil : i < y.tabs.length := by omega
        obtain ⟨z, hz⟩ : ∃ z, y.tabs[i]? = some z := ⟨_, List.getElem?_eq_getElem hil⟩
        obtain ⟨⟨b, o, h4, h5⟩, h6⟩ := ht i z hz
        have hst := all_takeA (g := tbO) hz
        repeat refine st mo ?_
        refine ⟨b, o, i, h4, rfl, hil, ?_⟩
        repeat refine st mo ?_
        refine ⟨z.c, rfl, h5, ?_⟩
        repeat refine st mo ?_
        cases hg : tbO z with
        | false =>
          refine ⟨_, fun _ => r_call (t := litF) rfl rfl Tryz.func82 (fun W M E => hg ▸ q_table z W (h6.mono E)), st mo ?_⟩
          repeat refine st mo ?_
          show _ = _
          rw [all_no hz hg]; rfl
        | true =>
          refine ⟨_, fun _ => r_call (t := litT) rfl rfl Tryz.func82 (fun W M E => hg ▸ q_table z W (h6.mono E)), st mo ?_⟩
          repeat refine st mo ?_
          refine ⟨_, wz (i + 1) rfl, st mo ?_⟩
          exact ⟨i + 1, ⟨hil, by rw [hst, hi.2, hg]; rfl⟩, by show y.tabs.length - (i + 1) < y.tabs.length - i; omega, [0], rfl, ⟨fp, fv, trivial⟩, ⟨flr rfl, trivial⟩, xf, rfl, rfl⟩
      · have hi' : i = y.tabs.length := by omega
        have hall : y.tabs.all tbO = true := by have := hi.2; rw [hi', List.take_length] at this; exact this
        rw [hall]
        repeat refine st mo ?_
        refine w_loop (fun j : Nat => ⟨⟨85, [(1, P0), (4, .int .i64 (j : Int))]⟩, [(0, some (y.c.map rel1))], 1, w⟩) (fun j => j <= y.pags.length /\ (y.pags.take j).all (pgO d) = true) (fun j => y.pags.length - j) 0 ⟨Nat.zero_le _, rfl⟩ [0] ⟨rfl, ⟨fp, fv, trivial⟩, ⟨flr rfl, trivial⟩, xf, rfl, rfl⟩ ?_
        intro j hj
        repeat refine st mo ?_
        refine ⟨fun hlt => ?_, fun hge => ?_⟩
        · have hjl : j < y.pags.length := by omega
          obtain ⟨z, hz⟩ : ∃ z, y.pags[j]? = some z := ⟨_, List.getElem?_eq_getElem hjl⟩
          obtain ⟨⟨b, o, h4, h5⟩, h6⟩ := hp j z hz
          obtain ⟨hzn, hzx, hzl, hza⟩ := h6
          have hst := all_takeA (g := pgO d) hz
          have hno : pgO d z = false -> (true && (true && y.pags.all (pgO d))) = false := fun h => by rw [all_no hz h]; rfl
          repeat refine st mo ?_
          refine ⟨b, o, j, h4, rfl, hjl, ?_⟩
          repeat refine st mo ?_
          refine ⟨z.c, rfl, h5, ?_⟩
          repeat refine st mo ?_
          cases hg : fre z.nm with
          | false =>
            refine ⟨_, fun _ => r_call (t := litF) rfl rfl Tryz.func80 (fun W M E => q_fre hg hzn W), st mo ?_⟩
            repeat refine st mo ?_
            show _ = _
            rw [hno (by unfold pgO; rw [hg]; rfl)]
          | true =>
            refine ⟨_, fun _ => r_call (t := litT) rfl rfl Tryz.func80 (fun W M E => q_fre hg hzn W), st mo ?_⟩
            repeat refine st mo ?_
            have hin : (nth z.x || vE d z.x) = true -> pgO d z = z.a.all fre := fun h => by unfold pgO; rw [hg, h]; rfl
            cases hn : nth z.x with
            | false =>
              refine ⟨_, fun _ => r_call (t := litF) rfl rfl Tryz.func83 (fun W M E => hn ▸ q_none z.x W), st mo ?_⟩
              repeat refine st mo ?_
              cases hv : vE d z.x with
              | false =>
                refine ⟨_, fun _ => r_call (t := litF) rfl rfl Tryz.func37 (fun W M E => hv ▸ q_exp d z.x W (hzx.mono E)), st mo ?_⟩
                repeat refine st mo ?_
                show _ = _
                rw [hno (by unfold pgO; rw [hg, hn, hv]; rfl)]
              | true =>
                have hpg := hin (by rw [hv]; simp)
                refine ⟨_, fun _ => r_call (t := litT) rfl rfl Tryz.func37 (fun W M E => hv ▸ q_exp d z.x W (hzx.mono E)), st mo ?_⟩
                repeat refine st mo ?_
                refine w_loop (fun k : Nat => ⟨⟨85, [(1, P0), (4, .int .i64 (j : Int)), (5, .pointer (some ⟨1, 0, none⟩)), (6, .int .i64 (k : Int))]⟩, [(0, some (y.c.map rel1)), (1, some (z.c.map rel1))], 2, w⟩) (fun k => k <= z.a.length /\ (z.a.take k).all fre = true) (fun k => z.a.length - k) 0 ⟨Nat.zero_le _, rfl⟩ [0, 1] ⟨rfl, ⟨fp, fv, fp, fv, trivial⟩, ⟨flr rfl, flr rfl, trivial⟩, xf, rfl, rfl⟩ ?_
                intro k hk
                repeat refine st mo ?_
                refine ⟨fun hlt2 => ?_, fun hge2 => ?_⟩
                · have hkl : k < z.a.length := by omega
                  obtain ⟨u, hu⟩ : ∃ u, z.a[k]? = some u := ⟨_, List.getElem?_eq_getElem hkl⟩
                  obtain ⟨⟨b2, o2, g4, g5⟩, g6⟩ := hza k u hu
                  have hst2 := all_takeA (g := fre) hu
                  repeat refine st mo ?_
                  refine ⟨b2, o2, k, g4, rfl, hkl, ?_⟩
                  repeat refine st mo ?_
                  refine ⟨_, g5, st mo ?_⟩
                  repeat refine st mo ?_
                  cases hfu : fre u with
                  | false =>
                    refine ⟨_, fun _ => r_call (t := litF) rfl rfl Tryz.func80 (fun W M E => q_fre hfu g6 W), st mo ?_⟩
                    repeat refine st mo ?_
                    show _ = _
                    rw [hno (by rw [hpg]; exact all_no hu hfu)]
                  | true =>
                    refine ⟨_, fun _ => r_call (t := litT) rfl rfl Tryz.func80 (fun W M E => q_fre hfu g6 W), st mo ?_⟩
                    repeat refine st mo ?_
                    refine ⟨_, wz (k + 1) rfl, st mo ?_⟩
                    exact ⟨k + 1, ⟨hkl, by rw [hst2, hk.2, hfu]; rfl⟩, by show z.a.length - (k + 1) < z.a.length - k; omega, [0, 1], rfl, ⟨fp, fv, fp, fv, trivial⟩, ⟨flr rfl, flr rfl, trivial⟩, xf, rfl, rfl⟩
                · have hk' : k = z.a.length := by omega
                  have hallz : z.a.all fre = true := by have := hk.2; rw [hk', List.take_length] at this; exact this
                  repeat refine st mo ?_
                  refine ⟨_, wz (j + 1) rfl, st mo ?_⟩
                  exact ⟨j + 1, ⟨hjl, by rw [hst, hj.2, hpg, hallz]; rfl⟩, by show y.pags.length - (j + 1) < y.pags.length - j; omega, [0], rfl, ⟨fp, fv, trivial⟩, ⟨flr rfl, trivial⟩, xf, rfl, rfl⟩
            | true =>
              have hpg := hin (by rw [hn]; rfl)
              refine ⟨_, fun _ => r_call (t := litT) rfl rfl Tryz.func83 (fun W M E => hn ▸ q_none z.x W), st mo ?_⟩
              repeat refine st mo ?_
              refine w_loop (fun k : Nat => ⟨⟨85, [(1, P0), (4, .int .i64 (j : Int)), (5, .pointer (some ⟨1, 0, none⟩)), (6, .int .i64 (k : Int))]⟩, [(0, some (y.c.map rel1)), (1, some (z.c.map rel1))], 2, w⟩) (fun k => k <= z.a.length /\ (z.a.take k).all fre = true) (fun k => z.a.length - k) 0 ⟨Nat.zero_le _, rfl⟩ [0, 1] ⟨rfl, ⟨fp, fv, fp, fv, trivial⟩, ⟨flr rfl, flr rfl, trivial⟩, xf, rfl, rfl⟩ ?_
              intro k hk
              repeat refine st mo ?_
              refine ⟨fun hlt2 => ?_, fun hge2 => ?_⟩
              · have hkl : k < z.a.length := by omega
                obtain ⟨u, hu⟩ : ∃ u, z.a[k]? = some u := ⟨_, List.getElem?_eq_getElem hkl⟩
                obtain ⟨⟨b2, o2, g4, g5⟩, g6⟩ := hza k u hu
                have hst2 := all_takeA (g := fre) hu
                repeat refine st mo ?_
                refine ⟨b2, o2, k, g4, rfl, hkl, ?_⟩
                repeat refine st mo ?_
                refine ⟨_, g5, st mo ?_⟩
                repeat refine st mo ?_
                cases hfu : fre u with
                | false =>
                  refine ⟨_, fun _ => r_call (t := litF) rfl rfl Tryz.func80 (fun W M E => q_fre hfu g6 W), st mo ?_⟩
                  repeat refine st mo ?_
                  show _ = _
                  rw [hno (by rw [hpg]; exact all_no hu hfu)]
                | true =>
                  refine ⟨_, fun _ => r_call (t := litT) rfl rfl Tryz.func80 (fun W M E => q_fre hfu g6 W), st mo ?_⟩
                  repeat refine st mo ?_
                  refine ⟨_, wz (k + 1) rfl, st mo ?_⟩
                  exact ⟨k + 1, ⟨hkl, by rw [hst2, hk.2, hfu]; rfl⟩, by show z.a.length - (k + 1) < z.a.length - k; omega, [0, 1], rfl, ⟨fp, fv, fp, fv, trivial⟩, ⟨flr rfl, flr rfl, trivial⟩, xf, rfl, rfl⟩
              · have hk' : k = z.a.length := by omega
                have hallz : z.a.all fre = true := by have := hk.2; rw [hk', List.take_length] at this; exact this
                repeat refine st mo ?_
                refine ⟨_, wz (j + 1) rfl, st mo ?_⟩
                exact ⟨j + 1, ⟨hjl, by rw [hst, hj.2, hpg, hallz]; rfl⟩, by show y.pags.length - (j + 1) < y.pags.length - j; omega, [0], rfl, ⟨fp, fv, trivial⟩, ⟨flr rfl, trivial⟩, xf, rfl, rfl⟩
        · repeat refine st mo ?_
          have hj' : j = y.pags.length := by omega
          have hall2 : y.pags.all (pgO d) = true := by have := hj.2; rw [hj', List.take_length] at this; exact this
          show _ = _
          rw [hall2]; rfl
def dcw (b : Bool) (n s : Int) : List ByteArray := if b then [Mns] ++ [dtx false n s] else [dtx false n s]
theorem dcw_ok (b : Bool) (n s : Int) : ∀ w ∈ dcw b n s, wok w := by
  unfold dcw; split
  · exact app_ok (one_ok sym_ok) (one_ok (dtx_ok false n s))
  · exact one_ok (dtx_ok false n s)
set_option maxRecDepth 20000 in
theorem c_dec (s : Ws) (b : Bool) (n sc : Int) (hn : 0 <= n /\ n < MM) (hs : s.ok) (hb : s.n + wln (dcw b n sc) <= 4611686018427387904) (X : World) : CW X 148 [P0, dc b n sc] s (dcw b n sc) := by
  refine fn_cT _ Tryz.func148 rfl rfl rfl rfl rfl (fun w ll tw X' hX hT => run_ok (st mo ?_))
  repeat refine st mo ?_
  refine ⟨fun h1 => ?_, fun h1 => ?_⟩
  · have e : dcw b n sc = [Mns] ++ [dtx false n sc] := if_pos h1
    rw [e] at hb ⊢
    simp only [wln_app] at hb
    simp only [wps_app]
    repeat refine st mo ?_
    refine ⟨_, fun nn => r_put s [Mns] 1 3 hT hs (one_ok (sym_ok (a := 45))) (by omega), st mo ?_⟩
    have hs1 := wps_ok hs (one_ok (sym_ok (a := 45)))
    have hn_s1 := wps_n ([Mns]) s
    generalize wps s ([Mns]) = s1 at *
    repeat refine st mo ?_
    refine ⟨_, fun _ => r_call (t := .string (dtx false n sc)) rfl rfl Tryz.func194 (fun W M E => p_dtx false n sc hn W), st mo ?_⟩
    repeat refine st mo ?_
    refine ⟨_, fun nn => r_put s1 [dtx false n sc] 4 5 hT hs1 (one_ok (dtx_ok false n sc)) (by omega), st mo ?_⟩
    repeat refine st mo ?_
    exact ⟨rfl, [0, 6], ft0, ⟨trivial, c0_fit _, trivial, fl rfl (c1_pur (wps_ok hs1 (one_ok (dtx_ok false n sc)))), trivial⟩, rfl, rfl⟩
  · subst h1
    have e : dcw false n sc = [dtx false n sc] := rfl
    rw [e] at hb ⊢
    repeat refine st mo ?_
    refine ⟨_, fun _ => r_call (t := .string (dtx false n sc)) rfl rfl Tryz.func194 (fun W M E => p_dtx false n sc hn W), st mo ?_⟩
    repeat refine st mo ?_
    refine ⟨_, fun nn => r_put s [dtx false n sc] 1 3 hT hs (one_ok (dtx_ok false n sc)) (by omega), st mo ?_⟩
    repeat refine st mo ?_
    exact ⟨rfl, [0, 4], ft0, ⟨trivial, c0_fit _, trivial, fl rfl (c1_pur (wps_ok hs (one_ok (dtx_ok false n sc)))), trivial⟩, rfl, rfl⟩
abbrev FroW : ByteArray := ⟨#[102, 114, 111, 109]⟩
abbrev BasW : ByteArray := ⟨#[98, 97, 115, 101]⟩
abbrev RatW : ByteArray := ⟨#[114, 97, 116, 101]⟩
abbrev TabW : ByteArray := ⟨#[116, 97, 98, 108, 101]⟩
def stw (y : Rat') : List ByteArray := [FroW] ++ (dcw y.b0 y.n0 y.s0 ++ ([BasW] ++ (dcw y.b1 y.n1 y.s1 ++ ([RatW] ++ (dcw y.b2 y.n2 y.s2 ++ [SemW])))))
theorem four_ok {a b c d : UInt8} : wok ⟨#[a, b, c, d]⟩ := ⟨by show 1 <= 4; omega, by show 4 <= 16384; omega⟩
theorem stw_ok (y : Rat') : ∀ w ∈ stw y, wok w := app_ok (one_ok four_ok) (app_ok (dcw_ok _ _ _) (app_ok (one_ok four_ok) (app_ok (dcw_ok _ _ _) (app_ok (one_ok four_ok) (app_ok (dcw_ok _ _ _) (one_ok sym_ok))))))
abbrev tbH (y : Tab) : List ByteArray := [TabW, y.nm, Lbr]
def tbw (y : Tab) : List ByteArray := tbH y ++ (y.a.flatMap stw ++ [Rbr])
theorem tbH_ok {y : Tab} (h : tbO y = true) : ∀ w ∈ tbH y, wok w := by
  unfold tbO at h; simp at h
  exact cons_ok ⟨by decide, by decide⟩ (cons_ok (fre_ok h.1) (one_ok sym_ok))
theorem tbw_ok {y : Tab} (h : tbO y = true) : ∀ w ∈ tbw y, wok w := app_ok (tbH_ok h) (app_ok (flat_ok fun z _ => stw_ok z) (one_ok sym_ok))
set_option maxHeartbeats 2000000 in
set_option maxRecDepth 20000 in
theorem c_table (s : Ws) (y : Tab) (hy : tbO y = true) (hs : s.ok) (hb : s.n + wln (tbw y) <= 4611686018427387904) (X : World) (hL : LTb X y) : CW X 78 [P0, y.y] s (tbw y) := by
  have hok1 := tbH_ok hy
  obtain ⟨_, hl, hLa⟩ := id hL
  unfold tbw at hb ⊢
  rw [wln_app, wln_app] at hb
  show CtrT Tryz.prog 95 3 X 78 [P0, y.y] (hW s) 2 1 (.tuple #[]) (hW (wps s (_ ++ (_ ++ _)))) 2
  rw [wps_app, wps_app]
  refine fn_cT _ Tryz.func78 rfl rfl rfl rfl rfl (fun w ll tw X' hX hT => run_ok (st mo ?_))
  repeat refine st mo ?_
  refine ⟨_, fun nn => r_put s (tbH y) 1 3 hT hs hok1 (by omega), st mo ?_⟩
  have hs1 := wps_ok hs hok1
  have hn1 := wps_n (tbH y) s
  generalize wps s (tbH y) = s1 at *
  repeat refine st mo ?_
  refine w_loop (fun i : Nat => ⟨⟨46, [(0, P0), (12, raw (.slice y.p y.a.length y.cl)), (13, .int .i64 (y.a.length : Int)), (14, .int .i64 (i : Int))]⟩, hW (wps s1 ((y.a.take i).flatMap stw)), 2, X'⟩) (fun i => i <= y.a.length) (fun i => y.a.length - i) 0 (Nat.zero_le _) [0, 4] ⟨rfl, ⟨fp, fv, fv, fv, trivial⟩, ⟨trivial, c0_fit _, trivial, fl rfl (c1_pur hs1), trivial⟩, xf, rfl, rfl⟩ ?_
  intro i hi1
  have hso := wps_ok hs1 (flat_okT (f := stw) (l := y.a) i fun z _ => stw_ok z)
  have hn2 := wps_n ((y.a.take i).flatMap stw) s1
  have hlast := flat_le (f := stw) y.a i
  repeat refine st mo ?_
  refine ⟨fun hlt => ?_, fun hge => ?_⟩
  · have hil : i < y.a.length := by omega
    obtain ⟨z, hz⟩ : ∃ z, y.a[i]? = some z := ⟨_, List.getElem?_eq_getElem hil⟩
    obtain ⟨⟨b, o, h4, h5⟩, h6⟩ := hLa i z hz
    have h5' : Lies X' b (o + i * 18) z.c := fun j u hj => xce hX _ _ (h5 j u hj)
    have hst := flat_step (f := stw) hz
    have hln := flat_le (f := stw) y.a (i + 1)
    rw [hst, wln_app] at hln
    have hlz : wln (stw z) = wln [FroW] + (wln (dcw z.b0 z.n0 z.s0) + (wln [BasW] + (wln (dcw z.b1 z.n1 z.s1) + (wln [RatW] + (wln (dcw z.b2 z.n2 z.s2) + wln [SemW]))))) := by unfold stw; simp only [wln_app]
    have hst2 : wps s1 ((y.a.take (i + 1)).flatMap stw) = wps (wps (wps (wps (wps (wps (wps (wps s1 ((y.a.take i).flatMap stw)) [FroW]) (dcw z.b0 z.n0 z.s0)) [BasW]) (dcw z.b1 z.n1 z.s1)) [RatW]) (dcw z.b2 z.n2 z.s2)) [SemW] := by rw [hst, wps_app]; unfold stw; simp only [wps_app]
    generalize hu : wps s1 ((y.a.take i).flatMap stw) = u at *
    repeat refine st mo ?_
    refine ⟨b, o, i, h4, rfl, hil, ?_⟩
    repeat refine st mo ?_
    refine ⟨z.c, rfl, h5', ?_⟩
    repeat refine st mo ?_
    refine ⟨_, fun nn => r_put u [FroW] 1 3 hT hso (one_ok (four_ok : wok FroW)) (by omega), st mo ?_⟩
    have hso1 := wps_ok hso (one_ok (four_ok : wok FroW))
    have hn_u1 := wps_n ([FroW]) u
    generalize wps u ([FroW]) = u1 at *
    repeat refine st mo ?_
    refine ⟨_, fun nn => r_w u1 (wps u1 (dcw z.b0 z.n0 z.s0)) 4 rfl hT (c_dec u1 z.b0 z.n0 z.s0 h6.1 hso1 (by omega) X') hso1 (wps_ok hso1 (dcw_ok z.b0 z.n0 z.s0)) (by exact fitL_cons fp (fitL_cons fv (by rfl))) (fn := Tryz.f148), st mo ?_⟩
    have hso2 := wps_ok hso1 (dcw_ok z.b0 z.n0 z.s0)
    have hn_u2 := wps_n (dcw z.b0 z.n0 z.s0) u1
    generalize wps u1 (dcw z.b0 z.n0 z.s0) = u2 at *
    repeat refine st mo ?_
    refine ⟨_, fun nn => r_put u2 [BasW] 5 6 hT hso2 (one_ok (four_ok : wok BasW)) (by omega), st mo ?_⟩
    have hso3 := wps_ok hso2 (one_ok (four_ok : wok BasW))
    have hn_u3 := wps_n ([BasW]) u2
    generalize wps u2 ([BasW]) = u3 at *
    repeat refine st mo ?_
    refine ⟨_, fun nn => r_w u3 (wps u3 (dcw z.b1 z.n1 z.s1)) 7 rfl hT (c_dec u3 z.b1 z.n1 z.s1 h6.2.1 hso3 (by omega) X') hso3 (wps_ok hso3 (dcw_ok z.b1 z.n1 z.s1)) (by exact fitL_cons fp (fitL_cons fv (by rfl))) (fn := Tryz.f148), st mo ?_⟩
    have hso4 := wps_ok hso3 (dcw_ok z.b1 z.n1 z.s1)
    have hn_u4 := wps_n (dcw z.b1 z.n1 z.s1) u3
    generalize wps u3 (dcw z.b1 z.n1 z.s1) = u4 at *
    repeat refine st mo ?_
    refine ⟨_, fun nn => r_put u4 [RatW] 8 9 hT hso4 (one_ok (four_ok : wok RatW)) (by omega), st mo ?_⟩
    have hso5 := wps_ok hso4 (one_ok (four_ok : wok RatW))
    have hn_u5 := wps_n ([RatW]) u4
    generalize wps u4 ([RatW]) = u5 at *
    repeat refine st mo ?_
    refine ⟨_, fun nn => r_w u5 (wps u5 (dcw z.b2 z.n2 z.s2)) 10 rfl hT (c_dec u5 z.b2 z.n2 z.s2 h6.2.2 hso5 (by omega) X') hso5 (wps_ok hso5 (dcw_ok z.b2 z.n2 z.s2)) (by exact fitL_cons fp (fitL_cons fv (by rfl))) (fn := Tryz.f148), st mo ?_⟩
    have hso6 := wps_ok hso5 (dcw_ok z.b2 z.n2 z.s2)
    have hn_u6 := wps_n (dcw z.b2 z.n2 z.s2) u5
    generalize wps u5 (dcw z.b2 z.n2 z.s2) = u6 at *
    repeat refine st mo ?_
    refine ⟨_, fun nn => r_put u6 [SemW] 11 12 hT hso6 (one_ok (sym_ok (a := 59))) (by omega), st mo ?_⟩
    repeat refine st mo ?_
    have hso7 := wps_ok hso6 (one_ok (sym_ok (a := 59)))
    refine ⟨_, wz (i + 1) rfl, st mo ?_⟩
    exact ⟨i + 1, hil, by show y.a.length - (i + 1) < y.a.length - i; omega, [0, 13], rfl, ⟨fp, fv, fv, fv, trivial⟩, ⟨trivial, by rw [hst2]; exact c0_fit _, trivial, fl (by rw [hst2]; try rfl) (by rw [hst2]; exact c1_pur hso7), trivial⟩, xf, rfl, rfl⟩
  · have : i = y.a.length := by omega
    subst this
    rw [List.take_length] at hso hn2 ⊢
    generalize wps s1 (y.a.flatMap stw) = u at *
    repeat refine st mo ?_
    refine ⟨_, fun nn => r_put u [Rbr] 1 2 hT hso (one_ok (sym_ok (a := 125))) (by omega), st mo ?_⟩
    repeat refine st mo ?_
    exact ⟨rfl, [0, 3], ft0, ⟨trivial, c0_fit _, trivial, fl rfl (c1_pur (wps_ok hso (one_ok (sym_ok (a := 125))))), trivial⟩, rfl, rfl⟩
abbrev PagW : ByteArray := ⟨#[112, 97, 103, 101]⟩
abbrev WheW : ByteArray := ⟨#[119, 104, 101, 110]⟩
def cmw : List ByteArray -> List ByteArray
  | [] => []
  | x :: l => [x] ++ l.flatMap fun y => [Com, y]
theorem cmw_step {l : List ByteArray} {i : Nat} {y : ByteArray} (h : l[i]? = some y) : cmw (l.take (i + 1)) = cmw (l.take i) ++ (if i = 0 then [y] else [Com] ++ [y]) := by
  match l, i, h with
  | x :: l, 0, h => cases h; rfl
  | x :: l, i + 1, h =>
    have h : l[i]? = some y := h
    rw [if_neg (by omega)]
    show [x] ++ (l.take (i + 1)).flatMap _ = [x] ++ (l.take i).flatMap _ ++ ([Com] ++ [y])
    rw [flat_step (f := fun y => [Com, y]) h]; simp
theorem cmw_ok : ∀ {l : List ByteArray}, (∀ y ∈ l, wok y) -> ∀ w ∈ cmw l, wok w
  | [], _ => nil_ok
  | x :: l, h => app_ok (one_ok (h x (by simp))) (flat_ok fun y hy => cons_ok sym_ok (one_ok (h y (by simp [hy]))))
theorem cmw_le (l : List ByteArray) (i : Nat) : wln (cmw (l.take i)) <= wln (cmw l) := by
  match l, i with
  | [], i => simp [cmw]
  | x :: l, 0 => show wln [] <= _; rw [wln_nil]; omega
  | x :: l, i + 1 =>
    show wln ([x] ++ (l.take i).flatMap _) <= wln ([x] ++ l.flatMap _)
    rw [wln_app, wln_app]
    have := flat_le (f := fun y => [Com, y]) l i
    omega
def pgw (d : Nat) (y : Pag) : List ByteArray := [PagW, y.nm] ++ ((if y.x.k = 0 then [] else [WheW] ++ wB d y.x) ++ ([Lbr] ++ (cmw y.a ++ [Rbr])))
theorem pgw0 {d : Nat} {y : Pag} (h : y.x.k = 0) : pgw d y = [PagW, y.nm] ++ ([Lbr] ++ (cmw y.a ++ [Rbr])) := by unfold pgw; rw [if_pos h]; rfl
theorem pgw1 {d : Nat} {y : Pag} (h : y.x.k ≠ 0) : pgw d y = [PagW, y.nm] ++ ([WheW] ++ (wB d y.x ++ ([Lbr] ++ (cmw y.a ++ [Rbr])))) := by unfold pgw; rw [if_neg h]; simp
theorem pgO_nm {d : Nat} {y : Pag} (h : pgO d y = true) : fre y.nm = true := by unfold pgO at h; rw [Bool.and_eq_true] at h; exact h.1
theorem pgO_a {d : Nat} {y : Pag} (h : pgO d y = true) : ∀ z ∈ y.a, wok z := by
  unfold pgO at h; rw [Bool.and_eq_true, Bool.and_eq_true] at h
  exact fun z hz => fre_ok (List.all_eq_true.1 h.2.2 z hz)
theorem pgO_x {d : Nat} {y : Pag} (h : pgO d y = true) (hk : y.x.k ≠ 0) : vE d y.x = true := by
  unfold pgO at h; rw [Bool.and_eq_true, Bool.and_eq_true] at h
  have hn : nth y.x = false := by unfold nth snd; rw [show decide (y.x.k = x0.k) = false from decide_eq_false hk]; rfl
  have := h.2.1; rw [hn] at this; exact this
theorem pgw_ok {d : Nat} {X : World} {y : Pag} (h : pgO d y = true) (hL : LT X d y.x) : ∀ w ∈ pgw d y, wok w := by
  have h1 : ∀ w ∈ [PagW, y.nm], wok w := cons_ok four_ok (one_ok (fre_ok (pgO_nm h)))
  by_cases hk : y.x.k = 0
  · rw [pgw0 hk]; exact app_ok h1 (app_ok (one_ok sym_ok) (app_ok (cmw_ok (pgO_a h)) (one_ok sym_ok)))
  · rw [pgw1 hk]; exact app_ok h1 (app_ok (one_ok four_ok) (app_ok (wBd_ok hL (pgO_x h hk)) (app_ok (one_ok sym_ok) (app_ok (cmw_ok (pgO_a h)) (one_ok sym_ok)))))
set_option maxHeartbeats 2000000 in
set_option maxRecDepth 20000 in
theorem c_page (d : Nat) (s : Ws) (y : Pag) (hy : pgO d y = true) (hs : s.ok) (hb : s.n + wln (pgw d y) <= 4611686018427387904) (X : World) (hL : LPg X d y) (hG : TG X) : CW X 79 [P0, y.y] s (pgw d y) := by
  obtain ⟨_, hx, hl, hLa⟩ := id hL
  have hokA := pgO_a hy
  have hok1 : ∀ w ∈ [PagW, y.nm], wok w := cons_ok four_ok (one_ok (fre_ok (pgO_nm hy)))
  have hokT : ∀ i, ∀ w ∈ cmw (y.a.take i), wok w := fun i => cmw_ok fun z hz => hokA z (List.mem_of_mem_take hz)
  by_cases hk : y.x.k = 0
  · rw [pgw0 hk] at hb ⊢
    simp only [wln_app] at hb
    unfold CW
    simp only [wps_app]
    refine fn_cT _ Tryz.func79 rfl rfl rfl rfl rfl (fun w ll tw X' hX hT => run_ok (st mo ?_))
    repeat refine st mo ?_
    refine ⟨_, fun nn => r_put s [PagW, y.nm] 1 3 hT hs hok1 (by omega), st mo ?_⟩
    have hs1 := wps_ok hs hok1
    have hn_s1 := wps_n ([PagW, y.nm]) s
    generalize wps s ([PagW, y.nm]) = s1 at *
    repeat refine st mo ?_
    refine ⟨fun h => absurd hk h, fun _ => ?_⟩
    repeat refine st mo ?_
    refine ⟨_, fun nn => r_put s1 [Lbr] 4 5 hT hs1 (one_ok (sym_ok (a := 123))) (by omega), st mo ?_⟩
    have hs3 := wps_ok hs1 (one_ok (sym_ok (a := 123)))
    have hn_s3 := wps_n ([Lbr]) s1
    generalize wps s1 ([Lbr]) = s3 at *
    repeat refine st mo ?_
    refine w_loop (fun i : Nat => ⟨⟨46, [(0, P0), (26, raw (.slice y.p y.a.length y.cl)), (27, .int .i64 (y.a.length : Int)), (28, .int .i64 (i : Int))]⟩, hW (wps s3 (cmw (y.a.take i))), 2, X'⟩) (fun i => i <= y.a.length) (fun i => y.a.length - i) 0 (Nat.zero_le _) [0, 6] ⟨rfl, ⟨fp, fv, fv, fv, trivial⟩, ⟨trivial, c0_fit _, trivial, fl rfl (c1_pur hs3), trivial⟩, xf, rfl, rfl⟩ ?_
    intro i hi1
    have hso := wps_ok hs3 (hokT i)
    have hn2 := wps_n (cmw (y.a.take i)) s3
    have hle := cmw_le y.a i
    repeat refine st mo ?_
    refine ⟨fun hlt => ?_, fun hge => ?_⟩
    · have hil : i < y.a.length := by omega
      obtain ⟨z, hz⟩ : ∃ z, y.a[i]? = some z := ⟨_, List.getElem?_eq_getElem hil⟩
      obtain ⟨⟨b, o, h4, h5⟩, h6⟩ := hLa i z hz
      have hzo := one_ok (hokA z (List.mem_of_getElem? hz))
      have hst := cmw_step hz
      have hln := cmw_le y.a (i + 1)
      rw [hst, wln_app] at hln
      have hst1 : wps s3 (cmw (y.a.take (i + 1))) = wps (wps s3 (cmw (y.a.take i))) (if i = 0 then [z] else [Com] ++ [z]) := by rw [hst, wps_app]
      generalize wps s3 (cmw (y.a.take i)) = u at *
      repeat refine st mo ?_
      refine ⟨b, o, i, h4, rfl, hil, ?_⟩
      repeat refine st mo ?_
      refine ⟨_, xce hX _ _ h5, st mo ?_⟩
      repeat refine st mo ?_
      refine ⟨fun hgt => ?_, fun hle0 => ?_⟩
      · rw [if_neg (by omega)] at hst1 hln
        rw [wln_app] at hln
        rw [wps_app] at hst1
        repeat refine st mo ?_
        refine ⟨_, fun nn => r_put u [Com] 1 2 hT hso (one_ok (sym_ok (a := 44))) (by omega), st mo ?_⟩
        have hso1 := wps_ok hso (one_ok (sym_ok (a := 44)))
        have hn3 := wps_n [Com] u
        generalize wps u [Com] = u1 at *
        repeat refine st mo ?_
        refine ⟨_, fun nn => r_put u1 [z] 3 4 hT hso1 hzo (by omega), st mo ?_⟩
        have hso2 := wps_ok hso1 hzo
        repeat refine st mo ?_
        refine ⟨_, wz (i + 1) rfl, st mo ?_⟩
        exact ⟨i + 1, hil, by show y.a.length - (i + 1) < y.a.length - i; omega, [0, 5], rfl, ⟨fp, fv, fv, fv, trivial⟩, ⟨trivial, by rw [hst1]; exact c0_fit _, trivial, fl (by rw [hst1]; try rfl) (by rw [hst1]; exact c1_pur hso2), trivial⟩, xf, rfl, rfl⟩
      · rw [if_pos (by omega)] at hst1 hln
        repeat refine st mo ?_
        refine ⟨_, fun nn => r_put u [z] 1 2 hT hso hzo (by omega), st mo ?_⟩
        have hso2 := wps_ok hso hzo
        repeat refine st mo ?_
        refine ⟨_, wz (i + 1) rfl, st mo ?_⟩
        exact ⟨i + 1, hil, by show y.a.length - (i + 1) < y.a.length - i; omega, [0, 3], rfl, ⟨fp, fv, fv, fv, trivial⟩, ⟨trivial, by rw [hst1]; exact c0_fit _, trivial, fl (by rw [hst1]; try rfl) (by rw [hst1]; exact c1_pur hso2), trivial⟩, xf, rfl, rfl⟩
    · have : i = y.a.length := by omega
      subst this
      rw [List.take_length] at hso hn2 ⊢
      generalize wps s3 (cmw y.a) = u at *
      repeat refine st mo ?_
      refine ⟨_, fun nn => r_put u [Rbr] 1 2 hT hso (one_ok (sym_ok (a := 125))) (by omega), st mo ?_⟩
      repeat refine st mo ?_
      exact ⟨rfl, [0, 3], ft0, ⟨trivial, c0_fit _, trivial, fl rfl (c1_pur (wps_ok hso (one_ok (sym_ok (a := 125))))), trivial⟩, rfl, rfl⟩
  · have hv := pgO_x hy hk
    rw [pgw1 hk] at hb ⊢
    simp only [wln_app] at hb
    unfold CW
    simp only [wps_app]
    refine fn_cT _ Tryz.func79 rfl rfl rfl rfl rfl (fun w ll tw X' hX hT => run_ok (st mo ?_))
    repeat refine st mo ?_
    refine ⟨_, fun nn => r_put s [PagW, y.nm] 1 3 hT hs hok1 (by omega), st mo ?_⟩
    have hs1 := wps_ok hs hok1
    have hn_s1 := wps_n ([PagW, y.nm]) s
    generalize wps s ([PagW, y.nm]) = s1 at *
    repeat refine st mo ?_
    refine ⟨fun _ => ?_, fun h => absurd h hk⟩
    repeat refine st mo ?_
    refine ⟨_, fun nn => r_put s1 [WheW] 4 5 hT hs1 (one_ok (four_ok : wok WheW)) (by omega), st mo ?_⟩
    have hs3 := wps_ok hs1 (one_ok (four_ok : wok WheW))
    have hn_s3 := wps_n ([WheW]) s1
    generalize wps s1 ([WheW]) = s3 at *
    repeat refine st mo ?_
    refine ⟨_, fun nn => r_w s3 (wps s3 (wB d y.x)) 6 rfl hT (wX1 ▸ cw_expr d s3 y.x 1 X' (hx.xf hX) hv (hG.xf hX) hs3 (by rw [wX1]; omega)) hs3 (wps_ok hs3 (wBd_ok hx hv)) (by exact fitL_cons fp (fitL_cons fv (fitL_cons fv (by rfl)))) (fn := Tryz.f36), st mo ?_⟩
    have hs4 := wps_ok hs3 (wBd_ok hx hv)
    have hn_s4 := wps_n (wB d y.x) s3
    generalize wps s3 (wB d y.x) = s4 at *
    repeat refine st mo ?_
    refine ⟨_, fun nn => r_put s4 [Lbr] 7 8 hT hs4 (one_ok (sym_ok (a := 123))) (by omega), st mo ?_⟩
    have hs5 := wps_ok hs4 (one_ok (sym_ok (a := 123)))
    have hn_s5 := wps_n ([Lbr]) s4
    generalize wps s4 ([Lbr]) = s5 at *
    repeat refine st mo ?_
    refine w_loop (fun i : Nat => ⟨⟨46, [(0, P0), (26, raw (.slice y.p y.a.length y.cl)), (27, .int .i64 (y.a.length : Int)), (28, .int .i64 (i : Int))]⟩, hW (wps s5 (cmw (y.a.take i))), 2, X'⟩) (fun i => i <= y.a.length) (fun i => y.a.length - i) 0 (Nat.zero_le _) [0, 9] ⟨rfl, ⟨fp, fv, fv, fv, trivial⟩, ⟨trivial, c0_fit _, trivial, fl rfl (c1_pur hs5), trivial⟩, xf, rfl, rfl⟩ ?_
    intro i hi1
    have hso := wps_ok hs5 (hokT i)
    have hn2 := wps_n (cmw (y.a.take i)) s5
    have hle := cmw_le y.a i
    repeat refine st mo ?_
    refine ⟨fun hlt => ?_, fun hge => ?_⟩
    · have hil : i < y.a.length := by omega
      obtain ⟨z, hz⟩ : ∃ z, y.a[i]? = some z := ⟨_, List.getElem?_eq_getElem hil⟩
      obtain ⟨⟨b, o, h4, h5⟩, h6⟩ := hLa i z hz
      have hzo := one_ok (hokA z (List.mem_of_getElem? hz))
      have hst := cmw_step hz
      have hln := cmw_le y.a (i + 1)
      rw [hst, wln_app] at hln
      have hst1 : wps s5 (cmw (y.a.take (i + 1))) = wps (wps s5 (cmw (y.a.take i))) (if i = 0 then [z] else [Com] ++ [z]) := by rw [hst, wps_app]
      generalize wps s5 (cmw (y.a.take i)) = u at *
      repeat refine st mo ?_
      refine ⟨b, o, i, h4, rfl, hil, ?_⟩
      repeat refine st mo ?_
      refine ⟨_, xce hX _ _ h5, st mo ?_⟩
      repeat refine st mo ?_
      refine ⟨fun hgt => ?_, fun hle0 => ?_⟩
      · rw [if_neg (by omega)] at hst1 hln
        rw [wln_app] at hln
        rw [wps_app] at hst1
        repeat refine st mo ?_
        refine ⟨_, fun nn => r_put u [Com] 1 2 hT hso (one_ok (sym_ok (a := 44))) (by omega), st mo ?_⟩
        have hso1 := wps_ok hso (one_ok (sym_ok (a := 44)))
        have hn3 := wps_n [Com] u
        generalize wps u [Com] = u1 at *
        repeat refine st mo ?_
        refine ⟨_, fun nn => r_put u1 [z] 3 4 hT hso1 hzo (by omega), st mo ?_⟩
        have hso2 := wps_ok hso1 hzo
        repeat refine st mo ?_
        refine ⟨_, wz (i + 1) rfl, st mo ?_⟩
        exact ⟨i + 1, hil, by show y.a.length - (i + 1) < y.a.length - i; omega, [0, 5], rfl, ⟨fp, fv, fv, fv, trivial⟩, ⟨trivial, by rw [hst1]; exact c0_fit _, trivial, fl (by rw [hst1]; try rfl) (by rw [hst1]; exact c1_pur hso2), trivial⟩, xf, rfl, rfl⟩
      · rw [if_pos (by omega)] at hst1 hln
        repeat refine st mo ?_
        refine ⟨_, fun nn => r_put u [z] 1 2 hT hso hzo (by omega), st mo ?_⟩
        have hso2 := wps_ok hso hzo
        repeat refine st mo ?_
        refine ⟨_, wz (i + 1) rfl, st mo ?_⟩
        exact ⟨i + 1, hil, by show y.a.length - (i + 1) < y.a.length - i; omega, [0, 3], rfl, ⟨fp, fv, fv, fv, trivial⟩, ⟨trivial, by rw [hst1]; exact c0_fit _, trivial, fl (by rw [hst1]; try rfl) (by rw [hst1]; exact c1_pur hso2), trivial⟩, xf, rfl, rfl⟩
    · have : i = y.a.length := by omega
      subst this
      rw [List.take_length] at hso hn2 ⊢
      generalize wps s5 (cmw y.a) = u at *
      repeat refine st mo ?_
      refine ⟨_, fun nn => r_put u [Rbr] 1 2 hT hso (one_ok (sym_ok (a := 125))) (by omega), st mo ?_⟩
      repeat refine st mo ?_
      exact ⟨rfl, [0, 3], ft0, ⟨trivial, c0_fit _, trivial, fl rfl (c1_pur (wps_ok hso (one_ok (sym_ok (a := 125))))), trivial⟩, rfl, rfl⟩
abbrev RetW : ByteArray := ⟨#[114, 101, 116, 117, 114, 110]⟩
abbrev dfH (y : Dfn) : List ByteArray := [RetW, y.nm, Lbr]
def dfw (d e : Nat) (y : Dfn) : List ByteArray := dfH y ++ (ptw d e y.r ++ (y.tabs.flatMap tbw ++ (y.pags.flatMap (pgw d) ++ [Rbr])))
theorem dfO_all {d e : Nat} {y : Dfn} (h : dfO d e y = true) : fre y.nm = true /\ ptO d e y.r = true /\ y.tabs.all tbO = true /\ y.pags.all (pgO d) = true := by
  unfold dfO at h; simp only [Bool.and_eq_true] at h; exact ⟨h.1, h.2.2.2⟩
theorem dfH_ok {d e : Nat} {y : Dfn} (h : dfO d e y = true) : ∀ w ∈ dfH y, wok w := cons_ok ⟨by decide, by decide⟩ (cons_ok (fre_ok (dfO_all h).1) (one_ok sym_ok))
theorem tabs_ok {d e : Nat} {y : Dfn} (h : dfO d e y = true) : ∀ z ∈ y.tabs, ∀ w ∈ tbw z, wok w := fun z hz => tbw_ok (List.all_eq_true.1 (dfO_all h).2.2.1 z hz)
theorem pags_ok {d e : Nat} {X : World} {y : Dfn} (h : dfO d e y = true) (hL : LD X d e y) : ∀ z ∈ y.pags, ∀ w ∈ pgw d z, wok w := fun z hz => by
  obtain ⟨j, hj⟩ := List.mem_iff_getElem?.1 hz
  exact pgw_ok (List.all_eq_true.1 (dfO_all h).2.2.2 z hz) (hL.2.2.2.2.2 j z hj).2.2.1
theorem dfw_ok {d e : Nat} {X : World} {y : Dfn} (h : dfO d e y = true) (hL : LD X d e y) : ∀ w ∈ dfw d e y, wok w :=
  app_ok (dfH_ok h) (app_ok (ptw_ok hL.2.1 (dfO_all h).2.1) (app_ok (flat_ok (tabs_ok h)) (app_ok (flat_ok (pags_ok h hL)) (one_ok sym_ok))))
set_option maxHeartbeats 2000000 in
set_option maxRecDepth 20000 in
theorem c_def (d e : Nat) (s : Ws) (y : Dfn) (hy : dfO d e y = true) (hs : s.ok) (hb : s.n + wln (dfw d e y) <= 4611686018427387904) (X : World) (hL : LD X d e y) (hG : TG X) : CW X 31 [P0, y.y] s (dfw d e y) := by
  obtain ⟨hnm, hr, hl1, hl2, ht, hp⟩ := id hL
  obtain ⟨hf, hpt, htO, hpO⟩ := dfO_all hy
  have hok1 := dfH_ok hy
  have hok2 := ptw_ok hr hpt
  have hok3 := tabs_ok hy
  have hok4 := pags_ok hy hL
  unfold dfw at hb ⊢
  simp only [wln_app] at hb
  unfold CW
  simp only [wps_app]
  refine fn_cT _ Tryz.func31 rfl rfl rfl rfl rfl (fun w ll tw X' hX hT => run_ok (st mo ?_))
  repeat refine st mo ?_
  refine ⟨_, fun nn => r_put s (dfH y) 1 3 hT hs hok1 (by omega), st mo ?_⟩
  have hs1 := wps_ok hs hok1
  have hn1 := wps_n (dfH y) s
  generalize wps s (dfH y) = s1 at *
  repeat refine st mo ?_
  refine ⟨_, fun nn => r_w s1 (wps s1 (ptw d e y.r)) 4 rfl hT (c_parts d e s1 y.r X' (hr.xf hX) hpt (hG.xf hX) hs1 (by omega)) hs1 (wps_ok hs1 hok2) (by exact fitL_cons fp (fitL_cons fv (by rfl))) (fn := Tryz.f77), st mo ?_⟩
  have hs2 := wps_ok hs1 hok2
  have hn2 := wps_n (ptw d e y.r) s1
  generalize wps s1 (ptw d e y.r) = s2 at *
  repeat refine st mo ?_
  refine w_loop (fun i : Nat => ⟨⟨42, [(0, P0), (3, .pointer (some ⟨2, 0, none⟩)), (18, raw (.slice y.tp y.tabs.length y.tcl)), (19, .int .i64 (y.tabs.length : Int)), (20, .int .i64 (i : Int))]⟩, [(0 + 4096, none), (0, some (c0 1 (wps s2 ((y.tabs.take i).flatMap tbw)))), (1 + 4096, none), (1, some (c1 (wps s2 ((y.tabs.take i).flatMap tbw)))), (2, some (y.c.map rel1))], 3, X'⟩) (fun i => i <= y.tabs.length) (fun i => y.tabs.length - i) 0 (Nat.zero_le _) [0, 5, 2] ⟨rfl, ⟨fp, fp, fv, fv, fv, trivial⟩, ⟨trivial, c0_fit _, trivial, fl rfl (c1_pur hs2), flr rfl, trivial⟩, xf, rfl, rfl⟩ ?_
  intro i hi1
  have hso := wps_ok hs2 (flat_okT i hok3)
  have hn3 := wps_n ((y.tabs.take i).flatMap tbw) s2
  repeat refine st mo ?_
  refine ⟨fun hlt => ?_, fun hge => ?_⟩
  · have hil : i < y.tabs.length := by omega
    obtain ⟨z, hz⟩ : ∃ z, y.tabs[i]? = some z := ⟨_, List.getElem?_eq_getElem hil⟩
    obtain ⟨⟨b, o, h4, h5⟩, h6⟩ := ht i z hz
    have h5' : Lies X' b (o + i * 2) z.c := fun j u hj => xce hX _ _ (h5 j u hj)
    have hst := flat_step (f := tbw) hz
    have hln := flat_le (f := tbw) y.tabs (i + 1)
    have hiz := List.all_eq_true.1 htO z (List.mem_of_getElem? hz)
    have hokz := tbw_ok hiz
    rw [hst, wln_app] at hln
    have hst2 : wps s2 ((y.tabs.take (i + 1)).flatMap tbw) = wps (wps s2 ((y.tabs.take i).flatMap tbw)) (tbw z) := by rw [hst, wps_app]
    generalize hu : wps s2 ((y.tabs.take i).flatMap tbw) = u at *
    have hso4 := wps_ok hso hokz
    repeat refine st mo ?_
    refine ⟨b, o, i, h4, rfl, hil, ?_⟩
    repeat refine st mo ?_
    refine ⟨z.c, rfl, h5', ?_⟩
    repeat refine st mo ?_
    refine ⟨_, fun nn => r_w u (wps u (tbw z)) 1 rfl hT (c_table u z hiz hso (by omega) X' (h6.mono (xce hX))) hso hso4 (by exact fitL_cons fp (fitL_cons fv (by rfl))) (fn := Tryz.f78), st mo ?_⟩
    repeat refine st mo ?_
    refine ⟨_, wz (i + 1) rfl, st mo ?_⟩
    exact ⟨i + 1, hil, by show y.tabs.length - (i + 1) < y.tabs.length - i; omega, [0, 4, 2], rfl, ⟨fp, fp, fv, fv, fv, trivial⟩, ⟨trivial, by rw [hst2]; exact c0_fit _, trivial, fl (by rw [hst2]; try rfl) (by rw [hst2]; exact c1_pur hso4), flr rfl, trivial⟩, xf, rfl, rfl⟩
  · have : i = y.tabs.length := by omega
    subst this
    rw [List.take_length] at hn3 hso ⊢
    generalize wps s2 (y.tabs.flatMap tbw) = s3 at *
    repeat refine st mo ?_
    refine w_loop (fun j : Nat => ⟨⟨42, [(0, P0), (29, raw (.slice y.pp y.pags.length y.pcl)), (30, .int .i64 (y.pags.length : Int)), (31, .int .i64 (j : Int))]⟩, hW (wps s3 ((y.pags.take j).flatMap (pgw d))), 2, X'⟩) (fun j => j <= y.pags.length) (fun j => y.pags.length - j) 0 (Nat.zero_le _) [0, 1] ⟨rfl, ⟨fp, fv, fv, fv, trivial⟩, ⟨trivial, c0_fit _, trivial, fl rfl (c1_pur hso), trivial⟩, xf, rfl, rfl⟩ ?_
    intro j hj1
    have hso2 := wps_ok hso (flat_okT j hok4)
    have hn4 := wps_n ((y.pags.take j).flatMap (pgw d)) s3
    repeat refine st mo ?_
    refine ⟨fun hlt => ?_, fun hge => ?_⟩
    · have hjl : j < y.pags.length := by omega
      obtain ⟨z, hz⟩ : ∃ z, y.pags[j]? = some z := ⟨_, List.getElem?_eq_getElem hjl⟩
      obtain ⟨⟨b, o, h4, h5⟩, h6⟩ := hp j z hz
      have h5' : Lies X' b (o + j * 19) z.c := fun j u hj => xce hX _ _ (h5 j u hj)
      have hst := flat_step (f := pgw d) hz
      have hln := flat_le (f := pgw d) y.pags (j + 1)
      have hjz := List.all_eq_true.1 hpO z (List.mem_of_getElem? hz)
      have hokz := pgw_ok hjz h6.2.1
      rw [hst, wln_app] at hln
      have hst2 : wps s3 ((y.pags.take (j + 1)).flatMap (pgw d)) = wps (wps s3 ((y.pags.take j).flatMap (pgw d))) (pgw d z) := by rw [hst, wps_app]
      generalize hu : wps s3 ((y.pags.take j).flatMap (pgw d)) = u at *
      have hso4 := wps_ok hso2 hokz
      repeat refine st mo ?_
      refine ⟨b, o, j, h4, rfl, hjl, ?_⟩
      repeat refine st mo ?_
      refine ⟨z.c, rfl, h5', ?_⟩
      repeat refine st mo ?_
      refine ⟨_, fun nn => r_w u (wps u (pgw d z)) 1 rfl hT (c_page d u z hjz hso2 (by omega) X' (h6.mono (xce hX)) (hG.xf hX)) hso2 hso4 (by exact fitL_cons fp (fitL_cons fv (by rfl))) (fn := Tryz.f79), st mo ?_⟩
      repeat refine st mo ?_
      refine ⟨_, wz (j + 1) rfl, st mo ?_⟩
      exact ⟨j + 1, hjl, by show y.pags.length - (j + 1) < y.pags.length - j; omega, [0, 3], rfl, ⟨fp, fv, fv, fv, trivial⟩, ⟨trivial, by rw [hst2]; exact c0_fit _, trivial, fl (by rw [hst2]; try rfl) (by rw [hst2]; exact c1_pur hso4), trivial⟩, xf, rfl, rfl⟩
    · have : j = y.pags.length := by omega
      subst this
      rw [List.take_length] at hn4 hso2 ⊢
      generalize wps s3 (y.pags.flatMap (pgw d)) = s4 at *
      repeat refine st mo ?_
      refine ⟨_, fun nn => r_put s4 [Rbr] 1 2 hT hso2 (one_ok (sym_ok (a := 125))) (by omega), st mo ?_⟩
      repeat refine st mo ?_
      exact ⟨rfl, [0, 3], ft0, ⟨trivial, c0_fit _, trivial, fl rfl (c1_pur (wps_ok hso2 (one_ok (sym_ok (a := 125))))), trivial⟩, rfl, rfl⟩
def prP (d e : Nat) (y : Dfn) (s : Ws) : Value := if dfO d e y then tldP (wps s (dfw d e y)) else .tuple #[.string E0, .int .i64 81]
theorem dfw_ne {d e : Nat} {y : Dfn} : dfw d e y ≠ [] := by unfold dfw; simp
set_option maxHeartbeats 1000000 in
set_option maxRecDepth 20000 in
theorem p_print (d e : Nat) (y : Dfn) (w : World) (hL : LD w d e y) (hG : TG w) (hb : dfO d e y = true -> wln (dfw d e y) <= 4611686018427387904) : Calls Tryz.prog 12 #[y.w] w fun r W => r = .returned (prP d e y ⟨E0, 0, y.c.map rel1⟩) /\ Mb w W := by
  have hLm : ∀ W, (∀ a u, w.cell? a = some u -> W.cell? a = some u) -> LD W d e y := fun W E => ⟨hL.1, hL.2.1.mono E, hL.2.2.1, hL.2.2.2.1, fun i z hz => by
    obtain ⟨⟨b, o, h1, h2⟩, h3⟩ := hL.2.2.2.2.1 i z hz
    exact ⟨⟨b, o, h1, fun j u hj => E _ _ (h2 j u hj)⟩, h3.mono E⟩, fun i z hz => by
    obtain ⟨⟨b, o, h1, h2⟩, h3⟩ := hL.2.2.2.2.2 i z hz
    exact ⟨⟨b, o, h1, fun j u hj => E _ _ (h2 j u hj)⟩, h3.mono E⟩⟩
  refine fn_pure [y.y] Tryz.func12 rfl rfl rfl (wc_seq (run_ok (st mo ?_)))
  show WC _ _ _ _ _
  refine wc_seq (run_ok (st mo ?_))
  repeat refine st mo ?_
  cases hv : dfO d e y with
  | false =>
    have e1 : prP d e y ⟨E0, 0, y.c.map rel1⟩ = .tuple #[.string E0, .int .i64 81] := by unfold prP; rw [hv]; rfl
    rw [e1]
    refine ⟨_, fun _ => r_call (t := litF) rfl rfl Tryz.func30 (fun W M E => hv ▸ p_def d e y W (hLm W E)), st mo ?_⟩
    repeat refine st mo ?_
    rfl
  | true =>
    have e1 : prP d e y ⟨E0, 0, y.c.map rel1⟩ = tldP (wps ⟨E0, 0, y.c.map rel1⟩ (dfw d e y)) := by unfold prP; rw [hv]; rfl
    rw [e1]
    refine ⟨_, fun _ => r_call (t := litT) rfl rfl Tryz.func30 (fun W M E => hv ▸ p_def d e y W (hLm W E)), st mo ?_⟩
    repeat refine st mo ?_
    show WC _ _ _ _ _
    have hs0 : Ws.ok ⟨E0, 0, y.c.map rel1⟩ := ws0_ok (by simp [pur_rel1])
    have hok := dfw_ok hv hL
    have hb := hb hv
    refine wc_al (T := 95) (N := 3) (d := 4) ⟨⟨13, [(1, .pointer (some ⟨1, 0, none⟩)), (4, P0)]⟩, [(0 + 4096, none), (0, some (c0 1 ⟨E0, 0, y.c.map rel1⟩)), (1, some (y.c.map rel1))], 2, w⟩ [1, 0] rfl rfl rfl rfl ⟨rfl, ⟨fp, fp, trivial⟩, ⟨trivial, fitL_cons fv (fitL_cons fnS (fitL_cons fv (by rfl))), flr rfl, trivial⟩, xf, rfl, rfl⟩ ?_
    intro l tw hT
    refine run_ok (st mo ?_)
    repeat refine st mo ?_
    refine ⟨_, fun nn => r_w ⟨E0, 0, y.c.map rel1⟩ (wps ⟨E0, 0, y.c.map rel1⟩ (dfw d e y)) 1 rfl hT (c_def d e ⟨E0, 0, y.c.map rel1⟩ y hv hs0 (by show 0 + wln _ <= _; omega) w hL hG) hs0 (wps_ok hs0 hok) (by exact fitL_cons fp (fitL_cons fv (by rfl))) (fn := Tryz.f31), st mo ?_⟩
    have hs1 := wps_ok hs0 hok
    have hn1 := wps_pos (s := ⟨E0, 0, y.c.map rel1⟩) dfw_ne hok
    generalize wps ⟨E0, 0, y.c.map rel1⟩ (dfw d e y) = s1 at *
    repeat refine st mo ?_
    rcases Nat.lt_or_ge 16384 s1.n with hl | hl
    · rw [show tldP s1 = .tuple #[.string E0, .int .i64 3] from if_pos hl]
      refine ⟨_, fun _ => r_c (tc := .tuple #[.string E0, .int .i64 3]) [0, 2] [] [] rfl rfl (c_told_no s1 hl w) (by exact fitL_cons fp (by rfl)) ⟨trivial, c0_fit s1, trivial, fl rfl (c1_pur hs1), trivial⟩ uv trivial, st mo ?_⟩
      repeat refine st mo ?_
      rfl
    · rw [show tldP s1 = .tuple #[.string s1.t, .int .i64 0] from if_neg (by omega)]
      refine ⟨_, fun _ => r_c (tc := .tuple #[.string s1.t, .int .i64 0]) [0, 2] [] [] rfl rfl (c_told s1 hs1 (by rcases hs1.2.2 with h | h <;> omega) hl w) (by exact fitL_cons fp (by rfl)) ⟨trivial, c0_fit s1, trivial, fl rfl (c1_pur hs1), trivial⟩ uv trivial, st mo ?_⟩
      repeat refine st mo ?_
      rfl
def Rat'.d0 (z : Rat') : List Value := [.bool z.b0, .int .u64 (l0 z.n0), .int .u64 (l1 z.n0), .int .u64 (l2 z.n0), .int .u64 (l3 z.n0), .int .i64 z.s0]
def Rat'.d1 (z : Rat') : List Value := [.bool z.b1, .int .u64 (l0 z.n1), .int .u64 (l1 z.n1), .int .u64 (l2 z.n1), .int .u64 (l3 z.n1), .int .i64 z.s1]
def Rat'.d2 (z : Rat') : List Value := [.bool z.b2, .int .u64 (l0 z.n2), .int .u64 (l1 z.n2), .int .u64 (l2 z.n2), .int .u64 (l3 z.n2), .int .i64 z.s2]
theorem lies_sub {X : World} {b o k : Nat} {us vs : List Value} (h : Lies X b o us) (e : ∀ j u, vs[j]? = some u -> us[k + j]? = some u) : Lies X b (o + k) vs := fun j u hj => by
  have := h (k + j) u (e j u hj)
  rw [show o + k + j = o + (k + j) by omega]; exact this
theorem Rat'.lie0 {X : World} {b o : Nat} {z : Rat'} (h : Lies X b o z.c) : Lies X b (o + 0) z.d0 := lies_sub h fun j u hj => by
  match j, hj with
  | 0, hj => exact hj
  | 1, hj => exact hj
  | 2, hj => exact hj
  | 3, hj => exact hj
  | 4, hj => exact hj
  | 5, hj => exact hj
  | (j + 6), hj => simp [Rat'.d0] at hj
theorem Rat'.lie1 {X : World} {b o : Nat} {z : Rat'} (h : Lies X b o z.c) : Lies X b (o + 6) z.d1 := lies_sub h fun j u hj => by
  match j, hj with
  | 0, hj => exact hj
  | 1, hj => exact hj
  | 2, hj => exact hj
  | 3, hj => exact hj
  | 4, hj => exact hj
  | 5, hj => exact hj
  | (j + 6), hj => simp [Rat'.d1] at hj
theorem Rat'.lie2 {X : World} {b o : Nat} {z : Rat'} (h : Lies X b o z.c) : Lies X b (o + 12) z.d2 := lies_sub h fun j u hj => by
  match j, hj with
  | 0, hj => exact hj
  | 1, hj => exact hj
  | 2, hj => exact hj
  | 3, hj => exact hj
  | 4, hj => exact hj
  | 5, hj => exact hj
  | (j + 6), hj => simp [Rat'.d2] at hj
def stA (z : Rat') : Nat -> List ByteArray
  | 0 => []
  | 1 => [FroW] ++ dcw z.b0 z.n0 z.s0
  | 2 => [FroW] ++ dcw z.b0 z.n0 z.s0 ++ ([BasW] ++ dcw z.b1 z.n1 z.s1)
  | _ => [FroW] ++ dcw z.b0 z.n0 z.s0 ++ ([BasW] ++ dcw z.b1 z.n1 z.s1) ++ ([RatW] ++ dcw z.b2 z.n2 z.s2)
theorem stA_ok (z : Rat') : ∀ k, ∀ w ∈ stA z k, wok w
  | 0 => nil_ok
  | 1 => app_ok (one_ok four_ok) (dcw_ok _ _ _)
  | 2 => app_ok (app_ok (one_ok four_ok) (dcw_ok _ _ _)) (app_ok (one_ok four_ok) (dcw_ok _ _ _))
  | _ + 3 => app_ok (app_ok (app_ok (one_ok four_ok) (dcw_ok _ _ _)) (app_ok (one_ok four_ok) (dcw_ok _ _ _))) (app_ok (one_ok four_ok) (dcw_ok _ _ _))
theorem stw_A (z : Rat') : stw z = stA z 3 ++ [SemW] := by unfold stw; simp [stA]
set_option maxHeartbeats 4000000 in
set_option maxRecDepth 20000 in
theorem d_table (t : ByteArray) (y : Tab) (hy : tbO y = true) (ht : t.size <= 40000) (X : World) (hL : LTb X y) : CQ X 86 [P0, y.y] t (tbw y) := by
  have hok1 := tbH_ok hy
  have hokS : ∀ z ∈ y.a, ∀ w ∈ stw z, wok w := fun z _ => stw_ok z
  obtain ⟨_, hl, hLa⟩ := id hL
  unfold CQ tbw
  rw [qps_app, qps_app]
  refine fn_c _ Tryz.func86 rfl rfl rfl rfl (fun w ll tw X' hX => run_ok (st mo ?_))
  repeat refine st mo ?_
  refine ⟨_, fun nn => r_qp t (tbH y) 2 ht hok1, st mo ?_⟩
  have ht1 := qps_size ht hok1
  generalize qps t (tbH y) = t1 at *
  repeat refine st mo ?_
  refine w_loop (fun i : Nat => ⟨⟨71, [(0, P0), (3, .pointer (some ⟨1, 0, none⟩)), (4, .int .i64 (i : Int))]⟩, [(0 + 4096, none), (0, some (q0 (qps t1 ((y.a.take i).flatMap stw)))), (1, some (y.c.map rel1))], 2, X'⟩) (fun i => i <= y.a.length) (fun i => y.a.length - i) 0 (Nat.zero_le _) [0, 1] ⟨rfl, ⟨fp, fp, fv, trivial⟩, ⟨trivial, fl rfl (q0_pur _), flr rfl, trivial⟩, xf, rfl, rfl⟩ ?_
  intro i hi1
  have hso := qps_size ht1 (flat_okT i hokS)
  repeat refine st mo ?_
  refine ⟨fun hlt => ?_, fun hge => ?_⟩
  · have hil : i < y.a.length := by omega
    obtain ⟨z, hz⟩ : ∃ z, y.a[i]? = some z := ⟨_, List.getElem?_eq_getElem hil⟩
    obtain ⟨⟨b, o, h4, h5⟩, h6⟩ := hLa i z hz
    have h5' : Lies X' b (o + i * 18) z.c := fun j u hj => xce hX _ _ (h5 j u hj)
    have hst := flat_step (f := stw) hz
    have hst2 : qps t1 ((y.a.take (i + 1)).flatMap stw) = qps (qps (qps t1 ((y.a.take i).flatMap stw)) (stA z 3)) [SemW] := by rw [hst, qps_app, stw_A, qps_app]
    generalize hu : qps t1 ((y.a.take i).flatMap stw) = u at *
    repeat refine st mo ?_
    refine ⟨b, o, i, h4, rfl, hil, ?_⟩
    repeat refine st mo ?_
    refine ⟨z.d0, rfl, Rat'.lie0 h5', ?_⟩
    repeat refine st mo ?_
    refine ⟨b, o, i, h4, rfl, hil, ?_⟩
    repeat refine st mo ?_
    refine ⟨z.d1, rfl, Rat'.lie1 h5', ?_⟩
    repeat refine st mo ?_
    refine ⟨b, o, i, h4, rfl, hil, ?_⟩
    repeat refine st mo ?_
    refine ⟨z.d2, rfl, Rat'.lie2 h5', ?_⟩
    repeat refine st mo ?_
    refine ⟨dk, st mo ?_⟩
    repeat refine st mo ?_
    refine w_loop (fun k : Nat => ⟨⟨71, [(0, P0), (3, .pointer (some ⟨1, 0, none⟩)), (4, .int .i64 (i : Int)), (5, .slice (some ⟨2, 0, none⟩) 3 6), (6, .int .i64 (k : Int))]⟩, [(0 + 4096, none), (0, some (q0 (qps u (stA z k)))), (1, some (y.c.map rel1)), (2, some (z.c.map rel1))], 3, X'⟩) (fun k => k <= 3) (fun k => 3 - k) 0 (Nat.zero_le _) [0, 1, 2] ⟨rfl, ⟨fp, fp, fv, fs, fv, trivial⟩, ⟨trivial, fl rfl (q0_pur _), flr rfl, flr rfl, trivial⟩, xf, rfl, rfl⟩ ?_
    intro k hk
    have hso3 := qps_size hso (stA_ok z k)
    repeat refine st mo ?_
    refine ⟨fun hlt2 => ?_, fun hge2 => ?_⟩
    · have hk3 : k = 0 ∨ k = 1 ∨ k = 2 := by omega
      rcases hk3 with rfl | rfl | rfl
      · have hst3 : qps u (stA z (0 + 1)) = qps (qps (qps u (stA z 0)) [FroW]) (dcw z.b0 z.n0 z.s0) := by rw [← qps_app, ← qps_app]; simp [stA]
        generalize qps u (stA z 0) = v at *
        repeat refine st mo ?_
        refine ⟨0, rfl, by omega, st mo ⟨_, rfl, st mo ?_⟩⟩
        repeat refine st mo ?_
        refine ⟨_, fun nn => r_qp v [FroW] 4 hso3 (one_ok (four_ok : wok FroW)), st mo ?_⟩
        have hv1 := qps_size hso3 (one_ok (four_ok : wok FroW))
        generalize qps v [FroW] = v1 at *
        repeat refine st mo ?_
        refine ⟨0, rfl, by omega, st mo ?_⟩
        repeat refine st mo ?_
        refine ⟨[.bool z.b0, .int .u64 (l0 z.n0), .int .u64 (l1 z.n0), .int .u64 (l2 z.n0), .int .u64 (l3 z.n0), .int .i64 z.s0], rfl, rfl, Or.inl (st mo ?_)⟩
        repeat refine st mo ?_
        refine ⟨fun hf => ?_, fun hf => ?_⟩
        · have e : dcw z.b0 z.n0 z.s0 = [Mns] ++ [dtx false z.n0 z.s0] := if_pos hf
          rw [e, qps_app] at hst3
          repeat refine st mo ?_
          refine ⟨_, fun nn => r_qp v1 [Mns] 6 hv1 (one_ok (sym_ok (a := 45))), st mo ?_⟩
          have hv2 := qps_size hv1 (one_ok (sym_ok (a := 45)))
          generalize qps v1 [Mns] = v2 at *
          repeat refine st mo ?_
          refine ⟨_, fun _ => r_call (t := .string (dtx false z.n0 z.s0)) rfl rfl Tryz.func155 (fun W M E => q_dtx false z.n0 z.s0 h6.1 W), st mo ?_⟩
          repeat refine st mo ?_
          refine ⟨_, fun nn => r_qp v2 [dtx false z.n0 z.s0] 7 hv2 (one_ok (dtx_ok false z.n0 z.s0)), st mo ?_⟩
          repeat refine st mo ?_
          refine ⟨_, wz (0 + 1) rfl, st mo ?_⟩
          exact ⟨0 + 1, by omega, by decide, [0, 1, 2], rfl, ⟨fp, fp, fv, fs, fv, trivial⟩, ⟨trivial, fl (by rw [hst3]; try rfl) (q0_pur _), flr rfl, flr rfl, trivial⟩, xf, rfl, rfl⟩
        · have e : dcw z.b0 z.n0 z.s0 = [dtx z.b0 z.n0 z.s0] := by unfold dcw; rw [hf]; rfl
          rw [e] at hst3
          repeat refine st mo ?_
          refine ⟨_, fun _ => r_call (t := .string (dtx z.b0 z.n0 z.s0)) rfl rfl Tryz.func155 (fun W M E => q_dtx z.b0 z.n0 z.s0 h6.1 W), st mo ?_⟩
          repeat refine st mo ?_
          refine ⟨_, fun nn => r_qp v1 [dtx z.b0 z.n0 z.s0] 6 hv1 (one_ok (dtx_ok z.b0 z.n0 z.s0)), st mo ?_⟩
          repeat refine st mo ?_
          refine ⟨_, wz (0 + 1) rfl, st mo ?_⟩
          exact ⟨0 + 1, by omega, by decide, [0, 1, 2], rfl, ⟨fp, fp, fv, fs, fv, trivial⟩, ⟨trivial, fl (by rw [hst3]; try rfl) (q0_pur _), flr rfl, flr rfl, trivial⟩, xf, rfl, rfl⟩
      · have hst3 : qps u (stA z (1 + 1)) = qps (qps (qps u (stA z 1)) [BasW]) (dcw z.b1 z.n1 z.s1) := by rw [← qps_app, ← qps_app]; simp [stA]
        generalize qps u (stA z 1) = v at *
        repeat refine st mo ?_
        refine ⟨1, rfl, by omega, st mo ⟨_, rfl, st mo ?_⟩⟩
        repeat refine st mo ?_
        refine ⟨_, fun nn => r_qp v [BasW] 4 hso3 (one_ok (four_ok : wok BasW)), st mo ?_⟩
        have hv1 := qps_size hso3 (one_ok (four_ok : wok BasW))
        generalize qps v [BasW] = v1 at *
        repeat refine st mo ?_
        refine ⟨1, rfl, by omega, st mo ?_⟩
        repeat refine st mo ?_
        refine ⟨[.bool z.b1, .int .u64 (l0 z.n1), .int .u64 (l1 z.n1), .int .u64 (l2 z.n1), .int .u64 (l3 z.n1), .int .i64 z.s1], rfl, rfl, Or.inl (st mo ?_)⟩
        repeat refine st mo ?_
        refine ⟨fun hf => ?_, fun hf => ?_⟩
        · have e : dcw z.b1 z.n1 z.s1 = [Mns] ++ [dtx false z.n1 z.s1] := if_pos hf
          rw [e, qps_app] at hst3
          repeat refine st mo ?_
          refine ⟨_, fun nn => r_qp v1 [Mns] 6 hv1 (one_ok (sym_ok (a := 45))), st mo ?_⟩
          have hv2 := qps_size hv1 (one_ok (sym_ok (a := 45)))
          generalize qps v1 [Mns] = v2 at *
          repeat refine st mo ?_
          refine ⟨_, fun _ => r_call (t := .string (dtx false z.n1 z.s1)) rfl rfl Tryz.func155 (fun W M E => q_dtx false z.n1 z.s1 h6.2.1 W), st mo ?_⟩
          repeat refine st mo ?_
          refine ⟨_, fun nn => r_qp v2 [dtx false z.n1 z.s1] 7 hv2 (one_ok (dtx_ok false z.n1 z.s1)), st mo ?_⟩
          repeat refine st mo ?_
          refine ⟨_, wz (1 + 1) rfl, st mo ?_⟩
          exact ⟨1 + 1, by omega, by decide, [0, 1, 2], rfl, ⟨fp, fp, fv, fs, fv, trivial⟩, ⟨trivial, fl (by rw [hst3]; try rfl) (q0_pur _), flr rfl, flr rfl, trivial⟩, xf, rfl, rfl⟩
        · have e : dcw z.b1 z.n1 z.s1 = [dtx z.b1 z.n1 z.s1] := by unfold dcw; rw [hf]; rfl
          rw [e] at hst3
          repeat refine st mo ?_
          refine ⟨_, fun _ => r_call (t := .string (dtx z.b1 z.n1 z.s1)) rfl rfl Tryz.func155 (fun W M E => q_dtx z.b1 z.n1 z.s1 h6.2.1 W), st mo ?_⟩
          repeat refine st mo ?_
          refine ⟨_, fun nn => r_qp v1 [dtx z.b1 z.n1 z.s1] 6 hv1 (one_ok (dtx_ok z.b1 z.n1 z.s1)), st mo ?_⟩
          repeat refine st mo ?_
          refine ⟨_, wz (1 + 1) rfl, st mo ?_⟩
          exact ⟨1 + 1, by omega, by decide, [0, 1, 2], rfl, ⟨fp, fp, fv, fs, fv, trivial⟩, ⟨trivial, fl (by rw [hst3]; try rfl) (q0_pur _), flr rfl, flr rfl, trivial⟩, xf, rfl, rfl⟩
      · have hst3 : qps u (stA z (2 + 1)) = qps (qps (qps u (stA z 2)) [RatW]) (dcw z.b2 z.n2 z.s2) := by rw [← qps_app, ← qps_app]; simp [stA]
        generalize qps u (stA z 2) = v at *
        repeat refine st mo ?_
        refine ⟨2, rfl, by omega, st mo ⟨_, rfl, st mo ?_⟩⟩
        repeat refine st mo ?_
        refine ⟨_, fun nn => r_qp v [RatW] 4 hso3 (one_ok (four_ok : wok RatW)), st mo ?_⟩
        have hv1 := qps_size hso3 (one_ok (four_ok : wok RatW))
        generalize qps v [RatW] = v1 at *
        repeat refine st mo ?_
        refine ⟨2, rfl, by omega, st mo ?_⟩
        repeat refine st mo ?_
        refine ⟨[.bool z.b2, .int .u64 (l0 z.n2), .int .u64 (l1 z.n2), .int .u64 (l2 z.n2), .int .u64 (l3 z.n2), .int .i64 z.s2], rfl, rfl, Or.inl (st mo ?_)⟩
        repeat refine st mo ?_
        refine ⟨fun hf => ?_, fun hf => ?_⟩
        · have e : dcw z.b2 z.n2 z.s2 = [Mns] ++ [dtx false z.n2 z.s2] := if_pos hf
          rw [e, qps_app] at hst3
          repeat refine st mo ?_
          refine ⟨_, fun nn => r_qp v1 [Mns] 6 hv1 (one_ok (sym_ok (a := 45))), st mo ?_⟩
          have hv2 := qps_size hv1 (one_ok (sym_ok (a := 45)))
          generalize qps v1 [Mns] = v2 at *
          repeat refine st mo ?_
          refine ⟨_, fun _ => r_call (t := .string (dtx false z.n2 z.s2)) rfl rfl Tryz.func155 (fun W M E => q_dtx false z.n2 z.s2 h6.2.2 W), st mo ?_⟩
          repeat refine st mo ?_
          refine ⟨_, fun nn => r_qp v2 [dtx false z.n2 z.s2] 7 hv2 (one_ok (dtx_ok false z.n2 z.s2)), st mo ?_⟩
          repeat refine st mo ?_
          refine ⟨_, wz (2 + 1) rfl, st mo ?_⟩
          exact ⟨2 + 1, by omega, by decide, [0, 1, 2], rfl, ⟨fp, fp, fv, fs, fv, trivial⟩, ⟨trivial, fl (by rw [hst3]; try rfl) (q0_pur _), flr rfl, flr rfl, trivial⟩, xf, rfl, rfl⟩
        · have e : dcw z.b2 z.n2 z.s2 = [dtx z.b2 z.n2 z.s2] := by unfold dcw; rw [hf]; rfl
          rw [e] at hst3
          repeat refine st mo ?_
          refine ⟨_, fun _ => r_call (t := .string (dtx z.b2 z.n2 z.s2)) rfl rfl Tryz.func155 (fun W M E => q_dtx z.b2 z.n2 z.s2 h6.2.2 W), st mo ?_⟩
          repeat refine st mo ?_
          refine ⟨_, fun nn => r_qp v1 [dtx z.b2 z.n2 z.s2] 6 hv1 (one_ok (dtx_ok z.b2 z.n2 z.s2)), st mo ?_⟩
          repeat refine st mo ?_
          refine ⟨_, wz (2 + 1) rfl, st mo ?_⟩
          exact ⟨2 + 1, by omega, by decide, [0, 1, 2], rfl, ⟨fp, fp, fv, fs, fv, trivial⟩, ⟨trivial, fl (by rw [hst3]; try rfl) (q0_pur _), flr rfl, flr rfl, trivial⟩, xf, rfl, rfl⟩
    · have : k = 3 := by omega
      subst this
      repeat refine st mo ?_
      refine ⟨_, fun nn => r_qp (qps u (stA z 3)) [SemW] 3 hso3 (one_ok (sym_ok (a := 59))), st mo ?_⟩
      repeat refine st mo ?_
      refine ⟨_, wz (i + 1) rfl, st mo ?_⟩
      exact ⟨i + 1, hil, by show y.a.length - (i + 1) < y.a.length - i; omega, [0, 1], rfl, ⟨fp, fp, fv, trivial⟩, ⟨trivial, fl (by rw [hst2]; try rfl) (q0_pur _), flr rfl, trivial⟩, xf, rfl, rfl⟩
  · have : i = y.a.length := by omega
    subst this
    rw [List.take_length] at hso ⊢
    generalize qps t1 (y.a.flatMap stw) = u at *
    repeat refine st mo ?_
    refine ⟨_, fun nn => r_qp u [Rbr] 2 hso (one_ok (sym_ok (a := 125))), st mo ?_⟩
    repeat refine st mo ?_
    exact ⟨rfl, [0], ft0, ⟨trivial, fl rfl (q0_pur _), trivial⟩, rfl, rfl⟩
set_option maxHeartbeats 4000000 in
set_option maxRecDepth 20000 in
theorem d_def (d e : Nat) (t : ByteArray) (y : Dfn) (hy : dfO d e y = true) (ht : t.size <= 40000) (X : World) (hL : LD X d e y) : CQ X 34 [P0, y.y] t (dfw d e y) := by
  obtain ⟨hnm, hr, hl1, hl2, htb, hp⟩ := id hL
  obtain ⟨hf, hpt, htO, hpO⟩ := dfO_all hy
  have hok1 := dfH_ok hy
  have hok2 := ptw_ok hr hpt
  have hok3 := tabs_ok hy
  have hok4 := pags_ok hy hL
  unfold CQ dfw
  simp only [qps_app]
  refine fn_c _ Tryz.func34 rfl rfl rfl rfl (fun w ll tw X' hX => run_ok (st mo ?_))
  repeat refine st mo ?_
  refine ⟨_, fun nn => r_qp t (dfH y) 2 ht hok1, st mo ?_⟩
  have ht1 := qps_size ht hok1
  generalize qps t (dfH y) = t1 at *
  repeat refine st mo ?_
  refine ⟨_, fun nn => r_q t1 (qps t1 (ptw d e y.r)) rfl (d_parts d e t1 y.r X' (hr.xf hX) hpt ht1) (by exact fitL_cons fp (fitL_cons fv (by rfl))) (fn := Tryz.f85), st mo ?_⟩
  have ht2 := qps_size ht1 hok2
  generalize qps t1 (ptw d e y.r) = t2 at *
  repeat refine st mo ?_
  refine w_loop (fun i : Nat => ⟨⟨88, [(0, P0), (3, .pointer (some ⟨1, 0, none⟩)), (4, .int .i64 (i : Int))]⟩, [(0 + 4096, none), (0, some (q0 (qps t2 ((y.tabs.take i).flatMap tbw)))), (1, some (y.c.map rel1))], 2, X'⟩) (fun i => i <= y.tabs.length) (fun i => y.tabs.length - i) 0 (Nat.zero_le _) [0, 1] ⟨rfl, ⟨fp, fp, fv, trivial⟩, ⟨trivial, fl rfl (q0_pur _), flr rfl, trivial⟩, xf, rfl, rfl⟩ ?_
  intro i hi1
  have hso := qps_size ht2 (flat_okT i hok3)
  repeat refine st mo ?_
  refine ⟨fun hlt => ?_, fun hge => ?_⟩
  · have hil : i < y.tabs.length := by omega
    obtain ⟨z, hz⟩ : ∃ z, y.tabs[i]? = some z := ⟨_, List.getElem?_eq_getElem hil⟩
    obtain ⟨⟨b, o, h4, h5⟩, h6⟩ := htb i z hz
    have h5' : Lies X' b (o + i * 2) z.c := fun j u hj => xce hX _ _ (h5 j u hj)
    have hst := flat_step (f := tbw) hz
    have hiz := List.all_eq_true.1 htO z (List.mem_of_getElem? hz)
    have hst2 : qps t2 ((y.tabs.take (i + 1)).flatMap tbw) = qps (qps t2 ((y.tabs.take i).flatMap tbw)) (tbw z) := by rw [hst, qps_app]
    generalize hu : qps t2 ((y.tabs.take i).flatMap tbw) = u at *
    repeat refine st mo ?_
    refine ⟨b, o, i, h4, rfl, hil, ?_⟩
    repeat refine st mo ?_
    refine ⟨z.c, rfl, h5', ?_⟩
    repeat refine st mo ?_
    refine ⟨_, fun nn => r_q u (qps u (tbw z)) rfl (d_table u z hiz hso X' (h6.mono (xce hX))) (by exact fitL_cons fp (fitL_cons fv (by rfl))) (fn := Tryz.f86), st mo ?_⟩
    repeat refine st mo ?_
    refine ⟨_, wz (i + 1) rfl, st mo ?_⟩
    exact ⟨i + 1, hil, by show y.tabs.length - (i + 1) < y.tabs.length - i; omega, [0, 1], rfl, ⟨fp, fp, fv, trivial⟩, ⟨trivial, fl (by rw [hst2]; try rfl) (q0_pur _), flr rfl, trivial⟩, xf, rfl, rfl⟩
  · have : i = y.tabs.length := by omega
    subst this
    rw [List.take_length] at hso ⊢
    generalize qps t2 (y.tabs.flatMap tbw) = t3 at *
    repeat refine st mo ?_
    refine w_loop (fun j : Nat => ⟨⟨88, [(0, P0), (3, .pointer (some ⟨1, 0, none⟩)), (5, .int .i64 (j : Int))]⟩, [(0 + 4096, none), (0, some (q0 (qps t3 ((y.pags.take j).flatMap (pgw d))))), (1, some (y.c.map rel1))], 2, X'⟩) (fun j => j <= y.pags.length) (fun j => y.pags.length - j) 0 (Nat.zero_le _) [0, 1] ⟨rfl, ⟨fp, fp, fv, trivial⟩, ⟨trivial, fl rfl (q0_pur _), flr rfl, trivial⟩, xf, rfl, rfl⟩ ?_
    intro j hj1
    have hso2 := qps_size hso (flat_okT j hok4)
    repeat refine st mo ?_
    refine ⟨fun hlt => ?_, fun hge => ?_⟩
    · have hjl : j < y.pags.length := by omega
      obtain ⟨z, hz⟩ : ∃ z, y.pags[j]? = some z := ⟨_, List.getElem?_eq_getElem hjl⟩
      obtain ⟨⟨b, o, h4, h5⟩, h6⟩ := hp j z hz
      have h5' : Lies X' b (o + j * 19) z.c := fun j u hj => xce hX _ _ (h5 j u hj)
      have hjz := List.all_eq_true.1 hpO z (List.mem_of_getElem? hz)
      obtain ⟨_, hzx, hzl, hza⟩ := h6
      have hst := flat_step (f := pgw d) hz
      have hst0 : qps t3 ((y.pags.take (j + 1)).flatMap (pgw d)) = qps (qps t3 ((y.pags.take j).flatMap (pgw d))) (pgw d z) := by rw [hst, qps_app]
      generalize hu : qps t3 ((y.pags.take j).flatMap (pgw d)) = u at *
      have hokP : ∀ w ∈ [PagW, z.nm], wok w := cons_ok four_ok (one_ok (fre_ok (pgO_nm hjz)))
      have hokA := pgO_a hjz
      have hokT : ∀ k, ∀ w ∈ cmw (z.a.take k), wok w := fun k => cmw_ok fun v hv => hokA v (List.mem_of_mem_take hv)
      repeat refine st mo ?_
      refine ⟨b, o, j, h4, rfl, hjl, ?_⟩
      repeat refine st mo ?_
      refine ⟨z.c, rfl, h5', ?_⟩
      repeat refine st mo ?_
      refine ⟨_, fun nn => r_qp u [PagW, z.nm] 3 hso2 hokP, st mo ?_⟩
      have hu1 := qps_size hso2 hokP
      repeat refine st mo ?_
      refine ⟨fun hk => ?_, fun hk => ?_⟩
      · have hv := pgO_x hjz hk
        rw [pgw1 hk] at hst0
        simp only [qps_app] at hst0
        generalize qps u [PagW, z.nm] = u1 at *
        repeat refine st mo ?_
        refine ⟨_, fun nn => r_qp u1 [WheW] 4 hu1 (one_ok (four_ok : wok WheW)), st mo ?_⟩
        have hu2 := qps_size hu1 (one_ok (four_ok : wok WheW))
        generalize qps u1 [WheW] = u2 at *
        repeat refine st mo ?_
        refine ⟨_, fun nn => r_q u2 (qps u2 (wB d z.x)) rfl (d_expr d u2 z.x X' (hzx.xf hX) hv hu2) (by exact fitL_cons fp (fitL_cons fv (by rfl))) (fn := Tryz.f38), st mo ?_⟩
        have hu3 := qps_size hu2 (wBd_ok hzx hv)
        generalize qps u2 (wB d z.x) = u3 at *
        repeat refine st mo ?_
        refine ⟨_, fun nn => r_qp u3 [Lbr] 5 hu3 (one_ok (sym_ok (a := 123))), st mo ?_⟩
        have hu9 := qps_size hu3 (one_ok (sym_ok (a := 123)))
        generalize qps u3 [Lbr] = u9 at *
        repeat refine st mo ?_
        refine w_loop (fun k : Nat => ⟨⟨88, [(0, P0), (3, .pointer (some ⟨1, 0, none⟩)), (5, .int .i64 (j : Int)), (6, .pointer (some ⟨2, 0, none⟩)), (7, .int .i64 (k : Int))]⟩, [(0 + 4096, none), (0, some (q0 (qps u9 (cmw (z.a.take k))))), (1, some (y.c.map rel1)), (2, some (z.c.map rel1))], 3, X'⟩) (fun k => k <= z.a.length) (fun k => z.a.length - k) 0 (Nat.zero_le _) [0, 1, 2] ⟨rfl, ⟨fp, fp, fv, fp, fv, trivial⟩, ⟨trivial, fl rfl (q0_pur _), flr rfl, flr rfl, trivial⟩, xf, rfl, rfl⟩ ?_
        intro k hk1
        have hso3 := qps_size hu9 (hokT k)
        repeat refine st mo ?_
        refine ⟨fun hlt2 => ?_, fun hge2 => ?_⟩
        · have hkl : k < z.a.length := by omega
          obtain ⟨v, hv⟩ : ∃ v, z.a[k]? = some v := ⟨_, List.getElem?_eq_getElem hkl⟩
          obtain ⟨⟨b2, o2, g4, g5⟩, g6⟩ := hza k v hv
          have hvo := one_ok (hokA v (List.mem_of_getElem? hv))
          have hst9 : qps u9 (cmw (z.a.take (k + 1))) = qps (qps u9 (cmw (z.a.take k))) (if k = 0 then [v] else [Com] ++ [v]) := by rw [cmw_step hv, qps_app]
          generalize qps u9 (cmw (z.a.take k)) = x9 at *
          repeat refine st mo ?_
          refine ⟨fun hgt => ?_, fun hle0 => ?_⟩
          · rw [if_neg (by omega), qps_app] at hst9
            repeat refine st mo ?_
            refine ⟨_, fun nn => r_qp x9 [Com] 3 hso3 (one_ok (sym_ok (a := 44))), st mo ?_⟩
            have hx1 := qps_size hso3 (one_ok (sym_ok (a := 44)))
            generalize qps x9 [Com] = x10 at *
            repeat refine st mo ?_
            refine ⟨b2, o2, k, g4, rfl, hkl, ?_⟩
            repeat refine st mo ?_
            refine ⟨_, xce hX _ _ g5, st mo ?_⟩
            repeat refine st mo ?_
            refine ⟨_, fun nn => r_qp x10 [v] 4 hx1 hvo, st mo ?_⟩
            repeat refine st mo ?_
            refine ⟨_, wz (k + 1) rfl, st mo ?_⟩
            exact ⟨k + 1, hkl, by show z.a.length - (k + 1) < z.a.length - k; omega, [0, 1, 2], rfl, ⟨fp, fp, fv, fp, fv, trivial⟩, ⟨trivial, fl (by rw [hst9]; try rfl) (q0_pur _), flr rfl, flr rfl, trivial⟩, xf, rfl, rfl⟩
          · rw [if_pos (by omega)] at hst9
            repeat refine st mo ?_
            refine ⟨b2, o2, k, g4, rfl, hkl, ?_⟩
            repeat refine st mo ?_
            refine ⟨_, xce hX _ _ g5, st mo ?_⟩
            repeat refine st mo ?_
            refine ⟨_, fun nn => r_qp x9 [v] 3 hso3 hvo, st mo ?_⟩
            repeat refine st mo ?_
            refine ⟨_, wz (k + 1) rfl, st mo ?_⟩
            exact ⟨k + 1, hkl, by show z.a.length - (k + 1) < z.a.length - k; omega, [0, 1, 2], rfl, ⟨fp, fp, fv, fp, fv, trivial⟩, ⟨trivial, fl (by rw [hst9]; try rfl) (q0_pur _), flr rfl, flr rfl, trivial⟩, xf, rfl, rfl⟩
        · have : k = z.a.length := by omega
          subst this
          rw [List.take_length] at hso3 ⊢
          generalize qps u9 (cmw z.a) = x9 at *
          repeat refine st mo ?_
          refine ⟨_, fun nn => r_qp x9 [Rbr] 3 hso3 (one_ok (sym_ok (a := 125))), st mo ?_⟩
          repeat refine st mo ?_
          refine ⟨_, wz (j + 1) rfl, st mo ?_⟩
          exact ⟨j + 1, hjl, by show y.pags.length - (j + 1) < y.pags.length - j; omega, [0, 1], rfl, ⟨fp, fp, fv, trivial⟩, ⟨trivial, fl (by rw [hst0]; try rfl) (q0_pur _), flr rfl, trivial⟩, xf, rfl, rfl⟩
      · rw [pgw0 hk] at hst0
        simp only [qps_app] at hst0
        generalize qps u [PagW, z.nm] = u1 at *
        repeat refine st mo ?_
        refine ⟨_, fun nn => r_qp u1 [Lbr] 4 hu1 (one_ok (sym_ok (a := 123))), st mo ?_⟩
        have hu9 := qps_size hu1 (one_ok (sym_ok (a := 123)))
        generalize qps u1 [Lbr] = u9 at *
        repeat refine st mo ?_
        refine w_loop (fun k : Nat => ⟨⟨88, [(0, P0), (3, .pointer (some ⟨1, 0, none⟩)), (5, .int .i64 (j : Int)), (6, .pointer (some ⟨2, 0, none⟩)), (7, .int .i64 (k : Int))]⟩, [(0 + 4096, none), (0, some (q0 (qps u9 (cmw (z.a.take k))))), (1, some (y.c.map rel1)), (2, some (z.c.map rel1))], 3, X'⟩) (fun k => k <= z.a.length) (fun k => z.a.length - k) 0 (Nat.zero_le _) [0, 1, 2] ⟨rfl, ⟨fp, fp, fv, fp, fv, trivial⟩, ⟨trivial, fl rfl (q0_pur _), flr rfl, flr rfl, trivial⟩, xf, rfl, rfl⟩ ?_
        intro k hk1
        have hso3 := qps_size hu9 (hokT k)
        repeat refine st mo ?_
        refine ⟨fun hlt2 => ?_, fun hge2 => ?_⟩
        · have hkl : k < z.a.length := by omega
          obtain ⟨v, hv⟩ : ∃ v, z.a[k]? = some v := ⟨_, List.getElem?_eq_getElem hkl⟩
          obtain ⟨⟨b2, o2, g4, g5⟩, g6⟩ := hza k v hv
          have hvo := one_ok (hokA v (List.mem_of_getElem? hv))
          have hst9 : qps u9 (cmw (z.a.take (k + 1))) = qps (qps u9 (cmw (z.a.take k))) (if k = 0 then [v] else [Com] ++ [v]) := by rw [cmw_step hv, qps_app]
          generalize qps u9 (cmw (z.a.take k)) = x9 at *
          repeat refine st mo ?_
          refine ⟨fun hgt => ?_, fun hle0 => ?_⟩
          · rw [if_neg (by omega), qps_app] at hst9
            repeat refine st mo ?_
            refine ⟨_, fun nn => r_qp x9 [Com] 3 hso3 (one_ok (sym_ok (a := 44))), st mo ?_⟩
            have hx1 := qps_size hso3 (one_ok (sym_ok (a := 44)))
            generalize qps x9 [Com] = x10 at *
            repeat refine st mo ?_
            refine ⟨b2, o2, k, g4, rfl, hkl, ?_⟩
            repeat refine st mo ?_
            refine ⟨_, xce hX _ _ g5, st mo ?_⟩
            repeat refine st mo ?_
            refine ⟨_, fun nn => r_qp x10 [v] 4 hx1 hvo, st mo ?_⟩
            repeat refine st mo ?_
            refine ⟨_, wz (k + 1) rfl, st mo ?_⟩
            exact ⟨k + 1, hkl, by show z.a.length - (k + 1) < z.a.length - k; omega, [0, 1, 2], rfl, ⟨fp, fp, fv, fp, fv, trivial⟩, ⟨trivial, fl (by rw [hst9]; try rfl) (q0_pur _), flr rfl, flr rfl, trivial⟩, xf, rfl, rfl⟩
          · rw [if_pos (by omega)] at hst9
            repeat refine st mo ?_
            refine ⟨b2, o2, k, g4, rfl, hkl, ?_⟩
            repeat refine st mo ?_
            refine ⟨_, xce hX _ _ g5, st mo ?_⟩
            repeat refine st mo ?_
            refine ⟨_, fun nn => r_qp x9 [v] 3 hso3 hvo, st mo ?_⟩
            repeat refine st mo ?_
            refine ⟨_, wz (k + 1) rfl, st mo ?_⟩
            exact ⟨k + 1, hkl, by show z.a.length - (k + 1) < z.a.length - k; omega, [0, 1, 2], rfl, ⟨fp, fp, fv, fp, fv, trivial⟩, ⟨trivial, fl (by rw [hst9]; try rfl) (q0_pur _), flr rfl, flr rfl, trivial⟩, xf, rfl, rfl⟩
        · have : k = z.a.length := by omega
          subst this
          rw [List.take_length] at hso3 ⊢
          generalize qps u9 (cmw z.a) = x9 at *
          repeat refine st mo ?_
          refine ⟨_, fun nn => r_qp x9 [Rbr] 3 hso3 (one_ok (sym_ok (a := 125))), st mo ?_⟩
          repeat refine st mo ?_
          refine ⟨_, wz (j + 1) rfl, st mo ?_⟩
          exact ⟨j + 1, hjl, by show y.pags.length - (j + 1) < y.pags.length - j; omega, [0, 1], rfl, ⟨fp, fp, fv, trivial⟩, ⟨trivial, fl (by rw [hst0]; try rfl) (q0_pur _), flr rfl, trivial⟩, xf, rfl, rfl⟩
    · repeat refine st mo ?_
      have : j = y.pags.length := by omega
      subst this
      rw [List.take_length] at hso2 ⊢
      generalize qps t3 (y.pags.flatMap (pgw d)) = t4 at *
      refine ⟨_, fun nn => r_qp t4 [Rbr] 2 hso2 (one_ok (sym_ok (a := 125))), st mo ?_⟩
      repeat refine st mo ?_
      exact ⟨rfl, [0], ft0, ⟨trivial, fl rfl (q0_pur _), trivial⟩, rfl, rfl⟩
def prQ (d e : Nat) (y : Dfn) : Value := if dfO d e y then tldQ (qps E0 (dfw d e y)) else .tuple #[.string E0, .int .i64 81]
theorem c_print (d e : Nat) (y : Dfn) (X : World) (hL : LD X d e y) (J : List Value) : prP d e y ⟨E0, 0, J⟩ = prQ d e y := by
  unfold prP prQ
  cases hv : dfO d e y with
  | false => rfl
  | true =>
    rw [if_pos rfl, if_pos rfl]
    exact ((Sam.nil J).all (dfw_ok hv hL)).told
theorem LD.mono {w W : World} {d e : Nat} {y : Dfn} (hL : LD w d e y) (E : ∀ a u, w.cell? a = some u -> W.cell? a = some u) : LD W d e y := ⟨hL.1, hL.2.1.mono E, hL.2.2.1, hL.2.2.2.1, fun i z hz => by
    obtain ⟨⟨b, o, h1, h2⟩, h3⟩ := hL.2.2.2.2.1 i z hz
    exact ⟨⟨b, o, h1, fun j u hj => E _ _ (h2 j u hj)⟩, h3.mono E⟩, fun i z hz => by
    obtain ⟨⟨b, o, h1, h2⟩, h3⟩ := hL.2.2.2.2.2 i z hz
    exact ⟨⟨b, o, h1, fun j u hj => E _ _ (h2 j u hj)⟩, h3.mono E⟩⟩
set_option maxRecDepth 20000 in
theorem q_print (d e : Nat) (y : Dfn) (w : World) (hL : LD w d e y) : Calls Tryz.prog 13 #[y.w] w fun r W => r = .returned (prQ d e y) /\ Mb w W := by
  refine fn_pure [y.y] Tryz.func13 rfl rfl rfl (run_ok (st mo ?_))
  repeat refine st mo ?_
  cases hv : dfO d e y with
  | false =>
    have e1 : prQ d e y = .tuple #[.string E0, .int .i64 81] := by unfold prQ; rw [hv]; rfl
    rw [e1]
    refine ⟨_, fun _ => r_call (t := litF) rfl rfl Tryz.func33 (fun W M E => hv ▸ q_def d e y W (hL.mono E)), st mo ?_⟩
    repeat refine st mo ?_
    rfl
  | true =>
    have e1 : prQ d e y = tldQ (qps E0 (dfw d e y)) := by unfold prQ; rw [hv]; rfl
    rw [e1]
    refine ⟨_, fun _ => r_call (t := litT) rfl rfl Tryz.func33 (fun W M E => hv ▸ q_def d e y W (hL.mono E)), st mo ?_⟩
    repeat refine st mo ?_
    refine ⟨_, fun _ => r_c (tc := .tuple #[]) [1] [some (q0 (qps E0 (dfw d e y)))] [1] rfl rfl (d_def d e E0 y hv (by show 0 <= 40000; omega) w hL) (by exact fitL_cons fp (fitL_cons fv (by rfl))) ⟨trivial, fitL_cons fv (fitL_cons fbF (by rfl)), trivial⟩ ut0 ⟨ul rfl (q0_pur _), trivial⟩, st mo ?_⟩
    generalize qps E0 (dfw d e y) = t at *
    repeat refine st mo ?_
    rcases Nat.lt_or_ge 16384 t.size with hl | hl
    · rw [show tldQ t = .tuple #[.string E0, .int .i64 3] from if_pos hl]
      have hq := q0_l hl
      refine ⟨_, by rw [hq]; rfl, st mo ?_⟩
      repeat refine st mo ?_
      rfl
    · rw [show tldQ t = .tuple #[.string t, .int .i64 0] from if_neg (by omega)]
      have hq := q0_s hl
      refine ⟨_, by rw [hq]; rfl, st mo ?_⟩
      repeat refine st mo ?_
      refine ⟨_, by rw [hq]; rfl, st mo ?_⟩
      repeat refine st mo ?_
      rfl
theorem see_cell {X W : World} (hs : ∀ (b : Nat) (o : Obj), X.heap[b]? = some o -> o ≠ hole X -> W.heap[b]? = some o) (a : Addr) (u : Value) (hc : X.cell? a = some u) : W.cell? a = some u := by
  unfold World.cell? at hc ⊢
  split at hc
  · rename_i c ty fz hx
    have : (Obj.cells c ty fz) ≠ hole X := fun e => by
      unfold hole at e
      cases e
      split at hc <;> simp at hc
    rw [hs _ _ hx this]; exact hc
  · cases hc
theorem TG.see {X W : World} (h : TG X) (hs : ∀ (b : Nat) (o : Obj), X.heap[b]? = some o -> o ≠ hole X -> W.heap[b]? = some o) : TG W := by
  obtain ⟨⟨b, o, c, h1, h2⟩, ⟨b', o', c', h3, h4⟩, h5⟩ := h
  have E := see_cell hs
  exact ⟨⟨b, o, c, E _ _ h1, fun j u hj => E _ _ (h2 j u hj)⟩, ⟨b', o', c', E _ _ h3, fun j u hj => E _ _ (h4 j u hj)⟩, h5.see hs⟩
theorem prQ_t (d e : Nat) (y : Dfn) : ∃ (s : ByteArray) (n : Int), prQ d e y = .tuple #[.string s, .int .i64 n] := by
  unfold prQ tldQ; split
  · split <;> exact ⟨_, _, rfl⟩
  · exact ⟨_, _, rfl⟩
theorem shQ_t (d : Nat) (x : Ex) : ∃ (s : ByteArray) (n : Int), shQ d x = .tuple #[.string s, .int .i64 n] := by
  unfold shQ tldQ; split
  · split <;> exact ⟨_, _, rfl⟩
  · exact ⟨_, _, rfl⟩
set_option maxHeartbeats 1000000 in
set_option maxRecDepth 20000 in
theorem law_prints (d e d2 : Nat) (y : Dfn) (x : Ex) (w : World) (hL : LD w d e y) (hx : LT w d2 x) (hG : TG w) (hb1 : dfO d e y = true -> wln (dfw d e y) <= 4611686018427387904) (hb2 : vE d2 x = true -> wln (wX d2 1 x) <= 4611686018427387904)
    (hbeg : ∀ W, Mb w W -> (∀ (b : Nat) (o : Obj), w.heap[b]? = some o -> o ≠ hole w -> W.heap[b]? = some o) -> Calls Tryz.prog 10 #[] W fun r W' => r = .returned (.bool true) /\ Mb W W') : Calls Tryz.prog 4 #[y.w, x.w] w fun r W => r = .returned (.bool true) /\ Mb w W := by
  obtain ⟨s1, n1, e1⟩ := prQ_t d e y
  obtain ⟨s2, n2, e2⟩ := shQ_t d2 x
  refine fn_pure [y.y, x.y] Tryz.func4 rfl rfl rfl (run_ok (st mo ?_))
  repeat refine st mo ?_
  refine ⟨_, fun _ => r_callS (t := .tuple #[.string s1, .int .i64 n1]) rfl rfl Tryz.func12 (fun W M E => by
    have := p_print d e y W (hL.mono (see_cell E)) (hG.see E) hb1
    rw [c_print d e y w hL, e1] at this; exact this), st mo ?_⟩
  repeat refine st mo ?_
  refine ⟨_, fun _ => r_callS (t := .tuple #[.string s1, .int .i64 n1]) rfl rfl Tryz.func13 (fun W M E => by
    have := q_print d e y W (hL.mono (see_cell E))
    rw [e1] at this; exact this), st mo ?_⟩
  repeat refine st mo ?_
  refine ⟨_, fun _ => r_callS (t := .tuple #[.string s2, .int .i64 n2]) rfl rfl Tryz.func14 (fun W M E => by
    have := p_show d2 x W (hx.mono (see_cell E)) (hG.see E) hb2
    rw [c_show d2 x w hx, e2] at this; exact this), st mo ?_⟩
  repeat refine st mo ?_
  refine ⟨_, fun _ => r_callS (t := .tuple #[.string s2, .int .i64 n2]) rfl rfl Tryz.func15 (fun W M E => by
    have := q_show d2 x W (hx.mono (see_cell E))
    rw [e2] at this; exact this), st mo ?_⟩
  repeat refine st mo ?_
  refine ⟨_, fun _ => r_callS (t := litT) rfl rfl Tryz.func10 (fun W M E => hbeg W M E), st mo ?_⟩
  repeat refine st mo ?_
  refine ⟨fun _ => ?_, fun h => absurd rfl h⟩
  repeat refine st mo ?_
  refine ⟨fun _ => ?_, fun h => absurd rfl h⟩
  repeat refine st mo ?_
  refine ⟨fun _ => ?_, fun h => absurd rfl h⟩
  repeat refine st mo ?_
  refine ⟨fun _ => ?_, fun h => absurd rfl h⟩
  repeat refine st mo ?_
  rfl
def sm {T : Type} (f : T -> Nat) (l : List T) : Nat := (l.map f).sum
theorem sm_cons {T : Type} (f : T -> Nat) (x : T) (l : List T) : sm f (x :: l) = f x + sm f l := by simp [sm]
theorem sm_nil {T : Type} (f : T -> Nat) : sm f [] = 0 := rfl
theorem fltw_len {T : Type} {g : T -> List ByteArray} {f : T -> Nat} : ∀ {l : List T}, (∀ y ∈ l, (g y).length <= 12 * f y) -> (l.flatMap g).length <= 12 * sm f l
  | [], _ => by simp [sm]
  | x :: l, h => by
    have h1 := h x (by simp)
    have h2 := fltw_len (g := g) (f := f) (l := l) fun y hy => h y (by simp [hy])
    rw [List.flatMap_cons, List.length_append, sm_cons]; omega
theorem wln_len : ∀ {l : List ByteArray}, (∀ w ∈ l, wok w) -> wln l <= 16385 * l.length
  | [], _ => by simp [wln]
  | w :: l, h => by
    have h1 := (h w (by simp)).2
    have h2 := wln_len (l := l) fun y hy => h y (by simp [hy])
    rw [wln_cons, List.length_cons]; omega
def nd : Nat -> Ex -> Nat
  | 0, _ => 1
  | d + 1, x => 1 + sm (nd d) x.a
theorem wXg_len (r : Ex -> List ByteArray) (least : Int) (y : Ex) : (wXg r least y).length <= (r y).length + 2 := by
  unfold wXg brk; split
  · rw [List.length_cons, List.length_append]; simp
  · omega
theorem wAr_len {r : Ex -> List ByteArray} {f : Ex -> Nat} : ∀ {l : List Ex}, (∀ y ∈ l, (r y).length + 3 <= 12 * f y) -> (wAr r l).length <= 12 * sm f l
  | [], _ => by simp [wAr]
  | [x], h => by
    have h1 := h x (by simp)
    have h2 := wXg_len r 1 x
    show (wXg r 1 x).length <= _
    rw [sm_cons]; omega
  | x :: y :: l, h => by
    have h1 := h x (by simp)
    have h2 := wXg_len r 1 x
    have h3 := wAr_len (r := r) (f := f) (l := y :: l) fun z hz => h z (by simp only [List.mem_cons] at hz ⊢; exact Or.inr hz)
    show (wXg r 1 x ++ (Com :: wAr r (y :: l))).length <= _
    rw [List.length_append, List.length_cons, sm_cons]; omega
theorem wBg_len {r : Ex -> List ByteArray} {f : Ex -> Nat} {x : Ex} (hn : nde x = true) (h : ∀ y ∈ x.a, (r y).length + 3 <= 12 * f y) : (wBg r x).length <= 9 + 12 * sm f x.a := by
  have hk := nde_k hn
  have hAr := wAr_len h
  have hcases : x.k = 1 ∨ x.k = 2 ∨ x.k = 3 ∨ x.k = 4 ∨ x.k = 5 ∨ x.k = 6 ∨ x.k = 7 ∨ x.k = 8 ∨ x.k = 9 ∨ x.k = 10 := by omega
  rcases hcases with h1 | h1 | h1 | h1 | h1 | h1 | h1 | h1 | h1 | h1
  · rw [wB1 r h1]; simp; omega
  · rw [wB2 r h1]; simp; omega
  · rw [nde3 (x := x) (by omega)] at hn; simp at hn
    obtain ⟨y, ha⟩ := len1 hn.1
    have h2 := h y (by rw [ha]; simp)
    have h3 := wXg_len r 7 y
    rw [wB3 r h1 ha, ha, sm_cons, sm_nil, List.length_append]; simp; omega
  · rw [nde3 (x := x) (by omega)] at hn; simp at hn
    obtain ⟨y, ha⟩ := len1 hn.1
    have h2 := h y (by rw [ha]; simp)
    have h3 := wXg_len r 3 y
    rw [wB4 r h1 ha, ha, sm_cons, sm_nil, List.length_append]; simp; omega
  · rw [nde5 h1] at hn; simp at hn
    obtain ⟨y, z, ha⟩ := len2 hn.2.1
    have h2 := h y (by rw [ha]; simp)
    have h3 := wXg_len r (if lvo x.op = 4 then 5 else lvo x.op) y
    have h4 := h z (by rw [ha]; simp)
    have h5 := wXg_len r (lvo x.op + 1) z
    rw [wB5 r h1 ha, ha, sm_cons, sm_cons, sm_nil, List.length_append, List.length_cons]; omega
  · rw [wB6 r h1]; simp; omega
  · rw [nde7 h1] at hn; simp at hn
    obtain ⟨y, ha⟩ := len1 hn.2.1
    have h2 := h y (by rw [ha]; simp)
    have h3 := wXg_len r 1 y
    rw [wB7 r h1 ha, ha, sm_cons, sm_nil, List.length_append, List.length_append]; simp; omega
  · rw [wB8 r h1]; simp; omega
  · rw [wB9 r h1]; simp; omega
  · rw [wB10 r h1]; unfold colw; split <;> (simp; omega)
theorem wB_len : ∀ {d : Nat} {X : World} {x : Ex}, LT X d x -> vE d x = true -> (wB d x).length + 3 <= 12 * nd d x
  | 0, X, x, hL, hv => by
    have := wBg_len (r := fun _ => []) (f := fun _ => 1) (x := x) hv fun y hy => by rw [hL.2] at hy; cases hy
    rw [hL.2, sm_nil] at this
    show (wBg (fun _ => []) x).length + 3 <= 12 * 1
    omega
  | d + 1, X, x, hL, hv => by
    have hv' : nde x = true /\ x.a.all (vE d) = true := by simpa [vE] using hv
    have := wBg_len (r := wB d) (f := nd d) hv'.1 fun y hy => by
      obtain ⟨j, hj⟩ := List.mem_iff_getElem?.1 hy
      exact wB_len (hL.2 j y hj).2 (List.all_eq_true.1 hv'.2 y hy)
    show (wBg (wB d) x).length + 3 <= 12 * (1 + sm (nd d) x.a)
    omega
def itN (d : Nat) (y : Itm) : Nat := 1 + nd d y.x
theorem tyw_len (k p : Int) : (tyw k p).length <= 2 := by unfold tyw; split; exact Nat.le_refl 2; split <;> exact Nat.le_succ 1
theorem itw_len {d : Nat} {X : World} {y : Itm} (h : itO d y = true) (hL : LT X d y.x) : (itw d y).length <= 12 * itN d y := by
  have ht := tyw_len y.tk y.tp
  unfold itN
  rcases itO_k h with hk | hk | hk
  · rw [itw1 hk]; split <;> (simp; omega)
  · obtain ⟨_, h2, h3⟩ := itO2 h hk
    have := wB_len hL h3
    rw [itw2 hk]; split <;> (simp; omega)
  · have := wB_len hL (itO3 h hk)
    rw [itw3 hk]; simp; omega
def ptN (d : Nat) : Nat -> Sec -> Nat
  | 0, y => sm (itN d) y.its
  | e + 1, y => sm (itN d) y.its + sm (fun z => 1 + ptN d e z) y.secs
theorem ptw_len {d : Nat} {X : World} : ∀ {e : Nat} {y : Sec}, LS X d e y -> ptO d e y = true -> (ptw d e y).length <= 12 * ptN d e y
  | 0, y, hL, h => by
    have h1 := fltw_len (g := itw d) (f := itN d) (l := y.its) fun z hz => by
      obtain ⟨j, hj⟩ := List.mem_iff_getElem?.1 hz
      exact itw_len (List.all_eq_true.1 (ptO_its h) z hz) (hL.1.1 j z hj).2.1
    show (y.its.flatMap (itw d) ++ y.secs.flatMap _).length <= _
    rw [hL.2, List.length_append]
    show _ + 0 <= 12 * sm (itN d) y.its
    omega
  | e + 1, y, hL, h => by
    have h1 := fltw_len (g := itw d) (f := itN d) (l := y.its) fun z hz => by
      obtain ⟨j, hj⟩ := List.mem_iff_getElem?.1 hz
      exact itw_len (List.all_eq_true.1 (ptO_its h) z hz) (hL.1.1 j z hj).2.1
    have h2 := fltw_len (g := scw (ptw d e)) (f := fun z => 1 + ptN d e z) (l := y.secs) fun z hz => by
      obtain ⟨j, hj⟩ := List.mem_iff_getElem?.1 hz
      obtain ⟨_, _, h5⟩ := ptO_sec h hj
      have := ptw_len (hL.2 j z hj).2 h5
      show (scH z ++ (ptw d e z ++ [Rbr])).length <= _
      rw [List.length_append, List.length_append]; simp; omega
    show (y.its.flatMap (itw d) ++ y.secs.flatMap (scw (ptw d e))).length <= 12 * (sm (itN d) y.its + sm (fun z => 1 + ptN d e z) y.secs)
    rw [List.length_append]; omega
def tbN (y : Tab) : Nat := 1 + y.a.length
theorem dcw_len (b : Bool) (n s : Int) : (dcw b n s).length <= 2 := by unfold dcw; split <;> simp
theorem stw_len (z : Rat') : (stw z).length <= 10 := by
  have h0 := dcw_len z.b0 z.n0 z.s0
  have h1 := dcw_len z.b1 z.n1 z.s1
  have h2 := dcw_len z.b2 z.n2 z.s2
  unfold stw; simp; omega
theorem sm_one {T : Type} : ∀ (l : List T), sm (fun _ => 1) l = l.length
  | [] => rfl
  | x :: l => by rw [sm_cons, sm_one l, List.length_cons]; omega
theorem tbw_len (y : Tab) : (tbw y).length <= 12 * tbN y := by
  have := fltw_len (g := stw) (f := fun _ => 1) (l := y.a) fun z _ => by have := stw_len z; omega
  rw [sm_one] at this
  unfold tbw tbN
  rw [List.length_append, List.length_append]; simp only [List.length_cons, List.length_nil]; omega
def pgN (d : Nat) (y : Pag) : Nat := 1 + nd d y.x + y.a.length
theorem cmw_len : ∀ (l : List ByteArray), (cmw l).length <= 12 * l.length
  | [] => by simp [cmw]
  | x :: l => by
    have := fltw_len (g := fun y => [Com, y]) (f := fun _ => 1) (l := l) fun y _ => by simp
    rw [sm_one] at this
    unfold cmw
    rw [List.length_append]; simp only [List.length_cons, List.length_nil] at this ⊢; omega
theorem pgw_len {d : Nat} {X : World} {y : Pag} (h : pgO d y = true) (hL : LT X d y.x) : (pgw d y).length <= 12 * pgN d y := by
  have hc := cmw_len y.a
  unfold pgN
  by_cases hk : y.x.k = 0
  · rw [pgw0 hk]; simp; omega
  · have := wB_len hL (pgO_x h hk)
    rw [pgw1 hk]; simp; omega
def dfN (d e : Nat) (y : Dfn) : Nat := 1 + ptN d e y.r + sm tbN y.tabs + sm (pgN d) y.pags
theorem dfw_len {d e : Nat} {X : World} {y : Dfn} (h : dfO d e y = true) (hL : LD X d e y) : (dfw d e y).length <= 12 * dfN d e y := by
  have h1 := ptw_len hL.2.1 (dfO_all h).2.1
  have h2 := fltw_len (g := tbw) (f := tbN) (l := y.tabs) fun z _ => tbw_len z
  have h3 := fltw_len (g := pgw d) (f := pgN d) (l := y.pags) fun z hz => by
    obtain ⟨j, hj⟩ := List.mem_iff_getElem?.1 hz
    exact pgw_len (List.all_eq_true.1 (dfO_all h).2.2.2 z hz) (hL.2.2.2.2.2 j z hj).2.2.1
  unfold dfw dfN
  rw [List.length_append, List.length_append, List.length_append, List.length_append]; simp only [List.length_cons, List.length_nil]; omega
theorem wln_few {l : List ByteArray} {n : Nat} (h : ∀ w ∈ l, wok w) (hl : l.length <= 12 * n) (hn : n <= 1099511627776) : wln l <= 4611686018427387904 := by
  have := wln_len h; omega
end Go.Proofs.YtpabcmaeaiaknaaGreatDoor
namespace Go.Proofs.YtpabcmaeaiaknaaGreatDoor
open Go.ChangeShapes Go.WideShapes Go.ChangeAt Go.RowKit
open S (Lies)
namespace D
theorem cl_int : Tryz.prog.cellsOf 3 = 1 := by kernel_rfl
theorem cl_bool : Tryz.prog.cellsOf 4 = 1 := by kernel_rfl
theorem cl_string : Tryz.prog.cellsOf 9 = 1 := by kernel_rfl
theorem cl_u64 : Tryz.prog.cellsOf 22 = 1 := by kernel_rfl
theorem cl_nat : Tryz.prog.cellsOf 24 = 4 := by kernel_rfl
theorem cl_dec : Tryz.prog.cellsOf 26 = 6 := by kernel_rfl
theorem cl_val : Tryz.prog.cellsOf 28 = 10 := by kernel_rfl
theorem cl_sx : Tryz.prog.cellsOf 29 = 1 := by kernel_rfl
theorem cl_ex : Tryz.prog.cellsOf 31 = 17 := by kernel_rfl
theorem wf_u {n : Int} (h : (Lit.int .u64 n).wf = true) : U1 n := by
  have h : (decide (IntKind.u64.min <= n) && decide (n <= IntKind.u64.max)) = true := h
  rw [Bool.and_eq_true, decide_eq_true_eq, decide_eq_true_eq] at h
  have e1 : IntKind.u64.min = 0 := by decide
  have e2 : IntKind.u64.max = 18446744073709551615 := by decide
  unfold U1; omega
theorem bulk_mem {H : Type} {d : DataW H} : ∀ {l : List (DataW H)}, d ∈ l -> Rows.uptoBulk d <= Rows.uptoBulkAll l
  | x :: l, h => by
    simp only [Rows.uptoBulkAll]
    rcases List.mem_cons.1 h with rfl | h
    · omega
    · have := bulk_mem h; omega
theorem sm_bulk {H α : Type} {wt : α -> Nat} : ∀ {L : List α} {E : List (DataW H)}, E.length = L.length -> (∀ (i : Nat) (a : α) (z : DataW H), L[i]? = some a -> E[i]? = some z -> wt a <= Rows.uptoBulk z) -> sm wt L <= Rows.uptoBulkAll E
  | [], _, _, _ => by simp [sm]
  | a :: L, [], h, _ => by simp at h
  | a :: L, z :: E, h, hb => by
    have h1 := hb 0 a z rfl rfl
    have h2 := sm_bulk (wt := wt) (L := L) (E := E) (by simpa using h) (fun i x y hx hy => hb (i + 1) x y (by simpa using hx) (by simpa using hy))
    rw [sm_cons]
    simp only [Rows.uptoBulkAll]
    omega
section
variable {H : Type} {enc : TypeId × Value -> H} {W : World} {sp : Nat -> Bool}
theorem cut_str {fuel : Nat} {c : Value} {x : DataW H × List MemPlace} (h : DataW.trod enc Tryz.prog W 0 sp true fuel 9 [c] = some x) : ∃ s : ByteArray, c = .string s /\ s.size + 1 <= Rows.uptoBulk x.1 := by
  obtain ⟨s, e, rfl, _⟩ := DataW.trod_string Tryz.underlying9 h
  simp only [List.cons.injEq, and_true] at e
  refine ⟨s, e, ?_⟩
  simp only [Rows.uptoBulk]
  show s.data.size + 1 <= s.data.toList.length + 1
  simp
theorem cut_sl {fuel : Nat} {x : DataW H × List MemPlace} {t e : TypeId} (hu : Tryz.prog.underlying t = some (.slice e)) {n : Nat} (hn : 0 < n) (hcl : Tryz.prog.cellsOf e = n) {α : Type} (cells : α -> List Value) (dflt : α) (ok : α -> Prop) (wt : α -> Nat) (hlen : ∀ y, (cells y).length = n) (_ : ∀ y, 1 <= wt y)
    (hcut : ∀ {m : Nat} {cs : List Value} {y : DataW H × List MemPlace}, m < fuel -> Rows.uptoBulk y.1 <= Rows.uptoBulk x.1 -> DataW.trod enc Tryz.prog W 0 sp true m e cs = some y -> ∃ z, (ok z /\ wt z <= Rows.uptoBulk y.1) /\ cs = cells z) {v : Value} (h : DataW.trod enc Tryz.prog W 0 sp true fuel t [v] = some x) :
    ∃ (L : List α) (pa : Option Addr) (cap : Nat), v = .slice pa L.length cap /\ (∀ o ∈ L, ok o) /\ sm wt L <= Rows.uptoBulk x.1 /\ ∀ i o, L[i]? = some o -> ∃ b off, pa = some ⟨b, off, none⟩ /\ Lies W b (off + i * n) (cells o) := by
  rcases DataW.trod_slice hu h with ⟨hcs, _⟩ | ⟨a, len, cap, elems, rest, k, rfl, hcs, hx, hlc, hcm, hlen1, hlen2, hel, _, _⟩
  · simp only [List.cons.injEq, and_true] at hcs
    subst hcs
    exact ⟨[], none, 0, rfl, fun _ e => (by cases e), by simp [sm], (fun _ _ e => by cases e)⟩
  · simp only [List.cons.injEq, and_true] at hcs
    subst hcs
    have first : ∀ o : α, ∃ u, (cells o)[0]? = some u := fun o => ⟨(cells o)[0]'(by rw [hlen]; exact hn), List.getElem?_eq_getElem _⟩
    have hbk : Rows.uptoBulkAll (elems.map (·.1)) <= Rows.uptoBulk x.1 := by rw [hx]; simp only [Rows.uptoBulk]; omega
    have el : ∀ i, i < len -> ∃ cs' y, elems[i]? = some y /\ W.cells? 0 (a.add (i * Tryz.prog.cellsOf e)) (Tryz.prog.cellsOf e) = some cs' /\ DataW.trod enc Tryz.prog W 0 sp true k e cs' = some y := fun i hi => by
      have h1 := hel i hi
      have h3 : elems[i]? = some (elems[i]'(by omega)) := List.getElem?_eq_getElem (by omega)
      rw [h3] at h1
      cases h2 : W.cells? 0 (a.add (i * Tryz.prog.cellsOf e)) (Tryz.prog.cellsOf e) with
      | none => rw [h2] at h1; cases h1
      | some cs' => rw [h2] at h1; exact ⟨cs', _, h3, rfl, h1⟩
    have hbe : ∀ (i : Nat) (y : DataW H × List MemPlace), elems[i]? = some y -> Rows.uptoBulk y.1 <= Rows.uptoBulk x.1 := fun i y hy => Nat.le_trans (bulk_mem (List.mem_map_of_mem (List.mem_of_getElem? hy))) hbk
    have key : ∀ i : Nat, ∃ S : α, i < len -> ok S /\ (∀ y, elems[i]? = some y -> wt S <= Rows.uptoBulk y.1) /\ ∃ b off, some a = some (⟨b, off, none⟩ : Addr) /\ Lies W b (off + i * n) (cells S) := by
      intro i
      by_cases hi : i < len
      · obtain ⟨cs', y, hy, hc, ht⟩ := el i hi
        obtain ⟨o, ⟨ho, how⟩, rfl⟩ := hcut (Nat.lt_succ_self k) (hbe i y hy) ht
        refine ⟨o, fun _ => ⟨ho, fun y' hy' => by rw [hy] at hy'; cases hy'; exact how, ?_⟩⟩
        rw [hcl] at hc
        obtain ⟨_, _, hcell⟩ := World.cells?_some hc
        obtain ⟨b, off, spot⟩ := a
        have hs : spot = none := by
          obtain ⟨cs0, y0, hy0, hc0, ht0⟩ := el 0 (by omega)
          obtain ⟨o0, _, rfl⟩ := hcut (Nat.lt_succ_self k) (hbe 0 y0 hy0) ht0
          rw [hcl] at hc0
          have h0 := (World.cells?_some hc0).2.2 0 hn
          obtain ⟨u, hu0⟩ := first o0
          rw [hu0] at h0
          have := World.cell?_spot (show W.cell? (((⟨b, off, spot⟩ : Addr).add (0 * n)).add 0) = some u from h0)
          simpa [Addr.add] using this
        subst hs
        refine ⟨b, off, rfl, fun j v hv => ?_⟩
        have hj : j < n := by rw [← hlen o]; exact (List.getElem?_eq_some_iff.1 hv).1
        have := hcell j hj
        rw [Addr.add_mid, Addr.add_mid, hv] at this
        exact this
      · exact ⟨dflt, fun e => absurd e hi⟩
    obtain ⟨f, hf2⟩ := Classical.skolem.1 key
    refine ⟨(List.range len).map f, some a, cap, by simp, fun o ho => ?_, Nat.le_trans (sm_bulk (E := elems.map (·.1)) (by simp; omega) fun i a' z ha hz => ?_) hbk, fun i o e => ?_⟩
    · obtain ⟨i, hi, rfl⟩ := List.mem_map.1 ho
      exact (hf2 i (by simpa using hi)).1
    · have hi : i < len := by have := (List.getElem?_eq_some_iff.1 ha).1; simpa using this
      rw [List.getElem?_map, List.getElem?_range hi] at ha
      cases ha
      rw [List.getElem?_map, Option.map_eq_some_iff] at hz
      obtain ⟨y, hy, rfl⟩ := hz
      exact (hf2 i hi).2.1 y hy
    · have hi : i < len := by have := (List.getElem?_eq_some_iff.1 e).1; simpa using this
      rw [List.getElem?_map, List.getElem?_range hi] at e
      cases e
      exact (hf2 i hi).2.2
set_option maxRecDepth 100000 in
theorem cut_nat {fuel : Nat} {cs : List Value} {x : DataW H × List MemPlace} (h : DataW.trod enc Tryz.prog W 0 sp true fuel 24 cs = some x) : ∃ n : Int, (0 <= n /\ n < MM) /\ cs = [.int .u64 (l0 n), .int .u64 (l1 n), .int .u64 (l2 n), .int .u64 (l3 n)] := by
  obtain ⟨xs, m, rfl, _, hlen, hn, hi⟩ := DataW.trod_array Tryz.underlying24 h
  rw [cl_nat] at hlen
  obtain ⟨c0, c1, c2, c3, rfl⟩ : ∃ c0 c1 c2 c3, cs = [c0, c1, c2, c3] := by
    match cs, hlen with
    | [a0, a1, a2, a3], _ => exact ⟨a0, a1, a2, a3, rfl⟩
  obtain ⟨y0, y1, y2, y3, rfl⟩ : ∃ y0 y1 y2 y3, xs = [y0, y1, y2, y3] := by
    match xs, hn with
    | [a0, a1, a2, a3], _ => exact ⟨a0, a1, a2, a3, rfl⟩
  have i0 := hi 0 (by decide)
  have i1 := hi 1 (by decide)
  have i2 := hi 2 (by decide)
  have i3 := hi 3 (by decide)
  simp only [cl_u64] at i0 i1 i2 i3
  simp at i0 i1 i2 i3
  obtain ⟨x0, e0, _, f0⟩ := DataW.trod_int Tryz.underlying22 i0
  obtain ⟨x1, e1, _, f1⟩ := DataW.trod_int Tryz.underlying22 i1
  obtain ⟨x2, e2, _, f2⟩ := DataW.trod_int Tryz.underlying22 i2
  obtain ⟨x3, e3, _, f3⟩ := DataW.trod_int Tryz.underlying22 i3
  simp at e0 e1 e2 e3
  subst e0 e1 e2 e3
  have u : U4 x0 x1 x2 x3 := ⟨wf_u f0, wf_u f1, wf_u f2, wf_u f3⟩
  refine ⟨vl x0 x1 x2 x3, ?_, by rw [l0_vl u, l1_vl u, l2_vl u, l3_vl u]⟩
  unfold U4 U1 at u
  unfold vl MM
  omega
set_option maxRecDepth 100000 in
theorem cut_dn {fuel : Nat} {cs : List Value} {x : DataW H × List MemPlace} (h : DataW.trod enc Tryz.prog W 0 sp true fuel 26 cs = some x) : ∃ (b : Bool) (n s : Int), (0 <= n /\ n < MM) /\ cs = [.bool b, .int .u64 (l0 n), .int .u64 (l1 n), .int .u64 (l2 n), .int .u64 (l3 n), .int .i64 s] := by
  obtain ⟨xs, m, rfl, hx, hl, hlen, hi⟩ := DataW.trod_struct Tryz.underlying26 h
  rw [cl_dec] at hl
  obtain ⟨c0, c1, c2, c3, c4, c5, rfl⟩ : ∃ c0 c1 c2 c3 c4 c5, cs = [c0, c1, c2, c3, c4, c5] := by
    match cs, hl with
    | [a0, a1, a2, a3, a4, a5], _ => exact ⟨a0, a1, a2, a3, a4, a5, rfl⟩
  obtain ⟨y0, y1, y2, rfl⟩ : ∃ y0 y1 y2, xs = [y0, y1, y2] := by
    match xs, hlen with
    | [a0, a1, a2], _ => exact ⟨a0, a1, a2, rfl⟩
  have i0 := hi 0 _ rfl
  have i1 := hi 1 _ rfl
  have i2 := hi 2 _ rfl
  have hbk : Rows.uptoBulk y0.1 + Rows.uptoBulk y1.1 + Rows.uptoBulk y2.1 + 1 <= Rows.uptoBulk x.1 := by rw [hx]; simp [Rows.uptoBulk, Rows.uptoBulkAll] <;> omega
  simp [cl_bool, cl_nat, cl_int] at i0 i1 i2
  obtain ⟨b, e0, _⟩ := DataW.trod_bool Tryz.underlying4 i0
  obtain ⟨n, hn, e1⟩ := cut_nat i1
  obtain ⟨s, e2, _, f2⟩ := DataW.trod_int Tryz.underlying3 i2
  simp at e0 e1 e2
  obtain ⟨e1_0, e1_1, e1_2, e1_3⟩ := e1
  subst e0 e1_0 e1_1 e1_2 e1_3 e2
  exact ⟨b, n, s, hn, rfl⟩
set_option maxRecDepth 100000 in
theorem cut_vl {fuel : Nat} {cs : List Value} {x : DataW H × List MemPlace} (h : DataW.trod enc Tryz.prog W 0 sp true fuel 28 cs = some x) : ∃ v : VL, (v.ok /\ v.t.size <= Rows.uptoBulk x.1) /\ cs = v.cells := by
  obtain ⟨xs, m, rfl, hx, hl, hlen, hi⟩ := DataW.trod_struct Tryz.underlying28 h
  rw [cl_val] at hl
  obtain ⟨c0, c1, c2, c3, c4, c5, c6, c7, c8, c9, rfl⟩ : ∃ c0 c1 c2 c3 c4 c5 c6 c7 c8 c9, cs = [c0, c1, c2, c3, c4, c5, c6, c7, c8, c9] := by
    match cs, hl with
    | [a0, a1, a2, a3, a4, a5, a6, a7, a8, a9], _ => exact ⟨a0, a1, a2, a3, a4, a5, a6, a7, a8, a9, rfl⟩
  obtain ⟨y0, y1, y2, y3, y4, rfl⟩ : ∃ y0 y1 y2 y3 y4, xs = [y0, y1, y2, y3, y4] := by
    match xs, hlen with
    | [a0, a1, a2, a3, a4], _ => exact ⟨a0, a1, a2, a3, a4, rfl⟩
  have i0 := hi 0 _ rfl
  have i1 := hi 1 _ rfl
  have i2 := hi 2 _ rfl
  have i3 := hi 3 _ rfl
  have i4 := hi 4 _ rfl
  have hbk : Rows.uptoBulk y0.1 + Rows.uptoBulk y1.1 + Rows.uptoBulk y2.1 + Rows.uptoBulk y3.1 + Rows.uptoBulk y4.1 + 1 <= Rows.uptoBulk x.1 := by rw [hx]; simp [Rows.uptoBulk, Rows.uptoBulkAll] <;> omega
  simp [cl_int, cl_dec, cl_bool, cl_string] at i0 i1 i2 i3 i4
  obtain ⟨k, e0, _, f0⟩ := DataW.trod_int Tryz.underlying3 i0
  obtain ⟨b, n, s, hd, e1⟩ := cut_dn i1
  obtain ⟨f, e2, _⟩ := DataW.trod_bool Tryz.underlying4 i2
  obtain ⟨t, e3, ht⟩ := cut_str i3
  obtain ⟨er, e4, _, f4⟩ := DataW.trod_int Tryz.underlying3 i4
  simp at e0 e1 e2 e4
  obtain ⟨e1_0, e1_1, e1_2, e1_3, e1_4, e1_5⟩ := e1
  subst e0 e1_0 e1_1 e1_2 e1_3 e1_4 e1_5 e2 e3 e4
  exact ⟨⟨k, b, n, s, f, t, er⟩, ⟨hd, by show t.size <= _; omega⟩, rfl⟩
theorem LTup {w : World} : ∀ {d : Nat} {x : Ex}, LT w d x -> LT w (d + 1) x
  | 0, x, h => ⟨h.1, fun i y hy => by rw [h.2] at hy; cases hy⟩
  | d + 1, _, h => ⟨h.1, fun i y hy => ⟨(h.2 i y hy).1, LTup (h.2 i y hy).2⟩⟩
theorem LTnd {w : World} : ∀ {d : Nat} {x : Ex}, LT w d x -> nd (d + 1) x = nd d x
  | 0, x, h => by show 1 + sm (nd 0) x.a = 1; rw [h.2]; rfl
  | d + 1, x, h => by
    show 1 + sm (nd (d + 1)) x.a = 1 + sm (nd d) x.a
    congr 1
    unfold sm
    congr 1
    refine List.map_congr_left fun y hy => ?_
    obtain ⟨j, hj⟩ := List.mem_iff_getElem?.1 hy
    exact LTnd (h.2 j y hj).2
theorem LTle {w : World} {d : Nat} {x : Ex} (h : LT w d x) : ∀ {e : Nat}, d <= e -> LT w e x /\ nd e x = nd d x := by
  intro e he
  induction he with
  | refl => exact ⟨h, rfl⟩
  | step _ ih => exact ⟨LTup ih.1, (LTnd ih.1).trans ih.2⟩
theorem nd_pos (d : Nat) (x : Ex) : 1 <= nd d x := by cases d; exact Nat.le_refl 1; show 1 <= 1 + _; omega
theorem len_sm {α : Type} {wt : α -> Nat} (hw : ∀ y, 1 <= wt y) : ∀ (l : List α), l.length <= sm wt l
  | [] => Nat.zero_le _
  | x :: l => by rw [sm_cons, List.length_cons]; have := hw x; have := len_sm hw l; omega
set_option maxRecDepth 100000 in
theorem cut_ex : ∀ (fuel : Nat) {cs : List Value} {x : DataW H × List MemPlace}, Rows.uptoBulk x.1 <= 1048576 -> DataW.trod enc Tryz.prog W 0 sp true fuel 31 cs = some x -> ∃ e : Ex, (LT W fuel e /\ nd fuel e <= Rows.uptoBulk x.1) /\ cs = e.c := by
  intro fuel
  induction fuel using Nat.strongRecOn with
  | ind fuel ih =>
    intro cs x hB h
    obtain ⟨xs, m, rfl, hx, hl, hlen, hi⟩ := DataW.trod_struct Tryz.underlying31 h
    rw [cl_ex] at hl
    obtain ⟨c0, c1, c2, c3, c4, c5, c6, c7, c8, c9, c10, c11, c12, c13, c14, c15, c16, rfl⟩ : ∃ c0 c1 c2 c3 c4 c5 c6 c7 c8 c9 c10 c11 c12 c13 c14 c15 c16, cs = [c0, c1, c2, c3, c4, c5, c6, c7, c8, c9, c10, c11, c12, c13, c14, c15, c16] := by
      match cs, hl with
      | [a0, a1, a2, a3, a4, a5, a6, a7, a8, a9, a10, a11, a12, a13, a14, a15, a16], _ => exact ⟨a0, a1, a2, a3, a4, a5, a6, a7, a8, a9, a10, a11, a12, a13, a14, a15, a16, rfl⟩
    obtain ⟨y0, y1, y2, y3, y4, y5, y6, y7, rfl⟩ : ∃ y0 y1 y2 y3 y4 y5 y6 y7, xs = [y0, y1, y2, y3, y4, y5, y6, y7] := by
      match xs, hlen with
      | [a0, a1, a2, a3, a4, a5, a6, a7], _ => exact ⟨a0, a1, a2, a3, a4, a5, a6, a7, rfl⟩
    have i0 := hi 0 _ rfl
    have i1 := hi 1 _ rfl
    have i2 := hi 2 _ rfl
    have i3 := hi 3 _ rfl
    have i4 := hi 4 _ rfl
    have i5 := hi 5 _ rfl
    have i6 := hi 6 _ rfl
    have i7 := hi 7 _ rfl
    have hbk : Rows.uptoBulk y0.1 + Rows.uptoBulk y1.1 + Rows.uptoBulk y2.1 + Rows.uptoBulk y3.1 + Rows.uptoBulk y4.1 + Rows.uptoBulk y5.1 + Rows.uptoBulk y6.1 + Rows.uptoBulk y7.1 + 1 <= Rows.uptoBulk x.1 := by rw [hx]; simp [Rows.uptoBulk, Rows.uptoBulkAll] <;> omega
    simp [cl_int, cl_string, cl_val, cl_sx] at i0 i1 i2 i3 i4 i5 i6 i7
    obtain ⟨k, e0, _, f0⟩ := DataW.trod_int Tryz.underlying3 i0
    obtain ⟨op, e1, _, f1⟩ := DataW.trod_int Tryz.underlying3 i1
    obtain ⟨nm, e2, z2⟩ := cut_str i2
    obtain ⟨se, e3, z3⟩ := cut_str i3
    obtain ⟨v, hv, e4⟩ := cut_vl i4
    obtain ⟨sc, e5, _, f5⟩ := DataW.trod_int Tryz.underlying3 i5
    obtain ⟨po, e6, _, f6⟩ := DataW.trod_int Tryz.underlying3 i6
    obtain ⟨A, pa, cap, e7, hL, hwt, hS⟩ := cut_sl Tryz.underlying29 (n := 17) (by decide) cl_ex Ex.c x0 (fun z => LT W m z) (nd m) (fun _ => rfl) (nd_pos m) (fun hm hb h => by obtain ⟨z, ⟨h1, h2⟩, h3⟩ := ih _ (by omega) (by omega) h; have := LTle h1 (Nat.le_of_lt hm); exact ⟨z, ⟨this.1, by rw [this.2]; exact h2⟩, h3⟩) i7
    simp only [VL.cells] at e4
    simp at e0 e1 e4 e5 e6
    obtain ⟨e4_0, e4_1, e4_2, e4_3, e4_4, e4_5, e4_6, e4_7, e4_8, e4_9⟩ := e4
    subst e0 e1 e2 e3 e4_0 e4_1 e4_2 e4_3 e4_4 e4_5 e4_6 e4_7 e4_8 e4_9 e5 e6 e7
    have hA := len_sm (nd_pos m) A
    refine ⟨⟨k, op, nm, se, v, sc, po, pa, cap, A⟩, ⟨⟨⟨hv.1, by show nm.size <= _; omega, by show se.size <= _; omega, by have := hv.2; show v.t.size <= _; omega, by show A.length <= _; omega⟩, fun i y hy => ⟨hS i y hy, hL y (List.mem_of_getElem? hy)⟩⟩, ?_⟩, rfl⟩
    show 1 + sm (nd m) A <= _
    omega
end
end D
namespace D
theorem cl_ty : Tryz.prog.cellsOf 53 = 2 := by kernel_rfl
theorem cl_it : Tryz.prog.cellsOf 55 = 23 := by kernel_rfl
theorem cl_sit : Tryz.prog.cellsOf 38 = 1 := by kernel_rfl
theorem cl_ssc : Tryz.prog.cellsOf 39 = 1 := by kernel_rfl
theorem cl_sc : Tryz.prog.cellsOf 41 = 4 := by kernel_rfl
theorem cl_st : Tryz.prog.cellsOf 60 = 18 := by kernel_rfl
theorem cl_sst : Tryz.prog.cellsOf 56 = 1 := by kernel_rfl
theorem cl_tb : Tryz.prog.cellsOf 58 = 2 := by kernel_rfl
theorem cl_stb : Tryz.prog.cellsOf 42 = 1 := by kernel_rfl
theorem cl_pg : Tryz.prog.cellsOf 63 = 19 := by kernel_rfl
theorem cl_spg : Tryz.prog.cellsOf 43 = 1 := by kernel_rfl
theorem cl_sstr : Tryz.prog.cellsOf 61 = 1 := by kernel_rfl
theorem cl_df : Tryz.prog.cellsOf 45 = 7 := by kernel_rfl
theorem LSup {w : World} {d : Nat} : ∀ {e : Nat} {y : Sec}, LS w d e y -> LS w d (e + 1) y
  | 0, y, h => ⟨h.1, fun i z hz => by rw [h.2] at hz; cases hz⟩
  | e + 1, _, h => ⟨h.1, fun i z hz => ⟨(h.2 i z hz).1, LSup (h.2 i z hz).2⟩⟩
theorem LSpt {w : World} {d : Nat} : ∀ {e : Nat} {y : Sec}, LS w d e y -> ptN d (e + 1) y = ptN d e y
  | 0, y, h => by show sm (itN d) y.its + sm _ y.secs = sm (itN d) y.its; rw [h.2]; rfl
  | e + 1, y, h => by
    show sm (itN d) y.its + sm (fun z => 1 + ptN d (e + 1) z) y.secs = sm (itN d) y.its + sm (fun z => 1 + ptN d e z) y.secs
    congr 1
    unfold sm
    congr 1
    refine List.map_congr_left fun z hz => ?_
    obtain ⟨j, hj⟩ := List.mem_iff_getElem?.1 hz
    show 1 + _ = 1 + _
    rw [LSpt (h.2 j z hj).2]
theorem LSle {w : World} {d e : Nat} {y : Sec} (h : LS w d e y) : ∀ {f : Nat}, e <= f -> LS w d f y /\ ptN d f y = ptN d e y := by
  intro f hf
  induction hf with
  | refl => exact ⟨h, rfl⟩
  | step _ ih => exact ⟨LSup ih.1, (LSpt ih.1).trans ih.2⟩
def itm0 : Itm := ⟨E0, 0, 0, 0, false, 0, x0⟩
def sec0 : Sec := ⟨E0, 0, none, 0, [], none, 0, []⟩
def rat0 : Rat' := ⟨false, 0, 0, false, 0, 0, false, 0, 0⟩
def tab0 : Tab := ⟨E0, none, 0, []⟩
def pag0 : Pag := ⟨E0, x0, none, 0, []⟩
section
variable {H : Type} {enc : TypeId × Value -> H} {W : World} {sp : Nat -> Bool}
set_option maxRecDepth 100000 in
theorem cut_ty {fuel : Nat} {cs : List Value} {x : DataW H × List MemPlace} (h : DataW.trod enc Tryz.prog W 0 sp true fuel 53 cs = some x) : ∃ k s : Int, cs = [.int .i64 k, .int .i64 s] := by
  obtain ⟨xs, m, rfl, hx, hl, hlen, hi⟩ := DataW.trod_struct Tryz.underlying53 h
  rw [cl_ty] at hl
  obtain ⟨c0, c1, rfl⟩ : ∃ c0 c1, cs = [c0, c1] := by
    match cs, hl with
    | [a0, a1], _ => exact ⟨a0, a1, rfl⟩
  obtain ⟨y0, y1, rfl⟩ : ∃ y0 y1, xs = [y0, y1] := by
    match xs, hlen with
    | [a0, a1], _ => exact ⟨a0, a1, rfl⟩
  have i0 := hi 0 _ rfl
  have i1 := hi 1 _ rfl
  have hbk : Rows.uptoBulk y0.1 + Rows.uptoBulk y1.1 + 1 <= Rows.uptoBulk x.1 := by rw [hx]; simp [Rows.uptoBulk, Rows.uptoBulkAll] <;> omega
  simp [cl_int] at i0 i1
  obtain ⟨k, e0, _, f0⟩ := DataW.trod_int Tryz.underlying3 i0
  obtain ⟨s, e1, _, f1⟩ := DataW.trod_int Tryz.underlying3 i1
  simp at e0 e1
  subst e0 e1
  exact ⟨k, s, rfl⟩
set_option maxRecDepth 100000 in
theorem cut_it {D fuel : Nat} {cs : List Value} {x : DataW H × List MemPlace} (hD : fuel <= D) (hB : Rows.uptoBulk x.1 <= 1048576) (h : DataW.trod enc Tryz.prog W 0 sp true fuel 55 cs = some x) : ∃ y : Itm, ((LT W D y.x /\ y.nm.size <= 1048576) /\ itN D y <= Rows.uptoBulk x.1) /\ cs = y.c := by
  obtain ⟨xs, m, rfl, hx, hl, hlen, hi⟩ := DataW.trod_struct Tryz.underlying55 h
  rw [cl_it] at hl
  obtain ⟨c0, c1, c2, c3, c4, c5, c6, c7, c8, c9, c10, c11, c12, c13, c14, c15, c16, c17, c18, c19, c20, c21, c22, rfl⟩ : ∃ c0 c1 c2 c3 c4 c5 c6 c7 c8 c9 c10 c11 c12 c13 c14 c15 c16 c17 c18 c19 c20 c21 c22, cs = [c0, c1, c2, c3, c4, c5, c6, c7, c8, c9, c10, c11, c12, c13, c14, c15, c16, c17, c18, c19, c20, c21, c22] := by
    match cs, hl with
    | [a0, a1, a2, a3, a4, a5, a6, a7, a8, a9, a10, a11, a12, a13, a14, a15, a16, a17, a18, a19, a20, a21, a22], _ => exact ⟨a0, a1, a2, a3, a4, a5, a6, a7, a8, a9, a10, a11, a12, a13, a14, a15, a16, a17, a18, a19, a20, a21, a22, rfl⟩
  obtain ⟨y0, y1, y2, y3, y4, y5, rfl⟩ : ∃ y0 y1 y2 y3 y4 y5, xs = [y0, y1, y2, y3, y4, y5] := by
    match xs, hlen with
    | [a0, a1, a2, a3, a4, a5], _ => exact ⟨a0, a1, a2, a3, a4, a5, rfl⟩
  have i0 := hi 0 _ rfl
  have i1 := hi 1 _ rfl
  have i2 := hi 2 _ rfl
  have i3 := hi 3 _ rfl
  have i4 := hi 4 _ rfl
  have i5 := hi 5 _ rfl
  have hbk : Rows.uptoBulk y0.1 + Rows.uptoBulk y1.1 + Rows.uptoBulk y2.1 + Rows.uptoBulk y3.1 + Rows.uptoBulk y4.1 + Rows.uptoBulk y5.1 + 1 <= Rows.uptoBulk x.1 := by rw [hx]; simp [Rows.uptoBulk, Rows.uptoBulkAll] <;> omega
  simp [cl_string, cl_int, cl_ty, cl_bool, cl_ex] at i0 i1 i2 i3 i4 i5
  obtain ⟨nm, e0, z0⟩ := cut_str i0
  obtain ⟨k, e1, _, f1⟩ := DataW.trod_int Tryz.underlying3 i1
  obtain ⟨tk, ts, e2⟩ := cut_ty i2
  obtain ⟨ne, e3, _⟩ := DataW.trod_bool Tryz.underlying4 i3
  obtain ⟨pl, e4, _, f4⟩ := DataW.trod_int Tryz.underlying3 i4
  obtain ⟨z, ⟨hz, hzn⟩, e5⟩ := cut_ex m (by omega) i5
  have hz2 := LTle hz (show m <= D by omega)
  simp only [Ex.c] at e5
  simp at e1 e2 e3 e4 e5
  obtain ⟨e2_0, e2_1⟩ := e2
  obtain ⟨e5_0, e5_1, e5_2, e5_3, e5_4, e5_5, e5_6, e5_7, e5_8, e5_9, e5_10, e5_11, e5_12, e5_13, e5_14, e5_15, e5_16⟩ := e5
  subst e0 e1 e2_0 e2_1 e3 e4 e5_0 e5_1 e5_2 e5_3 e5_4 e5_5 e5_6 e5_7 e5_8 e5_9 e5_10 e5_11 e5_12 e5_13 e5_14 e5_15 e5_16
  refine ⟨⟨nm, k, tk, ts, ne, pl, z⟩, ⟨⟨hz2.1, by show nm.size <= _; omega⟩, ?_⟩, rfl⟩
  show 1 + nd D z <= _
  rw [hz2.2]; omega
set_option maxRecDepth 100000 in
theorem cut_sec {D : Nat} : ∀ (fuel : Nat) {cs : List Value} {x : DataW H × List MemPlace}, fuel <= D -> Rows.uptoBulk x.1 <= 1048576 -> DataW.trod enc Tryz.prog W 0 sp true fuel 41 cs = some x -> ∃ y : Sec, (LS W D fuel y /\ 1 + ptN D fuel y <= Rows.uptoBulk x.1 /\ ∀ z ∈ y.its, z.nm.size <= 1048576) /\ cs = y.c := by
  intro fuel
  induction fuel using Nat.strongRecOn with
  | ind fuel ih =>
    intro cs x hD hB h
    obtain ⟨xs, m, rfl, hx, hl, hlen, hi⟩ := DataW.trod_struct Tryz.underlying41 h
    rw [cl_sc] at hl
    obtain ⟨c0, c1, c2, c3, rfl⟩ : ∃ c0 c1 c2 c3, cs = [c0, c1, c2, c3] := by
      match cs, hl with
      | [a0, a1, a2, a3], _ => exact ⟨a0, a1, a2, a3, rfl⟩
    obtain ⟨y0, y1, y2, y3, rfl⟩ : ∃ y0 y1 y2 y3, xs = [y0, y1, y2, y3] := by
      match xs, hlen with
      | [a0, a1, a2, a3], _ => exact ⟨a0, a1, a2, a3, rfl⟩
    have i0 := hi 0 _ rfl
    have i1 := hi 1 _ rfl
    have i2 := hi 2 _ rfl
    have i3 := hi 3 _ rfl
    have hbk : Rows.uptoBulk y0.1 + Rows.uptoBulk y1.1 + Rows.uptoBulk y2.1 + Rows.uptoBulk y3.1 + 1 <= Rows.uptoBulk x.1 := by rw [hx]; simp [Rows.uptoBulk, Rows.uptoBulkAll] <;> omega
    simp [cl_string, cl_int, cl_sit, cl_ssc] at i0 i1 i2 i3
    obtain ⟨nm, e0, z0⟩ := cut_str i0
    obtain ⟨mx, e1, _, f1⟩ := DataW.trod_int Tryz.underlying3 i1
    obtain ⟨L, pa, cap, e2, hL, hwt, hS⟩ := cut_sl Tryz.underlying38 (n := 23) (by decide) cl_it Itm.c itm0 (fun z => LT W D z.x /\ z.nm.size <= 1048576) (itN D) (fun _ => rfl) (fun y => by show 1 <= 1 + _; omega) (fun hm hb h => cut_it (by omega) (by omega) h) i2
    obtain ⟨L2, pa2, cap2, e3, hL2, hwt2, hS2⟩ := cut_sl Tryz.underlying39 (n := 4) (by decide) cl_sc Sec.c sec0 (fun z => LS W D m z) (fun z => 1 + ptN D m z) (fun _ => rfl) (fun y => by show 1 <= 1 + _; omega) (fun hm hb h => by obtain ⟨z, ⟨h1, h2, _⟩, h3⟩ := ih _ (by omega) (by omega) (by omega) h; have := LSle h1 (Nat.le_of_lt hm); exact ⟨z, ⟨this.1, by show 1 + ptN D m z <= _; rw [this.2]; exact h2⟩, h3⟩) i3
    simp at e1
    subst e0 e1 e2 e3
    have hA := len_sm (wt := itN D) (fun y => by show 1 <= 1 + _; omega) L
    have hA2 := len_sm (wt := fun z => 1 + ptN D m z) (fun y => by show 1 <= 1 + _; omega) L2
    refine ⟨⟨nm, mx, pa, cap, L, pa2, cap2, L2⟩, ⟨⟨⟨fun i y hy => ⟨hS i y hy, (hL y (List.mem_of_getElem? hy)).1, Nat.le_trans (hL y (List.mem_of_getElem? hy)).2 (by decide)⟩, by show L.length <= _; omega, by show nm.size <= _; omega, by show L2.length <= _; omega⟩, fun i z hz => ⟨hS2 i z hz, hL2 z (List.mem_of_getElem? hz)⟩⟩, ?_, fun z hz => (hL z hz).2⟩, rfl⟩
    show 1 + (sm (itN D) L + sm (fun z => 1 + ptN D m z) L2) <= _
    omega
set_option maxRecDepth 100000 in
theorem cut_st {fuel : Nat} {cs : List Value} {x : DataW H × List MemPlace} (h : DataW.trod enc Tryz.prog W 0 sp true fuel 60 cs = some x) : ∃ y : Rat', (y.ok /\ 1 <= Rows.uptoBulk x.1) /\ cs = y.c := by
  obtain ⟨xs, m, rfl, hx, hl, hlen, hi⟩ := DataW.trod_struct Tryz.underlying60 h
  rw [cl_st] at hl
  obtain ⟨c0, c1, c2, c3, c4, c5, c6, c7, c8, c9, c10, c11, c12, c13, c14, c15, c16, c17, rfl⟩ : ∃ c0 c1 c2 c3 c4 c5 c6 c7 c8 c9 c10 c11 c12 c13 c14 c15 c16 c17, cs = [c0, c1, c2, c3, c4, c5, c6, c7, c8, c9, c10, c11, c12, c13, c14, c15, c16, c17] := by
    match cs, hl with
    | [a0, a1, a2, a3, a4, a5, a6, a7, a8, a9, a10, a11, a12, a13, a14, a15, a16, a17], _ => exact ⟨a0, a1, a2, a3, a4, a5, a6, a7, a8, a9, a10, a11, a12, a13, a14, a15, a16, a17, rfl⟩
  obtain ⟨y0, y1, y2, rfl⟩ : ∃ y0 y1 y2, xs = [y0, y1, y2] := by
    match xs, hlen with
    | [a0, a1, a2], _ => exact ⟨a0, a1, a2, rfl⟩
  have i0 := hi 0 _ rfl
  have i1 := hi 1 _ rfl
  have i2 := hi 2 _ rfl
  have hbk : Rows.uptoBulk y0.1 + Rows.uptoBulk y1.1 + Rows.uptoBulk y2.1 + 1 <= Rows.uptoBulk x.1 := by rw [hx]; simp [Rows.uptoBulk, Rows.uptoBulkAll] <;> omega
  simp [cl_dec] at i0 i1 i2
  obtain ⟨b0, n0, s0, h0, e0⟩ := cut_dn i0
  obtain ⟨b1, n1, s1, h1, e1⟩ := cut_dn i1
  obtain ⟨b2, n2, s2, h2, e2⟩ := cut_dn i2
  simp at e0 e1 e2
  obtain ⟨e0_0, e0_1, e0_2, e0_3, e0_4, e0_5⟩ := e0
  obtain ⟨e1_0, e1_1, e1_2, e1_3, e1_4, e1_5⟩ := e1
  obtain ⟨e2_0, e2_1, e2_2, e2_3, e2_4, e2_5⟩ := e2
  subst e0_0 e0_1 e0_2 e0_3 e0_4 e0_5 e1_0 e1_1 e1_2 e1_3 e1_4 e1_5 e2_0 e2_1 e2_2 e2_3 e2_4 e2_5
  exact ⟨⟨b0, n0, s0, b1, n1, s1, b2, n2, s2⟩, ⟨⟨h0, h1, h2⟩, by omega⟩, rfl⟩
set_option maxRecDepth 100000 in
theorem cut_tb {fuel : Nat} {cs : List Value} {x : DataW H × List MemPlace} (hB : Rows.uptoBulk x.1 <= 1048576) (h : DataW.trod enc Tryz.prog W 0 sp true fuel 58 cs = some x) : ∃ y : Tab, (LTb W y /\ tbN y <= Rows.uptoBulk x.1) /\ cs = y.c := by
  obtain ⟨xs, m, rfl, hx, hl, hlen, hi⟩ := DataW.trod_struct Tryz.underlying58 h
  rw [cl_tb] at hl
  obtain ⟨c0, c1, rfl⟩ : ∃ c0 c1, cs = [c0, c1] := by
    match cs, hl with
    | [a0, a1], _ => exact ⟨a0, a1, rfl⟩
  obtain ⟨y0, y1, rfl⟩ : ∃ y0 y1, xs = [y0, y1] := by
    match xs, hlen with
    | [a0, a1], _ => exact ⟨a0, a1, rfl⟩
  have i0 := hi 0 _ rfl
  have i1 := hi 1 _ rfl
  have hbk : Rows.uptoBulk y0.1 + Rows.uptoBulk y1.1 + 1 <= Rows.uptoBulk x.1 := by rw [hx]; simp [Rows.uptoBulk, Rows.uptoBulkAll] <;> omega
  simp [cl_string, cl_sst] at i0 i1
  obtain ⟨nm, e0, z0⟩ := cut_str i0
  obtain ⟨L, pa, cap, e1, hL, hwt, hS⟩ := cut_sl Tryz.underlying56 (n := 18) (by decide) cl_st Rat'.c rat0 Rat'.ok (fun _ => 1) (fun _ => rfl) (fun _ => Nat.le_refl 1) (fun _ _ h => cut_st h) i1
  rw [sm_one] at hwt
  subst e0 e1
  refine ⟨⟨nm, pa, cap, L⟩, ⟨⟨by show nm.size <= _; omega, by show L.length <= _; omega, fun i z hz => ⟨hS i z hz, hL z (List.mem_of_getElem? hz)⟩⟩, ?_⟩, rfl⟩
  show 1 + L.length <= _
  omega
set_option maxRecDepth 100000 in
theorem cut_pg {D fuel : Nat} {cs : List Value} {x : DataW H × List MemPlace} (hD : fuel <= D) (hB : Rows.uptoBulk x.1 <= 1048576) (h : DataW.trod enc Tryz.prog W 0 sp true fuel 63 cs = some x) : ∃ y : Pag, ((LPg W D y /\ ∀ s ∈ y.a, s.size <= 1048576) /\ pgN D y <= Rows.uptoBulk x.1) /\ cs = y.c := by
  obtain ⟨xs, m, rfl, hx, hl, hlen, hi⟩ := DataW.trod_struct Tryz.underlying63 h
  rw [cl_pg] at hl
  obtain ⟨c0, c1, c2, c3, c4, c5, c6, c7, c8, c9, c10, c11, c12, c13, c14, c15, c16, c17, c18, rfl⟩ : ∃ c0 c1 c2 c3 c4 c5 c6 c7 c8 c9 c10 c11 c12 c13 c14 c15 c16 c17 c18, cs = [c0, c1, c2, c3, c4, c5, c6, c7, c8, c9, c10, c11, c12, c13, c14, c15, c16, c17, c18] := by
    match cs, hl with
    | [a0, a1, a2, a3, a4, a5, a6, a7, a8, a9, a10, a11, a12, a13, a14, a15, a16, a17, a18], _ => exact ⟨a0, a1, a2, a3, a4, a5, a6, a7, a8, a9, a10, a11, a12, a13, a14, a15, a16, a17, a18, rfl⟩
  obtain ⟨y0, y1, y2, rfl⟩ : ∃ y0 y1 y2, xs = [y0, y1, y2] := by
    match xs, hlen with
    | [a0, a1, a2], _ => exact ⟨a0, a1, a2, rfl⟩
  have i0 := hi 0 _ rfl
  have i1 := hi 1 _ rfl
  have i2 := hi 2 _ rfl
  have hbk : Rows.uptoBulk y0.1 + Rows.uptoBulk y1.1 + Rows.uptoBulk y2.1 + 1 <= Rows.uptoBulk x.1 := by rw [hx]; simp [Rows.uptoBulk, Rows.uptoBulkAll] <;> omega
  simp [cl_string, cl_ex, cl_sstr] at i0 i1 i2
  obtain ⟨nm, e0, z0⟩ := cut_str i0
  obtain ⟨z, ⟨hz, hzn⟩, e1⟩ := cut_ex m (by omega) i1
  have hz2 := LTle hz (show m <= D by omega)
  obtain ⟨L, pa, cap, e2, hL, hwt, hS⟩ := cut_sl Tryz.underlying61 (n := 1) (by decide) cl_string (fun s : ByteArray => [Value.string s]) E0 (fun s => s.size <= 1048576) (fun _ => 1) (fun _ => rfl) (fun _ => Nat.le_refl 1) (fun {m cs y} _ hb h => by
    have hl : cs.length = 1 := by
      obtain ⟨s, e, _⟩ := DataW.trod_string Tryz.underlying9 h
      rw [e]; rfl
    obtain ⟨c, rfl⟩ : ∃ c, cs = [c] := by
      match cs, hl with
      | [c], _ => exact ⟨c, rfl⟩
    obtain ⟨s, e, hs⟩ := cut_str h
    exact ⟨s, ⟨by omega, by omega⟩, by rw [e]⟩) i2
  rw [sm_one] at hwt
  simp only [Ex.c] at e1
  simp at e1
  obtain ⟨e5_0, e5_1, e5_2, e5_3, e5_4, e5_5, e5_6, e5_7, e5_8, e5_9, e5_10, e5_11, e5_12, e5_13, e5_14, e5_15, e5_16⟩ := e1
  subst e0 e2 e5_0 e5_1 e5_2 e5_3 e5_4 e5_5 e5_6 e5_7 e5_8 e5_9 e5_10 e5_11 e5_12 e5_13 e5_14 e5_15 e5_16
  refine ⟨⟨nm, z, pa, cap, L⟩, ⟨⟨⟨by show nm.size <= _; omega, hz2.1, by show L.length <= _; omega, fun i s hs => ?_⟩, hL⟩, ?_⟩, rfl⟩
  · obtain ⟨b, o, h1, h2⟩ := hS i s hs
    exact ⟨⟨b, o, h1, h2 0 (.string s) rfl⟩, Nat.le_trans (hL s (List.mem_of_getElem? hs)) (by decide)⟩
  · show 1 + nd D z + L.length <= _
    rw [hz2.2]; omega
set_option maxRecDepth 100000 in
theorem cut_df {fuel : Nat} {cs : List Value} {x : DataW H × List MemPlace} (hB : Rows.uptoBulk x.1 <= 1048576) (h : DataW.trod enc Tryz.prog W 0 sp true fuel 45 cs = some x) : ∃ y : Dfn, (LD W fuel fuel y /\ dfN fuel fuel y <= Rows.uptoBulk x.1 /\ (∀ z ∈ y.r.its, z.nm.size <= 1048576) /\ ∀ z ∈ y.pags, ∀ s ∈ z.a, s.size <= 1048576) /\ cs = y.c := by
  obtain ⟨xs, m, rfl, hx, hl, hlen, hi⟩ := DataW.trod_struct Tryz.underlying45 h
  rw [cl_df] at hl
  obtain ⟨c0, c1, c2, c3, c4, c5, c6, rfl⟩ : ∃ c0 c1 c2 c3 c4 c5 c6, cs = [c0, c1, c2, c3, c4, c5, c6] := by
    match cs, hl with
    | [a0, a1, a2, a3, a4, a5, a6], _ => exact ⟨a0, a1, a2, a3, a4, a5, a6, rfl⟩
  obtain ⟨y0, y1, y2, y3, rfl⟩ : ∃ y0 y1 y2 y3, xs = [y0, y1, y2, y3] := by
    match xs, hlen with
    | [a0, a1, a2, a3], _ => exact ⟨a0, a1, a2, a3, rfl⟩
  have i0 := hi 0 _ rfl
  have i1 := hi 1 _ rfl
  have i2 := hi 2 _ rfl
  have i3 := hi 3 _ rfl
  have hbk : Rows.uptoBulk y0.1 + Rows.uptoBulk y1.1 + Rows.uptoBulk y2.1 + Rows.uptoBulk y3.1 + 1 <= Rows.uptoBulk x.1 := by rw [hx]; simp [Rows.uptoBulk, Rows.uptoBulkAll] <;> omega
  simp [cl_string, cl_sc, cl_stb, cl_spg] at i0 i1 i2 i3
  obtain ⟨nm, e0, z0⟩ := cut_str i0
  obtain ⟨r, ⟨hr, hrn, hrs⟩, e1⟩ := cut_sec (D := m + 1) m (by omega) (by omega) i1
  have hr2 := LSle hr (show m <= m + 1 by omega)
  obtain ⟨L, pa, cap, e2, hL, hwt, hS⟩ := cut_sl Tryz.underlying42 (n := 2) (by decide) cl_tb Tab.c tab0 (LTb W) tbN (fun _ => rfl) (fun y => by show 1 <= 1 + _; omega) (fun _ hb h => cut_tb (by omega) h) i2
  obtain ⟨L2, pa2, cap2, e3, hL2, hwt2, hS2⟩ := cut_sl Tryz.underlying43 (n := 19) (by decide) cl_pg Pag.c pag0 (fun z => LPg W (m + 1) z /\ ∀ s ∈ z.a, s.size <= 1048576) (pgN (m + 1)) (fun _ => rfl) (fun y => by show 1 <= 1 + _ + _; omega) (fun hm hb h => cut_pg (by omega) (by omega) h) i3
  simp only [Sec.c] at e1
  simp at e1
  obtain ⟨e1_0, e1_1, e1_2, e1_3⟩ := e1
  subst e0 e1_0 e1_1 e1_2 e1_3 e2 e3
  have hA := len_sm (wt := tbN) (fun y => by show 1 <= 1 + _; omega) L
  have hA2 := len_sm (wt := pgN (m + 1)) (fun y => by show 1 <= 1 + _ + _; omega) L2
  refine ⟨⟨nm, r, pa, cap, L, pa2, cap2, L2⟩, ⟨⟨by show nm.size <= _; omega, hr2.1, by show L.length <= _; omega, by show L2.length <= _; omega, fun i z hz => ⟨hS i z hz, hL z (List.mem_of_getElem? hz)⟩, fun i z hz => ⟨hS2 i z hz, (hL2 z (List.mem_of_getElem? hz)).1⟩⟩, ?_, hrs, fun z hz => (hL2 z hz).2⟩, rfl⟩
  show 1 + ptN (m + 1) (m + 1) r + sm tbN L + sm (pgN (m + 1)) L2 <= _
  rw [hr2.2]; omega
end
end D
end Go.Proofs.YtpabcmaeaiaknaaGreatDoor
namespace Go.Proofs.YtpabcmaeaiaknaaGreatDoor
open Go.ChangeShapes Go.WideShapes Go.ChangeAt Go.RowKit
open S (Lies)
open D
section
variable {H : Type} {enc : TypeId × Value -> H} {W : World} {base : Nat} {v : Value} {d : DataW H} {p : List MemPlace}
set_option maxRecDepth 100000 in
theorem open_ex (hB : Rows.uptoBulk d <= 1048576) (hv : Value.okWide Tryz.prog W .any base 31 v) (h : DataW.Trod enc Tryz.prog W 0 (fun _ => true) true 31 v d p) : ∃ (n : Nat) (x : Ex), LT W n x /\ nd n x <= 1048576 /\ v = x.w := by
  obtain ⟨a, rfl, _⟩ := okWide_struct Tryz.underlying31 hv
  obtain ⟨fuel, hf⟩ := h
  obtain ⟨x, ⟨h1, h2⟩, e⟩ := cut_ex fuel (x := (d, p)) hB hf
  have h2 : nd fuel x <= Rows.uptoBulk d := h2
  exact ⟨fuel, x, h1, by omega, by show _ = Value.agg x.c.toArray; rw [← e]; simp [Value.cells]⟩
set_option maxRecDepth 100000 in
theorem open_df2 (hB : Rows.uptoBulk d <= 1048576) (hv : Value.okWide Tryz.prog W .any base 45 v) (h : DataW.Trod enc Tryz.prog W 0 (fun _ => true) true 45 v d p) : ∃ (n : Nat) (y : Dfn), LD W n n y /\ dfN n n y <= 1048576 /\ ((∀ z ∈ y.r.its, z.nm.size <= 1048576) /\ ∀ z ∈ y.pags, ∀ s ∈ z.a, s.size <= 1048576) /\ v = y.w := by
  obtain ⟨a, rfl, _⟩ := okWide_struct Tryz.underlying45 hv
  obtain ⟨fuel, hf⟩ := h
  obtain ⟨y, ⟨h1, h2, h3⟩, e⟩ := cut_df (x := (d, p)) hB hf
  have h2 : dfN fuel fuel y <= Rows.uptoBulk d := h2
  exact ⟨fuel, y, h1, by omega, h3, by show _ = Value.agg y.c.toArray; rw [← e]; simp [Value.cells]⟩
set_option maxRecDepth 100000 in
theorem open_df (hB : Rows.uptoBulk d <= 1048576) (hv : Value.okWide Tryz.prog W .any base 45 v) (h : DataW.Trod enc Tryz.prog W 0 (fun _ => true) true 45 v d p) : ∃ (n : Nat) (y : Dfn), LD W n n y /\ dfN n n y <= 1048576 /\ v = y.w := by
  obtain ⟨n, y, h1, h2, _, h4⟩ := open_df2 hB hv h
  exact ⟨n, y, h1, h2, h4⟩
end
theorem law_prints2 (n n2 : Nat) (y : Dfn) (x : Ex) (w : World) (hL : LD w n n y) (hx : LT w n2 x) (hG : TG w) (hb1 : dfN n n y <= 1048576) (hb2 : nd n2 x <= 1048576)
    (hbeg : ∀ W, S.Mb w W -> (∀ (b : Nat) (o : Obj), w.heap[b]? = some o -> o ≠ S.hole w -> W.heap[b]? = some o) -> Calls Tryz.prog 10 #[] W fun r W' => r = .returned (.bool true) /\ S.Mb W W') : Calls Tryz.prog 4 #[y.w, x.w] w fun r W => r = .returned (.bool true) /\ S.Mb w W := by
  refine law_prints n n n2 y x w hL hx hG (fun h1 => wln_few (dfw_ok h1 hL) (dfw_len h1 hL) (by omega)) (fun h2 => wln_few (n := nd n2 x) (wXd_ok hx h2) ?_ (by omega)) hbeg
  have := wB_len hx h2
  rw [wX1]; omega
theorem laid_tail {P : Program} {x : String × DataW Unit} {r : List (String × DataW Unit)} {w : World} (h : laidMet P (x :: r) w) : laidMet P r w := by
  obtain ⟨ps, ⟨g, t, cs, fuel, p, q, _, _, _, _, hr, rfl⟩, hn, hz⟩ := h
  exact ⟨q, hr, (List.nodup_append.1 hn).2.1, fun b off hb => hz b off (List.mem_append_right _ hb)⟩
def strD (ss : List ByteArray) : DataW Unit := .slice (ss.map fun s => .lit (.string s.data.toList)) []
set_option maxRecDepth 100000 in
theorem strs_of {W : World} {name : String} {rest : List (String × DataW Unit)} {g t : Nat} (ss : List ByteArray) (hne : 0 < ss.length) (hg : Tryz.prog.globalNamed name = some g) (hty : (Tryz.prog.globals[g]?).map (·.type) = some t) (ht : Tryz.prog.underlying t = some (.slice 9)) (_ : Tryz.prog.cellsOf t = 1)
    (h : laidMet Tryz.prog ((name, strD ss) :: rest) W) : ∃ b o c, W.cell? ⟨g, 0, none⟩ = some (.slice (some ⟨b, o, none⟩) ss.length c) /\ Lies W b o (ss.map Value.string) := by
  obtain ⟨ps, ⟨g', t', cs, fuel, p, q, hg', ht', hvar, hd, _, _⟩, _⟩ := h
  obtain rfl := Option.some.inj (hg.symm.trans hg')
  obtain rfl := Option.some.inj (hty.symm.trans ht')
  have hc := World.var?_cell hg hvar 0
  rcases DataW.trod_slice ht hd with ⟨hcs, hx⟩ | ⟨a, len, cap, elems, rest', k, rfl, hcs, hx, hlc, hcm, hlen1, hlen2, hel, _, _⟩
  · exfalso
    unfold strD at hx
    simp at hx
  · unfold strD at hx
    simp only [Prod.mk.injEq, DataW.slice.injEq] at hx
    obtain ⟨⟨hx1, hx2⟩, _⟩ := hx
    have hlen : elems.length = ss.length := by have := congrArg List.length hx1; simpa using this.symm
    have key : ∀ i s, ss[i]? = some s -> W.cell? (a.add i) = some (.string s) := fun i s hs => by
      have hi : i < len := by have := (List.getElem?_eq_some_iff.1 hs).1; omega
      have h1 := hel i hi
      have h3 : elems[i]? = some (elems[i]'(by omega)) := List.getElem?_eq_getElem (by omega)
      rw [h3, cl_string, Nat.mul_one] at h1
      cases h2 : W.cells? 0 (a.add i) 1 with
      | none => rw [h2] at h1; cases h1
      | some cs' =>
        rw [h2] at h1
        obtain ⟨s', e1, e2, _⟩ := DataW.trod_string Tryz.underlying9 (show DataW.trod (fun _ => ()) Tryz.prog W 0 (fun _ => true) false k 9 cs' = some _ from h1)
        have h5 : (elems.map (·.1))[i]? = some (.lit (.string s'.data.toList)) := by rw [List.getElem?_map, h3, e2]; rfl
        rw [← hx1, List.getElem?_map, hs] at h5
        simp only [Option.map_some, Option.some.injEq, DataW.lit.injEq, Lit.string.injEq] at h5
        have h6 : s' = s := by
          obtain ⟨⟨l'⟩⟩ := s'
          obtain ⟨⟨l⟩⟩ := s
          simp at h5
          rw [h5]
        have h7 := (World.cells?_some h2).2.2 0 (by omega)
        rw [e1, h6] at h7
        exact h7
    obtain ⟨b, o, spot⟩ := a
    have hs : spot = none := by
      obtain ⟨s, hs⟩ : ∃ s, ss[0]? = some s := ⟨_, List.getElem?_eq_getElem hne⟩
      have := World.cell?_spot (key 0 s hs)
      simpa [Addr.add] using this
    subst hs
    refine ⟨b, o, cap, ?_, fun j u hj => ?_⟩
    · rw [hc]
      have : cs[0]? = cs.toList[0]? := by simp
      rw [this, hcs, show len = ss.length by omega]; rfl
    · rw [List.getElem?_map, Option.map_eq_some_iff] at hj
      obtain ⟨s, hs, rfl⟩ := hj
      have := key j s hs
      have e : Addr.add ⟨b, o, none⟩ j = ⟨b, o + j, none⟩ := by
        unfold Addr.add; split
        · rename_i h0; subst h0; rfl
        · rfl
      rw [e] at this; exact this
set_option maxRecDepth 100000 in
theorem tg_of {W : World} (h : laidMetH Tryz.prog Rows.grammarPrintsUptoRow.laid W) : TG W := by
  have h1 : laidMet Tryz.prog [("math/bits.deBruijn32tab", Rows.laid_math_bits_deBruijn32tab), ("math/bits.deBruijn64tab", Rows.laid_math_bits_deBruijn64tab), ("internal/strconv.uint64pow10", Lib.tabData .u64 Lib.pow10Tab), ("unicode/utf8.acceptRanges", Rows.laid_unicode_utf8_acceptRanges), ("excise/grammar.operators", strD opw), ("excise/grammar.policies", strD plw), ("unicode/utf8.first", Rows.laid_unicode_utf8_first)] W := h
  have h2 := laid_tail (laid_tail h1)
  have h3 := laid_tail (laid_tail h2)
  exact ⟨strs_of (g := 0) (t := 61) plw (by decide) (by kernel_rfl) (by kernel_rfl) Tryz.underlying61 (by kernel_rfl) (laid_tail h3), strs_of (g := 1) (t := 61) opw (by decide) (by kernel_rfl) (by kernel_rfl) Tryz.underlying61 (by kernel_rfl) h3, Lib.tabIs_of_head (g := 3) (n := 20) (e := 22) (by kernel_rfl) rfl (by kernel_rfl) (by kernel_rfl) (by kernel_rfl) (by kernel_rfl) h2⟩
end Go.Proofs.YtpabcmaeaiaknaaGreatDoor

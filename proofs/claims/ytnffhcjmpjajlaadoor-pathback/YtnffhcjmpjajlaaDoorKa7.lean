/-
  A part of the proof.
-/
import Derived.Test.YtnffhcjmpjajlaaDoorKa6
import Derived.Test.YtnffhcjmpjajlaaDoorKa4
import Derived.Test.YtnffhcjmpjajlaaDoorKa3
import Derived.Test.YtnffhcjmpjajlaaDoorKa2
import Derived.Test.YtnffhcjmpjajlaaDoorKa1
import Derived.RegionTactic
import Derived.Test.YtnffhcjmpjajlaaDoorProg
import Derived.WalkKit
import Derived.WalkSpells
import Derived.Handy
import Derived.BigQuiet
import Derived.Deep.RegionHeld3
import Derived.Deep.MidRow
import Derived.BigCall
import Derived.ChangeKeysEq
import Derived.Shelf.Small.Bits
import Derived.Shelf.Strconv.Itoa0
import Derived.Shelf.Bits.Mul64
import Derived.Deep.CutRange
import Derived.Deep.CutBlock
import Derived.ScopeJumps
import Derived.WalkMore
import Derived.Laws.StructEq
import Derived.Lib.CutLaws
import Derived.Maps.OwnSet
import Derived.WalkArith
import Derived.StringKeys
import Derived.ProofKit
import Derived.OpenShut
import Derived.ChangeArms
import Derived.Deep.Slices
import Derived.ReadAgain
import Derived.WideKeyArgs
import Derived.Maps.AppendAt
import Derived.Shelf.Strconv.Itoa4
import Derived.Lib.IndexBytes
namespace Go.Proofs.YtnffhcjmpjajlaaDoor
open Go.RowKit D
def ic (i : Int) : List Value := [.int .i64 i]
def chN (l : List S5) : Nat → Int → List Int → List Int
 | 0, _, acc => acc
 | n + 1, z, acc => if z = 0 then acc else chN l n (prA l z.toNat) (z :: acc)
def chn (l : List S5) (z : Int) : List Int := chN l z.toNat z []
theorem chN_fuel {l : List S5} (hs : snd l = true) : ∀ (n m : Nat) (z : Int) (acc : List Int), 0 ≤ z → z < (l.length : Int) → z.toNat ≤ n → z.toNat ≤ m → chN l n z acc = chN l m z acc
 | 0, 0, _, _, _, _, _, _ => rfl
 | 0, m + 1, z, acc, h0, _, h1, _ => by rw [chN, chN, if_pos (by omega)]
 | n + 1, 0, z, acc, h0, _, _, h1 => by rw [chN, chN, if_pos (by omega)]
 | n + 1, m + 1, z, acc, h0, hz, h1, h2 => by
  rw [chN, chN]
  split
  ·rfl
  next e =>
   obtain ⟨y, hy⟩ := get_of_lt (show z.toNat < l.length by omega)
   obtain ⟨_, _, a, b, _⟩ := pr_at hs hy (by omega)
   rw [prA_at hy]
   exact chN_fuel hs n m _ _ a (by omega) (by omega) (by omega)
theorem ch_up {l : List S5} (hs : snd l = true) {z : Int} {acc : List Int} {y : S5} (h0 : 0 ≤ z) (hy : l[z.toNat]? = some y) (e : ¬ z = 0) : chN l z.toNat z acc = chN l y.pr.toNat y.pr (z :: acc) ∧ 0 ≤ y.pr ∧ y.pr < z := by
 have hlt := lt_of_get hy
 obtain ⟨_, _, a, b, _⟩ := pr_at hs hy (by omega)
 refine ⟨?_, a, by omega⟩
 obtain ⟨k, hk⟩ : ∃ k, z.toNat = k + 1 := ⟨z.toNat - 1, by omega⟩
 have hp := prA_at hy
 rw [hk] at hp
 rw [hk, chN, if_neg e, hk, hp]
 exact chN_fuel hs _ _ _ _ a (by omega) (by omega) (by omega)
end Go.Proofs.YtnffhcjmpjajlaaDoor

namespace Go.Proofs
open Go.Shelf
def Tryd.laysM173_ren : Go.Shelf.Ren := ⟨fun | 173 => 35 | 246 => 52 | 283 => 66 | 284 => 67 | 285 => 68 | 286 => 69 | 129 => 81 | 317 => 80 | 318 => 82 | 319 => 83 | 320 => 84 | 337 => 91 | 338 => 92 | n => n, fun | 2 => 2 | 3 => 3 | 9 => 9 | 4 => 4 | 171 => 126 | 0 => 0 | 53 => 68 | 37 => 129 | 5 => 5 | 173 => 130 | 212 => 140 | 51 => 141 | 20 => 20 | 213 => 142 | 46 => 144 | 232 => 152 | 233 => 153 | n => n, fun | 17 => 0 | 18 => 1 | 19 => 2 | n => n⟩
theorem Tryd.laysM173 : Go.Proofs.LaysM.n173 Tryd.prog Tryd.laysM173_ren := {
  mixed := by kernel_rfl
  f129 := Tryd.func81.trans (congrArg some (by kernel_rfl))
  f173 := Tryd.func35.trans (congrArg some (by kernel_rfl))
  f246 := Tryd.func52.trans (congrArg some (by kernel_rfl))
  f283 := Tryd.func66.trans (congrArg some (by kernel_rfl))
  f284 := Tryd.func67.trans (congrArg some (by kernel_rfl))
  f285 := Tryd.func68.trans (congrArg some (by kernel_rfl))
  f286 := Tryd.func69.trans (congrArg some (by kernel_rfl))
  f317 := Tryd.func80.trans (congrArg some (by kernel_rfl))
  f318 := Tryd.func82.trans (congrArg some (by kernel_rfl))
  f319 := Tryd.func83.trans (congrArg some (by kernel_rfl))
  f320 := Tryd.func84.trans (congrArg some (by kernel_rfl))
  f337 := Tryd.func91.trans (congrArg some (by kernel_rfl))
  f338 := Tryd.func92.trans (congrArg some (by kernel_rfl))
  t0 := Tryd.underlying0
  a0 := Tryd.isAgg0
  z0 := Tryd.sizeOf0
  v0 := Tryd.zeroValue0
  t2 := Tryd.underlying2
  a2 := Tryd.isAgg2
  z2 := Tryd.sizeOf2
  v2 := Tryd.zeroValue2
  t3 := Tryd.underlying3
  a3 := Tryd.isAgg3
  z3 := Tryd.sizeOf3
  v3 := Tryd.zeroValue3
  t4 := Tryd.underlying4
  a4 := Tryd.isAgg4
  z4 := Tryd.sizeOf4
  v4 := Tryd.zeroValue4
  t5 := Tryd.underlying5
  a5 := Tryd.isAgg5
  z5 := Tryd.sizeOf5
  v5 := Tryd.zeroValue5
  t9 := Tryd.underlying9
  a9 := Tryd.isAgg9
  z9 := Tryd.sizeOf9
  v9 := Tryd.zeroValue9
  t20 := Tryd.underlying20
  a20 := Tryd.isAgg20
  z20 := Tryd.sizeOf20
  v20 := Tryd.zeroValue20
  t37 := Tryd.underlying129
  a37 := Tryd.isAgg129
  z37 := Tryd.sizeOf129
  v37 := Tryd.zeroValue129
  t46 := Tryd.underlying144
  a46 := Tryd.isAgg144
  z46 := Tryd.sizeOf144
  v46 := Tryd.zeroValue144
  t51 := Tryd.underlying141
  a51 := Tryd.isAgg141
  z51 := Tryd.sizeOf141
  v51 := Tryd.zeroValue141
  t53 := Tryd.underlying68
  a53 := Tryd.isAgg68
  z53 := Tryd.sizeOf68
  v53 := Tryd.zeroValue68
  t171 := Tryd.underlying126
  a171 := Tryd.isAgg126
  z171 := Tryd.sizeOf126
  v171 := Tryd.zeroValue126
  t173 := Tryd.underlying130
  a173 := Tryd.isAgg130
  z173 := Tryd.sizeOf130
  v173 := Tryd.zeroValue130
  t212 := Tryd.underlying140
  a212 := Tryd.isAgg140
  z212 := Tryd.sizeOf140
  v212 := Tryd.zeroValue140
  t213 := Tryd.underlying142
  a213 := Tryd.isAgg142
  z213 := Tryd.sizeOf142
  t232 := Tryd.underlying152
  a232 := Tryd.isAgg152
  z232 := Tryd.sizeOf152
  v232 := Tryd.zeroValue152
  t233 := Tryd.underlying153
  a233 := Tryd.isAgg153
  z233 := Tryd.sizeOf153
  v233 := Tryd.zeroValue153
  g17 := by kernel_rfl
  g18 := by kernel_rfl
  g19 := by kernel_rfl
  i0 := by kernel_rfl
  i2 := by kernel_rfl
  i3 := by kernel_rfl
  i4 := by kernel_rfl
  i5 := by kernel_rfl
  i9 := by kernel_rfl
  i20 := by kernel_rfl
  i37 := by kernel_rfl
  i46 := by kernel_rfl
  i51 := by kernel_rfl
  i53 := by kernel_rfl
  i171 := by kernel_rfl
  i173 := by kernel_rfl
  i212 := by kernel_rfl
  i232 := by kernel_rfl
  i233 := by kernel_rfl
  m17 := by kernel_rfl
  m18 := by kernel_rfl
  m19 := by kernel_rfl }
open Go.RowKit Go.Sort Go.Lib in theorem Tryd.strconv_FormatInt_10 (n : Int) (h0 : -9223372036854775808 ≤ n) (h1 : n ≤ 9223372036854775807) (w : World) (htab : Lib.TabIs Tryd.prog w "internal/strconv.uint64pow10" .u64 Lib.pow10Tab) :
    Calls Tryd.prog 35 #[.int .i64 n, .int .i64 10] w fun e w' => e = .returned (.string ⟨(Lib.itoa n).toArray⟩) ∧ ∃ k os, w' = grow (w.drewN k) os := Any.strconv_FormatInt_10 Tryd.laysM173 n h0 h1 w htab
end Go.Proofs
namespace Go.Proofs.YtnffhcjmpjajlaaDoor.V
open Go.RowKit
def Mw (w w' : World) : Prop := Below w.heap.size w w'
theorem Mw.refl (w : World) : Mw w w := Below.refl _ _
theorem Mw.trans {a b c : World} (h : Mw a b) (k : Mw b c) : Mw a c := Below.trans h (Below.mono k (Below.size h))
theorem Mw.drew {a b : World} (h : Mw a b) : Mw a b.drew := Below.drew h
theorem Mw.alloc {a b : World} (h : Mw a b) (c : Array Value) (t : TypeId) : Mw a (b.alloc (.cells c t)) := Below.alloc h (Below.size h) _
theorem Mw.setCell {a b : World} (h : Mw a b) {p : Addr} (hp : a.heap.size ≤ p.block) (v : Value) : Mw a (b.setCell p v) := Below.setCell h hp v
theorem Mw.size {a b : World} (h : Mw a b) : a.heap.size ≤ b.heap.size := Below.size h
theorem Mw.cell {a b : World} (h : Mw a b) : ∀ k o, k < a.heap.size → b.cell? ⟨k, o, none⟩ = a.cell? ⟨k, o, none⟩ := fun k o hk => Below.cell h (p := ⟨k, o, none⟩) hk
theorem fzMw {w w' : World} {k : Nat} (h : Fz w k) (m : Mw w w') (hk : k < w.heap.size) : Fz w' k := fun o => (Below.frozen m (p := ⟨k, o, none⟩) hk).trans (h o)
theorem wk {P : Program} {g : Nat} {args : Array Value} {w : World} {v : Value} (h : Calls P g args w fun e w' => e = .returned v ∧ Mo w w') : Calls P g args w fun e w' => e = .returned v ∧ Mw w w' := h.mono fun _ _ ⟨a, b⟩ => ⟨a, b.1⟩
abbrev pt (k o : Nat) : Value := .pointer (some ⟨k, o, none⟩)
def At (w : World) (k : Nat) (vs : List Value) : Prop := w.rangeAt k 0 vs ∧ Fz w k ∧ k < w.heap.size
theorem At.lt {w : World} {k : Nat} {vs : List Value} (h : At w k vs) : k < w.heap.size := h.2.2
theorem At.mo {w w' : World} {k : Nat} {vs : List Value} (h : At w k vs) (m : Mw w w') : At w' k vs :=
 ⟨fun j v hv => (m.cell k _ h.2.2).trans (h.1 j v hv), fzMw h.2.1 m h.2.2, Nat.lt_of_lt_of_le h.2.2 m.size⟩
theorem At.cell {w : World} {k : Nat} {vs : List Value} (h : At w k vs) {j : Nat} {v : Value} (hv : vs[j]? = some v) : w.cell? ⟨k, j, none⟩ = some v := by
 have := h.1 j v hv; simpa using this
theorem At.there {w : World} {k : Nat} {vs : List Value} (h : At w k vs) (o n : Nat) (hn : o + n ≤ vs.length) : w.there k o n := fun j hj => by
 refine ⟨?_, h.2.1 _⟩
 rw [h.cell (j := o + j) (v := vs[o + j]'(by omega)) (List.getElem?_eq_getElem (by omega))]; rfl
theorem At.new (w : World) (cs : Array Value) (t : TypeId) : At (w.alloc (.cells cs t)) w.heap.size cs.toList := by
 refine ⟨fun j v hv => ?_, fun o => ?_, by simp⟩
 ·simp at hv; simp [go_sem, hv]
 ·simp [go_sem]
theorem sz_setCells (k : Nat) : ∀ (l : List Value) (o : Nat) (w : World), (w.setCells k o l).heap.size = w.heap.size
 | [], _, _ => rfl
 | v :: r, o, w => by rw [World.setCells, sz_setCells k r]; simp [World.setCell]
theorem Mw.setCs {a : World} {k : Nat} (hk : a.heap.size ≤ k) : ∀ (l : List Value) (o : Nat) (b : World), Mw a b → Mw a (b.setCells k o l)
 | [], _, _, h => h
 | v :: r, o, b, h => by rw [World.setCells]; exact Mw.setCs hk r (o + 1) _ (h.setCell hk v)
structure St (k : Nat) (w w' : World) : Prop where
 size : w'.heap.size = w.heap.size
 other : ∀ j vs, j ≠ k → At w j vs → At w' j vs
 mo : ∀ a : World, a.heap.size ≤ k → Mw a w → Mw a w'
theorem St.mk' (w : World) (k o : Nat) (l : List Value) : St k w (w.setCells k o l) where
 size := sz_setCells k l o w
 other := fun j vs hj h => ⟨World.rangeAt_setCells_apart h.1 k o l (Or.inl hj), fun o' => by rw [World.frozen?_setCells]; exact h.2.1 o', by rw [sz_setCells]; exact h.2.2⟩
 mo := fun a ha h => Mw.setCs ha l o w h
theorem At.set {w : World} {k : Nat} {us : List Value} (h : At w k us) (o : Nat) (l : List Value) (hl : o + l.length ≤ us.length) (vs : List Value) (hvs : vs = us.take o ++ l ++ us.drop (o + l.length)) : At (w.setCells k o l) k vs := by
 subst hvs
 refine ⟨fun j v hv => ?_, fun o' => by rw [World.frozen?_setCells]; exact h.2.1 o', by rw [sz_setCells]; exact h.2.2⟩
 rw [Nat.zero_add]
 by_cases h1 : j < o
 ·rw [World.cell?_setCells_out k l o w _ (fun _ _ => Or.inl h1)]
  refine h.cell ?_
  rw [List.append_assoc, List.getElem?_append_left (by simp; omega), List.getElem?_take_of_lt h1] at hv
  exact hv
 ·by_cases h2 : j < o + l.length
  ·rw [List.append_assoc, List.getElem?_append_right (by simp; omega), List.getElem?_append_left (by simp; omega)] at hv
   have := World.cell?_setCells_in k l o w (fun i hi => (h.there o l.length hl i hi).1) (j - o) (by omega)
   rw [show o + (j - o) = j by omega] at this
   rw [this, ← hv]
   rw [List.length_take, show min o us.length = o by omega, List.getElem?_eq_getElem (by omega)]
  ·rw [World.cell?_setCells_out k l o w _ (fun _ _ => Or.inr (by show o + l.length ≤ j; omega))]
   refine h.cell ?_
   rw [List.getElem?_append_right (by simp; omega), List.getElem?_drop] at hv
   rw [← hv]
   congr 1
   simp
   omega
section runs
variable {P : Program} {w : World} {k : Nat} {vs : List Value}
theorem run_row (h : At w k vs) (ty : TypeId) (o n : Nat) (us : List Value) (hus : us = (vs.drop o).take n) {d : TypeDesc} (hu : P.underlying ty = some d) (hd : d.isRow = true) (hi : (P.info? ty).map (·.size) = some us.length) :
  (Instr.loadAt ty (pt k o)).run P w = .ok (.agg us.toArray) w :=
 run_loadAt_mid w k o ty us d (fun j v hv => by
  subst hus
  refine h.cell ?_
  rw [List.getElem?_take] at hv
  split at hv
  ·rw [List.getElem?_drop] at hv; exact hv
  ·cases hv) hu hd hi
theorem run_one (h : At w k vs) (ty : TypeId) (o : Nat) {v : Value} (hv : vs[o]? = some v) {d : TypeDesc} (hu : P.underlying ty = some d) (hd : d.isRow = false) :
  (Instr.loadAt ty (pt k o)).run P w = .ok v w := by
 have hagg : (isAgg ty).run P w = .ok false w := by
  unfold isAgg
  rw [Sem.run_bind, run_underlying hu w]
  cases d <;> simp_all
 have hc := h.cell hv
 simp [Instr.loadAt, Instr.sureAddr, loadVar, Sem.run_bind, hagg, hc]
theorem run_put (h : At w k vs) (ty : TypeId) (o : Nat) (us : Array Value) (hl : o + us.size ≤ vs.length) (hi : (P.info? ty).map (·.size) = some us.size) (h1 : us.all (·.oneCell') = true) :
  (Instr.storeAt ty (pt k o) (.agg us)).run P w = .ok () (w.setCells k o us.toList) :=
 run_storeAt_mid w k o ty us (h.there o us.size hl) hi h1
theorem run_put1 (h : At w k vs) (ty : TypeId) (o : Nat) (v : Value) (hl : o < vs.length) (hi : (P.info? ty).map (·.size) = some 1) (hv : v.cells = #[v]) (h1 : v.oneCell' = true) :
  (Instr.storeAt ty (pt k o) v).run P w = .ok () (w.setCells k o [v]) := by
 have ht := h.there o 1 (by omega)
 have := run_storeCells_cells (P := P) k o [v] 0 w (fun j hj => by simpa using (ht j (by simpa using hj)).1) (fun j hj => by simpa using (ht j (by simpa using hj)).2)
  (fun u hu => by simp at hu; subst hu; exact h1)
 cases hq : P.info? ty with
 | none => simp [hq] at hi
 | some i =>
  have hs : i.size = 1 := by simpa [hq] using hi
  simp only [Nat.add_zero] at this
  simp [Instr.storeAt, Instr.sureAddr, storeVar, sizeOf, typeInfo, hq, hv, hs, this]
end runs
/-! Frames as lists of what was put where, the last first. -/
theorem blt_f {t n : Nat} (h : ¬ t < n) : Nat.blt t n = false := by
 cases e : Nat.blt t n with
 | false => rfl
 | true => rw [Nat.blt_eq] at e; exact absurd e h
theorem beq_f {d j : Nat} (h : ¬ d = j) : Nat.beq d j = false := by
 cases e : Nat.beq d j with
 | false => rfl
 | true => exact absurd (Nat.eq_of_beq_eq_true e) h
def look : List (Nat × Value) → Nat → Value
 | [], _ => undef
 | (d, v) :: l, t => bif Nat.beq d t then v else look l t
def fr (n : Nat) (l : List (Nat × Value)) : Act := { tmps := Array.ofFn (n := n) fun i => look l i, defers := [] }
def ext (l : List (Nat × Value)) : Option Tmp → Value → List (Nat × Value)
 | some d, v => (d, v) :: l
 | none, _ => l
def evl (n : Nat) (l : List (Nat × Value)) : Operand → Value
 | .tmp t => bif Nat.blt t n then look l t else undef
 | .const v => v
 | .global g => .pointer (some ⟨g, 0, none⟩)
 | .func f => .func (.func f) #[] #[]
theorem fr_getD (n : Nat) (l : List (Nat × Value)) (t : Nat) : (fr n l).tmps.getD t undef = bif Nat.blt t n then look l t else undef := by
 unfold fr
 by_cases h : t < n
 ·have e : Nat.blt t n = true := by simpa using h
  simp [h, e]
 ·have e := blt_f h
  simp [h, e]
theorem fr_eval (n : Nat) (l : List (Nat × Value)) : (fr n l).eval = evl n l := by
 funext x
 cases x with
 | tmp t => exact fr_getD n l t
 | _ => rfl
theorem fr_put (n : Nat) (l : List (Nat × Value)) (d : Option Tmp) (v : Value) : (fr n l).put d v = fr n (ext l d v) := by
 cases d with
 | none => rfl
 | some d =>
  simp only [fr, Act.put, ext]
  congr 1
  apply Array.ext
  ·simp
  ·intro j h1 h2
   simp at h1
   by_cases e : d = j
   ·subst e; simp [look]
   ·have := beq_f e
    rw [Array.getElem_setIfInBounds_ne (by simpa using h1) e]
    simp [look, this]
def wnt (n : Nat) (l : List (Nat × Value)) (ops : Array Oper) (o : Oper) : Bool :=
 match o.guard with
 | none => true
 | some (j, want) => (match (ops[j]?).bind (·.dst) with
  | some t => (bif Nat.blt t n then (match look l t with | .bool b => some b | _ => none) else none)
  | none => none) == some want
theorem fr_wanted (n : Nat) (l : List (Nat × Value)) (ops : Array Oper) (o : Oper) : Region.wanted o (yielded ops (fr n l).tmps) = wnt n l ops o := by
 unfold Region.wanted wnt
 cases o.guard with
 | none => rfl
 | some g =>
  obtain ⟨j, want⟩ := g
  simp only [yielded]
  cases (ops[j]?).bind (·.dst) with
  | none => rfl
  | some t =>
   by_cases h : t < n
   ·have e : Nat.blt t n = true := by simpa using h
    simp [fr, h, e]
    cases look l t <;> rfl
   ·have e := blt_f h
    simp [fr, h, e]
def argl : Nat → List Value → List (Nat × Value)
 | _, [] => []
 | i, v :: r => (i, v) :: argl (i + 1) r
theorem look_argl : ∀ (vs : List Value) (i t : Nat), look (argl i vs) t = if i ≤ t then (vs[t - i]?).getD undef else undef
 | [], i, t => by simp [argl, look]
 | v :: r, i, t => by
  have ih := look_argl r (i + 1) t
  by_cases e : i = t
  ·subst e; simp [argl, look]
  ·have hb := beq_f e
   simp only [argl, look, hb, cond_false, ih]
   by_cases h : i + 1 ≤ t
   ·rw [if_pos h, if_pos (by omega), show t - i = (t - (i + 1)) + 1 by omega, List.getElem?_cons_succ]
   ·rw [if_neg h, if_neg (by omega)]
theorem fr_args (n : Nat) (args : Array Value) (h : args.size ≤ n) : ({ tmps := args ++ Array.replicate (n - args.size) undef, defers := [] } : Act) = fr n (argl 0 args.toList) := by
 unfold fr
 congr 1
 apply Array.ext
 ·simp; omega
 ·intro j h1 h2
  simp at h2
  simp only [Array.getElem_ofFn, look_argl, Nat.zero_le, if_true, Nat.sub_zero]
  by_cases hj : j < args.size
  ·rw [Array.getElem_append_left hj]; simp [hj]
  ·rw [Array.getElem_append_right (by omega)]; simp [Nat.le_of_not_lt hj]
theorem f_enter {P : Program} {f : FuncId} {fn : Func} {c : Code} {args : Array Value} {w : World} {R : Ending → World → Prop} (n : Nat) (hf : P.funcs[f]? = some fn) (hn : fn.ntmps = n) (hb : fn.body = some c)
  (ha : Nat.ble args.size n = true) (h : c.wp P (bodyPost P fn R) (fr n (argl 0 args.toList)) w) : Calls P f args w R := by
 refine calls_of_wp hf hb ?_
 rw [hn, fr_args n args (by simpa using ha)]
 exact h
def resv (n : Nat) (l : List (Nat × Value)) (P : Program) (w : World) (v : Value) : ResultVar → Prop
 | .tmp t => (bif Nat.blt t n then look l t else undef) = v
 | .cell a t => ∃ k : Nat, (bif Nat.blt a n then look l a else undef) = pt k 0 ∧ (Instr.loadAt t (pt k 0)).run P w = .ok v w
theorem resv_tmp {n : Nat} {l : List (Nat × Value)} {P : Program} {w : World} {v : Value} {t : Tmp} (h : resv n l P w v (.tmp t)) : (fr n l).tmps[t]?.getD undef = v := by
 have := fr_getD n l t
 simp only [Array.getD_eq_getD_getElem?] at this
 rw [this]; exact h
theorem resv_cell {n : Nat} {l : List (Nat × Value)} {P : Program} {w : World} {v : Value} {a : Tmp} {t : TypeId} (h : resv n l P w v (.cell a t)) : ∃ k : Nat, (fr n l).tmps[a]?.getD undef = pt k 0 ∧ (loadVar t ⟨k, 0, none⟩).run P w = .ok v w := by
 obtain ⟨k, h1, h2⟩ := h
 refine ⟨k, ?_, by simpa only [Instr.loadAt, Instr.sureAddr, Sem.run_bind, Sem.run_pure, Result.andThen_ok] using h2⟩
 have := fr_getD n l a
 simp only [Array.getD_eq_getD_getElem?] at this
 rw [this]; exact h1
theorem Each.mono {F G : Nat → Oper → Prop} (h : ∀ i o, F i o → G i o) : ∀ (l : List Oper) (n : Nat), Each F n l → Each G n l
 | [], _, _ => trivial
 | _ :: l, n, hh => ⟨h _ _ hh.1, Each.mono h l (n + 1) hh.2⟩
/-! The laws of the steps. -/
section steps
variable {P : Program} {o : Oper} {n : Nat} {l : List (Nat × Value)} {w : World} {ops : Array Oper} {rest : List Oper} {Q : Exit → Act → World → Prop} {K : Act → World → Prop}
theorem o_val {w' : World} (v : Value) (h : (execOp (evl n l) o).run P w = .ok (.value v) w') (hk : K (fr n (ext l o.dst v)) w') : o.wp P (fr n l) w K Q := by
 unfold Oper.wp; rw [fr_eval, h, Oper.upon_value, fr_put]; exact hk
theorem o_load (ty : TypeId) (x : Operand) (p v : Value) (ho : o.op = .load ty x) (hx : evl n l x = p) (h : (Instr.loadAt ty p).run P w = .ok v w) (hk : K (fr n (ext l o.dst v)) w) : o.wp P (fr n l) w K Q := by
 refine o_val v ?_ hk
 subst hx
 simp [execOp, ho, h]
theorem o_store (ty : TypeId) (x y : Operand) (p v : Value) {w' : World} (ho : o.op = .store ty x y) (hd : o.dst = none) (hx : evl n l x = p) (hy : evl n l y = v) (h : (Instr.storeAt ty p v).run P w = .ok () w') (hk : K (fr n l) w') : o.wp P (fr n l) w K Q := by
 subst hx hy
 have e : (execOp (evl n l) o).run P w = .ok .skip w' := by simp [execOp, ho, h]
 unfold Oper.wp; rw [fr_eval, e, Oper.upon_skip, hd]; exact hk
theorem o_alloc (ty : TypeId) (zs : Array Value) (ho : o.op = .alloc ty) (h : ∀ w, (Instr.alloc ty true (.tuple #[])).run P w = .ok (pt w.heap.size 0) (w.alloc (.cells zs ty)))
  (hk : ∀ k w', w.heap.size = k → w'.heap.size = k + 1 → Mw w w' → At w' k zs.toList → K (fr n (ext l o.dst (pt k 0))) w') : o.wp P (fr n l) w K Q := by
 refine o_val (pt w.heap.size 0) (w' := w.alloc (.cells zs ty)) ?_ (hk _ _ rfl (by simp) ((Mw.refl _).alloc _ _) (At.new w zs ty))
 simp [execOp, ho, h]
theorem o_box (ty : TypeId) (x : Operand) (v : Value) (cs : Array Value) (ho : o.op = .box ty x) (hx : evl n l x = v) (h : ∀ w, (Instr.box ty v).run P w = .ok (pt w.heap.size 0) (w.alloc (.cells cs ty)))
  (hk : ∀ k w', w.heap.size = k → w'.heap.size = k + 1 → Mw w w' → At w' k cs.toList → K (fr n (ext l o.dst (pt k 0))) w') : o.wp P (fr n l) w K Q := by
 subst hx
 refine o_val (pt w.heap.size 0) (w' := w.alloc (.cells cs ty)) ?_ (hk _ _ rfl (by simp) ((Mw.refl _).alloc _ _) (At.new w cs ty))
 simp [execOp, ho, h]
theorem o_call (g : FuncId) (xs : List Operand) (ats : Array TypeId) (args : List Value) (v : Value) (ho : o.op = .call { callee := .value (.func g), args := xs.toArray, argTypes := ats }) (hx : xs.map (evl n l) = args)
  (h : ∀ args w, (callFunc g args).run P w = .ok (.enter g args) w)
  (hc : Calls P g args.toArray w fun e w' => e = .returned v ∧ Mw w w') (hk : ∀ w', Mw w w' → K (fr n (ext l o.dst v)) w') : o.wp P (fr n l) w K Q := by
 have e : (execOp (evl n l) o).run P w = .ok (.enter g args.toArray) w := by
  obtain ⟨dst, op, ty, pos, after, guard⟩ := o
  simp only at ho
  subst ho hx
  have e2 := execOp_call_go (fr n l) dst g xs.toArray ats ty pos after guard
  rw [fr_eval] at e2
  rw [e2, h]
  simp
 unfold Oper.wp; rw [fr_eval, e, Oper.upon_enter]
 refine hc.mono ?_
 rintro e w' ⟨rfl, h⟩
 show K _ _
 rw [fr_put]
 exact hk w' h
theorem o_st (ty : TypeId) (x y : Operand) (k off : Nat) (us : Array Value) (vs vs' : List Value) (hA : At w k vs) (ho : o.op = .store ty x y) (hd : o.dst = none) (hx : evl n l x = pt k off) (hy : evl n l y = .agg us)
  (hl : Nat.ble (off + us.size) vs.length = true) (hi : (P.info? ty).map (·.size) = some us.size) (h1 : us.toList.all (·.oneCell') = true) (hvs : vs' = vs.take off ++ us.toList ++ vs.drop (off + us.toList.length))
  (hk : ∀ w', St k w w' → At w' k vs' → K (fr n l) w') : o.wp P (fr n l) w K Q :=
 o_store ty x y _ _ ho hd hx hy (run_put hA ty off us (Nat.le_of_ble_eq_true hl) hi (by rw [← Array.all_toList]; exact h1)) (hk _ (St.mk' w k off us.toList) (hA.set off us.toList (by have := Nat.le_of_ble_eq_true hl; simpa using this) vs' hvs))
theorem o_st1 (ty : TypeId) (x y : Operand) (k off : Nat) (v : Value) (vs vs' : List Value) (hA : At w k vs) (ho : o.op = .store ty x y) (hd : o.dst = none) (hx : evl n l x = pt k off) (hy : evl n l y = v)
  (hl : Nat.blt off vs.length = true) (hi : (P.info? ty).map (·.size) = some 1) (hv : v.cells = #[v]) (h1 : v.oneCell' = true) (hvs : vs' = vs.take off ++ [v] ++ vs.drop (off + 1))
  (hk : ∀ w', St k w w' → At w' k vs' → K (fr n l) w') : o.wp P (fr n l) w K Q :=
 have hl' : off < vs.length := by rw [Nat.blt_eq] at hl; exact hl
 o_store ty x y _ _ ho hd hx hy (run_put1 hA ty off v hl' hi hv h1) (hk _ (St.mk' w k off [v]) (hA.set off [v] (by simp; omega) vs' hvs))
theorem l_step (hg : wnt n l ops o = true) (h : o.wp P (fr n l) w (wpList P ops Q rest) Q) : wpList P ops Q (o :: rest) (fr n l) w :=
 wpList_step fun K hK => by rw [fr_wanted, hg, if_pos rfl]; exact Oper.wp_mono (fun a w h => hK a w h) h
theorem l_skip (hg : wnt n l ops o = false) (h : wpList P ops Q rest (fr n (ext l o.dst undef)) w) : wpList P ops Q (o :: rest) (fr n l) w :=
 wpList_step fun K hK => by rw [fr_wanted, hg, fr_put]; exact hK _ _ h
theorem c_cond {c : Operand} {x y : Code} (t : Bool) (hc : evl n l c = .bool t) (h : (bif t then x else y).wp P Q (fr n l) w) : (Code.cond c x y).wp P Q (fr n l) w := by
 cases t
 ·exact wp_cond_false (by rw [fr_eval]; exact hc) h
 ·exact wp_cond_true (by rw [fr_eval]; exact hc) h
theorem c_ret1 {fn : Func} {R : Ending → World → Prop} (x : ResultVar) (v : Value) (hf : fn.results = #[x]) (h : resv n l P w v x) (hR : R (.returned v) w) : bodyPost P fn R .ret (fr n l) w := by
 refine bodyPost_ret (v := v) ?_ rfl hR
 cases x with
 | tmp t => have := resv_tmp h; simp [results, hf, this]
 | cell a t => obtain ⟨k, h1, h2⟩ := resv_cell h; simp [results, hf, h1, h2, asAddr]
theorem c_ret2 {fn : Func} {R : Ending → World → Prop} (x y : ResultVar) (v u : Value) (hf : fn.results = #[x, y]) (h : resv n l P w v x) (g : resv n l P w u y) (hR : R (.returned (.tuple #[v, u])) w) : bodyPost P fn R .ret (fr n l) w := by
 refine bodyPost_ret (v := .tuple #[v, u]) ?_ rfl hR
 cases x with
 | tmp t =>
  have h1 := resv_tmp h
  cases y with
  | tmp t => have g1 := resv_tmp g; simp [results, hf, h1, g1]
  | cell a t => obtain ⟨k, g1, g2⟩ := resv_cell g; simp [results, hf, h1, g1, g2, asAddr]
 | cell a t =>
  obtain ⟨k, h1, h2⟩ := resv_cell h
  cases y with
  | tmp t => have g1 := resv_tmp g; simp [results, hf, h1, h2, g1, asAddr]
  | cell a t => obtain ⟨k, g1, g2⟩ := resv_cell g; simp [results, hf, h1, h2, g1, g2, asAddr]
def asg (f : Nat → Value) : Nat → List Oper → List (Nat × Value) → List (Nat × Value)
 | _, [], l => l
 | i, o :: r, l => asg f (i + 1) r (ext l o.dst (f i))
theorem putAll_fr (f : Nat → Value) : ∀ (r : List Oper) (i : Nat) (l : List (Nat × Value)), putAll f i r (fr n l) = fr n (asg f i r l)
 | [], _, _ => rfl
 | o :: r, i, l => by simp only [putAll, asg, fr_put]; exact putAll_fr f r (i + 1) _
def depb (o : Oper) (j : Nat) : Bool := o.after.toList.any fun e => Region.binds .any e && Nat.beq e.on j
theorem li2 {a b c d : Value} (h : a = b) (k : c = d) : [a, c] = [b, d] := by rw [h, k]
theorem li3 {a b c d e f : Value} (h : a = b) (k : c = d) (m : e = f) : [a, c, e] = [b, d, f] := by rw [h, k, m]
end steps
end Go.Proofs.YtnffhcjmpjajlaaDoor.V


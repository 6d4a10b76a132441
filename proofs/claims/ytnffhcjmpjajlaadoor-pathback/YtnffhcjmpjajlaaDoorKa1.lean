/-
  A part of the proof.
-/
import Derived.RegionTactic
import Derived.Test.YtnffhcjmpjajlaaDoorProg
import Derived.WalkKit
import Derived.WalkSpells
import Derived.Handy
import Derived.BigQuiet
import Derived.Deep.RegionHeld3
import Derived.Deep.MidRow
import Derived.BigCall
namespace Go.Proofs.YtnffhcjmpjajlaaDoor
section
variable {P : Program} {ops : Array Oper} {Q : Exit → Act → World → Prop} {md : Region.Mode}
theorem count_set : ∀ (l : List Bool) (i : Nat), l[i]? = some false → (l.set i true).count false + 1 = l.count false
 | [], _, h => by cases h
 | b :: l, 0, h => by simp at h; subst h; simp
 | b :: l, i + 1, h => by
  have := count_set l i (by simpa using h)
  simp only [List.set_cons_succ, List.count_cons]
  omega
def edgesBack (md : Region.Mode) (ops : Array Oper) : Bool :=
 (List.range ops.size).all fun i => match ops[i]? with | some o => o.after.all (fun e => !Region.binds md e || decide (e.on < i)) | none => true
theorem edgesBack_spec (h : edgesBack md ops = true) {i : Nat} {o : Oper} (ho : ops[i]? = some o) : ∀ e ∈ o.after, Region.binds md e = true → e.on < i := by
 intro e he hb
 have h1 := List.all_eq_true.1 h i (List.mem_range.2 (Array.getElem?_eq_some_iff.1 ho).1)
 simp only [ho] at h1
 have h2 := Array.all_eq_true_iff_forall_mem.1 h1 e he
 simpa [hb] using h2
theorem all_listed (hb : edgesBack md ops = true) {listed : Array Bool} (hr : Region.ready md ops listed = []) : ∀ i, i < ops.size → listed.getD i true = true := by
 intro i
 induction i using Nat.strongRecOn with
 | ind i ih =>
  intro hi
  cases hl : listed.getD i true with
  | true => rfl
  | false =>
   have hm : i ∈ Region.ready md ops listed := mem_ready.2 ⟨hl, ops[i], by simp [hi], fun e he hbd => by
    have hlt := edgesBack_spec hb (i := i) (o := ops[i]) (by simp [hi]) e he hbd
    have h1 := ih e.on hlt (Nat.lt_trans hlt hi)
    have hsz : i < listed.size := by
     rcases Nat.lt_or_ge i listed.size with h' | h'
     ·exact h'
     ·simp [Array.getElem?_eq_none h'] at hl
    have : e.on < listed.size := Nat.lt_trans hlt hsz
    simpa [this] using h1⟩
   rw [hr] at hm; cases hm
def upd (f : Nat → Value) (i : Nat) (v : Value) : Nat → Value := fun j => if j = i then v else f j
def Each (F : Nat → Oper → Prop) : Nat → List Oper → Prop
 | _, [] => True
 | i, o :: l => F i o ∧ Each F (i + 1) l
theorem Each.spec {F : Nat → Oper → Prop} : ∀ (l : List Oper) (n : Nat), Each F n l → ∀ i o, l[i]? = some o → F (n + i) o
 | [], _, _, i, o, h => by cases h
 | x :: l, n, hh, 0, o, h => by simp at h; subst h; exact hh.1
 | x :: l, n, hh, i + 1, o, h => by
  have := Each.spec l (n + 1) hh.2 i o (by simpa using h)
  rwa [show n + (i + 1) = n + 1 + i by omega]
def putAll (f : Nat → Value) : Nat → List Oper → Act → Act
 | _, [], a => a
 | i, o :: l, a => putAll f (i + 1) l (a.put o.dst (f i))
theorem putAll_congr {f g : Nat → Value} : ∀ (l : List Oper) (n : Nat) (a : Act), (∀ j, n ≤ j → f j = g j) → putAll f n l a = putAll g n l a
 | [], _, _, _ => rfl
 | o :: l, n, a, h => by
  unfold putAll
  rw [h n (Nat.le_refl _)]
  exact putAll_congr l (n + 1) _ (fun j hj => h j (by omega))
def dstsApart : List Oper → Bool
 | [] => true
 | o :: l => (match o.dst with | none => true | some d => l.all fun x => x.dst != some d) && dstsApart l
theorem putAll_out (f : Nat → Value) (v : Value) (dst : Option Tmp) : ∀ (l : List Oper) (n : Nat) (a : Act), (∀ d, dst = some d → ∀ x ∈ l, x.dst ≠ some d) → (putAll f n l a).put dst v = putAll f n l (a.put dst v)
 | [], _, _, _ => rfl
 | o :: l, n, a, h => by
  unfold putAll
  rw [putAll_out f v dst l (n + 1) _ (fun d hd x hx => h d hd x (List.mem_cons_of_mem _ hx))]
  rw [Act.put_comm a (x := o.dst) (y := dst) (f n) v (fun d hd he => h d he o List.mem_cons_self hd)]
theorem put_twice (a : Act) (d : Option Tmp) (u v : Value) : (a.put d u).put d v = a.put d v := by
 cases d with
 | none => rfl
 | some d => simp [Act.put]
theorem putAll_put (v : Value) : ∀ (l : List Oper) (n : Nat) (f : Nat → Value) (a : Act), dstsApart l = true → ∀ i o, l[i]? = some o → (putAll f n l a).put o.dst v = putAll (upd f (n + i) v) n l a
 | [], _, _, _, _, i, o, h => by cases h
 | x :: l, n, f, a, hd, 0, o, h => by
  simp at h; subst h
  simp only [dstsApart, Bool.and_eq_true] at hd
  unfold putAll
  rw [putAll_out f v x.dst l (n + 1) _ (fun d hx y hy => by
   have h1 := hd.1
   rw [hx] at h1
   have := List.all_eq_true.1 h1 y hy
   simpa using this)]
  rw [put_twice]
  have e : upd f (n + 0) v n = v := by simp [upd]
  rw [e]
  exact putAll_congr l (n + 1) _ (fun j hj => by simp only [upd]; rw [if_neg (by omega)])
 | x :: l, n, f, a, hd, i + 1, o, h => by
  simp only [dstsApart, Bool.and_eq_true] at hd
  unfold putAll
  rw [putAll_put v l (n + 1) f _ hd.2 i o (by simpa using h)]
  have e : upd f (n + (i + 1)) v n = f n := by simp only [upd]; rw [if_neg (by omega)]
  rw [e, show n + 1 + i = n + (i + 1) by omega]
def slots (a : Act) (ops : Array Oper) : Nat → Value := fun i => match (ops[i]?).bind (·.dst) with | some d => a.tmps.getD d undef | none => undef
theorem put_self (a : Act) (d : Option Tmp) (v : Value) (h : ∀ t, d = some t → v = a.tmps.getD t undef) : a.put d v = a := by
 cases d with
 | none => rfl
 | some t =>
  have := h t rfl
  subst this
  obtain ⟨ts, ds⟩ := a
  simp only [Act.put]
  congr 1
  apply Array.ext
  ·simp
  ·intro j h1 h2
   by_cases e : t = j
   ·subst e; simp [h2]
   ·simp [Array.getElem_setIfInBounds_ne, e, h2]
theorem putAll_self (a : Act) : ∀ (l : List Oper) (n : Nat) (f : Nat → Value), (∀ i o, l[i]? = some o → ∀ t, o.dst = some t → f (n + i) = a.tmps.getD t undef) → putAll f n l a = a
 | [], _, _, _ => rfl
 | o :: l, n, f, h => by
  unfold putAll
  rw [put_self a o.dst (f n) (fun t ht => h 0 o rfl t ht)]
  exact putAll_self a l (n + 1) f (fun i x hx t ht => by
   have := h (i + 1) x (by simpa using hx) t ht
   rwa [show n + (i + 1) = n + 1 + i by omega] at this)
end
end Go.Proofs.YtnffhcjmpjajlaaDoor

namespace Go.Proofs.YtnffhcjmpjajlaaDoor
open Go.RowKit

def vl (a b c d : Int) : Int := a + 18446744073709551616 * b + 340282366920938463463374607431768211456 * c + 6277101735386680763835789423207666416102355444464034512896 * d
def l0 (n : Int) : Int := n % 18446744073709551616
def l1 (n : Int) : Int := n / 18446744073709551616 % 18446744073709551616
def l2 (n : Int) : Int := n / 340282366920938463463374607431768211456 % 18446744073709551616
def l3 (n : Int) : Int := n / 6277101735386680763835789423207666416102355444464034512896 % 18446744073709551616
def MM : Int := 115792089237316195423570985008687907853269984665640564039457584007913129639936
theorem vl_lb (n : Int) (h0 : 0 ≤ n) (h : n < MM) : vl (l0 n) (l1 n) (l2 n) (l3 n) = n := by unfold vl l0 l1 l2 l3; unfold MM at h; omega
def Mo (w w' : World) : Prop := Below w.heap.size w w' ∧ ∀ a, w'.frozen? a = w.frozen? a
theorem Mo.refl (w : World) : Mo w w := ⟨Below.refl _ _, fun _ => rfl⟩
theorem Mo.trans {a b c : World} (h : Mo a b) (k : Mo b c) : Mo a c :=
 ⟨h.1.trans (k.1.mono h.1.size), fun x => (k.2 x).trans (h.2 x)⟩
theorem Mo.drew {a b : World} (h : Mo a b) : Mo a b.drew := ⟨h.1.drew, h.2⟩
theorem Mo.alloc {a b : World} (h : Mo a b) (c : Array Value) (t : TypeId) : Mo a (b.alloc (.cells c t)) :=
 ⟨h.1.alloc h.1.size _, fun x => (frozen?_alloc_cells _ _ _ x).trans (h.2 x)⟩
theorem Mo.setCell {a b : World} (h : Mo a b) {p : Addr} (hp : a.heap.size ≤ p.block) (v : Value) : Mo a (b.setCell p v) :=
 ⟨h.1.setCell hp v, fun x => (World.frozen?_setCell _ _ _ _).trans (h.2 x)⟩
theorem Mo.size {a b : World} (h : Mo a b) : a.heap.size ≤ b.heap.size := h.1.size
theorem Mo.cell {a b : World} (h : Mo a b) : ∀ k o, k < a.heap.size → b.cell? ⟨k, o, none⟩ = a.cell? ⟨k, o, none⟩ := fun k o hk => h.1.cell (p := ⟨k, o, none⟩) hk

end Go.Proofs.YtnffhcjmpjajlaaDoor

namespace Go.Proofs.YtnffhcjmpjajlaaDoor
open Go.RowKit
def Fz (w : World) (k : Nat) : Prop := ∀ o, w.frozen? ⟨k, o, none⟩ = false
theorem Fz.mo {w w' : World} {k : Nat} (h : Fz w k) (m : Mo w w') : Fz w' k := fun o => (m.2 _).trans (h o)

end Go.Proofs.YtnffhcjmpjajlaaDoor

namespace Go.Proofs.YtnffhcjmpjajlaaDoor
open Go.RowKit
abbrev pt (k o : Nat) : Value := .pointer (some ⟨k, o, none⟩)
def At (w : World) (k : Nat) (vs : List Value) : Prop := w.rangeAt k 0 vs ∧ Fz w k ∧ k < w.heap.size
theorem At.lt {w : World} {k : Nat} {vs : List Value} (h : At w k vs) : k < w.heap.size := h.2.2
theorem At.mo {w w' : World} {k : Nat} {vs : List Value} (h : At w k vs) (m : Mo w w') : At w' k vs :=
 ⟨fun j v hv => (m.cell k _ h.2.2).trans (h.1 j v hv), h.2.1.mo m, Nat.lt_of_lt_of_le h.2.2 m.size⟩
theorem At.cell {w : World} {k : Nat} {vs : List Value} (h : At w k vs) {j : Nat} {v : Value} (hv : vs[j]? = some v) : w.cell? ⟨k, j, none⟩ = some v := by
 have := h.1 j v hv; simpa using this
theorem At.there {w : World} {k : Nat} {vs : List Value} (h : At w k vs) (o n : Nat) (hn : o + n ≤ vs.length) : w.there k o n := fun j hj => by
 refine ⟨?_, h.2.1 _⟩
 rw [h.cell (j := o + j) (v := vs[o + j]'(by omega)) (List.getElem?_eq_getElem (by omega))]; rfl
theorem At.new (w : World) (cs : Array Value) (t : TypeId) : At (w.alloc (.cells cs t)) w.heap.size cs.toList := by
 refine ⟨fun j v hv => ?_, fun o => ?_, by simp⟩
 ·simp at hv; simp [go_sem, hv]
 ·simp [go_sem]
theorem sz_setCells (k : Nat) : ∀ (l : List Value) (o : Nat) (w : World), (w.setCells k o l).heap.size = w.heap.size
 | [], _, _ => rfl
 | v :: r, o, w => by rw [World.setCells, sz_setCells k r]; simp [World.setCell]
theorem Mo.setCs {a : World} {k : Nat} (hk : a.heap.size ≤ k) : ∀ (l : List Value) (o : Nat) (b : World), Mo a b → Mo a (b.setCells k o l)
 | [], _, _, h => h
 | v :: r, o, b, h => by rw [World.setCells]; exact Mo.setCs hk r (o + 1) _ (h.setCell hk v)
structure St (k : Nat) (w w' : World) : Prop where
 size : w'.heap.size = w.heap.size
 other : ∀ j vs, j ≠ k → At w j vs → At w' j vs
 mo : ∀ a : World, a.heap.size ≤ k → Mo a w → Mo a w'
theorem St.mk' (w : World) (k o : Nat) (l : List Value) : St k w (w.setCells k o l) where
 size := sz_setCells k l o w
 other := fun j vs hj h => ⟨World.rangeAt_setCells_apart h.1 k o l (Or.inl hj), fun o' => by rw [World.frozen?_setCells]; exact h.2.1 o', by rw [sz_setCells]; exact h.2.2⟩
 mo := fun a ha h => Mo.setCs ha l o w h
theorem At.set {w : World} {k : Nat} {us : List Value} (h : At w k us) (o : Nat) (l : List Value) (hl : o + l.length ≤ us.length) (vs : List Value) (hvs : vs = us.take o ++ l ++ us.drop (o + l.length)) : At (w.setCells k o l) k vs := by
 subst hvs
 refine ⟨fun j v hv => ?_, fun o' => by rw [World.frozen?_setCells]; exact h.2.1 o', by rw [sz_setCells]; exact h.2.2⟩
 rw [Nat.zero_add]
 by_cases h1 : j < o
 ·rw [World.cell?_setCells_out k l o w _ (fun _ _ => Or.inl h1)]
  refine h.cell ?_
  rw [List.append_assoc, List.getElem?_append_left (by simp; omega), List.getElem?_take_of_lt h1] at hv
  exact hv
 ·by_cases h2 : j < o + l.length
  ·rw [List.append_assoc, List.getElem?_append_right (by simp; omega), List.getElem?_append_left (by simp; omega)] at hv
   have := World.cell?_setCells_in k l o w (fun i hi => (h.there o l.length hl i hi).1) (j - o) (by omega)
   rw [show o + (j - o) = j by omega] at this
   rw [this, ← hv]
   rw [List.length_take, show min o us.length = o by omega, List.getElem?_eq_getElem (by omega)]
  ·rw [World.cell?_setCells_out k l o w _ (fun _ _ => Or.inr (by show o + l.length ≤ j; omega))]
   refine h.cell ?_
   rw [List.getElem?_append_right (by simp; omega), List.getElem?_drop] at hv
   rw [← hv]
   congr 1
   simp
   omega
section runs
variable {P : Program} {w : World} {k : Nat} {vs : List Value}
theorem run_row (h : At w k vs) (ty : TypeId) (o n : Nat) (us : List Value) (hus : us = (vs.drop o).take n) {d : TypeDesc} (hu : P.underlying ty = some d) (hd : d.isRow = true) (hi : (P.info? ty).map (·.size) = some us.length) :
  (Instr.loadAt ty (pt k o)).run P w = .ok (.agg us.toArray) w :=
 run_loadAt_mid w k o ty us d (fun j v hv => by
  subst hus
  refine h.cell ?_
  rw [List.getElem?_take] at hv
  split at hv
  ·rw [List.getElem?_drop] at hv; exact hv
  ·cases hv) hu hd hi
theorem run_one (h : At w k vs) (ty : TypeId) (o : Nat) {v : Value} (hv : vs[o]? = some v) {d : TypeDesc} (hu : P.underlying ty = some d) (hd : d.isRow = false) :
  (Instr.loadAt ty (pt k o)).run P w = .ok v w := by
 have hagg : (isAgg ty).run P w = .ok false w := by
  unfold isAgg
  rw [Sem.run_bind, run_underlying hu w]
  cases d <;> simp_all
 have hc := h.cell hv
 simp [Instr.loadAt, Instr.sureAddr, loadVar, Sem.run_bind, hagg, hc]
theorem run_put (h : At w k vs) (ty : TypeId) (o : Nat) (us : Array Value) (hl : o + us.size ≤ vs.length) (hi : (P.info? ty).map (·.size) = some us.size) (h1 : us.all (·.oneCell') = true) :
  (Instr.storeAt ty (pt k o) (.agg us)).run P w = .ok () (w.setCells k o us.toList) :=
 run_storeAt_mid w k o ty us (h.there o us.size hl) hi h1
theorem run_put1 (h : At w k vs) (ty : TypeId) (o : Nat) (v : Value) (hl : o < vs.length) (hi : (P.info? ty).map (·.size) = some 1) (hv : v.cells = #[v]) (h1 : v.oneCell' = true) :
  (Instr.storeAt ty (pt k o) v).run P w = .ok () (w.setCells k o [v]) := by
 have ht := h.there o 1 (by omega)
 have := run_storeCells_cells (P := P) k o [v] 0 w (fun j hj => by simpa using (ht j (by simpa using hj)).1) (fun j hj => by simpa using (ht j (by simpa using hj)).2)
  (fun u hu => by simp at hu; subst hu; exact h1)
 cases hq : P.info? ty with
 | none => simp [hq] at hi
 | some i =>
  have hs : i.size = 1 := by simpa [hq] using hi
  simp only [Nat.add_zero] at this
  simp [Instr.storeAt, Instr.sureAddr, storeVar, sizeOf, typeInfo, hq, hv, hs, this]
end runs
/-! Frames as lists of what was put where, the last first. -/
theorem blt_f {t n : Nat} (h : ¬ t < n) : Nat.blt t n = false := by
 cases e : Nat.blt t n with
 | false => rfl
 | true => rw [Nat.blt_eq] at e; exact absurd e h
theorem beq_f {d j : Nat} (h : ¬ d = j) : Nat.beq d j = false := by
 cases e : Nat.beq d j with
 | false => rfl
 | true => exact absurd (Nat.eq_of_beq_eq_true e) h
def look : List (Nat × Value) → Nat → Value
 | [], _ => undef
 | (d, v) :: l, t => bif Nat.beq d t then v else look l t
def fr (n : Nat) (l : List (Nat × Value)) : Act := { tmps := Array.ofFn (n := n) fun i => look l i, defers := [] }
def ext (l : List (Nat × Value)) : Option Tmp → Value → List (Nat × Value)
 | some d, v => (d, v) :: l
 | none, _ => l
def evl (n : Nat) (l : List (Nat × Value)) : Operand → Value
 | .tmp t => bif Nat.blt t n then look l t else undef
 | .const v => v
 | .global g => .pointer (some ⟨g, 0, none⟩)
 | .func f => .func (.func f) #[] #[]
theorem fr_getD (n : Nat) (l : List (Nat × Value)) (t : Nat) : (fr n l).tmps.getD t undef = bif Nat.blt t n then look l t else undef := by
 unfold fr
 by_cases h : t < n
 ·have e : Nat.blt t n = true := by simpa using h
  simp [h, e]
 ·have e := blt_f h
  simp [h, e]
theorem fr_eval (n : Nat) (l : List (Nat × Value)) : (fr n l).eval = evl n l := by
 funext x
 cases x with
 | tmp t => exact fr_getD n l t
 | _ => rfl
theorem fr_put (n : Nat) (l : List (Nat × Value)) (d : Option Tmp) (v : Value) : (fr n l).put d v = fr n (ext l d v) := by
 cases d with
 | none => rfl
 | some d =>
  simp only [fr, Act.put, ext]
  congr 1
  apply Array.ext
  ·simp
  ·intro j h1 h2
   simp at h1
   by_cases e : d = j
   ·subst e; simp [look]
   ·have := beq_f e
    rw [Array.getElem_setIfInBounds_ne (by simpa using h1) e]
    simp [look, this]
def wnt (n : Nat) (l : List (Nat × Value)) (ops : Array Oper) (o : Oper) : Bool :=
 match o.guard with
 | none => true
 | some (j, want) => (match (ops[j]?).bind (·.dst) with
  | some t => (bif Nat.blt t n then (match look l t with | .bool b => some b | _ => none) else none)
  | none => none) == some want
theorem fr_wanted (n : Nat) (l : List (Nat × Value)) (ops : Array Oper) (o : Oper) : Region.wanted o (yielded ops (fr n l).tmps) = wnt n l ops o := by
 unfold Region.wanted wnt
 cases o.guard with
 | none => rfl
 | some g =>
  obtain ⟨j, want⟩ := g
  simp only [yielded]
  cases (ops[j]?).bind (·.dst) with
  | none => rfl
  | some t =>
   by_cases h : t < n
   ·have e : Nat.blt t n = true := by simpa using h
    simp [fr, h, e]
    cases look l t <;> rfl
   ·have e := blt_f h
    simp [fr, h, e]
def argl : Nat → List Value → List (Nat × Value)
 | _, [] => []
 | i, v :: r => (i, v) :: argl (i + 1) r
theorem look_argl : ∀ (vs : List Value) (i t : Nat), look (argl i vs) t = if i ≤ t then (vs[t - i]?).getD undef else undef
 | [], i, t => by simp [argl, look]
 | v :: r, i, t => by
  have ih := look_argl r (i + 1) t
  by_cases e : i = t
  ·subst e; simp [argl, look]
  ·have hb := beq_f e
   simp only [argl, look, hb, cond_false, ih]
   by_cases h : i + 1 ≤ t
   ·rw [if_pos h, if_pos (by omega), show t - i = (t - (i + 1)) + 1 by omega, List.getElem?_cons_succ]
   ·rw [if_neg h, if_neg (by omega)]
theorem fr_args (n : Nat) (args : Array Value) (h : args.size ≤ n) : ({ tmps := args ++ Array.replicate (n - args.size) undef, defers := [] } : Act) = fr n (argl 0 args.toList) := by
 unfold fr
 congr 1
 apply Array.ext
 ·simp; omega
 ·intro j h1 h2
  simp at h2
  simp only [Array.getElem_ofFn, look_argl, Nat.zero_le, if_true, Nat.sub_zero]
  by_cases hj : j < args.size
  ·rw [Array.getElem_append_left hj]; simp [hj]
  ·rw [Array.getElem_append_right (by omega)]; simp [Nat.le_of_not_lt hj]
theorem f_enter {P : Program} {f : FuncId} {fn : Func} {c : Code} {args : Array Value} {w : World} {R : Ending → World → Prop} (n : Nat) (hf : P.funcs[f]? = some fn) (hn : fn.ntmps = n) (hb : fn.body = some c)
  (ha : Nat.ble args.size n = true) (h : c.wp P (bodyPost P fn R) (fr n (argl 0 args.toList)) w) : Calls P f args w R := by
 refine calls_of_wp hf hb ?_
 rw [hn, fr_args n args (by simpa using ha)]
 exact h
def resv (n : Nat) (l : List (Nat × Value)) (P : Program) (w : World) (v : Value) : ResultVar → Prop
 | .tmp t => (bif Nat.blt t n then look l t else undef) = v
 | .cell a t => ∃ k : Nat, (bif Nat.blt a n then look l a else undef) = pt k 0 ∧ (Instr.loadAt t (pt k 0)).run P w = .ok v w
theorem resv_tmp {n : Nat} {l : List (Nat × Value)} {P : Program} {w : World} {v : Value} {t : Tmp} (h : resv n l P w v (.tmp t)) : (fr n l).tmps[t]?.getD undef = v := by
 have := fr_getD n l t
 simp only [Array.getD_eq_getD_getElem?] at this
 rw [this]; exact h
theorem resv_cell {n : Nat} {l : List (Nat × Value)} {P : Program} {w : World} {v : Value} {a : Tmp} {t : TypeId} (h : resv n l P w v (.cell a t)) : ∃ k : Nat, (fr n l).tmps[a]?.getD undef = pt k 0 ∧ (loadVar t ⟨k, 0, none⟩).run P w = .ok v w := by
 obtain ⟨k, h1, h2⟩ := h
 refine ⟨k, ?_, by simpa only [Instr.loadAt, Instr.sureAddr, Sem.run_bind, Sem.run_pure, Result.andThen_ok] using h2⟩
 have := fr_getD n l a
 simp only [Array.getD_eq_getD_getElem?] at this
 rw [this]; exact h1
theorem Each.mono {F G : Nat → Oper → Prop} (h : ∀ i o, F i o → G i o) : ∀ (l : List Oper) (n : Nat), Each F n l → Each G n l
 | [], _, _ => trivial
 | _ :: l, n, hh => ⟨h _ _ hh.1, Each.mono h l (n + 1) hh.2⟩
/-! The laws of the steps. -/
section steps
variable {P : Program} {o : Oper} {n : Nat} {l : List (Nat × Value)} {w : World} {ops : Array Oper} {rest : List Oper} {Q : Exit → Act → World → Prop} {K : Act → World → Prop}
theorem o_val {w' : World} (v : Value) (h : (execOp (evl n l) o).run P w = .ok (.value v) w') (hk : K (fr n (ext l o.dst v)) w') : o.wp P (fr n l) w K Q := by
 unfold Oper.wp; rw [fr_eval, h, Oper.upon_value, fr_put]; exact hk
theorem o_load (ty : TypeId) (x : Operand) (p v : Value) (ho : o.op = .load ty x) (hx : evl n l x = p) (h : (Instr.loadAt ty p).run P w = .ok v w) (hk : K (fr n (ext l o.dst v)) w) : o.wp P (fr n l) w K Q := by
 refine o_val v ?_ hk
 subst hx
 simp [execOp, ho, h]
theorem o_store (ty : TypeId) (x y : Operand) (p v : Value) {w' : World} (ho : o.op = .store ty x y) (hd : o.dst = none) (hx : evl n l x = p) (hy : evl n l y = v) (h : (Instr.storeAt ty p v).run P w = .ok () w') (hk : K (fr n l) w') : o.wp P (fr n l) w K Q := by
 subst hx hy
 have e : (execOp (evl n l) o).run P w = .ok .skip w' := by simp [execOp, ho, h]
 unfold Oper.wp; rw [fr_eval, e, Oper.upon_skip, hd]; exact hk
theorem o_alloc (ty : TypeId) (zs : Array Value) (ho : o.op = .alloc ty) (h : ∀ w, (Instr.alloc ty true (.tuple #[])).run P w = .ok (pt w.heap.size 0) (w.alloc (.cells zs ty)))
  (hk : ∀ k w', w.heap.size = k → w'.heap.size = k + 1 → Mo w w' → At w' k zs.toList → K (fr n (ext l o.dst (pt k 0))) w') : o.wp P (fr n l) w K Q := by
 refine o_val (pt w.heap.size 0) (w' := w.alloc (.cells zs ty)) ?_ (hk _ _ rfl (by simp) ((Mo.refl _).alloc _ _) (At.new w zs ty))
 simp [execOp, ho, h]
theorem o_box (ty : TypeId) (x : Operand) (v : Value) (cs : Array Value) (ho : o.op = .box ty x) (hx : evl n l x = v) (h : ∀ w, (Instr.box ty v).run P w = .ok (pt w.heap.size 0) (w.alloc (.cells cs ty)))
  (hk : ∀ k w', w.heap.size = k → w'.heap.size = k + 1 → Mo w w' → At w' k cs.toList → K (fr n (ext l o.dst (pt k 0))) w') : o.wp P (fr n l) w K Q := by
 subst hx
 refine o_val (pt w.heap.size 0) (w' := w.alloc (.cells cs ty)) ?_ (hk _ _ rfl (by simp) ((Mo.refl _).alloc _ _) (At.new w cs ty))
 simp [execOp, ho, h]
theorem o_call (g : FuncId) (xs : List Operand) (ats : Array TypeId) (args : List Value) (v : Value) (ho : o.op = .call { callee := .value (.func g), args := xs.toArray, argTypes := ats }) (hx : xs.map (evl n l) = args)
  (h : ∀ args w, (callFunc g args).run P w = .ok (.enter g args) w)
  (hc : Calls P g args.toArray w fun e w' => e = .returned v ∧ Mo w w') (hk : ∀ w', Mo w w' → K (fr n (ext l o.dst v)) w') : o.wp P (fr n l) w K Q := by
 have e : (execOp (evl n l) o).run P w = .ok (.enter g args.toArray) w := by
  obtain ⟨dst, op, ty, pos, after, guard⟩ := o
  simp only at ho
  subst ho hx
  have e2 := execOp_call_go (fr n l) dst g xs.toArray ats ty pos after guard
  rw [fr_eval] at e2
  rw [e2, h]
  simp
 unfold Oper.wp; rw [fr_eval, e, Oper.upon_enter]
 refine hc.mono ?_
 rintro e w' ⟨rfl, h⟩
 show K _ _
 rw [fr_put]
 exact hk w' h
theorem o_st (ty : TypeId) (x y : Operand) (k off : Nat) (us : Array Value) (vs vs' : List Value) (hA : At w k vs) (ho : o.op = .store ty x y) (hd : o.dst = none) (hx : evl n l x = pt k off) (hy : evl n l y = .agg us)
  (hl : Nat.ble (off + us.size) vs.length = true) (hi : (P.info? ty).map (·.size) = some us.size) (h1 : us.toList.all (·.oneCell') = true) (hvs : vs' = vs.take off ++ us.toList ++ vs.drop (off + us.toList.length))
  (hk : ∀ w', St k w w' → At w' k vs' → K (fr n l) w') : o.wp P (fr n l) w K Q :=
 o_store ty x y _ _ ho hd hx hy (run_put hA ty off us (Nat.le_of_ble_eq_true hl) hi (by rw [← Array.all_toList]; exact h1)) (hk _ (St.mk' w k off us.toList) (hA.set off us.toList (by have := Nat.le_of_ble_eq_true hl; simpa using this) vs' hvs))
theorem o_st1 (ty : TypeId) (x y : Operand) (k off : Nat) (v : Value) (vs vs' : List Value) (hA : At w k vs) (ho : o.op = .store ty x y) (hd : o.dst = none) (hx : evl n l x = pt k off) (hy : evl n l y = v)
  (hl : Nat.blt off vs.length = true) (hi : (P.info? ty).map (·.size) = some 1) (hv : v.cells = #[v]) (h1 : v.oneCell' = true) (hvs : vs' = vs.take off ++ [v] ++ vs.drop (off + 1))
  (hk : ∀ w', St k w w' → At w' k vs' → K (fr n l) w') : o.wp P (fr n l) w K Q :=
 have hl' : off < vs.length := by rw [Nat.blt_eq] at hl; exact hl
 o_store ty x y _ _ ho hd hx hy (run_put1 hA ty off v hl' hi hv h1) (hk _ (St.mk' w k off [v]) (hA.set off [v] (by simp; omega) vs' hvs))
theorem l_step (hg : wnt n l ops o = true) (h : o.wp P (fr n l) w (wpList P ops Q rest) Q) : wpList P ops Q (o :: rest) (fr n l) w :=
 wpList_step fun K hK => by rw [fr_wanted, hg, if_pos rfl]; exact Oper.wp_mono (fun a w h => hK a w h) h
theorem l_skip (hg : wnt n l ops o = false) (h : wpList P ops Q rest (fr n (ext l o.dst undef)) w) : wpList P ops Q (o :: rest) (fr n l) w :=
 wpList_step fun K hK => by rw [fr_wanted, hg, fr_put]; exact hK _ _ h
theorem c_cond {c : Operand} {x y : Code} (t : Bool) (hc : evl n l c = .bool t) (h : (bif t then x else y).wp P Q (fr n l) w) : (Code.cond c x y).wp P Q (fr n l) w := by
 cases t
 ·exact wp_cond_false (by rw [fr_eval]; exact hc) h
 ·exact wp_cond_true (by rw [fr_eval]; exact hc) h
theorem c_ret1 {fn : Func} {R : Ending → World → Prop} (x : ResultVar) (v : Value) (hf : fn.results = #[x]) (h : resv n l P w v x) (hR : R (.returned v) w) : bodyPost P fn R .ret (fr n l) w := by
 refine bodyPost_ret (v := v) ?_ rfl hR
 cases x with
 | tmp t => have := resv_tmp h; simp [results, hf, this]
 | cell a t => obtain ⟨k, h1, h2⟩ := resv_cell h; simp [results, hf, h1, h2, asAddr]
theorem c_ret2 {fn : Func} {R : Ending → World → Prop} (x y : ResultVar) (v u : Value) (hf : fn.results = #[x, y]) (h : resv n l P w v x) (g : resv n l P w u y) (hR : R (.returned (.tuple #[v, u])) w) : bodyPost P fn R .ret (fr n l) w := by
 refine bodyPost_ret (v := .tuple #[v, u]) ?_ rfl hR
 cases x with
 | tmp t =>
  have h1 := resv_tmp h
  cases y with
  | tmp t => have g1 := resv_tmp g; simp [results, hf, h1, g1]
  | cell a t => obtain ⟨k, g1, g2⟩ := resv_cell g; simp [results, hf, h1, g1, g2, asAddr]
 | cell a t =>
  obtain ⟨k, h1, h2⟩ := resv_cell h
  cases y with
  | tmp t => have g1 := resv_tmp g; simp [results, hf, h1, h2, g1, asAddr]
  | cell a t => obtain ⟨k, g1, g2⟩ := resv_cell g; simp [results, hf, h1, h2, g1, g2, asAddr]
def asg (f : Nat → Value) : Nat → List Oper → List (Nat × Value) → List (Nat × Value)
 | _, [], l => l
 | i, o :: r, l => asg f (i + 1) r (ext l o.dst (f i))
theorem putAll_fr (f : Nat → Value) : ∀ (r : List Oper) (i : Nat) (l : List (Nat × Value)), putAll f i r (fr n l) = fr n (asg f i r l)
 | [], _, _ => rfl
 | o :: r, i, l => by simp only [putAll, asg, fr_put]; exact putAll_fr f r (i + 1) _
def depb (o : Oper) (j : Nat) : Bool := o.after.toList.any fun e => Region.binds .any e && Nat.beq e.on j
theorem li2 {a b c d : Value} (h : a = b) (k : c = d) : [a, c] = [b, d] := by rw [h, k]
theorem li3 {a b c d e f : Value} (h : a = b) (k : c = d) (m : e = f) : [a, c, e] = [b, d, f] := by rw [h, k, m]
end steps
end Go.Proofs.YtnffhcjmpjajlaaDoor


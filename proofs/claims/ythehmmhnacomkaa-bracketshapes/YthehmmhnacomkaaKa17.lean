/-
  A part of the proof.
-/
import Derived.Test.YthehmmhnacomkaaKa16
import Derived.Test.YthehmmhnacomkaaKa15
import Derived.Test.YthehmmhnacomkaaKa14
import Derived.Test.YthehmmhnacomkaaKa11
import Derived.Test.YthehmmhnacomkaaKa10
import Derived.Test.YthehmmhnacomkaaKa3
import Derived.Test.YthehmmhnacomkaaKa2
import Derived.Test.YthehmmhnacomkaaKa1
import Derived.RegionTactic
import Derived.Test.YthehmmhnacomkaaProg
import Derived.WalkKit
import Derived.WalkSpells
import Derived.Handy
import Derived.BigQuiet
import Derived.Deep.RegionHeld3
import Derived.Deep.MidRow
import Derived.BigCall
import Derived.Test.YthehmmhnacomkaaKa9
import Derived.Test.YthehmmhnacomkaaKa8
import Derived.Test.YthehmmhnacomkaaKa5
import Derived.Test.YthehmmhnacomkaaKa4
import Derived.Shelf.Small.Bits
import Derived.Shelf.Strconv.Itoa0
import Derived.Shelf.Bits.Mul64
import Derived.Deep.CutBlock
import Derived.Deep.CutRange
import Derived.Test.YthehmmhnacomkaaKa7
import Derived.Test.YthehmmhnacomkaaKa6
import Derived.ChangeKeysEq
import Derived.ScopeJumps
import Derived.WalkMore
import Derived.Laws.StructEq
import Derived.Test.YthehmmhnacomkaaKa13
import Derived.Test.YthehmmhnacomkaaKa12
import Derived.Lib.CutLaws
import Derived.Maps.OwnSet
import Derived.WalkArith
import Derived.StringKeys
import Derived.ProofKit
import Derived.OpenShut
import Derived.ChangeArms
import Derived.Deep.Slices
import Derived.ReadAgain
import Derived.WideKeyArgs
import Derived.Maps.AppendAt
namespace Go.Proofs.Ythehmmhnacomkaa
open Go.RowKit Go.Lib
theorem Ds.one {sp : List Sp} {f : Nat → Value} {w : World} (i : Nat) (h : ∀ q, spNew (spAt sp q) = true → q = i) (h1 : ∀ k, f i = pt k 0 → k < w.heap.size) : Ds sp f w := by
 refine ⟨fun q hq k hk => ?_, fun q r hq hr hne k hk hk2 => ?_⟩
 ·rw [h q hq] at hk; exact h1 k hk
 ·exact hne ((h q hq).trans (h r hr).symm)
theorem lt3_run {a b : Int} {r : Bool} (h : decide (a < b) = r) (x y : Operand) (w : World) : (do eqGuard .lss 3 x y (.int .i64 a) (.int .i64 b); binOp .lss 3 (.int .i64 a) (.int .i64 b)).run Try.prog w = .ok (.bool r) w := by
 subst h; kernel_rfl
theorem gt3_run {a b : Int} {r : Bool} (h : decide (a > b) = r) (x y : Operand) (w : World) : (do eqGuard .gtr 3 x y (.int .i64 a) (.int .i64 b); binOp .gtr 3 (.int .i64 a) (.int .i64 b)).run Try.prog w = .ok (.bool r) w := by
 subst h; kernel_rfl
theorem add1r {k : Nat} (hk : k ≤ 9223372036854775806) (x y : Operand) (w : World) : (do eqGuard .add 3 x y (.int .i64 (k : Int)) (.int .i64 1); binOp .add 3 (.int .i64 (k : Int)) (.int .i64 1)).run Try.prog w = .ok (.int .i64 ((k + 1 : Nat) : Int)) w := by
 have e : (do eqGuard .add 3 x y (.int .i64 (k : Int)) (.int .i64 1); binOp .add 3 (.int .i64 (k : Int)) (.int .i64 1)).run Try.prog w = .ok (.int .i64 (IntKind.i64.wrap ((k : Int) + 1))) w := by kernel_rfl
 have h : IntKind.i64.wrap ((k : Int) + 1) = ((k + 1 : Nat) : Int) := by rw [IntKind.wrap_i64]; omega
 rw [e, h]
theorem ltN {a b : Nat} {r : Bool} (h : decide (a < b) = r) (x y : Operand) (w : World) : (do eqGuard .lss 3 x y (.int .i64 (a : Int)) (.int .i64 (b : Int)); binOp .lss 3 (.int .i64 (a : Int)) (.int .i64 (b : Int))).run Try.prog w = .ok (.bool r) w :=
 lt3_run (by rw [← h]; exact decide_eq_decide.2 Int.ofNat_lt) _ _ _
theorem gtN {a b : Nat} {r : Bool} (h : decide (b < a) = r) (x y : Operand) (w : World) : (do eqGuard .gtr 3 x y (.int .i64 (a : Int)) (.int .i64 (b : Int)); binOp .gtr 3 (.int .i64 (a : Int)) (.int .i64 (b : Int))).run Try.prog w = .ok (.bool r) w :=
 gt3_run (by rw [← h]; exact decide_eq_decide.2 Int.ofNat_lt) _ _ _
end Go.Proofs.Ythehmmhnacomkaa

namespace Go.Proofs.Ythehmmhnacomkaa
open Go.RowKit
theorem eq9 {a b : ByteArray} {r : Bool} (h : (a.toList == b.toList) = r) (x y : Operand) (w : World) : (do eqGuard .eql 9 x y (.string a) (.string b); binOp .eql 9 (.string a) (.string b)).run Try.prog w = .ok (.bool r) w := by
 subst h; simp [go_sem]
end Go.Proofs.Ythehmmhnacomkaa

namespace Go.Proofs.Ythehmmhnacomkaa
open Go.RowKit Go.ChangeMaps
theorem eq3 {a b : Int} {r : Bool} (h : decide (a = b) = r) (x y : Operand) (w : World) : (do eqGuard .eql 3 x y (.int .i64 a) (.int .i64 b); binOp .eql 3 (.int .i64 a) (.int .i64 b)).run Try.prog w = .ok (.bool r) w := by
 subst h
 have e : (do eqGuard .eql 3 x y (.int .i64 a) (.int .i64 b); binOp .eql 3 (.int .i64 a) (.int .i64 b)).run Try.prog w = .ok (.bool (a == b)) w := by kernel_rfl
 rw [e]; congr 2
theorem eq34 {a b : Int} {r : Bool} (h : decide (a = b) = r) (x y : Operand) (w : World) : (do eqGuard .eql 26 x y (.int .i64 a) (.int .i64 b); binOp .eql 26 (.int .i64 a) (.int .i64 b)).run Try.prog w = .ok (.bool r) w := by
 subst h
 have e : (do eqGuard .eql 26 x y (.int .i64 a) (.int .i64 b); binOp .eql 26 (.int .i64 a) (.int .i64 b)).run Try.prog w = .ok (.bool (a == b)) w := by kernel_rfl
 rw [e]; congr 2
theorem ne34 {a b : Int} {r : Bool} (h : decide (a = b) = r) (x y : Operand) (w : World) : (do eqGuard .neq 26 x y (.int .i64 a) (.int .i64 b); binOp .neq 26 (.int .i64 a) (.int .i64 b)).run Try.prog w = .ok (.bool (!r)) w := by
 subst h
 have e : (do eqGuard .neq 26 x y (.int .i64 a) (.int .i64 b); binOp .neq 26 (.int .i64 a) (.int .i64 b)).run Try.prog w = .ok (.bool (!(a == b))) w := by kernel_rfl
 rw [e]; congr 2
theorem lt3 {a b : Int} {r : Bool} (h : decide (a < b) = r) (x y : Operand) (w : World) : (do eqGuard .lss 3 x y (.int .i64 a) (.int .i64 b); binOp .lss 3 (.int .i64 a) (.int .i64 b)).run Try.prog w = .ok (.bool r) w := by
 subst h; kernel_rfl
theorem le3 {a b : Int} {r : Bool} (h : decide (a ≤ b) = r) (x y : Operand) (w : World) : (do eqGuard .leq 3 x y (.int .i64 a) (.int .i64 b); binOp .leq 3 (.int .i64 a) (.int .i64 b)).run Try.prog w = .ok (.bool r) w := by
 subst h; kernel_rfl
theorem ba_eq (a b : ByteArray) : (a.toList == b.toList) = decide (a = b) := by
 rw [Lib.toList_data, Lib.toList_data, Bool.eq_iff_iff, beq_iff_eq, decide_eq_true_iff]
 constructor
 ·intro h
  obtain ⟨⟨x⟩⟩ := a
  obtain ⟨⟨y⟩⟩ := b
  simp at h
  rw [h]
 ·rintro rfl; rfl
theorem s9 {a b : ByteArray} {r : Bool} (h : decide (a = b) = r) (x y : Operand) (w : World) : (do eqGuard .eql 9 x y (.string a) (.string b); binOp .eql 9 (.string a) (.string b)).run Try.prog w = .ok (.bool r) w :=
 eq9 (by rw [ba_eq]; exact h) x y w
theorem cB {P : Program} {g : FuncId} {args : Array Value} {w : World} {v v' : Bool} (h : v = v') (c : Calls P g args w fun e w' => e = .returned (.bool v) ∧ Mo w w') : Calls P g args w fun e w' => e = .returned (.bool v') ∧ Mo w w' := h ▸ c
section
variable {P : Program} {o : Oper} {n : Nat} {l : List (Nat × Value)} {w : World} {ops : Array Oper} {rest : List Oper} {Q : Exit → Act → World → Prop} {K : Act → World → Prop} {c : Code}
theorem wl_callv (g : FuncId) (f : Operand) (fs cs : Array Value) (xs : List Operand) (ats : Array TypeId) (args all : List Value) {F : Ending → World → Prop} (ho : o.op = .call { callee := .value f, args := xs.toArray, argTypes := ats }) (hf : evl n l f = .func (.func g) fs cs) (hx : xs.map (evl n l) = args)
  (hall : fs ++ args.toArray ++ cs = all.toArray)
  (h : ∀ args w, (callFunc g args).run P w = .ok (.enter g args) w)
  (hc : Calls P g all.toArray w F) (hg : wnt n l ops o = true) (hk : ∀ v w', F v w' → ∃ u, v = .returned u ∧ WL P ops Q rest n (ext l o.dst u) w') : WL P ops Q (o :: rest) n l w := by
 have e : (execOp (evl n l) o).run P w = .ok (.enter g all.toArray) w := by
  obtain ⟨dst, op, ty, pos, after, guard⟩ := o
  simp only at ho
  subst ho hx
  have e2 : execOp (evl n l) { dst, op := .call { callee := .value f, args := xs.toArray, argTypes := ats }, type := ty, pos, after, guard } = (do let d ← Deferred.ofValue (evl n l f) (xs.toArray.map (evl n l)); invoke d.target d.args) := rfl
  rw [e2, hf]
  show (do let d ← Deferred.ofValue (.func (.func g) fs cs) (xs.toArray.map (evl n l)); invoke d.target d.args).run P w = _
  have e3 : (do let d ← Deferred.ofValue (.func (.func g) fs cs) (xs.toArray.map (evl n l)); invoke d.target d.args) = callFunc g (fs ++ xs.toArray.map (evl n l) ++ cs) := rfl
  rw [e3, h, List.map_toArray, hall]
 refine ⟨l_step hg ?_⟩
 unfold Oper.wp; rw [fr_eval, e, Oper.upon_enter]
 refine hc.mono ?_
 intro e w' hF
 obtain ⟨u, rfl, hW⟩ := hk e w' hF
 show wpList _ _ _ _ _ _
 rw [fr_put]
 exact hW.out
theorem wl_bs (ty : TypeId) (m : Nat) (xs : List (Nat × Operand)) (ps : List (Nat × Value)) (cs : Array Value) (e : TypeId) (ho : o.op = .buildSlice ty m xs.toArray) (hx : xs.map (fun p => (p.1, evl n l p.2)) = ps)
  (h : ∀ w, (Instr.buildSlice ty m ps.toArray).run P w = .ok (.slice (some ⟨w.heap.size, 0, none⟩) m m) (w.alloc (.cells cs e))) (hg : wnt n l ops o = true)
  (hk : ∀ k w', w.heap.size = k → w'.heap.size = k + 1 → Mo w w' → At w' k cs.toList → WL P ops Q rest n (ext l o.dst (.slice (some ⟨k, 0, none⟩) m m)) w') : WL P ops Q (o :: rest) n l w := by
 subst hx
 refine ⟨l_step hg (o_val (.slice (some ⟨w.heap.size, 0, none⟩) m m) (w' := w.alloc (.cells cs e)) ?_ (hk _ _ rfl (by simp) ((Mo.refl _).alloc _ _) (At.new w cs e)).out)⟩
 simp [execOp, ho, h]
theorem w_rounds (N : Nat) (h : WC P c (Exit.then (Code.rounds P c Q N) Q) n l w) : WC P (Code.loop c) Q n l w := ⟨wp_loop_rounds (N + 1) h.out⟩
theorem xn_rounds {N : Nat} (h : WC P c (Exit.then (Code.rounds P c Q N) Q) n l w) : WX (Exit.then (Code.rounds P c Q (N + 1)) Q) .normal n l w := ⟨h.out⟩
end
/-! Maps from names to whole numbers, and from names to flags. -/
variable {w w' : World} {b : Nat} {al : List (ByteArray × Int)}
end Go.Proofs.Ythehmmhnacomkaa

namespace Go.Proofs.Ythehmmhnacomkaa
open Go.RowKit
def s4 (n0 n1 n2 n3 m0 m1 m2 m3 : Int) : Bool := n0 == m0 && (n1 == m1 && (n2 == m2 && n3 == m3))
theorem ht40 : Try.prog.underlying 33 = some (.struct (Try.prog.fieldsOf 33)) := by kernel_rfl
theorem hp40 : Try.prog.stoodInHeld 33 = false := by kernel_rfl
theorem fo40 : (Try.prog.fieldsOf 33).toList.map (fun f => (f.name, f.type, f.offset)) = [("Neg", 4, 0), ("N", 31, 1), ("Scale", 3, 5)] := by kernel_rfl
theorem pt40 (x0 x1 x2 x3 x4 x5 : Value) (w : World) : (part 4 #[x0, x1, x2, x3, x4, x5] 0).run Try.prog w = .ok x0 w := by kernel_rfl
theorem pt41 (x0 x1 x2 x3 x4 x5 : Value) (w : World) : (part 31 #[x0, x1, x2, x3, x4, x5] 1).run Try.prog w = .ok (.agg #[x1, x2, x3, x4]) w := by kernel_rfl
theorem pt45 (x0 x1 x2 x3 x4 x5 : Value) (w : World) : (part 3 #[x0, x1, x2, x3, x4, x5] 5).run Try.prog w = .ok x5 w := by kernel_rfl
theorem eq26 (d : Nat) (b c : Bool) (n0 n1 n2 n3 m0 m1 m2 m3 s t : Int) (w : World) : (Op.equalIn (d + 1 + 1 + 1) 33 (.agg #[.bool b, .int .u64 n0, .int .u64 n1, .int .u64 n2, .int .u64 n3, .int .i64 s]) (.agg #[.bool c, .int .u64 m0, .int .u64 m1, .int .u64 m2, .int .u64 m3, .int .i64 t])).run Try.prog w = .ok (b == c && (s4 n0 n1 n2 n3 m0 m1 m2 m3 && s == t)) w := by
 rw [run_equalIn_struct w (d + 1 + 1) 33 _ _ ht40 hp40]
 have h := fo40
 generalize (Try.prog.fieldsOf 33).toList = L at h
 have hl : L.length = 3 := by have := congrArg List.length h; simpa using this
 match L, hl with
 | [f0, f1, f2], _ =>
  simp at h
  obtain ⟨⟨a0, a1, a2⟩, ⟨b0, b1, b2⟩, ⟨c0, c1, c2⟩⟩ := h
  have q1 : (Op.equalIn (d + 1 + 1) 4 (.bool b) (.bool c)).run Try.prog w = .ok (b == c) w := by kernel_rfl
  have q2 : _ = Result.ok (s4 n0 n1 n2 n3 m0 m1 m2 m3) w := eq4d d n0 n1 n2 n3 m0 m1 m2 m3 w
  have q3 : (Op.equalIn (d + 1 + 1) 3 (.int .i64 s) (.int .i64 t)).run Try.prog w = .ok (s == t) w := run_equalIn_int w (d + 1) 3 .i64 .i64 s t Try.underlying3
  generalize s4 n0 n1 n2 n3 m0 m1 m2 m3 = z at q2 ⊢
  simp only [Op.eqFields, a0, a1, a2, b0, b1, b2, c0, c1, c2]
  cases h1 : (b == c) <;> cases z <;> cases h3 : (s == t) <;> simp [Sem.run_bind, pt40, pt41, pt45, Result.andThen_ok, q1, q2, q3, h1, h3, Sem.run_pure]
end Go.Proofs.Ythehmmhnacomkaa

namespace Go.Proofs.Ythehmmhnacomkaa
open Go.ChangeShapes Go.WideShapes Go.ChangeAt Go.RowKit
namespace D
def SL (W : World) (n : Nat) {α : Type} (cells : α → List Value) (pa : Option Addr) (L : List α) : Prop := L.length ≤ maxLen ∧ ∀ i o, L[i]? = some o → ∃ b off, pa = some ⟨b, off, none⟩ ∧ b < W.heap.size ∧ W.rangeAt b (off + i * n) (cells o)
section
variable {H : Type} {enc : TypeId × Value → H} {W : World} {sp : Nat → Bool}
theorem cut_sl {fuel : Nat} {x : DataW H × List MemPlace} {t e : TypeId} (hu : Try.prog.underlying t = some (.slice e)) {n : Nat} (hn : 0 < n) (hcl : Try.prog.cellsOf e = n) {α : Type} (cells : α → List Value) (dflt : α) (ok : α → Prop) (hlen : ∀ y, (cells y).length = n)
  (hcut : ∀ {m : Nat} {cs : List Value} {y : DataW H × List MemPlace}, m < fuel → DataW.trod enc Try.prog W 0 sp true m e cs = some y → ∃ z, ok z ∧ cs = cells z) {v : Value} (h : DataW.trod enc Try.prog W 0 sp true fuel t [v] = some x) :
  ∃ (L : List α) (pa : Option Addr) (cap : Nat), v = .slice pa L.length cap ∧ (∀ o ∈ L, ok o) ∧ SL W n cells pa L ∧ L.length ≤ cap := by
 rcases DataW.trod_slice hu h with ⟨hcs, _⟩ | ⟨a, len, cap, elems, rest, k, rfl, hcs, _, _, hlc, hcm, hlen2, hel, _, _⟩
 ·simp only [List.cons.injEq, and_true] at hcs
  subst hcs
  exact ⟨[], none, 0, rfl, fun _ e => (by cases e), ⟨Nat.zero_le _, (fun _ _ e => by cases e)⟩, Nat.le_refl _⟩
 ·simp only [List.cons.injEq, and_true] at hcs
  subst hcs
  have first : ∀ o : α, ∃ u, (cells o)[0]? = some u := fun o => ⟨(cells o)[0]'(by rw [hlen]; exact hn), List.getElem?_eq_getElem _⟩
  have el : ∀ i, i < len → ∃ cs' y, W.cells? 0 (a.add (i * Try.prog.cellsOf e)) (Try.prog.cellsOf e) = some cs' ∧ DataW.trod enc Try.prog W 0 sp true k e cs' = some y := fun i hi => by
   have h1 := hel i hi
   rw [List.getElem?_eq_getElem (by omega)] at h1
   cases h2 : W.cells? 0 (a.add (i * Try.prog.cellsOf e)) (Try.prog.cellsOf e) with
   | none => rw [h2] at h1; cases h1
   | some cs' => rw [h2] at h1; exact ⟨cs', _, rfl, h1⟩
  have key : ∀ i : Nat, ∃ S : α, i < len → ok S ∧ ∃ b off, some a = some (⟨b, off, none⟩ : Addr) ∧ b < W.heap.size ∧ W.rangeAt b (off + i * n) (cells S) := by
   intro i
   by_cases hi : i < len
   ·obtain ⟨cs', y, hc, ht⟩ := el i hi
    obtain ⟨o, ho, rfl⟩ := hcut (Nat.lt_succ_self k) ht
    refine ⟨o, fun _ => ⟨ho, ?_⟩⟩
    rw [hcl] at hc
    have hb := World.cells?_block hc hn
    obtain ⟨_, _, hcell⟩ := World.cells?_some hc
    obtain ⟨b, off, spot⟩ := a
    have hs : spot = none := by
     obtain ⟨cs0, y0, hc0, ht0⟩ := el 0 (by omega)
     obtain ⟨o0, _, rfl⟩ := hcut (Nat.lt_succ_self k) ht0
     rw [hcl] at hc0
     have h0 := (World.cells?_some hc0).2.2 0 hn
     obtain ⟨u, hu0⟩ := first o0
     rw [hu0] at h0
     have := World.cell?_spot (show W.cell? (((⟨b, off, spot⟩ : Addr).add (0 * n)).add 0) = some u from h0)
     simpa [Addr.add] using this
    subst hs
    refine ⟨b, off, rfl, by simpa [Addr.add_mid] using hb, fun j v hv => ?_⟩
    have hj : j < n := by rw [← hlen o]; exact (List.getElem?_eq_some_iff.1 hv).1
    have := hcell j hj
    rw [Addr.add_mid, Addr.add_mid, hv] at this
    exact this
   ·exact ⟨dflt, fun e => absurd e hi⟩
  obtain ⟨f, hf2⟩ := Classical.skolem.1 key
  refine ⟨(List.range len).map f, some a, cap, by simp, fun o ho => ?_, ⟨by simpa using Nat.le_trans hlc hcm, fun i o e => ?_⟩, by simpa using hlc⟩
  ·obtain ⟨i, hi, rfl⟩ := List.mem_map.1 ho
   exact (hf2 i (by simpa using hi)).1
  ·have hi : i < len := by have := (List.getElem?_eq_some_iff.1 e).1; simpa using this
   rw [List.getElem?_map, List.getElem?_range hi] at e
   cases e
   exact (hf2 i hi).2
end
end D
end Go.Proofs.Ythehmmhnacomkaa

namespace Go.Proofs.Ythehmmhnacomkaa
open Go.ChangeShapes Go.WideShapes Go.ChangeAt Go.RowKit
structure Kp (w w' : World) : Prop where
 size : w.heap.size ≤ w'.heap.size
 cell : ∀ k o v, w.cell? ⟨k, o, none⟩ = some v → w'.cell? ⟨k, o, none⟩ = some v
theorem Kp.trans {a b c : World} (h : Kp a b) (k : Kp b c) : Kp a c := ⟨Nat.le_trans h.size k.size, fun x o v e => k.cell x o v (h.cell x o v e)⟩
theorem cell_lt {w : World} {k o : Nat} {v : Value} (h : w.cell? ⟨k, o, none⟩ = some v) : k < w.heap.size := by
 rcases Nat.lt_or_ge k w.heap.size with hk | hk
 ·exact hk
 ·have h2 : w.heap[k]? = none := Array.getElem?_eq_none hk
  simp [World.cell?, h2] at h
theorem Mo.kp {w w' : World} (m : Mo w w') : Kp w w' := ⟨m.size, fun k o _ e => (m.cell k o (cell_lt e)).trans e⟩
theorem At.kp {w w' : World} {k : Nat} {vs : List Value} (h : At w k vs) (m : Kp w w') (hf : ∀ a, w'.frozen? a = w.frozen? a) : At w' k vs := ⟨fun j v hv => m.cell _ _ _ (h.1 j v hv), fun o => (hf _).trans (h.2.1 o), Nat.lt_of_lt_of_le h.2.2 m.size⟩
namespace D
theorem rangeAt_kp {W W' : World} {b o : Nat} {cs : List Value} (h : W.rangeAt b o cs) (m : Kp W W') : W'.rangeAt b o cs := fun j v hv => m.cell _ _ _ (h j v hv)
theorem SL.kp {W W' : World} {n : Nat} {α : Type} {cells : α → List Value} {pa : Option Addr} {L : List α} (h : SL W n cells pa L) (m : Kp W W') : SL W' n cells pa L := ⟨h.1, fun i o e => by
 obtain ⟨b, off, hp, hb, hr⟩ := h.2 i o e
 exact ⟨b, off, hp, Nat.lt_of_lt_of_le hb m.size, rangeAt_kp hr m⟩⟩
section runs
variable {P : Program} {w : World} {b o : Nat} {cs : List Value}
theorem run_rowR (h : w.rangeAt b o cs) (ty : TypeId) {d : TypeDesc} (hu : P.underlying ty = some d) (hd : d.isRow = true) (hi : (P.info? ty).map (·.size) = some cs.length) :
  (Instr.loadAt ty (pt b o)).run P w = .ok (.agg cs.toArray) w := run_loadAt_mid w b o ty cs d (fun j v hv => h j v hv) hu hd hi
theorem run_partR (h : w.rangeAt b o cs) (ty : TypeId) (j n : Nat) (us : List Value) (hus : us = (cs.drop j).take n) {d : TypeDesc} (hu : P.underlying ty = some d) (hd : d.isRow = true) (hi : (P.info? ty).map (·.size) = some us.length) :
  (Instr.loadAt ty (pt b (o + j))).run P w = .ok (.agg us.toArray) w := by
 refine run_rowR (fun i v hv => ?_) ty hu hd hi
 subst hus
 rw [List.getElem?_take] at hv
 split at hv
 ·rw [List.getElem?_drop] at hv
  have := h (j + i) v hv
  rw [show o + j + i = o + (j + i) by omega]; exact this
 ·cases hv
end runs
structure Rw (w : World) (b o : Nat) (cs : List Value) : Prop where
 lt : b < w.heap.size
 at' : w.rangeAt b o cs
theorem Rw.kp {w w' : World} {b o : Nat} {cs : List Value} (h : Rw w b o cs) (m : Kp w w') : Rw w' b o cs := ⟨Nat.lt_of_lt_of_le h.lt m.size, rangeAt_kp h.at' m⟩
theorem Rw.mo {w w' : World} {b o : Nat} {cs : List Value} (h : Rw w b o cs) (m : Mo w w') : Rw w' b o cs := h.kp m.kp
theorem SL.rw {W : World} {n : Nat} {α : Type} {cells : α → List Value} {pa : Option Addr} {L : List α} (h : SL W n cells pa L) {i : Nat} {o : α} (e : L[i]? = some o) : ∃ b off, pa = some ⟨b, off, none⟩ ∧ Rw W b (off + i * n) (cells o) := by
 obtain ⟨b, off, hp, hb, hr⟩ := h.2 i o e
 exact ⟨b, off, hp, hb, hr⟩
end D
end Go.Proofs.Ythehmmhnacomkaa

namespace Go.Proofs.Ythehmmhnacomkaa
open Go.RowKit D
theorem lt_of_get {α : Type} {L : List α} {k : Nat} {x : α} (h : L[k]? = some x) : k < L.length := (List.getElem?_eq_some_iff.1 h).1
theorem get_of_lt {α : Type} {L : List α} {k : Nat} (h : k < L.length) : ∃ x, L[k]? = some x := ⟨_, List.getElem?_eq_getElem h⟩
theorem flat_get {α : Type} {cells : α → List Value} {n : Nat} (hl : ∀ x, (cells x).length = n) : ∀ (L : List α) (i : Nat) (o : α) (j : Nat) (v : Value), L[i]? = some o → (cells o)[j]? = some v → (L.flatMap cells)[i * n + j]? = some v
 | [], i, o, j, v, h, _ => by simp at h
 | x :: L, 0, o, j, v, h, hv => by
  simp at h; subst h
  rw [List.flatMap_cons, Nat.zero_mul, Nat.zero_add, List.getElem?_append_left (lt_of_get hv)]; exact hv
 | x :: L, i + 1, o, j, v, h, hv => by
  simp at h
  have e : (i + 1) * n + j = n + (i * n + j) := by rw [Nat.add_mul]; omega
  rw [List.flatMap_cons, e, List.getElem?_append_right (by rw [hl]; omega), hl, Nat.add_sub_cancel_left]
  exact flat_get hl L i o j v h hv
theorem SL.of_range {w : World} {k off n : Nat} {α : Type} {cells : α → List Value} (hl : ∀ x, (cells x).length = n) {L : List α} (hz : L.length ≤ maxLen) (hk : k < w.heap.size) (h : w.rangeAt k off (L.flatMap cells)) : SL w n cells (some ⟨k, off, none⟩) L := ⟨hz, fun i o e => ⟨k, off, rfl, hk, fun j v hv => by
 have := h (i * n + j) v (flat_get hl L i o j v e hv)
 rw [show off + i * n + j = off + (i * n + j) by omega]; exact this⟩⟩
theorem SL.of_at {w : World} {k n : Nat} {α : Type} {cells : α → List Value} (hl : ∀ x, (cells x).length = n) {L : List α} (hz : L.length ≤ maxLen) (h : At w k (L.flatMap cells)) : SL w n cells (some ⟨k, 0, none⟩) L := SL.of_range hl hz h.2.2 h.1
section
variable {P : Program} {o : Oper} {n : Nat} {l : List (Nat × Value)} {w : World} {Q : Exit → Act → World → Prop} {K : Act → World → Prop}
theorem wl_mf {ops : Array Oper} {rest : List Oper} (fn : Fn) (xs ys : List Operand) (fs cs : List Value) (ho : o.op = .makeFunc fn xs.toArray ys.toArray) (hx : xs.map (evl n l) = fs) (hy : ys.map (evl n l) = cs) (hg : wnt n l ops o = true) (hk : WL P ops Q rest n (ext l o.dst (.func fn fs.toArray cs.toArray)) w) : WL P ops Q (o :: rest) n l w := by
 subst hx hy
 exact wl_val (.func fn (xs.map (evl n l)).toArray (ys.map (evl n l)).toArray) (by simp [execOp, ho, Instr.makeFunc]) hg hk
end
end Go.Proofs.Ythehmmhnacomkaa

namespace Go.Proofs.Ythehmmhnacomkaa
open Go.RowKit D
theorem sub1r {k : Nat} (hk : k ≤ 9223372036854775806) (x y : Operand) (w : World) : (do eqGuard .sub 3 x y (.int .i64 ((k + 1 : Nat) : Int)) (.int .i64 1); binOp .sub 3 (.int .i64 ((k + 1 : Nat) : Int)) (.int .i64 1)).run Try.prog w = .ok (.int .i64 (k : Int)) w := by
 have e : (do eqGuard .sub 3 x y (.int .i64 ((k + 1 : Nat) : Int)) (.int .i64 1); binOp .sub 3 (.int .i64 ((k + 1 : Nat) : Int)) (.int .i64 1)).run Try.prog w = .ok (.int .i64 (IntKind.i64.wrap (((k + 1 : Nat) : Int) - 1))) w := by kernel_rfl
 have h2 : IntKind.i64.wrap (((k + 1 : Nat) : Int) - 1) = (k : Int) := by rw [IntKind.wrap_i64]; omega
 rw [e, h2]
end Go.Proofs.Ythehmmhnacomkaa

namespace Go.Proofs.Ythehmmhnacomkaa
open Go.RowKit D
theorem ix22 {pa : Option Addr} {b off i n c : Nat} (hp : pa = some ⟨b, off, none⟩) (h : i < n) (w : World) : (Instr.indexAt 22 (.slice pa n c) (.int .i64 (i : Int))).run Try.prog w = .ok (pt b (off + i * 18)) w := by
 subst hp
 have e : (Instr.indexAt 22 (.slice (some ⟨b, off, none⟩) n c) (.int .i64 (i : Int))).run Try.prog w = .ok (.pointer (some ((⟨b, off, none⟩ : Addr).add (i * 18)))) w := by simp [go_sem, h]
 rw [e, Addr.add_mid]
theorem len22 (ρ : Operand → Value) (x : Operand) (p : Option Addr) (m c : Nat) (hx : ρ x = .slice p m c) (dst : Option Tmp) (type : TypeId) (pos : String) (after : Array Edge) (guard : Option (Nat × Bool)) (w : World) : (execOp ρ { dst, op := .call { callee := .builtin .len, args := #[x], argTypes := #[22] }, type, pos, after, guard }).run Try.prog w = .ok (.value (.int .i64 (m : Int))) w := by
 simp [go_sem, hx]
theorem szT24 : (Try.prog.info? 24).map (·.size) = some 2 := by kernel_rfl
theorem sz33 : (Try.prog.info? 33).map (·.size) = some 6 := by kernel_rfl
theorem sz45 : (Try.prog.info? 45).map (·.size) = some 18 := by kernel_rfl
theorem ix69 {pa : Option Addr} {b off i n c : Nat} (hp : pa = some ⟨b, off, none⟩) (h : i < n) (w : World) : (Instr.indexAt 69 (.slice pa n c) (.int .i64 (i : Int))).run Try.prog w = .ok (pt b (off + i * 6)) w := by
 subst hp
 have e : (Instr.indexAt 69 (.slice (some ⟨b, off, none⟩) n c) (.int .i64 (i : Int))).run Try.prog w = .ok (.pointer (some ((⟨b, off, none⟩ : Addr).add (i * 6)))) w := by simp [go_sem, h]
 rw [e, Addr.add_mid]
theorem len69 (ρ : Operand → Value) (x : Operand) (p : Option Addr) (m c : Nat) (hx : ρ x = .slice p m c) (dst : Option Tmp) (type : TypeId) (pos : String) (after : Array Edge) (guard : Option (Nat × Bool)) (w : World) : (execOp ρ { dst, op := .call { callee := .builtin .len, args := #[x], argTypes := #[69] }, type, pos, after, guard }).run Try.prog w = .ok (.value (.int .i64 (m : Int))) w := by
 simp [go_sem, hx]
structure Dn where
 b : Bool
 n : Int
 s : Int
def Dn.cells (d : Dn) : List Value := [.bool d.b, .int .u64 (l0 d.n), .int .u64 (l1 d.n), .int .u64 (l2 d.n), .int .u64 (l3 d.n), .int .i64 d.s]
abbrev Dn.v (d : Dn) : Value := .agg d.cells.toArray
def Dn.ok (d : Dn) : Prop := 0 ≤ d.n ∧ d.n < MM
def Dn.er (d : Dn) : Int := ck d.b d.n d.s
def Dn.fit (d : Dn) : Prop := d.ok ∧ d.er = 0
def dn0 : Dn := ⟨false, 0, 0⟩
theorem er_or (d : Dn) : d.er = 0 ∨ d.er = 20 := by
 unfold Dn.er ck
 split
 ·exact .inl rfl
 ·exact .inr rfl
structure Stp where
 a : Dn
 b : Dn
 c : Dn
def Stp.cells (s : Stp) : List Value := s.a.cells ++ (s.b.cells ++ s.c.cells)
abbrev Stp.v (s : Stp) : Value := .agg s.cells.toArray
def Stp.ok (s : Stp) : Prop := s.a.ok ∧ s.b.ok ∧ s.c.ok
def Stp.fit (s : Stp) : Prop := s.a.fit ∧ s.b.fit ∧ s.c.fit
theorem Stp.len (s : Stp) : s.cells.length = 18 := rfl
structure Tb where
 nm : ByteArray
 pa : Option Addr
 cap : Nat
 st : List Stp
def Tb.cells (x : Tb) : List Value := [.string x.nm, .slice x.pa x.st.length x.cap]
structure LT (W : World) (x : Tb) : Prop where
 sl : SL W 18 Stp.cells x.pa x.st
 ok : ∀ y ∈ x.st, y.ok
 cp : x.st.length ≤ x.cap
theorem LT.kp {W W' : World} {x : Tb} (h : LT W x) (m : Kp W W') : LT W' x := ⟨h.sl.kp m, h.ok, h.cp⟩
theorem LT.mo {W W' : World} {x : Tb} (h : LT W x) (m : Mo W W') : LT W' x := h.kp m.kp
-- == of numbers and of steps
def sD (x y : Dn) : Bool := x.b == y.b && (s4 (l0 x.n) (l1 x.n) (l2 x.n) (l3 x.n) (l0 y.n) (l1 y.n) (l2 y.n) (l3 y.n) && x.s == y.s)
theorem sD_self (x : Dn) : sD x x = true := by simp [sD, s4]
theorem gt33 : Try.prog.eqGuardType Try.prog.depth 33 = false := by kernel_rfl
theorem eqDn {x y : Dn} {r : Bool} (h : sD x y = r) (p q : Operand) (w : World) : (do eqGuard .eql 33 p q x.v y.v; binOp .eql 33 x.v y.v).run Try.prog w = .ok (.bool r) w := eqa_run gt33 (by rw [← h]; exact eq26 9997 x.b y.b _ _ _ _ _ _ _ _ x.s y.s w) p q
structure DR where
 d : Dn
 e : Int
abbrev DR.v (r : DR) : Value := .tuple #[r.d.v, .int .i64 r.e]
def erR (c : Int) : DR := ⟨dn0, c⟩
def fzR (V S : Int) : DR := if ab V < MM then ⟨⟨decide (V < 0), ab V, S⟩, 0⟩ else erR 7
def fxR (b : Bool) (V S : Int) : DR := if V < MM then ⟨⟨b && !decide (V = 0), V, S⟩, 0⟩ else erR 7
theorem fz_v (V S : Int) : fz V S = (fzR V S).v := by unfold fz fzR; split <;> rfl
theorem fx_v (b : Bool) (V S : Int) : fx b V S = (fxR b V S).v := by unfold fx fxR; split <;> rfl
def sgn (b : Bool) (n : Int) : Int := if b then -n else n
def Dn.z (d : Dn) : Int := sgn d.b d.n
theorem dz_sgn {b : Bool} {n s : Int} (h0 : 0 ≤ n) (h : ck b n s = 0) : decide (sgn b n < 0) = b ∧ ab (sgn b n) = n := by
 unfold ck at h
 split at h
 next hh =>
  simp at hh
  unfold sgn ab
  cases b
  ·simp; omega
  ·simp at hh; simp; omega
 next => exact absurd h (by decide)
theorem ck_s {b : Bool} {n s : Int} (h : ck b n s = 0) : sc s = true := by
 unfold ck at h
 split at h
 next hh => simp at hh; exact hh.1
 next => exact absurd h (by decide)
theorem Dn.fit.s {d : Dn} (h : d.fit) : 0 ≤ d.s ∧ d.s ≤ 18 := sc_iff.1 (ck_s h.2)
def addD (x y : Dn) : DR := fzR (addV x.z x.s y.z y.s) (max x.s y.s)
def subD (x y : Dn) : DR := fzR (addV x.z x.s (-y.z) y.s) (max x.s y.s)
def mulD (x y : Dn) : DR := fxR (x.b != y.b) (rdV (x.b != y.b) (x.n * y.n) (x.s + y.s) (min (x.s + y.s) 18) 2) (min (x.s + y.s) 18)
def cmpD (x y : Dn) : Int := cm (x.z * pw (max x.s y.s - x.s)) (y.z * pw (max x.s y.s - y.s))
theorem dzq {d : Dn} (h : d.fit) : dz d.z d.s = d.v := by
 obtain ⟨h1, h2⟩ := dz_sgn h.1.1 h.2
 show dc (decide (sgn d.b d.n < 0)) (ab (sgn d.b d.n)) d.s = _
 rw [h1, h2]
 rfl
theorem abz {d : Dn} (h : d.fit) : ab d.z < MM := by
 show ab (sgn d.b d.n) < MM
 rw [(dz_sgn h.1.1 h.2).2]; exact h.1.2
theorem padd_n {x y : Dn} (hx : x.fit) (hy : y.fit) (w : World) : Calls Try.prog 52 #[x.v, y.v] w fun e9 w' => e9 = .returned (addD x y).v ∧ Mo w w' := by
 have q := add_z x.z x.s y.z y.s w (abz hx) (abz hy) (ck_s hx.2) (ck_s hy.2)
 rw [dzq hx, dzq hy] at q
 rw [fz_v] at q
 exact q
theorem psub_n {x y : Dn} (hx : x.fit) (hy : y.fit) (w : World) : Calls Try.prog 50 #[x.v, y.v] w fun e9 w' => e9 = .returned (subD x y).v ∧ Mo w w' := by
 have q := sub_z x.z x.s y.z y.s w (abz hx) (abz hy) (ck_s hx.2) (ck_s hy.2)
 rw [dzq hx, dzq hy] at q
 rw [fz_v] at q
 exact q
theorem pcmp_n {x y : Dn} (hx : x.fit) (hy : y.fit) (w : World) : Calls Try.prog 27 #[x.v, y.v] w fun e9 w' => e9 = .returned (.int .i64 (cmpD x y)) ∧ Mo w w' := by
 have q := cmp_z x.z x.s y.z y.s w (abz hx) (abz hy) (ck_s hx.2) (ck_s hy.2)
 rw [dzq hx, dzq hy] at q
 exact q
theorem pmul_n {x y : Dn} (hx : x.fit) (hy : y.fit) (w : World) : Calls Try.prog 51 #[x.v, y.v, .int .i64 (min (x.s + y.s) 18), .int .i64 2] w fun e9 w' => e9 = .returned (mulD x y).v ∧ Mo w w' := by
 obtain ⟨a0, a1⟩ := hx.s
 obtain ⟨b0, b1⟩ := hy.s
 have q := mulTo_x x.b y.b x.n y.n x.s y.s (min (x.s + y.s) 18) 2 w hx.1.1 hx.1.2 hy.1.1 hy.1.2 hx.2 hy.2 ⟨a0, a1⟩ ⟨b0, b1⟩ (sc_iff.2 ⟨by omega, by omega⟩) (by decide) (by decide)
 rw [fx_v] at q
 exact q
theorem pchk_n {x : Dn} (hx : x.ok) (w : World) : Calls Try.prog 29 #[x.v] w fun e9 w' => e9 = .returned (.int .i64 x.er) ∧ Mo w w' := check_n x.b x.n x.s w hx.1 hx.2
theorem qcmp_n {x y : Dn} (hx : x.fit) (hy : y.fit) (w : World) : Calls Try.prog 24 #[x.v, y.v] w fun e9 w' => e9 = .returned (.int .i64 (cmpD x y)) ∧ Mo w w' := by
 have q := rcmpd_z x.z x.s y.z y.s w (abz hx) (abz hy) (ck_s hx.2) (ck_s hy.2)
 rw [dzq hx, dzq hy] at q
 exact q
theorem qchk_n {x : Dn} (hx : x.ok) (w : World) : Calls Try.prog 23 #[x.v] w fun e9 w' => e9 = .returned (.int .i64 x.er) ∧ Mo w w' := rcheck_n x.b x.n x.s w hx.1 hx.2
def DR.good (r : DR) : Prop := r.d.ok ∧ (r.e = 0 → r.d.er = 0)
theorem DR.good.fit {r : DR} (h : r.good) (e : r.e = 0) : r.d.fit := ⟨h.1, h.2 e⟩
theorem good_er {c : Int} : (erR c).good := ⟨⟨by show (0 : Int) ≤ 0; decide, by show (0 : Int) < MM; decide⟩, fun _ => by show ck false 0 0 = 0; decide⟩
theorem good_fz {V S : Int} (hS : sc S = true) : (fzR V S).good := by
 unfold fzR
 split
 next h => exact ⟨⟨ab_nn V, h⟩, fun _ => ck_dz hS⟩
 next => exact good_er
theorem good_fx {b : Bool} {V S : Int} (h0 : 0 ≤ V) (hS : sc S = true) : (fxR b V S).good := by
 unfold fxR
 split
 next h =>
  refine ⟨⟨h0, h⟩, fun _ => ?_⟩
  show ck (b && !decide (V = 0)) V S = 0
  unfold ck
  rw [hS]
  by_cases hv : V = 0 <;> simp [hv]
 next => exact good_er
theorem sc_max {s t : Int} (h : sc s = true) (k : sc t = true) : sc (max s t) = true := by
 have a := sc_iff.1 h
 have b := sc_iff.1 k
 exact sc_iff.2 ⟨by omega, by omega⟩
theorem sc_min {s t : Int} (h : sc s = true) (k : sc t = true) : sc (min (s + t) 18) = true := by
 have a := sc_iff.1 h
 have b := sc_iff.1 k
 exact sc_iff.2 ⟨by omega, by omega⟩
theorem pw_pos (k : Int) : 0 < pw k := Int.pow_pos (by decide)
theorem rdV_nn {b : Bool} {X f S p : Int} (h : 0 ≤ X) : 0 ≤ rdV b X f S p := by
 unfold rdV
 split
 ·exact Int.mul_nonneg h (Int.le_of_lt (pw_pos _))
 ·exact ro_nn h
theorem good_sub {x y : Dn} (hx : x.fit) (hy : y.fit) : (subD x y).good := good_fz (sc_max (ck_s hx.2) (ck_s hy.2))
theorem good_mul {x y : Dn} (hx : x.fit) (hy : y.fit) : (mulD x y).good := good_fx (rdV_nn (Int.mul_nonneg hx.1.1 hy.1.1)) (sc_min (ck_s hx.2) (ck_s hy.2))
def saysD (s : Stp) (x : Dn) : DR :=
 if (subD x s.a).e = 0 then (if (mulD (subD x s.a).d s.c).e = 0 then addD (mulD (subD x s.a).d s.c).d s.b else erR (mulD (subD x s.a).d s.c).e) else erR (subD x s.a).e
def okS (s : Stp) : Bool := decide (s.a.er = 0) && (decide (s.b.er = 0) && decide (s.c.er = 0))
def ckS (s : Stp) : Int := if s.a.er = 0 then (if s.b.er = 0 then s.c.er else s.b.er) else s.a.er
theorem ckS_ok {s : Stp} : ckS s = if okS s then 0 else 20 := by
 unfold ckS okS
 rcases er_or s.a with h1 | h1 <;> rcases er_or s.b with h2 | h2 <;> rcases er_or s.c with h3 | h3 <;> simp [h1, h2, h3]
theorem okS_fit {s : Stp} (hs : s.ok) (h : okS s = true) : s.fit := by
 unfold okS at h
 simp at h
 exact ⟨⟨hs.1, h.1⟩, ⟨hs.2.1, h.2.1⟩, ⟨hs.2.2, h.2.2⟩⟩
def asc : List Stp → Bool
 | x :: y :: r => decide (0 < cmpD y.a x.a) && asc (y :: r)
 | _ => true
theorem asc_at : ∀ {L : List Stp}, asc L = true → ∀ {i : Nat} {x y : Stp}, L[i]? = some x → L[i + 1]? = some y → 0 < cmpD y.a x.a
 | [], _, i, x, y, hx, _ => by simp at hx
 | [_], _, i, x, y, _, hy => by simp at hy
 | a :: b :: r, h, i, x, y, hx, hy => by
  rw [asc] at h
  simp only [Bool.and_eq_true, decide_eq_true_eq] at h
  cases i with
  | zero => simp at hx hy; subst hx hy; exact h.1
  | succ i => exact asc_at h.2 (by simpa using hx) (by simpa using hy)
theorem asc_of : ∀ {L : List Stp}, (∀ i x y, L[i]? = some x → L[i + 1]? = some y → 0 < cmpD y.a x.a) → asc L = true
 | [], _ => rfl
 | [_], _ => rfl
 | a :: b :: r, h => by
  rw [asc]
  simp only [Bool.and_eq_true, decide_eq_true_eq]
  exact ⟨h 0 a b rfl rfl, asc_of (fun i x y hx hy => h (i + 1) x y (by simpa using hx) (by simpa using hy))⟩
def chkT (L : List Stp) : Int := if 32 < L.length then 3 else if L.length = 0 then 140 else if L.all okS then (if asc L then 0 else 140) else 20
section
variable {L : List Stp}
theorem chk_bad (h1 : ¬ 32 < L.length) (h2 : ¬ L.length = 0) {y : Stp} (hy : y ∈ L) (h : okS y = false) : chkT L = 20 := by
 have : L.all okS = false := by rw [List.all_eq_false]; exact ⟨y, hy, by simp [h]⟩
 unfold chkT; rw [if_neg h1, if_neg h2, this]; rfl
theorem chk_low (h1 : ¬ 32 < L.length) (h2 : ¬ L.length = 0) (ha : L.all okS = true) {i : Nat} {x y : Stp} (hx : L[i]? = some x) (hy : L[i + 1]? = some y) (h : ¬ 0 < cmpD y.a x.a) : chkT L = 140 := by
 have : asc L = false := by cases q : asc L with
  | false => rfl
  | true => exact absurd (asc_at q hx hy) h
 unfold chkT; rw [if_neg h1, if_neg h2, ha, this]; rfl
theorem chk_fine (h1 : ¬ 32 < L.length) (h2 : ¬ L.length = 0) (ha : L.all okS = true) (h : asc L = true) : chkT L = 0 := by
 unfold chkT; rw [if_neg h1, if_neg h2, ha, h]; rfl
end
theorem chk_0 {L : List Stp} (h : chkT L = 0) : L.length ≤ 32 ∧ L.length ≠ 0 ∧ L.all okS = true ∧ asc L = true := by
 unfold chkT at h
 split at h; · exact absurd h (by decide)
 split at h; · exact absurd h (by decide)
 split at h
 ·split at h
  ·exact ⟨by omega, by assumption, by assumption, by assumption⟩
  ·exact absurd h (by decide)
 ·exact absurd h (by decide)
theorem all_of {L : List Stp} (h : ∀ j < L.length, ∀ y, L[j]? = some y → okS y = true) : L.all okS = true := by
 rw [List.all_eq_true]
 intro y hy
 obtain ⟨j, hj⟩ := List.getElem?_of_mem hy
 exact h j (lt_of_get hj) y hj
def lastP (p : Nat → Bool) : Nat → Option Nat
 | 0 => none
 | n + 1 => if p n then some n else lastP p n
theorem lastP_inv {p : Nat → Bool} : ∀ {n k : Nat}, lastP p n = some k → k < n ∧ p k = true
 | 0, k, h => by simp [lastP] at h
 | n + 1, k, h => by
  rw [lastP] at h
  split at h
  next q => simp at h; subst h; exact ⟨by omega, q⟩
  next => have := lastP_inv h; exact ⟨by omega, this.2⟩
def rchd (L : List Stp) (x : Dn) (i : Nat) : Bool := match L[i]? with
 | some s => decide (cmpD s.a x ≤ 0)
 | none => false
theorem rchd_at {L : List Stp} {x : Dn} {i : Nat} {s : Stp} (h : L[i]? = some s) : rchd L x i = decide (cmpD s.a x ≤ 0) := by unfold rchd; rw [h]
def stpE (L : List Stp) (x : Dn) : Int := if chkT L = 0 then (if x.er = 0 then (if (lastP (rchd L x) L.length).isSome then 0 else 141) else 20) else chkT L
def stpN (L : List Stp) (x : Dn) : Int := if stpE L x = 0 then (((lastP (rchd L x) L.length).getD 0 : Nat) : Int) else 0
def atD (L : List Stp) (x : Dn) : DR := if stpE L x = 0 then saysD (L.getD ((lastP (rchd L x) L.length).getD 0) ⟨dn0, dn0, dn0⟩) x else erR (stpE L x)
end Go.Proofs.Ythehmmhnacomkaa
namespace Go.Proofs.Ythehmmhnacomkaa
open Go.RowKit D
theorem pw_add {a b : Int} (ha : 0 ≤ a) (hb : 0 ≤ b) : pw a * pw b = pw (a + b) := by
 obtain ⟨a, rfl⟩ := Int.eq_ofNat_of_zero_le ha
 obtain ⟨b, rfl⟩ := Int.eq_ofNat_of_zero_le hb
 show (10 : Int) ^ a * 10 ^ b = 10 ^ ((a : Int) + b).toNat
 rw [show ((a : Int) + b).toNat = a + b by omega, Int.pow_add]
theorem cm_mul {a b k : Int} (hk : 0 < k) : cm (a * k) (b * k) = cm a b := by
 unfold cm
 have h1 : a * k < b * k ↔ a < b := ⟨fun h => Int.lt_of_mul_lt_mul_right h (Int.le_of_lt hk), fun h => Int.mul_lt_mul_of_pos_right h hk⟩
 have h2 : b * k < a * k ↔ b < a := ⟨fun h => Int.lt_of_mul_lt_mul_right h (Int.le_of_lt hk), fun h => Int.mul_lt_mul_of_pos_right h hk⟩
 simp only [h1, h2]
def Dn.q (d : Dn) : Int := d.z * pw (18 - d.s)
theorem pw_join {s t : Int} (h0 : 0 ≤ t - s) (h1 : 0 ≤ 18 - t) : pw (t - s) * pw (18 - t) = pw (18 - s) := by
 rw [pw_add h0 h1]; congr 1; omega
theorem cmp_q {x y : Dn} (hx : x.fit) (hy : y.fit) : cmpD x y = cm x.q y.q := by
 obtain ⟨a0, a1⟩ := hx.s
 obtain ⟨b0, b1⟩ := hy.s
 unfold cmpD Dn.q
 rw [← cm_mul (pw_pos (18 - max x.s y.s)), Int.mul_assoc, Int.mul_assoc, pw_join (by omega) (by omega), pw_join (by omega) (by omega)]
theorem cm_le {a b : Int} : cm a b ≤ 0 ↔ a ≤ b := by unfold cm; split; · omega
                                                     split <;> omega
theorem cm_pos {a b : Int} : 0 < cm a b ↔ b < a := by unfold cm; split; · omega
                                                      split <;> omega
theorem fit_of {L : List Stp} (hk : ∀ y ∈ L, y.ok) (ha : L.all okS = true) {i : Nat} {y : Stp} (h : L[i]? = some y) : y.fit :=
 okS_fit (hk y (List.mem_of_getElem? h)) (List.all_eq_true.1 ha y (List.mem_of_getElem? h))
theorem asc_lt {L : List Stp} (hk : ∀ y ∈ L, y.ok) (ha : L.all okS = true) (h : asc L = true) : ∀ (d i : Nat) {x y : Stp}, L[i]? = some x → L[i + d + 1]? = some y → x.a.q < y.a.q
 | 0, i, x, y, hx, hy => by
  have := asc_at h hx hy
  rw [cmp_q (fit_of hk ha hy).1 (fit_of hk ha hx).1, cm_pos] at this
  exact this
 | d + 1, i, x, y, hx, hy => by
  obtain ⟨z, hz⟩ := get_of_lt (k := i + d + 1) (L := L) (by have := lt_of_get hy; omega)
  have h1 := asc_lt hk ha h d i hx hz
  have h2 := asc_at h hz hy
  rw [cmp_q (fit_of hk ha hy).1 (fit_of hk ha hz).1, cm_pos] at h2
  omega
theorem asc_le {L : List Stp} (hk : ∀ y ∈ L, y.ok) (ha : L.all okS = true) (h : asc L = true) {i j : Nat} {x y : Stp} (hij : i ≤ j) (hx : L[i]? = some x) (hy : L[j]? = some y) : x.a.q ≤ y.a.q := by
 rcases Nat.lt_or_ge i j with hl | hl
 ·exact Int.le_of_lt (asc_lt hk ha h (j - i - 1) i hx (by rw [show i + (j - i - 1) + 1 = j by omega]; exact hy))
 ·have : i = j := by omega
  subst this; rw [hx] at hy; cases hy; exact Int.le_refl _
theorem rchd_q {L : List Stp} {x : Dn} (hk : ∀ y ∈ L, y.ok) (ha : L.all okS = true) (hx : x.fit) {i : Nat} {s : Stp} (h : L[i]? = some s) : rchd L x i = decide (s.a.q ≤ x.q) := by
 rw [rchd_at h, cmp_q (fit_of hk ha h).1 hx]
 exact decide_eq_decide.2 cm_le
theorem lastP_more {p : Nat → Bool} : ∀ {n k : Nat}, lastP p n = some k → ∀ j, k < j → j < n → p j = false
 | 0, k, h => by simp [lastP] at h
 | n + 1, k, h => fun j h1 h2 => by
  rw [lastP] at h
  split at h
  next q => simp at h; subst h; omega
  next q =>
   by_cases e : j = n
   ·subst e; simpa using q
   ·exact lastP_more h j h1 (by omega)
theorem lastP_no {p : Nat → Bool} : ∀ {n : Nat}, lastP p n = none → ∀ j, j < n → p j = false
 | 0, _ => fun j h => absurd h (Nat.not_lt_zero j)
 | n + 1, h => fun j h2 => by
  rw [lastP] at h
  split at h
  next => simp at h
  next q =>
   by_cases e : j = n
   ·subst e; simpa using q
   ·exact lastP_no h j (by omega)
def cntT (L : List Stp) (x : Dn) : Nat := match lastP (rchd L x) L.length with
 | some k => k + 1
 | none => 0
theorem cnt_le (L : List Stp) (x : Dn) : cntT L x ≤ L.length := by
 unfold cntT
 split
 next k h => have := (lastP_inv h).1; omega
 next => omega
theorem cnt_mono {L : List Stp} {x : Dn} (hk : ∀ y ∈ L, y.ok) (hc : chkT L = 0) (hx : x.fit) (j : Nat) (hj : j < L.length) : rchd L x j = decide (j < cntT L x) := by
 obtain ⟨_, _, ha, hs⟩ := chk_0 hc
 unfold cntT
 split
 next k h =>
  obtain ⟨h1, h2⟩ := lastP_inv h
  by_cases e : k < j
  ·rw [lastP_more h j e hj]; simp; omega
  ·obtain ⟨u, hu⟩ := get_of_lt hj
   obtain ⟨v, hv⟩ := get_of_lt h1
   rw [rchd_q hk ha hx hv] at h2
   have h3 := of_decide_eq_true h2
   have h4 := asc_le hk ha hs (by omega : j ≤ k) hu hv
   rw [rchd_q hk ha hx hu]
   have h5 : u.a.q ≤ x.q := by omega
   simp [h5]; omega
 next h => rw [lastP_no h j hj]; simp
theorem stp_c0 {L : List Stp} {x : Dn} (h : chkT L = 0) (hx : x.er = 0) (e : cntT L x = 0) : stpE L x = 141 ∧ stpN L x = 0 := by
 have hn : lastP (rchd L x) L.length = none := by
  unfold cntT at e; split at e
  ·omega
  ·assumption
 have h1 : stpE L x = 141 := by unfold stpE; rw [if_pos h, if_pos hx, hn]; rfl
 exact ⟨h1, by unfold stpN; rw [h1]; rfl⟩
theorem stp_c1 {L : List Stp} {x : Dn} (h : chkT L = 0) (hx : x.er = 0) {k : Nat} (e : lastP (rchd L x) L.length = some k) : stpE L x = 0 ∧ stpN L x = (k : Int) := by
 have h1 : stpE L x = 0 := by unfold stpE; rw [if_pos h, if_pos hx, e]; rfl
 exact ⟨h1, by unfold stpN; rw [h1, e]; rfl⟩
theorem cnt_some {L : List Stp} {x : Dn} {k : Nat} (h : cntT L x = k + 1) : lastP (rchd L x) L.length = some k := by
 unfold cntT at h
 split at h
 next k' e => rw [e]; congr 1; omega
 next => omega
theorem stp_bad {L : List Stp} {x : Dn} (h : ¬ chkT L = 0) : stpE L x = chkT L ∧ stpN L x = 0 := by
 have h1 : stpE L x = chkT L := by unfold stpE; rw [if_neg h]
 exact ⟨h1, by unfold stpN; rw [h1, if_neg h]⟩
theorem stp_num {L : List Stp} {x : Dn} (h : chkT L = 0) (hx : ¬ x.er = 0) : stpE L x = 20 ∧ stpN L x = 0 := by
 have h1 : stpE L x = 20 := by unfold stpE; rw [if_pos h, if_neg hx]
 exact ⟨h1, by unfold stpN; rw [h1]; rfl⟩
theorem stp_0 {L : List Stp} {x : Dn} (h : stpE L x = 0) : chkT L = 0 ∧ x.er = 0 ∧ ∃ k s, lastP (rchd L x) L.length = some k ∧ L[k]? = some s ∧ stpN L x = (k : Int) ∧ atD L x = saysD s x := by
 unfold stpE at h
 split at h
 next hc =>
  split at h
  next hx =>
   split at h
   next hs =>
    obtain ⟨k, hk⟩ := Option.isSome_iff_exists.1 hs
    obtain ⟨s, hs'⟩ := get_of_lt (lastP_inv hk).1
    have e := stp_c1 hc hx hk
    refine ⟨hc, hx, k, s, hk, hs', e.2, ?_⟩
    unfold atD
    rw [if_pos e.1, hk]
    show saysD (L.getD k _) x = _
    rw [List.getD_eq_getElem?_getD, hs']; rfl
   next => exact absurd h (by decide)
  next => exact absurd h (by decide)
 next hc => exact absurd h hc
theorem at_e {L : List Stp} {x : Dn} (h : ¬ stpE L x = 0) : atD L x = erR (stpE L x) := by unfold atD; rw [if_neg h]
end Go.Proofs.Ythehmmhnacomkaa
